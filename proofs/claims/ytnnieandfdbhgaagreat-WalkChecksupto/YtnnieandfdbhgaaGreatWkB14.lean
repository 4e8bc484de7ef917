import Derived.Test.YtnnieandfdbhgaaGreatWkB13
set_option linter.all false
set_option maxHeartbeats 32000000
set_option maxRecDepth 16000
namespace Go.Proofs.YtnnieandfdbhgaaGreat
open Go.Proofs.Tryz
open Go.RowKit
variable {r:Int}{C:List Int}{b mb pb:Nat}{col pc:Nat->Nat}{S:Vs}{w:World}
def xS(w w':World)(e:Ending)(r:Int)(C:List Int)(NL:List (Int×Pv)):Prop:=
 (∃er:Nat,er≠0/\(fp r C (nmg NL)).1=er/\e=.returned (.tuple #[.pointer none,.int .i64 ((er:Nat):Int)])/\Below w.heap.size w w')\/
 ((fp r C (nmg NL)).1=0/\∃(rb:Nat)(D:Rd),e=.returned (.tuple #[.pointer (some ⟨rb,0,none⟩),.int .i64 0])/\Rn w w' rb D/\D.R=r/\D.C=C/\(D.L=C.map λc=>decide (0<c))/\D.P.length=C.length/\(∀i,i<C.length->(D.P.getD i Pv.zero).pg=((fp r C (nmg NL)).2 ((i:Int)+1)).getD Pv.zero.pg)/\D.aA=none/\D.nA=0/\D.cA=0/\D.fl=0/\D.hush=false)
theorem mr{l:List (Int×Pg)}(h:Q.fits C.length r=false):(fp r C l).1=1:=by unfold fp;rw[if_pos h]
theorem kC{l:List (Int×Pg)}(h:Q.fits C.length r=true)(hb:gA r C=true):(fp r C l).1=13:=by unfold fp;rw[if_neg (by rw[h];decide),if_pos hb]
theorem iK{l:List (Int×Pg)}(h:Q.fits C.length r=true)(hb:gA r C=false)(a:(ldG (fk C) (λ_=>none) l).1≠0):(fp r C l).1=(ldG (fk C) (λ_=>none) l).1:=by unfold fp;rw[if_neg (by rw[h];decide),if_neg (by rw[hb];decide),if_pos a]
theorem lc{l:List (Int×Pg)}(h:Q.fits C.length r=true)(hb:gA r C=false)(a:(ldG (fk C) (λ_=>none) l).1=0)(c:iA C (ldG (fk C) (λ_=>none) l).2=true):(fp r C l).1=9:=by unfold fp;rw[if_neg (by rw[h];decide),if_neg (by rw[hb];decide),if_neg (by rw[a];simp),if_pos c]
theorem qu{l:List (Int×Pg)}(h:Q.fits C.length r=true)(hb:gA r C=false)(a:(ldG (fk C) (λ_=>none) l).1=0)(c:iA C (ldG (fk C) (λ_=>none) l).2=false):fp r C l=(0,(ldG (fk C) (λ_=>none) l).2):=by unfold fp;rw[if_neg (by rw[h];decide),if_neg (by rw[hb];decide),if_neg (by rw[a];simp),if_neg (by rw[c];decide)]
theorem mh(cnt:Int->Int)(f:Int->Option Pg)(n:Int)(p:Pg)(T:List (Int×Pg)):ldG cnt f ((n,p)::T)=if ¬0<cnt n then (15,f) else if (f n).isSome=true then (10,f) else if p.check≠0 then (p.check,f) else ldG cnt (λk=>if k=n then some p else f k) T:=rfl
theorem tH(w:World)(r:Int)(a:Option Addr)(n cap:Nat)(C:List Int)(hC:Q.Ir w a C)(hn:n=C.length)(aN:Option Addr)(m bv:Nat)(s:List (Int×Pv))(hN:Nm w aN s)(hm:m=s.length)(bE:m<=1000000):
 Calls prog 74 #[.int .i64 r,.slice a n cap,.slice aN m bv] w λe w'=>xS w w' e r C s:=by
 by_cases hf:Q.fits n r=false
 . have NN:=e7 (xN w (n:Int) r hf);have v:Hid ((fp r C (nmg s)).1=1):=mr (by rw[<-hn];exact hf)
   clear hC hn hN hm hf;go_enter func74,ntmps74;go_wp2_with fail
   refine NN.o.mono ?_;rintro _ wq ⟨rfl,E⟩;rw[E];clear E;go_wp2_with fail
   go_ret2
   exact .inl ⟨1,by decide,v.o,rfl,Below.refl _ _⟩
 have ae:Q.fits n r=true:=by simpa using hf
 have h6:n<=65536/\1<=n:=by unfold Q.fits at ae;simp only[bB,be] at ae;omega
 have bG:2<=r/\r<65536:=by unfold Q.fits at ae;simp only[bB,be] at ae;omega
 have NY:=e7 (vy w n r ae);have FT:Hid (Q.fits C.length r=true):=by show _=_;rw[<-hn];exact ae
 have HC:=e7 hC;have G:=e7 hn;have aP:=e7 hN;have HM:=e7 hm;clear hf ae hC hn hN hm;go_enter func74,ntmps74;go_wp2_with fail
 refine NY.o.mono ?_;rintro _ w1 ⟨A,D0,rfl,aw,a0⟩
 have L0:Hid (La w w1 w1.heap.size A r C n 0 0 0 D0 none 0):=by
  obtain⟨q1,q2,q3,q4,q5,q6,q7,q8,q9⟩:=a0;exact⟨aw,q1,by rw[q2];simp,by rw[q3];simp,q4,⟨q5,q6,q7,q8,q9⟩,λx y=>aw.lr.lt y,Q.Gw.nil _ _ _,λx y=>(by cases y),λj hj=>absurd hj (db _),⟨aw.b.size,ai _⟩⟩
 clear aw a0 NY;generalize w1.heap.size=a9 at L0;go_wp2_with fail
 go_loopw [10,11] (λvb vi wx=>∃(i:Nat)(D:Rd)(aB:Option Addr)(cB:Nat),i<=n/\vb=.slice aB i cB/\vi=.int .i64 (i:Int)/\La w wx a9 A r C n i i i D aB cB) (λ_ vi _=>n-(intOf vi).toNat)
 case atStart=>exact⟨0,D0,none,0,ar _,rfl,rfl,L0.o⟩
 case round=>
  clear L0;obtain⟨i,D,aB,cB,hi,rfl,rfl,hL⟩:=hrel;have d:=e7 hL;clear hL;by_cases c:i<n
  . have bC:(i:Int)<(n:Int):=by omega
    have ap:i<C.length:=by rw[<-G.o];exact c
    obtain⟨bc,oc,rfl,cA⟩:=(HC.o.keep d.o.q.b).at ap;obtain⟨x,y⟩:∃x,C.getD i 0=x:=⟨_,rfl⟩;have O:=e7 y;rw[y] at cA;clear y;by_cases ab:x<0
    . have dx:decide (x<0)=true:=an ab;have v:Hid ((fp r C (nmg s)).1=13):=kC FT.o (rA ap (.inl (by rw[O.o];exact ab)))
      go_wp2_with fail
      go_ret2
      exact .inl ⟨13,by decide,v.o,rfl,d.o.q.b⟩
    have dx:decide (x<0)=false:=am ab;by_cases aL:r<x
    . have bj:decide (r<x)=true:=an aL;have v:Hid ((fp r C (nmg s)).1=13):=kC FT.o (rA ap (.inr (by rw[O.o];exact aL)))
      go_wp2_with fail
      go_ret2
      exact .inl ⟨13,by decide,v.o,rfl,d.o.q.b⟩
    have bj:decide (r<x)=false:=am aL;obtain⟨l1,l2,l3⟩:=d.o.lens G.o.symm hi hi;obtain⟨M,ax⟩:∃g,D.aC=some ⟨g,0,none⟩:=d.o.q.cr.addr (by omega)
    obtain⟨I,a6⟩:∃g,D.aL=some ⟨g,0,none⟩:=d.o.q.lr.addr (by omega)
    obtain⟨x0,x1,x2,x3,f1,f2,f3⟩:=d.o.q.cells;rw[ax,l1] at x1;rw[a6,l2] at x2;have bA:bc<wr.heap.size:=block_lt_of_cell cA;have h:=e7 (dr2 wr);have L1:=e7 ((d.o.keep h.o).c1 G.o.symm c ax O.o);have S1:Hid (wr.drew.cell? ⟨A,1,none⟩=some (.slice (some ⟨M,0,none⟩) n D.cC)/\wr.drew.cell? ⟨bc,oc+i,none⟩=some (.int .i64 x)):=⟨x1,cA⟩
    have aV:Hid (wr.drew.cell? ⟨M,i,none⟩=some (.int .i64 (D.C.getD i 0))/\wr.drew.frozen? ⟨M,i,none⟩=false):=by
     have T:=(d.o.keep h.o).q.cr;rw[ax,l1] at T;exact⟨T.cell (by simp[Q.vi,show i<D.C.length by omega]),T.free i⟩
    obtain⟨J,av⟩:∃aA,({D with C:=D.C.set i x}:Rd)=aA:=⟨_,rfl⟩;rw[av] at L1;have ak:J.aL=some ⟨I,0,none⟩:=by rw[<-av];exact a6
    have K:Hid (J.aC=some ⟨M,0,none⟩/\J.C.length=n/\J.cC=D.cC/\J.cL=D.cL/\J.L.length=n):=by
     rw[<-av];exact⟨ax,by show(D.C.set i x).length=n;rw[bq,l1],rfl,rfl,l2⟩
    clear av x0 x3 f1 f2 f3 x1 x2;go_upto_region 10 with fail
    refine aX (S:=λW=>W.cell? ⟨A,1,none⟩=some (.slice (some ⟨M,0,none⟩) n D.cC)/\W.cell? ⟨bc,oc+i,none⟩=some (.int .i64 x)) (by kernel_rfl) (S1.o) (λhHeld=>?_)
    refine tkd 0 1 2 3 ?_;refine tkd 4 5 6 7 ?_;refine tkb 8 9 ?_;refine tw 10 λaz hK=>?_
    obtain⟨k0,k1⟩:=aV.o;go_simp
    have S2:Hid ((wr.drew.setCell ⟨M,i,none⟩ (.int .i64 x)).cell? ⟨A,1,none⟩=some (.slice (some ⟨M,0,none⟩) n D.cC)/\(wr.drew.setCell ⟨M,i,none⟩ (.int .i64 x)).cell? ⟨bc,oc+i,none⟩=some (.int .i64 x)):=by
     obtain⟨y0,y1,B,y3,_⟩:=L1.o.q.cells;obtain⟨b1,o1,e1,c1⟩:=(HC.o.keep L1.o.q.b).at ap;cases e1;rw[O.o] at c1;rw[K.o.1,K.o.2.1,K.o.2.2.1] at y1;exact⟨y1,c1⟩
    refine hK.o _ _ S2.o (λhHeld=>?_)
    clear k0 k1;refine td ?_;clear S1 aV hHeld h;have aj:wr.drew.setCell ⟨M,i,none⟩ (.int .i64 x)=(wr.setCell ⟨M,i,none⟩ (.int .i64 x)).drew:=rfl;rw[aj] at L1 S2;clear aj;generalize bs:(wr.setCell ⟨M,i,none⟩ (.int .i64 x)).drew=Y at *;clear bs;obtain⟨y0,y1,B,y3,_⟩:=L1.o.q.cells;rw[ak,K.o.2.2.2.2,K.o.2.2.2.1] at B;have bg:=S2.o.2;have aD:=e7 (dr2 Y);have L2:=e7 ((L1.o.keep aD.o).c2 G.o.symm c ak O.o);have S3:Hid (Y.drew.cell? ⟨A,2,none⟩=some (.slice (some ⟨I,0,none⟩) n D.cL)/\Y.drew.cell? ⟨bc,oc+i,none⟩=some (.int .i64 x)):=⟨B,bg⟩
    have aW:Hid (Y.drew.cell? ⟨I,i,none⟩=some (.bool (J.L.getD i false))/\Y.drew.frozen? ⟨I,i,none⟩=false):=by
     have T:=(L1.o.keep aD.o).q.lr;rw[ak] at T;exact⟨T.cell (by simp[vbl,show i<J.L.length by rw[K.o.2.2.2.2];exact c]),T.free i⟩
    obtain⟨D2,aH⟩:∃aA,({J with L:=J.L.set i (decide (0<x))}:Rd)=aA:=⟨_,rfl⟩;rw[aH] at L2
    have K2:Hid (D2.aL=some ⟨I,0,none⟩/\D2.L.length=n/\D2.cL=D.cL):=by
     rw[<-aH];exact⟨ak,by show(J.L.set i _).length=n;rw[bq,K.o.2.2.2.2],K.o.2.2.2.1⟩
    clear aH y0 y1 y3 B S2 ak;go_upto_region 11 with fail
    refine aX (S:=λW=>W.cell? ⟨A,2,none⟩=some (.slice (some ⟨I,0,none⟩) n D.cL)/\W.cell? ⟨bc,oc+i,none⟩=some (.int .i64 x)) (by kernel_rfl) (S3.o) (λhHeld=>?_)
    refine tkd 0 1 2 3 ?_;refine tkd 4 5 6 7 ?_;refine tkb 8 9 ?_;refine tk 10 ?_;refine tw 11 λaz hK=>?_
    obtain⟨k0,k1⟩:=aW.o;go_simp
    have S4:Hid ((Y.drew.setCell ⟨I,i,none⟩ (.bool (decide (0<x)))).cell? ⟨A,2,none⟩=some (.slice (some ⟨I,0,none⟩) n D.cL)/\(Y.drew.setCell ⟨I,i,none⟩ (.bool (decide (0<x)))).cell? ⟨bc,oc+i,none⟩=some (.int .i64 x)):=by
     obtain⟨y0,y1,B,y3,_⟩:=L2.o.q.cells;obtain⟨b1,o1,e1,c1⟩:=(HC.o.keep L2.o.q.b).at ap;cases e1;rw[O.o] at c1;rw[K2.o.1,K2.o.2.1,K2.o.2.2] at B;exact⟨B,c1⟩
    refine hK.o _ _ S4.o (λhHeld=>?_)
    clear k0 k1;refine td ?_;clear S3 aW hHeld S4 L1 aD;have aj:Y.drew.setCell ⟨I,i,none⟩ (.bool (decide (0<x)))=(Y.setCell ⟨I,i,none⟩ (.bool (decide (0<x)))).drew:=rfl;rw[aj] at L2;clear aj;generalize bu:(Y.setCell ⟨I,i,none⟩ (.bool (decide (0<x)))).drew=w3 at *;clear bu;have A0:=e7 (al w3 (.cells #[.bool false] 4));have X0:=e7 (aF w3 (.cells #[.bool false] 4));have F:=e7 (L2.o.keep A0.o);have G3:=e7 F.o.hb;have br:i+1<=maxLen:=by unfold maxLen;omega
    go_wp2_with (at_builtin;refine iS underlying105 pX rfl (by decide) rfl _ _ rfl aB i cB (vbl (List.replicate i false)) rfl G3.o ⟨w3.heap.size,0,none⟩ 1 [.bool false] rfl rfl (nF X0.o) (λu U=>by rw[aS.1 U];rfl) br (by omega) ?_)
    intro R bh w5 hG a2 hB;have L5:=e7 (F.o.c3 (by rw[O.o];omega) hG a2 hB)
    clear hG a2 hB F G3 X0 A0 L2;go_wp2_with fail
    go_roundw
    case rel=>exact⟨i+1,D2,some ⟨R,0,none⟩,bh,by omega,rfl,by go_num,L5.o⟩
    case measure=>simp[intOf];omega
  . obtain rfl:i=n:=by omega
    have aR:=e7 (d.o.lb G.o.symm);have BC:Hid (gA r C=false):=xe (λj hj=>d.o.ok j (by rw[G.o];exact hj))
    clear d;go_wp2_with fail
    go_loopw [12] (λvj wx=>∃(j:Nat)(D:Rd)(aq:List Bool)(g:Int->Option Pg),j<=m/\vj=.int .i64 (j:Int)/\Lb w wx a9 A r C i D aB cB aq g/\ldG (fk C) g (nmg (s.drop j))=ldG (fk C) (λ_=>none) (nmg s)) (λvj _=>m-(intOf vj).toNat)
    case atStart=>exact⟨0,D,_,_,ar _,rfl,aR.o,by rw[dY]⟩
    case round=>
     clear aR;obtain⟨j,D,aq,g,hj,rfl,hL,f⟩:=hrel;have d:=e7 hL;have EE:=e7 f;clear hL f;by_cases c:j<m
     . have bD:(j:Int)<(m:Int):=by omega
       have aK:j<s.length:=by rw[<-HM.o];exact c
       obtain⟨H,N,rfl,aE⟩:=aP.o.c j aK;have aC:=e7 λ(W:World)(hb:Below w.heap.size w W)(k:Nat)(u:Value)(U:(nmc (s.getD j nm0))[k]?=some u)=>(hb.cell (p:=⟨H,N+j*6+k,none⟩) (block_lt_of_cell (aE k u U))).trans (aE k u U)
       have cN:=aC.o wr d.o.q.b;clear aE;have MX:Hid (s.getD j nm0∈s):=by show _∈_;simp[aK]
       have ED:=e7 (pC aK);have PX:=e7 λ(W:World)(hb:Below w.heap.size w W)=>(aP.o.keep hb).p _ MX.o
       obtain⟨x,y⟩:∃x,s.getD j nm0=x:=⟨_,rfl⟩;simp only[y] at cN ED PX aC;clear y MX;obtain⟨z,p⟩:=x;have TH:=e7 (jM wr A D _ (d.o.rq G.o.symm h6.1).1 z);rw[d.o.cnt z] at TH;have f:=EE.o;rw[ED.o] at f;have n0:=cN 0 _ rfl;rw[cx] at n0;have Z:Hid (∀W:World,Below w.heap.size w W->∀(k:Nat)(u:Value),p.cs.toList[k]?=some u->W.cell? ⟨H,N+j*6+(k+1),none⟩=some u):=λW hb k u U=>aC.o W hb (k+1) u U
       have ac:Hid (∀k u,p.cs.toList[k]?=some u->wr.cell? ⟨H,N+j*6+(k+1),none⟩=some u):=λk u U=>cN (k+1) u U
       have aG:H<wr.heap.size:=block_lt_of_cell n0;clear cN;by_cases V:0<fk C z
       . rw[an V] at TH
         have bI:1<=z/\z<=i:=by
          unfold fk at V;split at V
          . rename_i au;rw[<-G.o] at au;exact au
          . omega
         obtain⟨k,hk⟩:∃k:Nat,z=(k:Int)+1:=⟨(z-1).toNat,by omega⟩
         subst hk;have ay:k<i:=by omega
         obtain⟨R,aJ⟩:∃gg,aB=some ⟨gg,0,none⟩:=d.o.hb.addr (by omega)
         subst aJ;have X:wr.cell? ⟨R,k,none⟩=some (.bool (aq.getD k false)):=d.o.hb.cell (by simp[vbl,d.o.hB,ay])
         have bk:wr.frozen? ⟨R,k,none⟩=false:=d.o.hb.free k;rw[d.o.hs k ay] at X;have bH:(k:Int)+1-1=(k:Int):=by omega
         have bJ:(k:Int)<(i:Int):=by omega
         have aZ:R<wr.heap.size:=block_lt_of_cell X;rw[mh] at f;rw[if_neg (λau=>au V)] at f
         by_cases hg:(g ((k:Int)+1)).isSome=true
         . rw[if_pos hg] at f;rw[hg] at X;have v:Hid ((fp r C (nmg s)).1=10):=by show _=_;rw[iK FT.o BC.o (by rw[<-f];simp),<-f]
           have BB:=e7 d.o.q.b;clear f V d EE;go_wp2_with fail
           refine TH.o.mono ?_;rintro _ wq ⟨rfl,E⟩;rw[E];clear E;go_wp2_with fail
           go_ret2
           exact .inl ⟨10,by decide,v.o,rfl,BB.o⟩
         . rw[if_neg hg] at f;have bm:(g ((k:Int)+1)).isSome=false:=by simpa using hg
           rw[bm] at X;have CK:=e7 (sK wr p (PX.o wr d.o.q.b).1);have q0:=ac.o 0 _ rfl;have q1:=ac.o 1 _ rfl;have q2:=ac.o 2 _ rfl;have q3:=ac.o 3 _ rfl;have q4:=ac.o 4 _ rfl;have PV:Hid (p.vl=.agg #[.int .i64 p.kind,.int .i64 p.level,.slice p.aI p.items.length p.cI,.slice p.aD p.data.length p.cD,.int .i64 p.next]):=rfl;rw[PV.o] at CK;by_cases ad:p.pg.check≠0
           . rw[if_pos ad] at f;have v:Hid ((fp r C (nmg s)).1=p.pg.check):=by show _=_;rw[iK FT.o BC.o (by rw[<-f];exact ad),<-f]
             have BB:=e7 d.o.q.b;have af:=e7 ad;obtain⟨aY,ba⟩:∃bb,p.pg.check=bb:=⟨_,rfl⟩;rw[ba] at CK af v;have bw:((aY:Int) != 0)=true:=by have:=af.o;simpa using this
             clear f V d EE ad ba;go_wp2_with fail
             refine TH.o.mono ?_;rintro _ wq ⟨rfl,E⟩;rw[E];clear E;go_wp2_with fail
             refine CK.o.mono ?_;rintro _ w3 ⟨rfl,aa⟩;have B3:=e7 (bt BB.o aa);clear aa;go_wp2_with fail
             go_ret2
             exact .inl ⟨aY,af.o,v.o,rfl,B3.o⟩
           . rw[if_neg ad] at f;have aM:p.pg.check=0:=by simpa using ad
             have E2:=e7 f;have af:=e7 aM;rw[aM] at CK;clear f V EE ad aM;go_wp2_with fail
             refine TH.o.mono ?_;rintro _ wq ⟨rfl,E⟩;rw[E];clear E;go_wp2_with fail
             refine CK.o.mono ?_;rintro _ w3 ⟨rfl,aa⟩;have F:=e7 (d.o.keep aa);have bi:=(aa.cell (p:=⟨R,k,none⟩) aZ).trans X;have bl:w3.frozen? ⟨R,k,none⟩=false:=F.o.hb.free k;have n3:=(aa.cell (p:=⟨H,N+j*6,none⟩) aG).trans n0;have bd:Hid (∀q u,p.cs.toList[q]?=some u->w3.cell? ⟨H,N+j*6+(q+1),none⟩=some u):=λq u U=>(aa.cell (p:=⟨H,N+j*6+(q+1),none⟩) aG).trans (ac.o q u U)
             clear aa TH CK X bk n0 ac d q0 q1 q2 q3 q4 aZ aG;go_upto_region 25 with fail
             have R2:=e7 (F.o.mid (i:=k));obtain⟨gP,ao⟩:∃gg,D.aP=some ⟨gg,0,none⟩:=F.o.q.pr.addr (by rw[F.o.hP];omega)
             obtain⟨y0,y1,B,y3,_⟩:=R2.o.cells;rw[ao,F.o.hP] at y3;generalize a8:w3.setCell ⟨R,k,none⟩ (.bool true)=w4 at *;have aQ:=e7 a8;clear a8 bi bl n3 bd y0 y1 B;have h:=e7 (dr2 w4)
             have SS:Hid (∀W:World,Below w4.heap.size w4 W->W.cell? ⟨A,3,none⟩=some (.slice (some ⟨gP,0,none⟩) i D.cP)/\W.cell? ⟨H,N+j*6+1,none⟩=some (.int .i64 p.kind)/\W.cell? ⟨H,N+j*6+2,none⟩=some (.int .i64 p.level)/\W.cell? ⟨H,N+j*6+3,none⟩=some (.slice p.aI p.items.length p.cI)/\W.cell? ⟨H,N+j*6+4,none⟩=some (.slice p.aD p.data.length p.cD)/\W.cell? ⟨H,N+j*6+5,none⟩=some (.int .i64 p.next)):=λW hb=>by
              have hw:=bt R2.o.b hb;exact⟨(hb.cell (p:=⟨A,3,none⟩) (block_lt_of_cell y3)).trans y3,Z.o W hw 0 _ rfl,Z.o W hw 1 _ rfl,Z.o W hw 2 _ rfl,Z.o W hw 3 _ rfl,Z.o W hw 4 _ rfl⟩
             have aT:=e7 (PX.o w4.drew (bt R2.o.b h.o)).1;obtain⟨sm,si⟩:=iQ (p:=p) (.inl af.o);have CP:=e7 (lh w4.drew p aT.o sm.1 si sm.2);rw[PV.o] at CP;have bn:k<D.P.length:=by rw[F.o.hP];exact ay
             have bf:Hid (IntKind.i64.wrap ((k:Nat):Int)=(k:Int)):=fB (by omega) (by omega)
             clear y3 sm si aT;refine wrd SS h.o λhHeld=>?_
             refine tkd 0 1 2 3 ?_;refine tkd 4 5 6 7 ?_;refine tkb 8 9 ?_;refine tk 10 ?_;rw[bf.o];refine tw 11 λaz hK=>?_
             go_simp;refine CP.o.mono ?_;rintro _ w5 ⟨qq,rfl,a3,bp,a5,a4⟩;have N5:=e7 (a3.pre (v':=w4) (ai _));have G5:=e7 a5;have B5:=e7 (bt h.o a4);clear a3 bp a5 a4;go_wp2_with fail
             refine hK.o _ _ (SS.o _ B5.o) (λhHeld=>?_)
             refine tk 12 ?_;obtain⟨D5,a1⟩:=F.o.lay ay ao qq aQ.o.symm B5.o N5.o (by rw[G5.o];exact af.o)
             have L5:=e7 a1;clear a1
             have aU:Hid (w5.there gP (k*5) 5):=by
              have T:=(R2.o.keep B5.o).pr;rw[ao] at T;exact T.there5 bn
             refine tw 13 λaz hK=>?_
             rw[if_pos (by rfl)]
             refine wp_store_mid (P:=prog) 77 _ _ rfl gP (k*5) qq.cs ?hxs ?hys aU.o fu (by simp[Pv.cs,Value.oneCell']) ?_
             case hxs=>simp[Act.eval]
             case hys=>rfl
             have SE:Hid ((w5.setCells gP (k*5) qq.cs.toList).cell? ⟨A,3,none⟩=some (.slice (some ⟨gP,0,none⟩) i D.cP)):=by
              obtain⟨bz,hc⟩:=(R2.o.keep B5.o).pr.blk ao;have bx:=(R2.o.keep B5.o).box;have b6:=(ij gP qq.cs.toList w5 (k*5)).same bx (λe=>fJ bx hc (by decide) e)
              show _=_;rw[ah _ _ _ _ _ _ b6];show some (Value.slice D.aP D.P.length D.cP)=_;rw[ao,F.o.hP]
             have ag:=L5.o.q.b;refine hK.o _ _ ⟨SE.o,Z.o _ ag 0 _ rfl,Z.o _ ag 1 _ rfl,Z.o _ ag 2 _ rfl,Z.o _ ag 3 _ rfl,Z.o _ ag 4 _ rfl⟩ (λhHeld=>?_)
             clear ag SE;refine td ?_;clear hHeld SS aU R2 F B5 N5 h CP aQ;generalize w5.setCells gP (k*5) qq.cs.toList=w6 at *;go_wp2_with fail
             go_roundw
             case rel=>exact⟨j+1,D5,_,_,by omega,by go_num,L5.o,by rw[G5.o];exact E2.o⟩
             case measure=>simp[intOf];omega
       . rw[am V] at TH;rw[mh] at f;rw[if_pos V] at f;have v:Hid ((fp r C (nmg s)).1=15):=by show _=_;rw[iK FT.o BC.o (by rw[<-f];simp),<-f]
         have BB:=e7 d.o.q.b;clear f V d EE;go_wp2_with fail
         refine TH.o.mono ?_;rintro _ wq ⟨rfl,E⟩;rw[E];clear E;go_wp2_with fail
         go_ret2
         exact .inl ⟨15,by decide,v.o,rfl,BB.o⟩
     . obtain rfl:j=m:=by omega
       have E0:Hid (ldG (fk C) (λ_=>none) (nmg s)=(0,g)):=by
        show _=_;rw[<-EE.o,cw (by rw[<-HM.o];exact ai _)]
        rfl
       clear EE;go_wp2_with fail
       go_loopw [15] (λvq wx=>∃q:Nat,q<=i/\vq=.int .i64 (q:Int)/\wx=wr/\∀t,t<q->0<C.getD t 0->(g ((t:Int)+1)).isSome=true) (λvq _=>i-(intOf vq).toNat)
       case atStart=>exact⟨0,ar _,rfl,rfl,λt ht=>absurd ht (db _)⟩
       case round=>
        obtain⟨q,hq,rfl,rfl,hQ⟩:=hrel;have HQ:=e7 hQ;clear hQ;by_cases c:q<i
        . have bF:(q:Int)<(i:Int):=by omega
          have a7:q<C.length:=by rw[<-G.o];exact c
          obtain⟨bc,oc,rfl,cA⟩:=(HC.o.keep d.o.q.b).at a7;obtain⟨x,y⟩:∃x,C.getD q 0=x:=⟨_,rfl⟩;have O:=e7 y;rw[y] at cA;clear y;obtain⟨R,aJ⟩:∃gg,aB=some ⟨gg,0,none⟩:=d.o.hb.addr (by omega)
          subst aJ;have X:wr.cell? ⟨R,q,none⟩=some (.bool (aq.getD q false)):=d.o.hb.cell (by simp[vbl,d.o.hB,c])
          rw[d.o.hs q c] at X;obtain⟨bo,aI⟩:∃bo,(g ((q:Int)+1)).isSome=bo:=⟨_,rfl⟩;have aO:=e7 aI;rw[aI] at X;clear aI;by_cases ab:0<x
          . have dx:decide (0<x)=true:=an ab;cases bo with
            |false=>
             have v:Hid ((fp r C (nmg s)).1=9):=lc FT.o BC.o (by rw[E0.o]) (by rw[E0.o];exact uT a7 (by rw[O.o];exact ab) aO.o)
             go_wp2_with fail
             go_ret2
             exact .inl ⟨9,by decide,v.o,rfl,d.o.q.b⟩
            |true=>
             go_wp2_with fail
             go_roundw
             case rel=>exact⟨q+1,by omega,by go_num,by first|rfl|trivial,λt ht h0=>by
              by_cases e:t=q
              . rw[e];exact aO.o
              . exact HQ.o t (by omega) h0⟩
             case measure=>simp[intOf];omega
          . have dx:decide (0<x)=false:=am ab;go_wp2_with fail
            go_roundw
            case rel=>exact⟨q+1,by omega,by go_num,by first|rfl|trivial,λt ht h0=>by
             by_cases e:t=q
             . rw[e,O.o] at h0;exact absurd h0 ab
             . exact HQ.o t (by omega) h0⟩
            case measure=>simp[intOf];omega
        . obtain rfl:q=i:=by omega
          have v:Hid (fp r C (nmg s)=(0,g)):=by
           have k:=qu (l:=nmg s) FT.o BC.o (by rw[E0.o]) (by rw[E0.o];exact vD (λt ht h0=>HQ.o t (by rw[G.o];exact ht) h0))
           rw[E0.o] at k;exact k
          go_wp2_with fail
          go_ret2
          refine .inr ⟨by rw[v.o],A,D,rfl,d.o.q,d.o.hR,d.o.hC,d.o.hL,by rw[d.o.hP,G.o],λt ht=>?_,d.o.ha.1,d.o.ha.2.1,d.o.ha.2.2.1,d.o.ha.2.2.2.1,d.o.ha.2.2.2.2⟩
          rw[v.o];exact d.o.hg t (by rw[G.o];exact ht)
def nlv(z:Int)(p:Pv):Value:=.agg #[.int .i64 z,.int .i64 p.kind,.int .i64 p.level,.slice p.aI p.items.length p.cI,.slice p.aD p.data.length p.cD,.int .i64 p.next]
def ju(f:Int->Option Pv)(z:Int)(q:Pv):Int->Option Pv:=λk=>if k=z then some q else f k
theorem jC{W:World}{g:Nat}{v0 a c v3 v4 v5:Value}{t:TypeId}(h:W.heap[g]?=some (.cells #[v0,a,c,v3,v4,v5] t (0,0))):W.cell? ⟨g,0,none⟩=some v0/\W.cell? ⟨g,1,none⟩=some a/\W.cell? ⟨g,2,none⟩=some c/\W.cell? ⟨g,3,none⟩=some v3/\W.cell? ⟨g,4,none⟩=some v4/\W.cell? ⟨g,5,none⟩=some v5:=by
 refine⟨?_,?_,?_,?_,?_,?_⟩<;>(rw[ah _ _ _ _ _ _ h];rfl)
theorem Vw.look2(h:Vw w b S pb mb pc col)(z:Int):(Instr.lookup 113 (.map (some mb)) (.int .i64 z) true).run prog w=.ok (.tuple #[(S.X.on z).vl,.bool (S.X.f z).isSome]) w:=by
 obtain⟨c,e,a,d,h⟩:=h;have k:=h.mp.look nW qH Pv.zero.vl (zeroValue77 w) z true;rw[k];simp only[if_true];unfold Vm.on;cases S.X.f z<;>rfl
theorem Vw.c1(h:Vw w b S pb mb pc col):w.cell? ⟨b,1,none⟩=some (.map (some mb)):=by
 obtain⟨c,e,a,d,h⟩:=h;exact h.cells.2.1
theorem Vw.laid{a:World}(h:Vw w b S pb mb pc col)(z:Int)(q:Pv)(hb:Below w.heap.size w a)(x:Pn w a q)(t:q.items.length<=2199023255520):
 ∃c,(Instr.mapUpdate 113 (.map (some mb)) (.int .i64 z) q.vl).run prog a=.ok () c/\(∃i,Vw c b ⟨⟨S.X.P,ju S.X.f z q,S.X.ch⟩,S.al,S.fl⟩ pb mb pc i/\Vf w col c i)/\But (λk=>k=mb) a c/\c.heap.size=a.heap.size:=by
 obtain⟨j,m,B⟩:=h.vx;obtain⟨D,s⟩:=B.page hb;obtain⟨l,n,f⟩:=D;obtain⟨c,y,v,g,A⟩:=f.mp.store nW qH z q.vl;refine⟨c,y,⟨ib col w a 6,⟨l,n,j,m,?_⟩,s.trans ⟨?_,λ_ _=>rfl⟩⟩,g,A⟩
 . have e:(λk=>(ju S.X.f z q k).map Pv.vl)=iV (λk=>(S.X.f k).map Pv.vl) z q.vl:=by
    funext k
    unfold ju iV;split<;>rfl
   refine f.mapped (f':=ju S.X.f z q) (by rw[e];exact v) g (λk p d=>?_)
   unfold ju at d;split at d
   . cases d;exact x.pz t
   . exact f.fz k p d
 . exact g.mono (λk E e=>by
    have e:k=mb:=e;rw[e];have:=f.cm;show 1<=_/\_<=5;rw[show ib col w a 6 mb=2 from this]
    decide)
def VLd(w w':World)(e:Ending)(b:Nat)(S:Vs)(pb mb:Nat)(pc col:Nat->Nat)(z:Int)(p:Pv):Prop:=
     (∃er:Nat,er≠0/\e=.returned (.int .i64 ((er:Nat):Int))/\(if ¬0<S.X.P.count z then 15 else if (S.X.f z).isSome=true then 10 else p.pg.check)=er/\Below w.heap.size w w')\/
     (0<S.X.P.count z/\(S.X.f z).isSome=false/\p.pg.check=0/\e=.returned (.int .i64 0)/\∃(q:Pv)(col':Nat->Nat),q.pg=p.pg/\Vw w' b ⟨⟨S.X.P,ju S.X.f z q,S.X.ch⟩,S.al,S.fl⟩ pb mb pc col'/\Vf w col w' col')
theorem tO(w:World)(b:Nat)(S:Vs)(pb mb:Nat)(pc col:Nat->Nat)(h:Vw w b S pb mb pc col)(z:Int)(p:Pv)(hP:Pi w p):
 Calls prog 76 #[.pointer (some ⟨b,0,none⟩),nlv z p] w λe w'=>VLd w w' e b S pb mb pc col z p:=by
 have F:=e7 (al w (.cells #[.int .i64 z,.int .i64 p.kind,.int .i64 p.level,.slice p.aI p.items.length p.cI,.slice p.aD p.data.length p.cD,.int .i64 p.next] 91));have B:=e7 (aF w (.cells #[.int .i64 z,.int .i64 p.kind,.int .i64 p.level,.slice p.aI p.items.length p.cI,.slice p.aD p.data.length p.cD,.int .i64 p.next] 91));unfold nlv;have HV:=e7 h;have HP:=e7 hP;clear h hP;have A:=e7 (HV.o.keep F.o);have m:=e7 (po _ b S pb mb pc col A.o z);by_cases n:0<S.X.P.count z
 . rw[an n] at m;have y:=e7 n;clear n;go_enter func76,ntmps76;go_wp2_with fail
   refine m.o.mono ?_;rintro _ wq ⟨rfl,D⟩;rw[D];clear D m;go_upto_region 3 with fail
   generalize ar:(w.alloc (.cells #[.int .i64 z,.int .i64 p.kind,.int .i64 p.level,.slice p.aI p.items.length p.cI,.slice p.aD p.data.length p.cD,.int .i64 p.next] 91))=a at *;clear ar;have lx:w.heap.size<a.heap.size:=(ae.1 B.o).1;generalize w.heap.size=f at B lx ⊢;have d:Hid (∀W:World,Below a.heap.size a W->W.cell? ⟨b,1,none⟩=some (.map (some mb))/\W.cell? ⟨f,0,none⟩=some (.int .i64 z)/\(Instr.lookup 113 (.map (some mb)) (.int .i64 z) true).run prog W=.ok (.tuple #[(S.X.on z).vl,.bool (S.X.f z).isSome]) W):=λW hb=>⟨(A.o.keep hb).c1,(jC (fF B.o hb)).1,(A.o.keep hb).look2 z⟩
   have i:=e7 (dr2 a);obtain⟨O,U⟩:∃O,(S.X.f z).isSome=O:=⟨_,rfl⟩;simp only[U] at d;have R:=e7 U;clear U;have OV:Hid ((S.X.on z).vl=.agg (S.X.on z).cs):=rfl;simp only[OV.o] at d;refine wrd d i.o λhHeld=>?_
   refine tkd 0 1 2 3 ?_;refine tkd 4 5 6 7 ?_;refine tkb 8 9 ?_;have E:=e7 (bt i.o (al a.drew (.cells #[.int .i64 0,.int .i64 0,.slice none 0 0,.slice none 0 0,.int .i64 0] 77)));have L:=e7 (aF a.drew (.cells #[.int .i64 0,.int .i64 0,.slice none 0 0,.slice none 0 0,.int .i64 0] 77));refine tw 10 λK k=>?_
   go_simp;refine k.o _ _ (d.o _ E.o) (λhHeld=>?_)
   try simp only[pt]
   have ab:(a.drew.alloc (.cells #[.int .i64 0,.int .i64 0,.slice none 0 0,.slice none 0 0,.int .i64 0] 77))=(a.alloc (.cells #[.int .i64 0,.int .i64 0,.slice none 0 0,.slice none 0 0,.int .i64 0] 77)).drew:=rfl;rw[ab] at E L;clear ab;generalize au:(a.alloc (.cells #[.int .i64 0,.int .i64 0,.slice none 0 0,.slice none 0 0,.int .i64 0] 77)).drew=w2 at *;clear au;have t:=e7 (tr (S.X.on z).cs E.o (ai _));refine tw 11 λK k=>?_
   rw[if_pos (by rfl)]
   refine wp_store_row 77 _ _ rfl a.heap.size _ rfl rfl 77 _ L.o fu rfl (by simp[Pv.cs,Value.oneCell']) ?_
   refine k.o _ _ (d.o _ t.o) (λhHeld=>?_)
   refine tk 12 ?_;refine td ?_;clear hHeld i;have M:=e7 (fF B.o t.o);have V2:=e7 (A.o.keep t.o);have v:=e7 (bt F.o t.o);generalize av:w2.setRow a.heap.size (S.X.on z).cs=w3 at *;have I:=e7 (HP.o.keep v.o);clear av t d A B L E;cases O with
   |true=>
    go_wp2_with fail
    go_ret;exact .inl ⟨10,by decide,rfl,by rw[if_neg (λe=>e y.o),if_pos R.o],v.o⟩
   |false=>
    obtain⟨y0,y1,y2,y3,y4,y5⟩:=jC M.o;have l:=e7 (tP w3 p I.o);have c:Hid (p.vl=.agg #[.int .i64 p.kind,.int .i64 p.level,.slice p.aI p.items.length p.cI,.slice p.aD p.data.length p.cD,.int .i64 p.next]):=rfl;rw[c.o] at l;obtain⟨P,X⟩:∃ao,p.pg.check=ao:=⟨_,rfl⟩;have T:=e7 X;rw[X] at l;clear X;by_cases V:P=0
    . subst V;go_wp2_with fail
      refine l.o.mono ?_;rintro _ s ⟨rfl,j⟩;have N:=e7 (fF M.o j);have J:=e7 (V2.o.keep j);have G:=e7 (bt v.o j);have P4:=e7 (I.o.keep j);clear j l M V2 y0 y1 y2 y3 y4 y5 v I;have i:=e7 (dr2 s);have d:Hid (∀W:World,Below s.heap.size s W->W.cell? ⟨b,1,none⟩=some (.map (some mb))/\W.cell? ⟨f,0,none⟩=some (.int .i64 z)/\W.cell? ⟨f,1,none⟩=some (.int .i64 p.kind)/\W.cell? ⟨f,2,none⟩=some (.int .i64 p.level)/\W.cell? ⟨f,3,none⟩=some (.slice p.aI p.items.length p.cI)/\W.cell? ⟨f,4,none⟩=some (.slice p.aD p.data.length p.cD)/\W.cell? ⟨f,5,none⟩=some (.int .i64 p.next)):=λW hb=>⟨(J.o.keep hb).c1,jC (fF N.o hb)⟩
      obtain⟨sm,si⟩:=iQ (p:=p) (.inl T.o);have H:=e7 (mG s.drew p (P4.o.keep i.o) sm.1 sm.2);rw[c.o] at H;have SI:=e7 si;clear sm si;go_upto_region 9 with fail
      refine wrd d i.o λhHeld=>?_
      refine tkd 0 1 2 3 ?_;refine tkd 4 5 6 7 ?_;refine tw 8 λK k=>?_
      go_simp;refine H.o.mono ?_;rintro _ w5 ⟨q,rfl,af,aj,ag⟩;have N5:=e7 (af.pre (v':=s) (ai _));have Z:=e7 aj;have x:=e7 (bt i.o ag);clear af aj ag;go_wp2_with fail
      refine k.o _ _ (d.o _ x.o) (λhHeld=>?_)
      try simp only[pt]
      have LQ:Hid (q.items.length<=2199023255520):=by
       have e:=aU (λap:Pg=>ap.items.length) Z.o
       simp only[Pv.pg,bf] at e;show _<=_;rw[e];exact az SI.o (by decide)
      obtain⟨w6,ak,⟨aw,Y,ah⟩,ad,aq⟩:=J.o.laid z q x.o N5.o LQ.o;have V6:=e7 Y;have F6:=e7 ((Vf.keep G.o).trans ah)
      have g:Hid (w6.cell? ⟨b,1,none⟩=some (.map (some mb))/\w6.heap[f]?=some (.cells #[.int .i64 z,.int .i64 p.kind,.int .i64 p.level,.slice p.aI p.items.length p.cI,.slice p.aD p.data.length p.cD,.int .i64 p.next] 91 (0,0))):=⟨Y.c1,ad.same (fF N.o x.o) (λe=>by
       have e:f=mb:=e;obtain⟨ac,cc,aa,ca,hq⟩:=J.o.keep x.o;obtain⟨es,cl,hm,_⟩:=hq.mp;have:=fF N.o x.o;rw[e] at this;rw[show(w5.heap[mb]?=some (.map es cl)) from hm] at this
       cases this)⟩
      have VL:Hid (q.vl=.agg q.cs):=rfl;rw[VL.o] at ak;try rw[VL.o]
      clear Y ah ad aq;refine tw 9 λK k=>?_
      go_simp;refine k.o _ _ ⟨g.o.1,jC g.o.2⟩ (λhHeld=>?_)
      refine td ?_;clear hHeld i d H ak;go_wp2_with fail
      go_ret;exact .inr ⟨y.o,R.o,T.o,rfl,q,aw,Z.o,V6.o,F6.o⟩
    . have c0:((P:Int) != 0)=true:=by simpa using V
      go_wp2_with fail
      refine l.o.mono ?_;rintro _ s ⟨rfl,j⟩;have G:=e7 (bt v.o j);clear j l y0 y1 y2 y3 y4 y5;go_wp2_with fail
      go_ret;exact .inl ⟨P,V,rfl,by rw[if_neg (λe=>e y.o),if_neg (by rw[R.o];decide)];exact T.o,G.o⟩
 . rw[am n] at m;have y:=e7 n;clear n;go_enter func76,ntmps76;go_wp2_with fail
   refine m.o.mono ?_;rintro _ wq ⟨rfl,D⟩;rw[D];clear D m;go_wp2_with fail
   go_ret;exact .inl ⟨15,by decide,rfl,by rw[if_pos (show ¬0<S.X.P.count z from by have:=y.o;omega)],F.o⟩
end Go.Proofs.YtnnieandfdbhgaaGreat
namespace Go.Proofs.YtnnieandfdbhgaaGreat
open Go.Proofs.Tryz
open Go.RowKit
open Go.MapKept
theorem lE:∀(l m:List Int),l.Nodup->(∀x∈l,x∈m)->l.length<=m.length
 | [],m,_,_=>ar _
 |a::t,m,hn,hs=>by
  have hn':=List.nodup_cons.1 hn;have b:=hs a cU;have d:=lE t (m.erase a) hn'.2 (λx c=>(List.mem_erase_of_ne (λe=>hn'.1 (by rw[<-e];exact c))).2 (hs x (aY _ c)))
  rw[List.length_erase_of_mem b] at d;have:0<m.length:=List.length_pos_of_mem b;simp only[aR];omega
def j5(e:MapEntry):Int:=match e.key with
 | .int _ k=>k
 |_=>0
theorem Mo.count{a:Array MapEntry}{C:Nat}{f:Int->Option Value}(h:Mo a C f)(c:List Int)(t:c.Nodup)(j:∀k,(f k).isSome=true↔k∈c):a.size=c.length:=by
 have m:∀e∈a.toList,e.key=.int .i64 (j5 e)/\(f (j5 e)).isSome=true:=λe b=>by
  obtain⟨k,d,q⟩:=h.key e b;have:j5 e=k:=by unfold j5;rw[d]
  rw[this];exact⟨d,by rw[q];rfl⟩
 obtain⟨_,_,s⟩:=h.st
 have d:a.toList.map (·.key)=(a.toList.map j5).map (λk=>Value.int .i64 k):=by
  rw[List.map_map];exact List.map_congr_left (λe b=>(m e b).1)
 have y:(a.toList.map j5).Nodup:=by
  have i:(a.toList.map (·.key)).Nodup:=s
  rw[d] at i;exact List.Pairwise.imp (λB e=>B (by rw[e])) (em.1 i)
 have n:=lE (a.toList.map j5) c y (λx g=>by
  obtain⟨e,b,rfl⟩:=bN.1 g;exact(j _).1 (m e b).2)
 have p:=lE c (a.toList.map j5) t (λx g=>by
  have l:=(j x).2 g;cases e:f x with
  |none=>rw[e] at l;cases l
  |some v=>
   obtain⟨r,b,A⟩:=h.has x v e;refine bN.2 ⟨r,b,?_⟩;unfold j5;rw[A])
 rw[bf] at n p;have:a.toList.length=a.size:=Array.length_toList;omega
theorem mF{α:Type}(p q:α->Bool):∀l:List α,(∀x∈l,p x=true->q x=true)->l.countP q=l.countP p+l.countP (λx=>q x&& !p x)
 | [],_=>rfl
 |x::t,h=>by
  have ih:=mF p q t (λy b=>h y (aY _ b))
  have a:=h x cU;simp only[List.countP_cons,ih];cases hp:p x<;>cases hq:q x
  . simp
  . simp;omega
  . rw[hp,hq] at a;exact absurd (a rfl) (by decide)
  . simp;omega
def ig(n:Nat)(f:Int->Option Pv):List Int:=((List.range n).filter λi:Nat=>(f ((i:Int)+1)).isSome).map λi=>((i:Nat):Int)+1
theorem pO(n:Nat)(f:Int->Option Pv):(ig n f).Nodup:=by
 unfold ig;refine em.2 ?_;refine List.Pairwise.imp (R:=λa b:Nat=>a≠b) ?_ (List.Pairwise.filter _ List.nodup_range)
 intro a b c e;have d:((a:Nat):Int)+1=((b:Nat):Int)+1:=e;exact c (by omega)
theorem sG{n:Nat}{f:Int->Option Pv}(a:∀k,(f k).isSome=true->1<=k/\k<=n)(k:Int):(f k).isSome=true↔k∈ig n f:=by
 unfold ig;constructor
 . intro h;obtain⟨c,d⟩:=a k h;refine bN.2 ⟨(k-1).toNat,eX.2 ⟨cQ.2 (by omega),?_⟩,by omega⟩
   rw[show(((k-1).toNat:Nat):Int)+1=k by omega]
   exact h
 . intro h;obtain⟨i,b,e⟩:=bN.1 h;rw[<-e];exact(eX.1 b).2
theorem vK(r:Int)(C:List Int):((Q.Po.start r C).pages 4).length=(List.range C.length).countP (λi=>decide (0<C.getD i 0))\/∃c∈C,c<0:=by
 by_cases d:∃c∈C,c<0
 . exact .inr d
 . refine .inl ?_
   have k:∀c∈C,0<=c:=λc g=>by
    by_cases h:c<0
    . exact absurd ⟨c,g,h⟩ d
    . omega
   show(if (1:Int)<=4/\(4:Int)<=4 then _ else _:List Int).length=_
   rw[if_pos (by omega)]
   show(Q.gj _ 4).length=_;unfold Q.gj;rw[bf,<-List.countP_eq_length_filter];show List.countP _ (List.range ((Q.Po.start r C).pg.length))=_;have j:(Q.Po.start r C).pg.length=C.length:=by unfold Q.Po.start;exact bf _
   rw[j];refine List.countP_congr (λi a=>?_)
   have a:=cQ.1 a;have e:(Q.Po.start r C).pg.getD i Q.Pg.zero=(C.getD i 0,decide (0<C.getD i 0)):=by unfold Q.Po.start;simp[a]
   rw[e];have:=k (C.getD i 0) (by simp[a])
   unfold Q.stt;by_cases b:C.getD i 0=0
   . rw[if_pos (show(C.getD i 0,decide (0<C.getD i 0)).1=0 from b),b]
     simp
   . rw[if_neg (show ¬(C.getD i 0,decide (0<C.getD i 0)).1=0 from b)]
     have f:0<C.getD i 0:=by omega
     simp only[an f];simp
theorem uA{r:Int}{C:List Int}{f:Int->Option Pv}{g:Int->Option Pg}(hb:gA r C=false)(n:∀k,(f k).isSome=true->0<fk C k)(d:∀k,(g k).isSome=(f k).isSome):decide ((ig C.length f).length<((Q.Po.start r C).pages 4).length)=iA C g:=by
 have p:¬ ∃c∈C,c<0:=by
  rintro⟨c,hc,h0⟩;unfold gA at hb;rw[dS] at hb;exact hb c hc (by simp[h0])
 have j:=(vK r C).resolve_right p
 have l:(ig C.length f).length=(List.range C.length).countP (λi:Nat=>(f ((i:Int)+1)).isSome):=by
  unfold ig;rw[bf,List.countP_eq_length_filter]
 have m:=mF (λi:Nat=>(f ((i:Int)+1)).isSome) (λi:Nat=>decide (0<C.getD i 0)) (List.range C.length) (λi a h=>by
  have a:=cQ.1 a;have:=n _ h;unfold fk at this;rw[if_pos (by omega),show((i:Int)+1-1).toNat=i by omega] at this
  exact an this)
 rw[j,l,m];unfold iA;cases hl:(List.range C.length).any (λi=>decide (0<C.getD i 0)&&(g ((i:Int)+1)).isNone) with
 |true=>
  obtain⟨i,a,h⟩:=ev.1 hl;refine an ?_
  have:0<(List.range C.length).countP (λi:Nat=>decide (0<C.getD i 0)&& !(f ((i:Int)+1)).isSome):=List.countP_pos_iff.2 ⟨i,a,by
   rw[bB] at h ⊢;refine⟨h.1,?_⟩;rw[<-d];cases e:g ((i:Int)+1) with
   |none=>rfl
   |some v=>rw[e] at h;exact absurd h.2 (by simp)⟩
  omega
 |false=>
  refine am ?_
  have:(List.range C.length).countP (λi:Nat=>decide (0<C.getD i 0)&& !(f ((i:Int)+1)).isSome)=0:=List.countP_eq_zero.2 (λi a h=>by
   have:=dS.1 hl i a;apply this;rw[bB] at h ⊢;refine⟨h.1,?_⟩;have b:=h.2;rw[<-d] at b;cases e:g ((i:Int)+1) with
   |none=>rfl
   |some v=>rw[e] at b;exact absurd b (by simp))
  omega
end Go.Proofs.YtnnieandfdbhgaaGreat
namespace Go.Proofs.YtnnieandfdbhgaaGreat
open Go.Proofs.Tryz
open Go.RowKit
variable {r:Int}{C:List Int}{mb pb:Nat}{col pc:Nat->Nat}{w wx wy:World}
theorem jF(r:Int)(C:List Int)(z:Int):(Q.Po.start r C).count z=fk C z:=by
 have c:(Q.Po.start r C).pg.length=C.length:=by unfold Q.Po.start;exact bf _
 unfold Q.Po.count Q.Po.has fk;rw[c];by_cases a:1<=z/\z<=C.length
 . rw[if_pos a,if_pos (by simp[a])]
   obtain⟨i,b⟩:∃i:Nat,(z-1).toNat=i:=⟨_,rfl⟩;rw[b];have d:i<C.length:=by omega
   unfold Q.Po.start;simp[d]
 . rw[if_neg a,if_neg (by simpa using a)]
def ldS(r:Int)(C:List Int)(f:Int->Option Pv):Vs:=⟨⟨Q.Po.start r C,f,[]⟩,[],0⟩
def xF(w w':World)(e:Ending)(r:Int)(C:List Int)(NL:List (Int×Pv)):Prop:=
 (∃er:Nat,er≠0/\(fp r C (nmg NL)).1=er/\e=.returned (.tuple #[.pointer none,.int .i64 ((er:Nat):Int)])/\Below w.heap.size w w')\/
 ((fp r C (nmg NL)).1=0/\∃(b:Nat)(f:Int->Option Pv),e=.returned (.tuple #[.pointer (some ⟨b,0,none⟩),.int .i64 0])/\sB w w' b (ldS r C f)/\(∀k,(f k).map Pv.pg=(fp r C (nmg NL)).2 k)/\(∀k q,f k=some q->q.pg.check=0)/\∀k,(f k).isSome=true->0<fk C k)
structure Lv(w wx:World)(b pb mb:Nat)(r:Int)(C:List Int)(f:Int->Option Pv)(g:Int->Option Pg)(pc col:Nat->Nat):Prop where
 v:Vw wx b (ldS r C f) pb mb pc col
 b:Below w.heap.size w wx
 c:∀k,col k≠0->w.heap.size<=k
 g:∀k,(f k).map Pv.pg=g k
 s:∀k q,f k=some q->q.pg.check=0
 p:∀k,(f k).isSome=true->0<fk C k
theorem Lv.keep{b:Nat}{f:Int->Option Pv}{g:Int->Option Pg}(h:Lv w wx b pb mb r C f g pc col)(hb:Below wx.heap.size wx wy):Lv w wy b pb mb r C f g pc col:=⟨h.v.keep hb,bt h.b hb,h.c,h.g,h.s,h.p⟩
theorem Lv.sm{b:Nat}{f:Int->Option Pv}{g:Int->Option Pg}(h:Lv w wx b pb mb r C f g pc col)(k:Int):(g k).isSome=(f k).isSome:=by
 rw[<-h.g k];cases f k<;>rfl
theorem Lv.laid{b:Nat}{f:Int->Option Pv}{g:Int->Option Pg}{c:Nat->Nat}(h:Lv w wx b pb mb r C f g pc col){z:Int}{q:Pv}{p:Pg}(j:q.pg=p)(n:0<fk C z)(l:p.check=0)(m:Vw wy b (ldS r C (ju f z q)) pb mb pc c)(d:Vf wx col wy c):Lv w wy b pb mb r C (ju f z q) (λk=>if k=z then some p else g k) pc c:=by
 have sz:=h.b.size;refine⟨m,?_,λk i=>?_,λk=>?_,λk s e=>?_,λk e=>?_⟩
 . exact((But.ofBelow (S:=λk=>1<=col k/\col k<=5) h.b).trans d.b (λ_ _ e=>e)).below (λk i e=>by have:=h.c k (by omega);omega)
 . by_cases t:k<wx.heap.size
   . exact h.c k (by rw[<-d.c k t];exact i)
   . omega
 . unfold ju;by_cases e:k=z
   . rw[if_pos e,if_pos e,<-j];rfl
   . rw[if_neg e,if_neg e];exact h.g k
 . unfold ju at e;by_cases a:k=z
   . rw[if_pos a] at e;cases e;rw[j];exact l
   . rw[if_neg a] at e;exact h.s k s e
 . unfold ju at e;by_cases a:k=z
   . rw[a];exact n
   . rw[if_neg a] at e;exact h.p k e
theorem Vw.mlen{b:Nat}{f:Int->Option Pv}(h:Vw w b (ldS r C f) pb mb pc col)(l:∀k,(f k).isSome=true->0<fk C k)(a:TypeId):(Builtin.len_ #[113] a #[.map (some mb)]).run prog w=.ok (.int .i64 (((ig C.length f).length:Nat):Int)) w:=by
 obtain⟨s,v,q,t,m⟩:=h;obtain⟨d,c,i,j⟩:=m.mp
 have e:=j.count (ig C.length f) (pO _ _) (λk=>by
  have p:=sG (n:=C.length) (f:=f) (λk g=>by
   have:=l k g;unfold fk at this;split at this
   . assumption
   . omega) k
  rw[<-p];show((f k).map Pv.vl).isSome=true↔_;cases f k<;>simp)
 have k:=run_len_map w 113 a mb d c (P:=prog) (by kernel_rfl) i
 rw[k,e];rfl
theorem uc(w:World)(r:Int)(a:Option Addr)(n cap:Nat)(C:List Int)(hC:Q.Ir w a C)(F:n=C.length)(aN:Option Addr)(m aF:Nat)(c:List (Int×Pv))(hN:Nm w aN c)(hm:m=c.length)(aK:m<=1000000):
 Calls prog 40 #[.int .i64 r,.slice a n cap,.slice aN m aF] w λe w'=>xF w w' e r C c:=by
 by_cases H:Q.fits n r=false
 . have NN:=e7 (Q.xa w r a n cap H);have s:Hid ((fp r C (nmg c)).1=1):=mr (by rw[<-F];exact H)
   clear hC F hN hm H;go_enter func40,ntmps40;go_wp2_with fail
   refine NN.o.mono ?_;rintro _ wq ⟨rfl,ax⟩;rw[ax];clear ax;go_wp2_with fail
   go_ret2
   exact .inl ⟨1,by decide,s.o,rfl,Below.refl _ _⟩
 have ae:Q.fits n r=true:=by simpa using H
 have E:Hid (Q.fits C.length r=true):=by show _=_;rw[<-F];exact ae
 have LA:=e7 (Q.wo w r a n cap C hC F ae);have HN:=e7 F;have ag:=e7 hN;have HM:=e7 hm;have aC:= @run_makeMap prog;clear H ae hC F hN hm;go_enter func40,ntmps40;go_wp2_with fail
 refine LA.o.mono ?_;rintro _ w1 (⟨L,rfl,aw⟩|⟨L,pb,rfl,hM⟩)
 . have s:Hid ((fp r C (nmg c)).1=13):=kC E.o L;rw[aw];clear aw L;go_wp2_with fail
   go_ret2
   exact .inl ⟨13,by decide,s.o,rfl,Below.refl _ _⟩
 have B:Hid (gA r C=false):=L;have VM:=e7 (sf hM);clear hM L LA;go_wp2_with fail
 generalize aD:((w1.alloc (.map #[] 0)).alloc (.cells #[.pointer (some ⟨pb,0,none⟩),.map (some w1.heap.size),.slice none 0 0,.slice none 0 0,.int .i64 0] 117))=w2 at *;clear aD;generalize w1.heap.size+1=b at *;obtain⟨A,mb,pc,col,hV,ak,ao⟩:=VM.o;have L0:Hid (Lv w w2 b A mb r C (λ_=>none) (λ_=>none) pc col):=⟨hV,ak,ao,λ_=>rfl,λk ay e=>(by cases e),λk e=>(by cases e)⟩
 clear hV ak ao VM aC;go_loopw [29] (λvj wx=>∃(j:Nat)(f:Int->Option Pv)(g:Int->Option Pg)(pc col:Nat->Nat),j<=m/\vj=.int .i64 (j:Int)/\Lv w wx b A mb r C f g pc col/\ldG (fk C) g (nmg (c.drop j))=ldG (fk C) (λ_=>none) (nmg c)) (λvj _=>m-(intOf vj).toNat)
 case atStart=>exact⟨0,_,_,pc,col,ar _,rfl,L0.o,by rw[dY]⟩
 case round=>
  clear L0;obtain⟨j,f,g,pc,col,hj,rfl,hL,d⟩:=hrel;have h:=e7 hL;have N:=e7 d;clear hL d;by_cases aB:j<m
  . have aJ:(j:Int)<(m:Int):=by omega
    have af:j<c.length:=by rw[<-HM.o];exact aB
    obtain⟨g1,aE,rfl,ad⟩:=ag.o.c j af;have ab:=e7 λ(W:World)(hb:Below w.heap.size w W)(k:Nat)(u:Value)(hu:(nmc (c.getD j nm0))[k]?=some u)=>(hb.cell (p:=⟨g1,aE+j*6+k,none⟩) (block_lt_of_cell (ad k u hu))).trans (ad k u hu)
    have y:=ab.o wr h.o.b;clear ad;have MX:Hid (c.getD j nm0∈c):=by show _∈_;simp[af]
    have ED:=e7 (pC af);have PX:=e7 λ(W:World)(hb:Below w.heap.size w W)=>(ag.o.keep hb).p _ MX.o
    obtain⟨x,hx⟩:∃x,c.getD j nm0=x:=⟨_,rfl⟩;simp only[hx] at y ED PX ab;clear hx MX ab;obtain⟨z,p⟩:=x;have Z:=y 0 _ rfl;have n1:=y 1 _ rfl;have n2:=y 2 _ rfl;have n3:=y 3 _ rfl;have n4:=y 4 _ rfl;have n5:=y 5 _ rfl;rw[cx] at Z;have aI:g1<wr.heap.size:=block_lt_of_cell Z;clear y;have A0:=e7 (al wr (.cells #[.int .i64 z,.int .i64 p.kind,.int .i64 p.level,.slice p.aI p.items.length p.cI,.slice p.aD p.data.length p.cD,.int .i64 p.next] 91));have P:=e7 (h.o.keep A0.o);have T:=e7 (tO _ b (ldS r C f) A mb pc col P.o.v z p (PX.o _ P.o.b).1);unfold nlv at T;have d:=N.o;rw[ED.o,mh] at d
    have D:Hid ((fk C z<=0->(fp r C (nmg c)).1=15)/\(0<fk C z->(g z).isSome=true->(fp r C (nmg c)).1=10)/\(0<fk C z->(g z).isSome=false->p.pg.check≠0->(fp r C (nmg c)).1=p.pg.check)/\(0<fk C z->(g z).isSome=false->p.pg.check=0->ldG (fk C) (λk=>if k=z then some p.pg else g k) (nmg (c.drop (j+1)))=ldG (fk C) (λ_=>none) (nmg c))):=by
     refine⟨λk=>?_,λt v=>?_,λt v Y=>?_,λt v Y=>?_⟩
     . rw[if_pos (show ¬0<fk C z by omega)] at d
       rw[iK E.o B.o (by rw[<-d];simp),<-d]
     . rw[if_neg (λe=>e t),if_pos v] at d
       rw[iK E.o B.o (by rw[<-d];simp),<-d]
     . rw[if_neg (λe=>e t),if_neg (by rw[v];decide),if_pos Y] at d
       rw[iK E.o B.o (by rw[<-d];exact Y),<-d]
     . rw[if_neg (λe=>e t),if_neg (by rw[v];decide),if_neg (λe=>e Y)] at d
       exact d
    clear d N ED;go_wp2_with fail
    refine T.o.mono ?_;rintro _ w4 (⟨er,K,rfl,i,ah⟩|⟨U,h2,h3,rfl,ay,aG,V,av,ap⟩)
    . have L4:=e7 (bt P.o.b ah)
      have s:Hid ((fp r C (nmg c)).1=er):=by
       have hs:=h.o.sm z;have q:(ldS r C f).X.P.count z=fk C z:=jF r C z;rw[q] at i;have aA:((ldS r C f).X.f z).isSome=(f z).isSome:=rfl;rw[aA,<-hs] at i;show _=_;by_cases t:0<fk C z
       . rw[if_neg (λe=>e t)] at i
         by_cases v:(g z).isSome=true
         . rw[if_pos v] at i;rw[<-i];exact D.o.2.1 t v
         . rw[if_neg v] at i;rw[<-i];exact D.o.2.2.1 t (by simpa using v) (by rw[i];exact K)
       . rw[if_pos t] at i;rw[<-i];exact D.o.1 (by omega)
      have az:=e7 K;have e9:((er:Int) != 0)=true:=by simpa using K
      clear K i ah T Z n1 n2 n3 n4 n5 D;go_wp2_with fail
      go_ret2
      exact .inl ⟨er,az.o,s.o,rfl,L4.o⟩
    . have q:(ldS r C f).X.P.count z=fk C z:=jF r C z;rw[q] at U;have L4:=e7 (P.o.laid V U h3 av ap);have E3:Hid (ldG (fk C) (λk=>if k=z then some p.pg else g k) (nmg (c.drop (j+1)))=ldG (fk C) (λ_=>none) (nmg c)):=D.o.2.2.2 U (by rw[h.o.sm z];exact h2) h3
      clear U h2 h3 V av ap q T Z n1 n2 n3 n4 n5 D;go_wp2_with fail
      go_roundw
      case rel=>exact⟨j+1,_,_,pc,aG,by omega,by go_num,L4.o,E3.o⟩
      case measure=>simp[intOf];omega
  . obtain rfl:j=m:=by omega
    have G:Hid (ldG (fk C) (λ_=>none) (nmg c)=(0,g)):=by
     show _=_;rw[<-N.o,cw (by rw[<-HM.o];exact ai _)]
     rfl
    clear N;have O:=e7 (uA (r:=r) (f:=f) (g:=g) B.o h.o.p h.o.sm);have M:=e7 (dr2 wr)
    have TA:=e7 (show ∀W:World,Below wr.heap.size wr W->Calls prog 77 #[.pointer (some ⟨A,0,none⟩),.int .i64 4] W λe w'=>e=.returned (.int .i64 ((((Q.Po.start r C).pages 4).length:Nat):Int))/\Below W.heap.size W w' from λW hb=>by
     obtain⟨ac,cc,aa,ca,V⟩:=h.o.v.keep hb;exact Q.tY W A _ _ V.pool 4)
    have S:Hid (∀W:World,Below wr.heap.size wr W->W.cell? ⟨b,0,none⟩=some (.pointer (some ⟨A,0,none⟩))/\W.cell? ⟨b,1,none⟩=some (.map (some mb))/\∀ty,(Builtin.len_ #[113] ty #[.map (some mb)]).run prog W=.ok (.int .i64 (((ig C.length f).length:Nat):Int)) W):=λW hb=>⟨(h.o.v.keep hb).c0,(h.o.v.keep hb).c1,λty=>(h.o.v.keep hb).mlen h.o.p ty⟩
    obtain⟨J,au⟩:∃J,((Q.Po.start r C).pages 4).length=J:=⟨_,rfl⟩;obtain⟨I,aq⟩:∃I,(ig C.length f).length=I:=⟨_,rfl⟩;simp only[au] at TA O;simp only[aq] at S O;clear au aq;go_upto_region 12 with fail
    refine wrd S M.o λhHeld=>?_
    refine tkd 0 1 2 3 ?_;refine tkd 4 5 6 7 ?_;refine tk 8 ?_;refine tw 9 λaH hK=>?_
    go_simp;refine(TA.o _ M.o).mono ?_;rintro _ w5 ⟨rfl,aj⟩;have B5:=e7 (bt M.o aj);clear aj;go_wp2_with fail
    refine hK.o _ _ (S.o _ B5.o) (λhHeld=>?_)
    refine tk 10 ?_;refine td ?_;have R:=e7 (h.o.keep B5.o);clear hHeld S TA M;by_cases hl:I<J
    . have dl:decide ((I:Int)<(J:Int))=true:=an (by omega)
      have s:Hid ((fp r C (nmg c)).1=9):=by
       refine lc E.o B.o (by rw[G.o]) ?_
       rw[G.o];have:=O.o;rw[an hl] at this;exact this.symm
      go_wp2_with fail
      go_ret2
      exact .inl ⟨9,by decide,s.o,rfl,R.o.b⟩
    . have dl:decide ((I:Int)<(J:Int))=false:=am (by omega)
      have s:Hid (fp r C (nmg c)=(0,g)):=by
       have:=O.o;rw[am hl] at this;have k:=qu (l:=nmg c) E.o B.o (by rw[G.o]) (by rw[G.o];exact this.symm)
       rw[G.o] at k;exact k
      go_wp2_with fail
      go_ret2
      exact .inr ⟨by rw[s.o],b,f,rfl,⟨A,mb,pc,col,R.o.v,R.o.b,R.o.c⟩,by rw[s.o];exact h.o.g,h.o.s,h.o.p⟩
theorem jV{l e:TypeId}{sz bs:Nat}{z:Value}(H:prog.underlying l=some (.slice e))(S:(prog.info? e).map (λi=>(i.zero,i.size,i.bytes))=some (some z,sz,bs))(L:z.cells.size=sz)(q:0<sz){w:World}{m:Array Oper}{o:Oper}{a:Act}{K:Act->World->Prop}{p:Exit->Act->World->Prop}{E:Prop}(P:o.guard=none)(s x:Operand)
 (D:o.op=.call {callee:=.builtin .append,args:=#[s,x],argTypes:=#[l,l]}) (b:Option Addr) (n cap:Nat) (C:List Value) (G:a.eval s=.slice b n cap) (v:Q.Gw e sz w b cap n C)
 (k:Addr) (c:Nat) (xs:List Value) (J:a.eval x=.slice (some k) 1 c) (A:xs.length=1*sz) (y:∀j u,xs[j]?=some u->w.cell? (k.add j)=some u) (t:∀u∈xs,u.oneCell'=true) (B:n+1<=maxLen) (R:(n+1)*bs<=140737488355328)
 (h:∀g f d,Q.Gw e sz d (some ⟨g,0,none⟩) f (n+1) (C++xs)->New w b (some ⟨g,0,none⟩)->But (Q.InA b) w d->K (a.put o.dst (.slice (some ⟨g,0,none⟩) (n+1) f)) d):
 if Region.wanted o (yielded m a.tmps)=true then Oper.wp prog o a w K p else E:=by
 have I:Region.wanted o (yielded m a.tmps)=true:=by simp[Region.wanted,P]
 rw[if_pos I];obtain⟨g,f,d,F,M,N,O⟩:=ni H S L q w o.type b n cap C v k c xs A y t B R;unfold Oper.wp execOp;simp only[D,resolve,invoke,builtin,dw,dy,c7,dt,bE,dz,G,J,F];exact h g f d M N O
end Go.Proofs.YtnnieandfdbhgaaGreat
