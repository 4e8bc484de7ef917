import Derived.Test.YtbdkogimlbnlmaaGreatWlB14
set_option linter.all false
set_option maxHeartbeats 32000000
set_option maxRecDepth 16000
namespace Go.Proofs.YtbdkogimlbnlmaaGreat
open Tryz
open Go.RowKit
variable {r:Int}{C:List Int}{b mb pb:Nat}{col pc:Nat->Nat}{S:Vs}{w:World}
def Gd(w w':World)(e:Ending)(r:Int)(C:List Int)(NL:List (Int×Pv)):Prop:=
 (∃er:Nat,er≠0/\(jm r C (nmg NL)).1=er/\e=.returned (.tuple #[.pointer none,.int .i64 ((er:Nat):Int)])/\Below w.heap.size w w')\/
 ((jm r C (nmg NL)).1=0/\∃(rb:Nat)(D:Rd),e=.returned (.tuple #[.pointer (some ⟨rb,0,none⟩),.int .i64 0])/\Rn w w' rb D/\D.R=r/\D.C=C/\(D.L=C.map λc=>decide (0<c))/\D.P.length=C.length/\(∀i,i<C.length->(D.P.getD i Pv.zero).pg=((jm r C (nmg NL)).2 ((i:Int)+1)).getD Pv.zero.pg)/\D.aA=none/\D.nA=0/\D.cA=0/\D.fl=0/\D.hush=false)
theorem me{l:List (Int×Pg)}(h:Q.js C.length r=false):(jm r C l).1=1:=by unfold jm;rw[if_pos h]
theorem lY{l:List (Int×Pg)}(h:Q.js C.length r=true)(hb:jL r C=true):(jm r C l).1=13:=by unfold jm;rw[if_neg (by rw[h];decide),if_pos hb]
theorem kE{l:List (Int×Pg)}(h:Q.js C.length r=true)(hb:jL r C=false)(d:(ldG (iU C) (λ_=>none) l).1≠0):(jm r C l).1=(ldG (iU C) (λ_=>none) l).1:=by unfold jm;rw[if_neg (by rw[h];decide),if_neg (by rw[hb];decide),if_pos d]
theorem mZ{l:List (Int×Pg)}(h:Q.js C.length r=true)(hb:jL r C=false)(d:(ldG (iU C) (λ_=>none) l).1=0)(e:lk C (ldG (iU C) (λ_=>none) l).2=true):(jm r C l).1=9:=by unfold jm;rw[if_neg (by rw[h];decide),if_neg (by rw[hb];decide),if_neg (by rw[d];simp),if_pos e]
theorem ro{l:List (Int×Pg)}(h:Q.js C.length r=true)(hb:jL r C=false)(d:(ldG (iU C) (λ_=>none) l).1=0)(e:lk C (ldG (iU C) (λ_=>none) l).2=false):jm r C l=(0,(ldG (iU C) (λ_=>none) l).2):=by unfold jm;rw[if_neg (by rw[h];decide),if_neg (by rw[hb];decide),if_neg (by rw[d];simp),if_neg (by rw[e];decide)]
theorem rG(cnt:Int->Int)(f:Int->Option Pg)(n:Int)(p:Pg)(T:List (Int×Pg)):ldG cnt f ((n,p)::T)=if ¬0<cnt n then (15,f) else if (f n).isSome=true then (10,f) else if p.check≠0 then (p.check,f) else ldG cnt (λk=>if k=n then some p else f k) T:=rfl
theorem Av(w:World)(r:Int)(a:Option Addr)(n cap:Nat)(C:List Int)(hC:Q.Ir w a C)(hn:n=C.length)(aN:Option Addr)(m br:Nat)(s:List (Int×Pv))(hN:Nm w aN s)(hm:m=s.length)(bA:m<=1000000):
 Calls prog 16 #[.int .i64 r,.slice a n cap,.slice aN m br] w λe w'=>Gd w w' e r C s:=by
 by_cases hf:Q.js n r=false
 . have NN:=iJ (yh w (n:Int) r hf);have v:Hid ((jm r C (nmg s)).1=1):=me (by rw[<-hn];exact hf)
   clear hC hn hN hm hf;go_enter func16,ntmps16;go_wp2_with fail
   refine NN.o.mono ?_;rintro _ wq ⟨rfl,E⟩;rw[E];clear E;go_wp2_with fail
   go_ret2
   exact .inl ⟨1,by decide,v.o,rfl,Below.refl _ _⟩
 have ae:Q.js n r=true:=by simpa using hf
 have h6:n<=65536/\1<=n:=by unfold Q.js at ae;simp only[bO,bE] at ae;omega
 have bD:2<=r/\r<65536:=by unfold Q.js at ae;simp only[bO,bE] at ae;omega
 have NY:=iJ (vQ w n r ae);have FT:Hid (Q.js C.length r=true):=by show _=_;rw[<-hn];exact ae
 have HC:=iJ hC;have H:=iJ hn;have aR:=iJ hN;have HM:=iJ hm;clear hf ae hC hn hN hm;go_enter func16,ntmps16;go_wp2_with fail
 refine NY.o.mono ?_;rintro _ w1 ⟨A,D0,rfl,aq,a0⟩
 have L0:Hid (La w w1 w1.heap.size A r C n 0 0 0 D0 none 0):=by
  obtain⟨q1,q2,q3,q4,q5,q6,q7,q8,q9⟩:=a0;exact⟨aq,q1,by rw[q2];simp,by rw[q3];simp,q4,⟨q5,q6,q7,q8,q9⟩,λx y=>aq.lr.lt y,Q.Gw.nil _ _ _,λx y=>(by cases y),λj hj=>absurd hj (dQ _),⟨aq.b.size,ai _⟩⟩
 clear aq a0 NY;generalize w1.heap.size=a9 at L0;go_wp2_with fail
 go_loopw [10,11] (λvb vi wx=>∃(i:Nat)(D:Rd)(aB:Option Addr)(cB:Nat),i<=n/\vb=.slice aB i cB/\vi=.int .i64 (i:Int)/\La w wx a9 A r C n i i i D aB cB) (λ_ vi _=>n-(intOf vi).toNat)
 case atStart=>exact⟨0,D0,none,0,az _,rfl,rfl,L0.o⟩
 case round=>
  clear L0;obtain⟨i,D,aB,cB,hi,rfl,rfl,hL⟩:=hrel;have d:=iJ hL;clear hL;by_cases B:i<n
  . have bw:(i:Int)<(n:Int):=by omega
    have am:i<C.length:=by rw[<-H.o];exact B
    obtain⟨bc,oc,rfl,cA⟩:=(HC.o.keep d.o.q.b).at am;obtain⟨x,y⟩:∃x,C.getD i 0=x:=⟨_,rfl⟩;have O:=iJ y;rw[y] at cA;clear y;by_cases ab:x<0
    . have dx:decide (x<0)=true:=ax ab;have v:Hid ((jm r C (nmg s)).1=13):=lY FT.o (xO am (.inl (by rw[O.o];exact ab)))
      go_wp2_with fail
      go_ret2
      exact .inl ⟨13,by decide,v.o,rfl,d.o.q.b⟩
    have dx:decide (x<0)=false:=au ab;by_cases aL:r<x
    . have bh:decide (r<x)=true:=ax aL;have v:Hid ((jm r C (nmg s)).1=13):=lY FT.o (xO am (.inr (by rw[O.o];exact aL)))
      go_wp2_with fail
      go_ret2
      exact .inl ⟨13,by decide,v.o,rfl,d.o.q.b⟩
    have bh:decide (r<x)=false:=au aL;obtain⟨l1,l2,l3⟩:=d.o.lens H.o.symm hi hi;obtain⟨N,ar⟩:∃g,D.aC=some ⟨g,0,none⟩:=d.o.q.cr.addr (by omega)
    obtain⟨J,a6⟩:∃g,D.aL=some ⟨g,0,none⟩:=d.o.q.lr.addr (by omega)
    obtain⟨x0,x1,x2,x3,f1,f2,f3⟩:=d.o.q.cells;rw[ar,l1] at x1;rw[a6,l2] at x2;have bv:bc<wr.heap.size:=block_lt_of_cell cA;have K:=iJ (dr2 wr);have L1:=iJ ((d.o.keep K.o).c1 H.o.symm B ar O.o);have S1:Hid (wr.drew.cell? ⟨A,1,none⟩=some (.slice (some ⟨N,0,none⟩) n D.cC)/\wr.drew.cell? ⟨bc,oc+i,none⟩=some (.int .i64 x)):=⟨x1,cA⟩
    have aW:Hid (wr.drew.cell? ⟨N,i,none⟩=some (.int .i64 (D.C.getD i 0))/\wr.drew.frozen? ⟨N,i,none⟩=false):=by
     have T:=(d.o.keep K.o).q.cr;rw[ar,l1] at T;exact⟨T.cell (by simp[Q.vi,show i<D.C.length by omega]),T.free i⟩
    obtain⟨M,ap⟩:∃aA,({D with C:=D.C.set i x}:Rd)=aA:=⟨_,rfl⟩;rw[ap] at L1;have aj:M.aL=some ⟨J,0,none⟩:=by rw[<-ap];exact a6
    have K1:Hid (M.aC=some ⟨N,0,none⟩/\M.C.length=n/\M.cC=D.cC/\M.cL=D.cL/\M.L.length=n):=by
     rw[<-ap];exact⟨ar,by show(D.C.set i x).length=n;rw[aM,l1],rfl,rfl,l2⟩
    clear ap x0 x3 f1 f2 f3 x1 x2;go_upto_region 10 with fail
    refine bC (S:=λW=>W.cell? ⟨A,1,none⟩=some (.slice (some ⟨N,0,none⟩) n D.cC)/\W.cell? ⟨bc,oc+i,none⟩=some (.int .i64 x)) (by kernel_rfl) (S1.o) (λhHeld=>?_)
    refine tkd 0 1 2 3 ?_;refine tkd 4 5 6 7 ?_;refine tkb 8 9 ?_;refine tw 10 λaw hK=>?_
    obtain⟨k0,k1⟩:=aW.o;go_simp
    have S2:Hid ((wr.drew.setCell ⟨N,i,none⟩ (.int .i64 x)).cell? ⟨A,1,none⟩=some (.slice (some ⟨N,0,none⟩) n D.cC)/\(wr.drew.setCell ⟨N,i,none⟩ (.int .i64 x)).cell? ⟨bc,oc+i,none⟩=some (.int .i64 x)):=by
     obtain⟨y0,y1,X,y3,_⟩:=L1.o.q.cells;obtain⟨b1,o1,e1,c1⟩:=(HC.o.keep L1.o.q.b).at am;cases e1;rw[O.o] at c1;rw[K1.o.1,K1.o.2.1,K1.o.2.2.1] at y1;exact⟨y1,c1⟩
    refine hK.o _ _ S2.o (λhHeld=>?_)
    clear k0 k1;refine td ?_;clear S1 aW hHeld K;have ah:wr.drew.setCell ⟨N,i,none⟩ (.int .i64 x)=(wr.setCell ⟨N,i,none⟩ (.int .i64 x)).drew:=rfl;rw[ah] at L1 S2;clear ah;generalize bp:(wr.setCell ⟨N,i,none⟩ (.int .i64 x)).drew=Y at *;clear bp;obtain⟨y0,y1,X,y3,_⟩:=L1.o.q.cells;rw[aj,K1.o.2.2.2.2,K1.o.2.2.2.1] at X;have be:=S2.o.2;have aD:=iJ (dr2 Y);have L2:=iJ ((L1.o.keep aD.o).c2 H.o.symm B aj O.o);have S3:Hid (Y.drew.cell? ⟨A,2,none⟩=some (.slice (some ⟨J,0,none⟩) n D.cL)/\Y.drew.cell? ⟨bc,oc+i,none⟩=some (.int .i64 x)):=⟨X,be⟩
    have aX:Hid (Y.drew.cell? ⟨J,i,none⟩=some (.bool (M.L.getD i false))/\Y.drew.frozen? ⟨J,i,none⟩=false):=by
     have T:=(L1.o.keep aD.o).q.lr;rw[aj] at T;exact⟨T.cell (by simp[vbl,show i<M.L.length by rw[K1.o.2.2.2.2];exact B]),T.free i⟩
    obtain⟨D2,aG⟩:∃aA,({M with L:=M.L.set i (decide (0<x))}:Rd)=aA:=⟨_,rfl⟩;rw[aG] at L2
    have K2:Hid (D2.aL=some ⟨J,0,none⟩/\D2.L.length=n/\D2.cL=D.cL):=by
     rw[<-aG];exact⟨aj,by show(M.L.set i _).length=n;rw[aM,K1.o.2.2.2.2],K1.o.2.2.2.1⟩
    clear aG y0 y1 y3 X S2 aj;go_upto_region 11 with fail
    refine bC (S:=λW=>W.cell? ⟨A,2,none⟩=some (.slice (some ⟨J,0,none⟩) n D.cL)/\W.cell? ⟨bc,oc+i,none⟩=some (.int .i64 x)) (by kernel_rfl) (S3.o) (λhHeld=>?_)
    refine tkd 0 1 2 3 ?_;refine tkd 4 5 6 7 ?_;refine tkb 8 9 ?_;refine tk 10 ?_;refine tw 11 λaw hK=>?_
    obtain⟨k0,k1⟩:=aX.o;go_simp
    have S4:Hid ((Y.drew.setCell ⟨J,i,none⟩ (.bool (decide (0<x)))).cell? ⟨A,2,none⟩=some (.slice (some ⟨J,0,none⟩) n D.cL)/\(Y.drew.setCell ⟨J,i,none⟩ (.bool (decide (0<x)))).cell? ⟨bc,oc+i,none⟩=some (.int .i64 x)):=by
     obtain⟨y0,y1,X,y3,_⟩:=L2.o.q.cells;obtain⟨b1,o1,e1,c1⟩:=(HC.o.keep L2.o.q.b).at am;cases e1;rw[O.o] at c1;rw[K2.o.1,K2.o.2.1,K2.o.2.2] at X;exact⟨X,c1⟩
    refine hK.o _ _ S4.o (λhHeld=>?_)
    clear k0 k1;refine td ?_;clear S3 aX hHeld S4 L1 aD;have ah:Y.drew.setCell ⟨J,i,none⟩ (.bool (decide (0<x)))=(Y.setCell ⟨J,i,none⟩ (.bool (decide (0<x)))).drew:=rfl;rw[ah] at L2;clear ah;generalize bq:(Y.setCell ⟨J,i,none⟩ (.bool (decide (0<x)))).drew=w3 at *;clear bq;have A0:=iJ (al w3 (.cells #[.bool false] 4));have X0:=iJ (aH w3 (.cells #[.bool false] 4));have G:=iJ (L2.o.keep A0.o);have G3:=iJ G.o.hb;have bn:i+1<=maxLen:=by unfold maxLen;omega
    go_wp2_with (at_builtin;refine jM underlying64 uV rfl (by decide) rfl _ _ rfl aB i cB (vbl (List.replicate i false)) rfl G3.o ⟨w3.heap.size,0,none⟩ 1 [.bool false] rfl rfl (qy X0.o) (λu U=>by rw[aQ.1 U];rfl) bn (by omega) ?_)
    intro R bf w5 hG a2 hB;have L5:=iJ (G.o.c3 (by rw[O.o];omega) hG a2 hB)
    clear hG a2 hB G G3 X0 A0 L2;go_wp2_with fail
    go_roundw
    case rel=>exact⟨i+1,D2,some ⟨R,0,none⟩,bf,by omega,rfl,by go_num,L5.o⟩
    case measure=>simp[intOf];omega
  . obtain rfl:i=n:=by omega
    have aT:=iJ (d.o.lb H.o.symm);have BC:Hid (jL r C=false):=Fy (λj hj=>d.o.ok j (by rw[H.o];exact hj))
    clear d;go_wp2_with fail
    go_loopw [12] (λvj wx=>∃(j:Nat)(D:Rd)(an:List Bool)(g:Int->Option Pg),j<=m/\vj=.int .i64 (j:Int)/\Lb w wx a9 A r C i D aB cB an g/\ldG (iU C) g (nmg (s.drop j))=ldG (iU C) (λ_=>none) (nmg s)) (λvj _=>m-(intOf vj).toNat)
    case atStart=>exact⟨0,D,_,_,az _,rfl,aT.o,by rw[fa]⟩
    case round=>
     clear aT;obtain⟨j,D,an,g,hj,rfl,hL,f⟩:=hrel;have d:=iJ hL;have EE:=iJ f;clear hL f;by_cases B:j<m
     . have bz:(j:Int)<(m:Int):=by omega
       have aK:j<s.length:=by rw[<-HM.o];exact B
       obtain⟨I,off,rfl,aE⟩:=aR.o.c j aK;have aC:=iJ λ(W:World)(hb:Below w.heap.size w W)(k:Nat)(u:Value)(U:(nmc (s.getD j nm0))[k]?=some u)=>(hb.cell (p:=⟨I,off+j*6+k,none⟩) (block_lt_of_cell (aE k u U))).trans (aE k u U)
       have cN:=aC.o wr d.o.q.b;clear aE;have MX:Hid (s.getD j nm0∈s):=by show _∈_;simp[aK]
       have ED:=iJ (vJ aK);have PX:=iJ λ(W:World)(hb:Below w.heap.size w W)=>(aR.o.keep hb).p _ MX.o
       obtain⟨x,y⟩:∃x,s.getD j nm0=x:=⟨_,rfl⟩;simp only[y] at cN ED PX aC;clear y MX;obtain⟨z,p⟩:=x;have TH:=iJ (kf wr A D _ (d.o.rq H.o.symm h6.1).1 z);rw[d.o.cnt z] at TH;have f:=EE.o;rw[ED.o] at f;have n0:=cN 0 _ rfl;rw[bY] at n0;have Z:Hid (∀W:World,Below w.heap.size w W->∀(k:Nat)(u:Value),p.cs.toList[k]?=some u->W.cell? ⟨I,off+j*6+(k+1),none⟩=some u):=λW hb k u U=>aC.o W hb (k+1) u U
       have ac:Hid (∀k u,p.cs.toList[k]?=some u->wr.cell? ⟨I,off+j*6+(k+1),none⟩=some u):=λk u U=>cN (k+1) u U
       have aF:I<wr.heap.size:=block_lt_of_cell n0;clear cN;by_cases V:0<iU C z
       . rw[ax V] at TH
         have bG:1<=z/\z<=i:=by
          unfold iU at V;split at V
          . rename_i ao;rw[<-H.o] at ao;exact ao
          . omega
         obtain⟨k,hk⟩:∃k:Nat,z=(k:Int)+1:=⟨(z-1).toNat,by omega⟩
         subst hk;have av:k<i:=by omega
         obtain⟨R,aJ⟩:∃gg,aB=some ⟨gg,0,none⟩:=d.o.hb.addr (by omega)
         subst aJ;have h:wr.cell? ⟨R,k,none⟩=some (.bool (an.getD k false)):=d.o.hb.cell (by simp[vbl,d.o.hB,av])
         have bi:wr.frozen? ⟨R,k,none⟩=false:=d.o.hb.free k;rw[d.o.hs k av] at h;have bF:(k:Int)+1-1=(k:Int):=by omega
         have bH:(k:Int)<(i:Int):=by omega
         have aZ:R<wr.heap.size:=block_lt_of_cell h;rw[rG] at f;rw[if_neg (λao=>ao V)] at f
         by_cases hg:(g ((k:Int)+1)).isSome=true
         . rw[if_pos hg] at f;rw[hg] at h;have v:Hid ((jm r C (nmg s)).1=10):=by show _=_;rw[kE FT.o BC.o (by rw[<-f];simp),<-f]
           have BB:=iJ d.o.q.b;clear f V d EE;go_wp2_with fail
           refine TH.o.mono ?_;rintro _ wq ⟨rfl,E⟩;rw[E];clear E;go_wp2_with fail
           go_ret2
           exact .inl ⟨10,by decide,v.o,rfl,BB.o⟩
         . rw[if_neg hg] at f;have bk:(g ((k:Int)+1)).isSome=false:=by simpa using hg
           rw[bk] at h;have CK:=iJ (oR wr p (PX.o wr d.o.q.b).1);have q0:=ac.o 0 _ rfl;have q1:=ac.o 1 _ rfl;have q2:=ac.o 2 _ rfl;have q3:=ac.o 3 _ rfl;have q4:=ac.o 4 _ rfl;have PV:Hid (p.vl=.agg #[.int .i64 p.kind,.int .i64 p.level,.slice p.aI p.items.length p.cI,.slice p.aD p.data.length p.cD,.int .i64 p.next]):=rfl;rw[PV.o] at CK;by_cases ad:p.pg.check≠0
           . rw[if_pos ad] at f;have v:Hid ((jm r C (nmg s)).1=p.pg.check):=by show _=_;rw[kE FT.o BC.o (by rw[<-f];exact ad),<-f]
             have BB:=iJ d.o.q.b;have af:=iJ ad;obtain⟨aY,ba⟩:∃c,p.pg.check=c:=⟨_,rfl⟩;rw[ba] at CK af v;have bs:((aY:Int) != 0)=true:=by have:=af.o;simpa using this
             clear f V d EE ad ba;go_wp2_with fail
             refine TH.o.mono ?_;rintro _ wq ⟨rfl,E⟩;rw[E];clear E;go_wp2_with fail
             refine CK.o.mono ?_;rintro _ w3 ⟨rfl,aa⟩;have B3:=iJ (bt BB.o aa);clear aa;go_wp2_with fail
             go_ret2
             exact .inl ⟨aY,af.o,v.o,rfl,B3.o⟩
           . rw[if_neg ad] at f;have aO:p.pg.check=0:=by simpa using ad
             have E2:=iJ f;have af:=iJ aO;rw[aO] at CK;clear f V EE ad aO;go_wp2_with fail
             refine TH.o.mono ?_;rintro _ wq ⟨rfl,E⟩;rw[E];clear E;go_wp2_with fail
             refine CK.o.mono ?_;rintro _ w3 ⟨rfl,aa⟩;have G:=iJ (d.o.keep aa);have bg:=(aa.cell (p:=⟨R,k,none⟩) aZ).trans h;have bj:w3.frozen? ⟨R,k,none⟩=false:=G.o.hb.free k;have n3:=(aa.cell (p:=⟨I,off+j*6,none⟩) aF).trans n0;have bb:Hid (∀q u,p.cs.toList[q]?=some u->w3.cell? ⟨I,off+j*6+(q+1),none⟩=some u):=λq u U=>(aa.cell (p:=⟨I,off+j*6+(q+1),none⟩) aF).trans (ac.o q u U)
             clear aa TH CK h bi n0 ac d q0 q1 q2 q3 q4 aZ aF;go_upto_region 25 with fail
             have R2:=iJ (G.o.mid (i:=k));obtain⟨gP,ak⟩:∃gg,D.aP=some ⟨gg,0,none⟩:=G.o.q.pr.addr (by rw[G.o.hP];omega)
             obtain⟨y0,y1,X,y3,_⟩:=R2.o.cells;rw[ak,G.o.hP] at y3;generalize a8:w3.setCell ⟨R,k,none⟩ (.bool true)=w4 at *;have aS:=iJ a8;clear a8 bg bj n3 bb y0 y1 X;have K:=iJ (dr2 w4)
             have SS:Hid (∀W:World,Below w4.heap.size w4 W->W.cell? ⟨A,3,none⟩=some (.slice (some ⟨gP,0,none⟩) i D.cP)/\W.cell? ⟨I,off+j*6+1,none⟩=some (.int .i64 p.kind)/\W.cell? ⟨I,off+j*6+2,none⟩=some (.int .i64 p.level)/\W.cell? ⟨I,off+j*6+3,none⟩=some (.slice p.aI p.items.length p.cI)/\W.cell? ⟨I,off+j*6+4,none⟩=some (.slice p.aD p.data.length p.cD)/\W.cell? ⟨I,off+j*6+5,none⟩=some (.int .i64 p.next)):=λW hb=>by
              have hw:=bt R2.o.b hb;exact⟨(hb.cell (p:=⟨A,3,none⟩) (block_lt_of_cell y3)).trans y3,Z.o W hw 0 _ rfl,Z.o W hw 1 _ rfl,Z.o W hw 2 _ rfl,Z.o W hw 3 _ rfl,Z.o W hw 4 _ rfl⟩
             have aU:=iJ (PX.o w4.drew (bt R2.o.b K.o)).1;obtain⟨sm,si⟩:=jU (p:=p) (.inl af.o);have CP:=iJ (jX w4.drew p aU.o sm.1 si sm.2);rw[PV.o] at CP;have bl:k<D.P.length:=by rw[G.o.hP];exact av
             have bd:Hid (IntKind.i64.wrap ((k:Nat):Int)=(k:Int)):=iT (by omega) (by omega)
             clear y3 sm si aU;refine wrd SS K.o λhHeld=>?_
             refine tkd 0 1 2 3 ?_;refine tkd 4 5 6 7 ?_;refine tkb 8 9 ?_;refine tk 10 ?_;rw[bd.o];refine tw 11 λaw hK=>?_
             go_simp;refine CP.o.mono ?_;rintro _ w5 ⟨qq,rfl,a3,bm,a5,a4⟩;have N5:=iJ (a3.pre (v':=w4) (ai _));have G5:=iJ a5;have B5:=iJ (bt K.o a4);clear a3 bm a5 a4;go_wp2_with fail
             refine hK.o _ _ (SS.o _ B5.o) (λhHeld=>?_)
             refine tk 12 ?_;obtain⟨D5,a1⟩:=G.o.lay av ak qq aS.o.symm B5.o N5.o (by rw[G5.o];exact af.o)
             have L5:=iJ a1;clear a1
             have aV:Hid (w5.there gP (k*5) 5):=by
              have T:=(R2.o.keep B5.o).pr;rw[ak] at T;exact T.there5 bl
             refine tw 13 λaw hK=>?_
             rw[if_pos (by rfl)]
             refine wp_store_mid (P:=prog) 31 _ _ rfl gP (k*5) qq.cs ?hxs ?hys aV.o iP (by simp[Pv.cs,Value.oneCell']) ?_
             case hxs=>simp[Act.eval]
             case hys=>rfl
             have SE:Hid ((w5.setCells gP (k*5) qq.cs.toList).cell? ⟨A,3,none⟩=some (.slice (some ⟨gP,0,none⟩) i D.cP)):=by
              obtain⟨bu,hc⟩:=(R2.o.keep B5.o).pr.blk ak;have bx:=(R2.o.keep B5.o).box;have b6:=(jr gP qq.cs.toList w5 (k*5)).same bx (λe=>jy bx hc (by decide) e)
              show _=_;rw[ay _ _ _ _ _ _ b6];show some (Value.slice D.aP D.P.length D.cP)=_;rw[ak,G.o.hP]
             have ag:=L5.o.q.b;refine hK.o _ _ ⟨SE.o,Z.o _ ag 0 _ rfl,Z.o _ ag 1 _ rfl,Z.o _ ag 2 _ rfl,Z.o _ ag 3 _ rfl,Z.o _ ag 4 _ rfl⟩ (λhHeld=>?_)
             clear ag SE;refine td ?_;clear hHeld SS aV R2 G B5 N5 K CP aS;generalize w5.setCells gP (k*5) qq.cs.toList=w6 at *;go_wp2_with fail
             go_roundw
             case rel=>exact⟨j+1,D5,_,_,by omega,by go_num,L5.o,by rw[G5.o];exact E2.o⟩
             case measure=>simp[intOf];omega
       . rw[au V] at TH;rw[rG] at f;rw[if_pos V] at f;have v:Hid ((jm r C (nmg s)).1=15):=by show _=_;rw[kE FT.o BC.o (by rw[<-f];simp),<-f]
         have BB:=iJ d.o.q.b;clear f V d EE;go_wp2_with fail
         refine TH.o.mono ?_;rintro _ wq ⟨rfl,E⟩;rw[E];clear E;go_wp2_with fail
         go_ret2
         exact .inl ⟨15,by decide,v.o,rfl,BB.o⟩
     . obtain rfl:j=m:=by omega
       have E0:Hid (ldG (iU C) (λ_=>none) (nmg s)=(0,g)):=by
        show _=_;rw[<-EE.o,du (by rw[<-HM.o];exact ai _)]
        rfl
       clear EE;go_wp2_with fail
       go_loopw [15] (λvq wx=>∃q:Nat,q<=i/\vq=.int .i64 (q:Int)/\wx=wr/\∀t,t<q->0<C.getD t 0->(g ((t:Int)+1)).isSome=true) (λvq _=>i-(intOf vq).toNat)
       case atStart=>exact⟨0,az _,rfl,rfl,λt ht=>absurd ht (dQ _)⟩
       case round=>
        obtain⟨q,hq,rfl,rfl,hQ⟩:=hrel;have HQ:=iJ hQ;clear hQ;by_cases B:q<i
        . have bB:(q:Int)<(i:Int):=by omega
          have a7:q<C.length:=by rw[<-H.o];exact B
          obtain⟨bc,oc,rfl,cA⟩:=(HC.o.keep d.o.q.b).at a7;obtain⟨x,y⟩:∃x,C.getD q 0=x:=⟨_,rfl⟩;have O:=iJ y;rw[y] at cA;clear y;obtain⟨R,aJ⟩:∃gg,aB=some ⟨gg,0,none⟩:=d.o.hb.addr (by omega)
          subst aJ;have h:wr.cell? ⟨R,q,none⟩=some (.bool (an.getD q false)):=d.o.hb.cell (by simp[vbl,d.o.hB,B])
          rw[d.o.hs q B] at h;obtain⟨bo,aI⟩:∃bo,(g ((q:Int)+1)).isSome=bo:=⟨_,rfl⟩;have aP:=iJ aI;rw[aI] at h;clear aI;by_cases ab:0<x
          . have dx:decide (0<x)=true:=ax ab;cases bo with
            |false=>
             have v:Hid ((jm r C (nmg s)).1=9):=mZ FT.o BC.o (by rw[E0.o]) (by rw[E0.o];exact uw a7 (by rw[O.o];exact ab) aP.o)
             go_wp2_with fail
             go_ret2
             exact .inl ⟨9,by decide,v.o,rfl,d.o.q.b⟩
            |true=>
             go_wp2_with fail
             go_roundw
             case rel=>exact⟨q+1,by omega,by go_num,by first|rfl|trivial,λt ht h0=>by
              by_cases e:t=q
              . rw[e];exact aP.o
              . exact HQ.o t (by omega) h0⟩
             case measure=>simp[intOf];omega
          . have dx:decide (0<x)=false:=au ab;go_wp2_with fail
            go_roundw
            case rel=>exact⟨q+1,by omega,by go_num,by first|rfl|trivial,λt ht h0=>by
             by_cases e:t=q
             . rw[e,O.o] at h0;exact absurd h0 ab
             . exact HQ.o t (by omega) h0⟩
            case measure=>simp[intOf];omega
        . obtain rfl:q=i:=by omega
          have v:Hid (jm r C (nmg s)=(0,g)):=by
           have k:=ro (l:=nmg s) FT.o BC.o (by rw[E0.o]) (by rw[E0.o];exact Do (λt ht h0=>HQ.o t (by rw[H.o];exact ht) h0))
           rw[E0.o] at k;exact k
          go_wp2_with fail
          go_ret2
          refine .inr ⟨by rw[v.o],A,D,rfl,d.o.q,d.o.hR,d.o.hC,d.o.hL,by rw[d.o.hP,H.o],λt ht=>?_,d.o.ha.1,d.o.ha.2.1,d.o.ha.2.2.1,d.o.ha.2.2.2.1,d.o.ha.2.2.2.2⟩
          rw[v.o];exact d.o.hg t (by rw[H.o];exact ht)
def nlv(z:Int)(p:Pv):Value:=.agg #[.int .i64 z,.int .i64 p.kind,.int .i64 p.level,.slice p.aI p.items.length p.cI,.slice p.aD p.data.length p.cD,.int .i64 p.next]
def mB(f:Int->Option Pv)(z:Int)(q:Pv):Int->Option Pv:=λk=>if k=z then some q else f k
theorem mT{W:World}{g:Nat}{v0 d e v3 v4 v5:Value}{t:TypeId}(h:W.heap[g]?=some (.cells #[v0,d,e,v3,v4,v5] t (0,0))):W.cell? ⟨g,0,none⟩=some v0/\W.cell? ⟨g,1,none⟩=some d/\W.cell? ⟨g,2,none⟩=some e/\W.cell? ⟨g,3,none⟩=some v3/\W.cell? ⟨g,4,none⟩=some v4/\W.cell? ⟨g,5,none⟩=some v5:=by
 refine⟨?_,?_,?_,?_,?_,?_⟩<;>(rw[ay _ _ _ _ _ _ h];rfl)
theorem Vw.look2(h:Vw w b S pb mb pc col)(z:Int):(Instr.lookup 81 (.map (some mb)) (.int .i64 z) true).run prog w=.ok (.tuple #[(S.X.on z).vl,.bool (S.X.f z).isSome]) w:=by
 obtain⟨e,g,d,f,h⟩:=h;have k:=h.mp.look nu qj Pv.zero.vl (zeroValue31 w) z true;rw[k];simp only[if_true];unfold Vm.on;cases S.X.f z<;>rfl
theorem Vw.c1(h:Vw w b S pb mb pc col):w.cell? ⟨b,1,none⟩=some (.map (some mb)):=by
 obtain⟨e,g,d,f,h⟩:=h;exact h.cells.2.1
theorem Vw.laid{w5:World}(h:Vw w b S pb mb pc col)(z:Int)(q:Pv)(hb:Below w.heap.size w w5)(x:Pn w w5 q)(t:q.items.length<=2199023255489):
 ∃d,(Instr.mapUpdate 81 (.map (some mb)) (.int .i64 z) q.vl).run prog w5=.ok () d/\(∃col',Vw d b ⟨⟨S.X.P,mB S.X.f z q,S.X.ch⟩,S.al,S.fl⟩ pb mb pc col'/\Vf w col d col')/\But (λk=>k=mb) w5 d/\d.heap.size=w5.heap.size:=by
 obtain⟨j,m,B⟩:=h.vx;obtain⟨D,s⟩:=B.page hb;obtain⟨l,n,g⟩:=D;obtain⟨d,y,v,i,A⟩:=g.mp.store nu qj z q.vl;refine⟨d,y,⟨iO col w w5 6,⟨l,n,j,m,?_⟩,s.trans ⟨?_,λ_ _=>rfl⟩⟩,i,A⟩
 . have e:(λk=>(mB S.X.f z q k).map Pv.vl)=lC (λk=>(S.X.f k).map Pv.vl) z q.vl:=by
    funext k
    unfold mB lC;split<;>rfl
   refine g.mapped (f':=mB S.X.f z q) (by rw[e];exact v) i (λk p f=>?_)
   unfold mB at f;split at f
   . cases f;exact x.pz t
   . exact g.fz k p f
 . exact i.mono (λk E e=>by
    have e:k=mb:=e;rw[e];have:=g.cm;show 1<=_/\_<=5;rw[show iO col w w5 6 mb=2 from this]
    decide)
def VLd(w w':World)(e:Ending)(b:Nat)(S:Vs)(pb mb:Nat)(pc col:Nat->Nat)(z:Int)(p:Pv):Prop:=
     (∃er:Nat,er≠0/\e=.returned (.int .i64 ((er:Nat):Int))/\(if ¬0<S.X.P.count z then 15 else if (S.X.f z).isSome=true then 10 else p.pg.check)=er/\Below w.heap.size w w')\/
     (0<S.X.P.count z/\(S.X.f z).isSome=false/\p.pg.check=0/\e=.returned (.int .i64 0)/\∃(q:Pv)(col':Nat->Nat),q.pg=p.pg/\Vw w' b ⟨⟨S.X.P,mB S.X.f z q,S.X.ch⟩,S.al,S.fl⟩ pb mb pc col'/\Vf w col w' col')
theorem Ay(w:World)(b:Nat)(S:Vs)(pb mb:Nat)(pc col:Nat->Nat)(h:Vw w b S pb mb pc col)(z:Int)(p:Pv)(hP:Pi w p):
 Calls prog 66 #[.pointer (some ⟨b,0,none⟩),nlv z p] w λe w'=>VLd w w' e b S pb mb pc col z p:=by
 have H:=iJ (al w (.cells #[.int .i64 z,.int .i64 p.kind,.int .i64 p.level,.slice p.aI p.items.length p.cI,.slice p.aD p.data.length p.cD,.int .i64 p.next] 39));have D:=iJ (aH w (.cells #[.int .i64 z,.int .i64 p.kind,.int .i64 p.level,.slice p.aI p.items.length p.cI,.slice p.aD p.data.length p.cD,.int .i64 p.next] 39));unfold nlv;have HV:=iJ h;have HP:=iJ hP;clear h hP;have B:=iJ (HV.o.keep H.o);have n:=iJ (rt _ b S pb mb pc col B.o z);by_cases s:0<S.X.P.count z
 . rw[ax s] at n;have A:=iJ s;clear s;go_enter func66,ntmps66;go_wp2_with fail
   refine n.o.mono ?_;rintro _ wq ⟨rfl,E⟩;rw[E];clear E n;go_upto_region 3 with fail
   generalize ao:(w.alloc (.cells #[.int .i64 z,.int .i64 p.kind,.int .i64 p.level,.slice p.aI p.items.length p.cI,.slice p.aD p.data.length p.cD,.int .i64 p.next] 39))=d at *;clear ao;have lx:w.heap.size<d.heap.size:=(af.1 D.o).1;generalize w.heap.size=i at D lx ⊢;have f:Hid (∀W:World,Below d.heap.size d W->W.cell? ⟨b,1,none⟩=some (.map (some mb))/\W.cell? ⟨i,0,none⟩=some (.int .i64 z)/\(Instr.lookup 81 (.map (some mb)) (.int .i64 z) true).run prog W=.ok (.tuple #[(S.X.on z).vl,.bool (S.X.f z).isSome]) W):=λW hb=>⟨(B.o.keep hb).c1,(mT (iQ D.o hb)).1,(B.o.keep hb).look2 z⟩
   have j:=iJ (dr2 d);obtain⟨P,V⟩:∃P,(S.X.f z).isSome=P:=⟨_,rfl⟩;simp only[V] at f;have T:=iJ V;clear V;have OV:Hid ((S.X.on z).vl=.agg (S.X.on z).cs):=rfl;simp only[OV.o] at f;refine wrd f j.o λhHeld=>?_
   refine tkd 0 1 2 3 ?_;refine tkd 4 5 6 7 ?_;refine tkb 8 9 ?_;have G:=iJ (bt j.o (al d.drew (.cells #[.int .i64 0,.int .i64 0,.slice none 0 0,.slice none 0 0,.int .i64 0] 31)));have M:=iJ (aH d.drew (.cells #[.int .i64 0,.int .i64 0,.slice none 0 0,.slice none 0 0,.int .i64 0] 31));refine tw 10 λK l=>?_
   go_simp;refine l.o _ _ (f.o _ G.o) (λhHeld=>?_)
   try simp only[pt]
   have ab:(d.drew.alloc (.cells #[.int .i64 0,.int .i64 0,.slice none 0 0,.slice none 0 0,.int .i64 0] 31))=(d.alloc (.cells #[.int .i64 0,.int .i64 0,.slice none 0 0,.slice none 0 0,.int .i64 0] 31)).drew:=rfl;rw[ab] at G M;clear ab;generalize ap:(d.alloc (.cells #[.int .i64 0,.int .i64 0,.slice none 0 0,.slice none 0 0,.int .i64 0] 31)).drew=w2 at *;clear ap;have v:=iJ (zH (S.X.on z).cs G.o (ai _));refine tw 11 λK l=>?_
   rw[if_pos (by rfl)]
   refine g9 31 _ _ rfl d.heap.size _ rfl rfl 31 _ M.o iP rfl (by simp[Pv.cs,Value.oneCell']) ?_
   refine l.o _ _ (f.o _ v.o) (λhHeld=>?_)
   refine tk 12 ?_;refine td ?_;clear hHeld j;have N:=iJ (iQ D.o v.o);have V2:=iJ (B.o.keep v.o);have x:=iJ (bt H.o v.o);generalize aq:w2.setRow d.heap.size (S.X.on z).cs=w3 at *;have P2:=iJ (HP.o.keep x.o);clear aq v f B D M G;cases P with
   |true=>
    go_wp2_with fail
    go_ret;exact .inl ⟨10,by decide,rfl,by rw[if_neg (λe=>e A.o),if_pos T.o],x.o⟩
   |false=>
    obtain⟨y0,y1,y2,y3,y4,y5⟩:=mT N.o;have m:=iJ (pS w3 p P2.o);have PV:Hid (p.vl=.agg #[.int .i64 p.kind,.int .i64 p.level,.slice p.aI p.items.length p.cI,.slice p.aD p.data.length p.cD,.int .i64 p.next]):=rfl;rw[PV.o] at m;obtain⟨R,Y⟩:∃c,p.pg.check=c:=⟨_,rfl⟩;have U:=iJ Y;rw[Y] at m;clear Y;by_cases X:R=0
    . subst X;go_wp2_with fail
      refine m.o.mono ?_;rintro _ t ⟨rfl,k⟩;have O:=iJ (iQ N.o k);have L:=iJ (V2.o.keep k);have I:=iJ (bt x.o k);have P4:=iJ (P2.o.keep k);clear k m N V2 y0 y1 y2 y3 y4 y5 x P2;have j:=iJ (dr2 t);have f:Hid (∀W:World,Below t.heap.size t W->W.cell? ⟨b,1,none⟩=some (.map (some mb))/\W.cell? ⟨i,0,none⟩=some (.int .i64 z)/\W.cell? ⟨i,1,none⟩=some (.int .i64 p.kind)/\W.cell? ⟨i,2,none⟩=some (.int .i64 p.level)/\W.cell? ⟨i,3,none⟩=some (.slice p.aI p.items.length p.cI)/\W.cell? ⟨i,4,none⟩=some (.slice p.aD p.data.length p.cD)/\W.cell? ⟨i,5,none⟩=some (.int .i64 p.next)):=λW hb=>⟨(L.o.keep hb).c1,mT (iQ O.o hb)⟩
      obtain⟨sm,si⟩:=jU (p:=p) (.inl U.o);have J:=iJ (kH t.drew p (P4.o.keep j.o) sm.1 sm.2);rw[PV.o] at J;have SI:=iJ si;clear sm si;go_upto_region 9 with fail
      refine wrd f j.o λhHeld=>?_
      refine tkd 0 1 2 3 ?_;refine tkd 4 5 6 7 ?_;refine tw 8 λK l=>?_
      go_simp;refine J.o.mono ?_;rintro _ w5 ⟨q,rfl,ae,aj,ag⟩;have N5:=iJ (ae.pre (v':=t) (ai _));have g:=iJ aj;have y:=iJ (bt j.o ag);clear ae aj ag;go_wp2_with fail
      refine l.o _ _ (f.o _ y.o) (λhHeld=>?_)
      try simp only[pt]
      have LQ:Hid (q.items.length<=2199023255489):=by
       have e:=a7 (λam:Pg=>am.items.length) g.o
       simp only[Pv.pg,aZ] at e;show _<=_;rw[e];exact aO SI.o (by decide)
      obtain⟨w6,ak,⟨ar,Z,ah⟩,ad,an⟩:=L.o.laid z q y.o N5.o LQ.o;have V6:=iJ Z;have F6:=iJ ((Vf.keep I.o).trans ah)
      have S6:Hid (w6.cell? ⟨b,1,none⟩=some (.map (some mb))/\w6.heap[i]?=some (.cells #[.int .i64 z,.int .i64 p.kind,.int .i64 p.level,.slice p.aI p.items.length p.cI,.slice p.aD p.data.length p.cD,.int .i64 p.next] 39 (0,0))):=⟨Z.c1,ad.same (iQ O.o y.o) (λe=>by
       have e:i=mb:=e;obtain⟨ac,cc,aa,ca,hq⟩:=L.o.keep y.o;obtain⟨es,cl,hm,_⟩:=hq.mp;have:=iQ O.o y.o;rw[e] at this;rw[show(w5.heap[mb]?=some (.map es cl)) from hm] at this
       cases this)⟩
      have VL:Hid (q.vl=.agg q.cs):=rfl;rw[VL.o] at ak;try rw[VL.o]
      clear Z ah ad an;refine tw 9 λK l=>?_
      go_simp;refine l.o _ _ ⟨S6.o.1,mT S6.o.2⟩ (λhHeld=>?_)
      refine td ?_;clear hHeld j f J ak;go_wp2_with fail
      go_ret;exact .inr ⟨A.o,T.o,U.o,rfl,q,ar,g.o,V6.o,F6.o⟩
    . have c0:((R:Int) != 0)=true:=by simpa using X
      go_wp2_with fail
      refine m.o.mono ?_;rintro _ t ⟨rfl,k⟩;have I:=iJ (bt x.o k);clear k m y0 y1 y2 y3 y4 y5;go_wp2_with fail
      go_ret;exact .inl ⟨R,X,rfl,by rw[if_neg (λe=>e A.o),if_neg (by rw[T.o];decide)];exact U.o,I.o⟩
 . rw[au s] at n;have A:=iJ s;clear s;go_enter func66,ntmps66;go_wp2_with fail
   refine n.o.mono ?_;rintro _ wq ⟨rfl,E⟩;rw[E];clear E n;go_wp2_with fail
   go_ret;exact .inl ⟨15,by decide,rfl,by rw[if_pos (show ¬0<S.X.P.count z from by have:=A.o;omega)],H.o⟩
end Go.Proofs.YtbdkogimlbnlmaaGreat
namespace Go.Proofs.YtbdkogimlbnlmaaGreat
open Tryz
open Go.RowKit
open Go.MapKept
theorem qU:∀(l m:List Int),l.Nodup->(∀x∈l,x∈m)->l.length<=m.length
 | [],m,_,_=>az _
 |a::t,m,hn,hs=>by
  have hn':=List.nodup_cons.1 hn;have b:=hs a da;have f:=qU t (m.erase a) hn'.2 (λx d=>(List.mem_erase_of_ne (λe=>hn'.1 (by rw[<-e];exact d))).2 (hs x (dJ _ d)))
  rw[List.length_erase_of_mem b] at f;have:0<m.length:=List.length_pos_of_mem b;simp only[bf];omega
def oU(e:MapEntry):Int:=match e.key with
 | .int _ k=>k
 |_=>0
theorem Mo.count{b:Array MapEntry}{E:Nat}{f:Int->Option Value}(h:Mo b E f)(g:List Int)(A:g.Nodup)(m:∀k,(f k).isSome=true↔k∈g):b.size=g.length:=by
 have p:∀e∈b.toList,e.key=.int .i64 (oU e)/\(f (oU e)).isSome=true:=λe d=>by
  obtain⟨k,i,s⟩:=h.key e d;have:oU e=k:=by unfold oU;rw[i]
  rw[this];exact⟨i,by rw[s];rfl⟩
 obtain⟨_,_,y⟩:=h.st
 have i:b.toList.map (·.key)=(b.toList.map oU).map (λk=>Value.int .i64 k):=by
  rw[List.map_map];exact List.map_congr_left (λe d=>(p e d).1)
 have B:(b.toList.map oU).Nodup:=by
  have l:(b.toList.map (·.key)).Nodup:=y
  rw[i] at l;exact List.Pairwise.imp (λD e=>D (by rw[e])) (fO.1 l)
 have q:=qU (b.toList.map oU) g B (λx j=>by
  obtain⟨e,d,rfl⟩:=bH.1 j;exact(m _).1 (p e d).2)
 have r:=qU g (b.toList.map oU) A (λx j=>by
  have n:=(m x).2 j;cases e:f x with
  |none=>rw[e] at n;cases n
  |some v=>
   obtain⟨t,d,C⟩:=h.has x v e;refine bH.2 ⟨t,d,?_⟩;unfold oU;rw[C])
 rw[aZ] at q r;have:b.toList.length=b.size:=Array.length_toList;omega
theorem rN{α:Type}(p q:α->Bool):∀l:List α,(∀x∈l,p x=true->q x=true)->l.countP q=l.countP p+l.countP (λx=>q x&& !p x)
 | [],_=>rfl
 |x::t,h=>by
  have ih:=rN p q t (λy d=>h y (dJ _ d))
  have b:=h x da;simp only[List.countP_cons,ih];cases hp:p x<;>cases hq:q x
  . simp
  . simp;omega
  . rw[hp,hq] at b;exact absurd (b rfl) (by decide)
  . simp;omega
def kF(n:Nat)(f:Int->Option Pv):List Int:=((List.range n).filter λi:Nat=>(f ((i:Int)+1)).isSome).map λi=>((i:Nat):Int)+1
theorem vU(n:Nat)(f:Int->Option Pv):(kF n f).Nodup:=by
 unfold kF;refine fO.2 ?_;refine List.Pairwise.imp (R:=λa b:Nat=>a≠b) ?_ (List.Pairwise.filter _ List.nodup_range)
 intro a b d e;have g:((a:Nat):Int)+1=((b:Nat):Int)+1:=e;exact d (by omega)
theorem zg{n:Nat}{f:Int->Option Pv}(b:∀k,(f k).isSome=true->1<=k/\k<=n)(k:Int):(f k).isSome=true↔k∈kF n f:=by
 unfold kF;constructor
 . intro h;obtain⟨g,j⟩:=b k h;refine bH.2 ⟨(k-1).toNat,fb.2 ⟨cw.2 (by omega),?_⟩,by omega⟩
   rw[show(((k-1).toNat:Nat):Int)+1=k by omega]
   exact h
 . intro h;obtain⟨i,d,e⟩:=bH.1 h;rw[<-e];exact(fb.1 d).2
theorem BU(r:Int)(C:List Int):((Q.Po.start r C).pages 4).length=(List.range C.length).countP (λi=>decide (0<C.getD i 0))\/∃c∈C,c<0:=by
 by_cases f:∃c∈C,c<0
 . exact .inr f
 . refine .inl ?_
   have l:∀c∈C,0<=c:=λc j=>by
    by_cases h:c<0
    . exact absurd ⟨c,j,h⟩ f
    . omega
   show(if (1:Int)<=4/\(4:Int)<=4 then _ else _:List Int).length=_
   rw[if_pos (by omega)]
   show(Q.iZ _ 4).length=_;unfold Q.iZ;rw[aZ,<-List.countP_eq_length_filter];show List.countP _ (List.range ((Q.Po.start r C).pg.length))=_;have k:(Q.Po.start r C).pg.length=C.length:=by unfold Q.Po.start;exact aZ _
   rw[k];refine List.countP_congr (λi b=>?_)
   have b:=cw.1 b;have e:(Q.Po.start r C).pg.getD i Q.Pg.zero=(C.getD i 0,decide (0<C.getD i 0)):=by unfold Q.Po.start;simp[b]
   rw[e];have:=l (C.getD i 0) (by simp[b])
   unfold Q.stt;by_cases d:C.getD i 0=0
   . rw[if_pos (show(C.getD i 0,decide (0<C.getD i 0)).1=0 from d),d]
     simp
   . rw[if_neg (show ¬(C.getD i 0,decide (0<C.getD i 0)).1=0 from d)]
     have g:0<C.getD i 0:=by omega
     simp only[ax g];simp
theorem Af{r:Int}{C:List Int}{f:Int->Option Pv}{g:Int->Option Pg}(hb:jL r C=false)(p:∀k,(f k).isSome=true->0<iU C k)(j:∀k,(g k).isSome=(f k).isSome):decide ((kF C.length f).length<((Q.Po.start r C).pages 4).length)=lk C g:=by
 have q:¬ ∃c∈C,c<0:=by
  rintro⟨c,hc,h0⟩;unfold jL at hb;rw[gz] at hb;exact hb c hc (by simp[h0])
 have l:=(BU r C).resolve_right q
 have m:(kF C.length f).length=(List.range C.length).countP (λi:Nat=>(f ((i:Int)+1)).isSome):=by
  unfold kF;rw[aZ,List.countP_eq_length_filter]
 have n:=rN (λi:Nat=>(f ((i:Int)+1)).isSome) (λi:Nat=>decide (0<C.getD i 0)) (List.range C.length) (λi b h=>by
  have b:=cw.1 b;have:=p _ h;unfold iU at this;rw[if_pos (by omega),show((i:Int)+1-1).toNat=i by omega] at this
  exact ax this)
 rw[l,m,n];unfold lk;cases hl:(List.range C.length).any (λi=>decide (0<C.getD i 0)&&(g ((i:Int)+1)).isNone) with
 |true=>
  obtain⟨i,b,h⟩:=fT.1 hl;refine ax ?_
  have:0<(List.range C.length).countP (λi:Nat=>decide (0<C.getD i 0)&& !(f ((i:Int)+1)).isSome):=List.countP_pos_iff.2 ⟨i,b,by
   rw[bO] at h ⊢;refine⟨h.1,?_⟩;rw[<-j];cases e:g ((i:Int)+1) with
   |none=>rfl
   |some v=>rw[e] at h;exact absurd h.2 (by simp)⟩
  omega
 |false=>
  refine au ?_
  have:(List.range C.length).countP (λi:Nat=>decide (0<C.getD i 0)&& !(f ((i:Int)+1)).isSome)=0:=List.countP_eq_zero.2 (λi b h=>by
   have:=gz.1 hl i b;apply this;rw[bO] at h ⊢;refine⟨h.1,?_⟩;have d:=h.2;rw[<-j] at d;cases e:g ((i:Int)+1) with
   |none=>rfl
   |some v=>rw[e] at d;exact absurd d (by simp))
  omega
end Go.Proofs.YtbdkogimlbnlmaaGreat
namespace Go.Proofs.YtbdkogimlbnlmaaGreat
open Tryz
open Go.RowKit
variable {r:Int}{C:List Int}{mb pb:Nat}{col pc:Nat->Nat}{D:Rd}{w wx wy:World}
theorem kr(r:Int)(C:List Int)(z:Int):(Q.Po.start r C).count z=iU C z:=by
 have e:(Q.Po.start r C).pg.length=C.length:=by unfold Q.Po.start;exact aZ _
 unfold Q.Po.count Q.Po.has iU;rw[e];by_cases b:1<=z/\z<=C.length
 . rw[if_pos b,if_pos (by simp[b])]
   obtain⟨i,d⟩:∃i:Nat,(z-1).toNat=i:=⟨_,rfl⟩;rw[d];have f:i<C.length:=by omega
   unfold Q.Po.start;simp[f]
 . rw[if_neg b,if_neg (by simpa using b)]
def ldS(r:Int)(C:List Int)(f:Int->Option Pv):Vs:=⟨⟨Q.Po.start r C,f,[]⟩,[],0⟩
def E8(w w':World)(e:Ending)(r:Int)(C:List Int)(NL:List (Int×Pv)):Prop:=
 (∃er:Nat,er≠0/\(jm r C (nmg NL)).1=er/\e=.returned (.tuple #[.pointer none,.int .i64 ((er:Nat):Int)])/\Below w.heap.size w w')\/
 ((jm r C (nmg NL)).1=0/\∃(b:Nat)(f:Int->Option Pv),e=.returned (.tuple #[.pointer (some ⟨b,0,none⟩),.int .i64 0])/\za w w' b (ldS r C f)/\(∀k,(f k).map Pv.pg=(jm r C (nmg NL)).2 k)/\(∀k q,f k=some q->q.pg.check=0)/\∀k,(f k).isSome=true->0<iU C k)
structure Lv(w wx:World)(b pb mb:Nat)(r:Int)(C:List Int)(f:Int->Option Pv)(g:Int->Option Pg)(pc col:Nat->Nat):Prop where
 v:Vw wx b (ldS r C f) pb mb pc col
 b:Below w.heap.size w wx
 c:∀k,col k≠0->w.heap.size<=k
 g:∀k,(f k).map Pv.pg=g k
 s:∀k q,f k=some q->q.pg.check=0
 p:∀k,(f k).isSome=true->0<iU C k
theorem Lv.keep{b:Nat}{f:Int->Option Pv}{g:Int->Option Pg}(h:Lv w wx b pb mb r C f g pc col)(hb:Below wx.heap.size wx wy):Lv w wy b pb mb r C f g pc col:=⟨h.v.keep hb,bt h.b hb,h.c,h.g,h.s,h.p⟩
theorem Lv.sm{b:Nat}{f:Int->Option Pv}{g:Int->Option Pg}(h:Lv w wx b pb mb r C f g pc col)(k:Int):(g k).isSome=(f k).isSome:=by
 rw[<-h.g k];cases f k<;>rfl
theorem Lv.laid{b:Nat}{f:Int->Option Pv}{g:Int->Option Pg}{col':Nat->Nat}(h:Lv w wx b pb mb r C f g pc col){z:Int}{q:Pv}{p:Pg}(l:q.pg=p)(s:0<iU C z)(m:p.check=0)(n:Vw wy b (ldS r C (mB f z q)) pb mb pc col')(i:Vf wx col wy col'):Lv w wy b pb mb r C (mB f z q) (λk=>if k=z then some p else g k) pc col':=by
 have sz:=h.b.size;refine⟨n,?_,λk j=>?_,λk=>?_,λk t e=>?_,λk e=>?_⟩
 . exact((But.ofBelow (S:=λk=>1<=col k/\col k<=5) h.b).trans i.b (λ_ _ e=>e)).below (λk j e=>by have:=h.c k (by omega);omega)
 . by_cases v:k<wx.heap.size
   . exact h.c k (by rw[<-i.c k v];exact j)
   . omega
 . unfold mB;by_cases e:k=z
   . rw[if_pos e,if_pos e,<-l];rfl
   . rw[if_neg e,if_neg e];exact h.g k
 . unfold mB at e;by_cases d:k=z
   . rw[if_pos d] at e;cases e;rw[l];exact m
   . rw[if_neg d] at e;exact h.s k t e
 . unfold mB at e;by_cases d:k=z
   . rw[d];exact s
   . rw[if_neg d] at e;exact h.p k e
theorem Vw.mlen{b:Nat}{f:Int->Option Pv}(h:Vw w b (ldS r C f) pb mb pc col)(p:∀k,(f k).isSome=true->0<iU C k)(d:TypeId):(Builtin.len_ #[81] d #[.map (some mb)]).run prog w=.ok (.int .i64 (((kF C.length f).length:Nat):Int)) w:=by
 obtain⟨v,y,t,x,q⟩:=h;obtain⟨i,g,l,m⟩:=q.mp
 have e:=m.count (kF C.length f) (vU _ _) (λk=>by
  have s:=zg (n:=C.length) (f:=f) (λk j=>by
   have:=p k j;unfold iU at this;split at this
   . assumption
   . omega) k
  rw[<-s];show((f k).map Pv.vl).isSome=true↔_;cases f k<;>simp)
 have k:=run_len_map w 81 d mb i g (P:=prog) (by kernel_rfl) l
 rw[k,e];rfl
theorem AK(w:World)(r:Int)(a:Option Addr)(n cap:Nat)(C:List Int)(hC:Q.Ir w a C)(I:n=C.length)(aN:Option Addr)(m aH:Nat)(d:List (Int×Pv))(hN:Nm w aN d)(hm:m=d.length)(aM:m<=1000000):
 Calls prog 15 #[.int .i64 r,.slice a n cap,.slice aN m aH] w λe w'=>E8 w w' e r C d:=by
 by_cases L:Q.js n r=false
 . have NN:=iJ (Q.Fv w r a n cap L);have t:Hid ((jm r C (nmg d)).1=1):=me (by rw[<-I];exact L)
   clear hC I hN hm L;go_enter func15,ntmps15;go_wp2_with fail
   refine NN.o.mono ?_;rintro _ wq ⟨rfl,aA⟩;rw[aA];clear aA;go_wp2_with fail
   go_ret2
   exact .inl ⟨1,by decide,t.o,rfl,Below.refl _ _⟩
 have ah:Q.js n r=true:=by simpa using L
 have H:Hid (Q.js C.length r=true):=by show _=_;rw[<-I];exact ah
 have LA:=iJ (Q.DW w r a n cap C hC I ah);have HN:=iJ I;have ak:=iJ hN;have HM:=iJ hm;have aF:= @run_makeMap prog;clear L ah hC I hN hm;go_enter func15,ntmps15;go_wp2_with fail
 refine LA.o.mono ?_;rintro _ w1 (⟨O,rfl,ay⟩|⟨O,pb,rfl,hM⟩)
 . have t:Hid ((jm r C (nmg d)).1=13):=lY H.o O;rw[ay];clear ay O;go_wp2_with fail
   go_ret2
   exact .inl ⟨13,by decide,t.o,rfl,Below.refl _ _⟩
 have E:Hid (jL r C=false):=O;have VM:=iJ (r8 hM);clear hM O LA;go_wp2_with fail
 generalize aG:((w1.alloc (.map #[] 0)).alloc (.cells #[.pointer (some ⟨pb,0,none⟩),.map (some w1.heap.size),.slice none 0 0,.slice none 0 0,.int .i64 0] 85))=w2 at *;clear aG;generalize w1.heap.size+1=b at *;obtain⟨B,mb,pc,col,hV,ao,ap⟩:=VM.o;have L0:Hid (Lv w w2 b B mb r C (λ_=>none) (λ_=>none) pc col):=⟨hV,ao,ap,λ_=>rfl,λk aB e=>(by cases e),λk e=>(by cases e)⟩
 clear hV ao ap VM aF;go_loopw [29] (λvj wx=>∃(j:Nat)(f:Int->Option Pv)(g:Int->Option Pg)(pc col:Nat->Nat),j<=m/\vj=.int .i64 (j:Int)/\Lv w wx b B mb r C f g pc col/\ldG (iU C) g (nmg (d.drop j))=ldG (iU C) (λ_=>none) (nmg d)) (λvj _=>m-(intOf vj).toNat)
 case atStart=>exact⟨0,_,_,pc,col,az _,rfl,L0.o,by rw[fa]⟩
 case round=>
  clear L0;obtain⟨j,f,g,pc,col,hj,rfl,hL,h⟩:=hrel;have i:=iJ hL;have R:=iJ h;clear hL h;by_cases aE:j<m
  . have aL:(j:Int)<(m:Int):=by omega
    have aj:j<d.length:=by rw[<-HM.o];exact aE
    obtain⟨g1,off,rfl,ag⟩:=ak.o.c j aj;have af:=iJ λ(W:World)(hb:Below w.heap.size w W)(k:Nat)(ad:Value)(hu:(nmc (d.getD j nm0))[k]?=some ad)=>(hb.cell (p:=⟨g1,off+j*6+k,none⟩) (block_lt_of_cell (ag k ad hu))).trans (ag k ad hu)
    have A:=af.o wr i.o.b;clear ag;have MX:Hid (d.getD j nm0∈d):=by show _∈_;simp[aj]
    have ED:=iJ (vJ aj);have PX:=iJ λ(W:World)(hb:Below w.heap.size w W)=>(ak.o.keep hb).p _ MX.o
    obtain⟨ae,hx⟩:∃ae,d.getD j nm0=ae:=⟨_,rfl⟩;simp only[hx] at A ED PX af;clear hx MX af;obtain⟨z,p⟩:=ae;have K:=A 0 _ rfl;have n1:=A 1 _ rfl;have n2:=A 2 _ rfl;have n3:=A 3 _ rfl;have n4:=A 4 _ rfl;have n5:=A 5 _ rfl;rw[bY] at K;have aK:g1<wr.heap.size:=block_lt_of_cell K;clear A;have A0:=iJ (al wr (.cells #[.int .i64 z,.int .i64 p.kind,.int .i64 p.level,.slice p.aI p.items.length p.cI,.slice p.aD p.data.length p.cD,.int .i64 p.next] 39));have T:=iJ (i.o.keep A0.o);have Y:=iJ (Ay _ b (ldS r C f) B mb pc col T.o.v z p (PX.o _ T.o.b).1);unfold nlv at Y;have h:=R.o;rw[ED.o,rG] at h
    have G:Hid ((iU C z<=0->(jm r C (nmg d)).1=15)/\(0<iU C z->(g z).isSome=true->(jm r C (nmg d)).1=10)/\(0<iU C z->(g z).isSome=false->p.pg.check≠0->(jm r C (nmg d)).1=p.pg.check)/\(0<iU C z->(g z).isSome=false->p.pg.check=0->ldG (iU C) (λk=>if k=z then some p.pg else g k) (nmg (d.drop (j+1)))=ldG (iU C) (λ_=>none) (nmg d))):=by
     refine⟨λk=>?_,λv y=>?_,λv y u=>?_,λv y u=>?_⟩
     . rw[if_pos (show ¬0<iU C z by omega)] at h
       rw[kE H.o E.o (by rw[<-h];simp),<-h]
     . rw[if_neg (λe=>e v),if_pos y] at h
       rw[kE H.o E.o (by rw[<-h];simp),<-h]
     . rw[if_neg (λe=>e v),if_neg (by rw[y];decide),if_pos u] at h
       rw[kE H.o E.o (by rw[<-h];exact u),<-h]
     . rw[if_neg (λe=>e v),if_neg (by rw[y];decide),if_neg (λe=>e u)] at h
       exact h
    clear h R ED;go_wp2_with fail
    refine Y.o.mono ?_;rintro _ w4 (⟨er,ab,rfl,s,am⟩|⟨Z,h2,h3,rfl,aB,aI,q,aw,aq⟩)
    . have L4:=iJ (bt T.o.b am)
      have t:Hid ((jm r C (nmg d)).1=er):=by
       have hs:=i.o.sm z;have x:(ldS r C f).X.P.count z=iU C z:=kr r C z;rw[x] at s;have aD:((ldS r C f).X.f z).isSome=(f z).isSome:=rfl;rw[aD,<-hs] at s;show _=_;by_cases v:0<iU C z
       . rw[if_neg (λe=>e v)] at s
         by_cases y:(g z).isSome=true
         . rw[if_pos y] at s;rw[<-s];exact G.o.2.1 v y
         . rw[if_neg y] at s;rw[<-s];exact G.o.2.2.1 v (by simpa using y) (by rw[s];exact ab)
       . rw[if_pos v] at s;rw[<-s];exact G.o.1 (by omega)
      have aC:=iJ ab;have e9:((er:Int) != 0)=true:=by simpa using ab
      clear ab s am Y K n1 n2 n3 n4 n5 G;go_wp2_with fail
      go_ret2
      exact .inl ⟨er,aC.o,t.o,rfl,L4.o⟩
    . have x:(ldS r C f).X.P.count z=iU C z:=kr r C z;rw[x] at Z;have L4:=iJ (T.o.laid q Z h3 aw aq);have E3:Hid (ldG (iU C) (λk=>if k=z then some p.pg else g k) (nmg (d.drop (j+1)))=ldG (iU C) (λ_=>none) (nmg d)):=G.o.2.2.2 Z (by rw[i.o.sm z];exact h2) h3
      clear Z h2 h3 q aw aq x Y K n1 n2 n3 n4 n5 G;go_wp2_with fail
      go_roundw
      case rel=>exact⟨j+1,_,_,pc,aI,by omega,by go_num,L4.o,E3.o⟩
      case measure=>simp[intOf];omega
  . obtain rfl:j=m:=by omega
    have J:Hid (ldG (iU C) (λ_=>none) (nmg d)=(0,g)):=by
     show _=_;rw[<-R.o,du (by rw[<-HM.o];exact ai _)]
     rfl
    clear R;have S:=iJ (Af (r:=r) (f:=f) (g:=g) E.o i.o.p i.o.sm);have P:=iJ (dr2 wr)
    have TA:=iJ (show ∀W:World,Below wr.heap.size wr W->Calls prog 49 #[.pointer (some ⟨B,0,none⟩),.int .i64 4] W λe w'=>e=.returned (.int .i64 ((((Q.Po.start r C).pages 4).length:Nat):Int))/\Below W.heap.size W w' from λW hb=>by
     obtain⟨ac,cc,aa,ca,q⟩:=i.o.v.keep hb;exact Q.tJ W B _ _ q.pool 4)
    have V:Hid (∀W:World,Below wr.heap.size wr W->W.cell? ⟨b,0,none⟩=some (.pointer (some ⟨B,0,none⟩))/\W.cell? ⟨b,1,none⟩=some (.map (some mb))/\∀ty,(Builtin.len_ #[81] ty #[.map (some mb)]).run prog W=.ok (.int .i64 (((kF C.length f).length:Nat):Int)) W):=λW hb=>⟨(i.o.v.keep hb).c0,(i.o.v.keep hb).c1,λty=>(i.o.v.keep hb).mlen i.o.p ty⟩
    obtain⟨N,av⟩:∃N,((Q.Po.start r C).pages 4).length=N:=⟨_,rfl⟩;obtain⟨M,ar⟩:∃M,(kF C.length f).length=M:=⟨_,rfl⟩;simp only[av] at TA S;simp only[ar] at V S;clear av ar;go_upto_region 12 with fail
    refine wrd V P.o λhHeld=>?_
    refine tkd 0 1 2 3 ?_;refine tkd 4 5 6 7 ?_;refine tk 8 ?_;refine tw 9 λaJ hK=>?_
    go_simp;refine(TA.o _ P.o).mono ?_;rintro _ w5 ⟨rfl,an⟩;have B5:=iJ (bt P.o an);clear an;go_wp2_with fail
    refine hK.o _ _ (V.o _ B5.o) (λhHeld=>?_)
    refine tk 10 ?_;refine td ?_;have U:=iJ (i.o.keep B5.o);clear hHeld V TA P;by_cases hl:M<N
    . have dl:decide ((M:Int)<(N:Int))=true:=ax (by omega)
      have t:Hid ((jm r C (nmg d)).1=9):=by
       refine mZ H.o E.o (by rw[J.o]) ?_
       rw[J.o];have:=S.o;rw[ax hl] at this;exact this.symm
      go_wp2_with fail
      go_ret2
      exact .inl ⟨9,by decide,t.o,rfl,U.o.b⟩
    . have dl:decide ((M:Int)<(N:Int))=false:=au (by omega)
      have t:Hid (jm r C (nmg d)=(0,g)):=by
       have:=S.o;rw[au hl] at this;have k:=ro (l:=nmg d) H.o E.o (by rw[J.o]) (by rw[J.o];exact this.symm)
       rw[J.o] at k;exact k
      go_wp2_with fail
      go_ret2
      exact .inr ⟨by rw[t.o],b,f,rfl,⟨B,mb,pc,col,U.o.v,U.o.b,U.o.c⟩,by rw[t.o];exact i.o.g,i.o.s,i.o.p⟩
def Pgs(w:World)(a:Option Addr)(P:List Pv):Prop:=∀i,i<P.length->∃g off,a=some ⟨g,off,none⟩/\∀k u,k<5->(P.getD i Pv.zero).cs.toList[k]?=some u->w.cell? ⟨g,off+i*5+k,none⟩=some u
theorem zk(n:Nat)(i:n<=65536)(w:World):(Instr.makeSlice 53 (.int .i64 0) (.int .i64 (n:Int))).run prog w=.ok (.slice (some ⟨w.heap.size,0,none⟩) 0 n) (w.alloc (.cells (madeCells Pv.zero.cs (n*5)) 31)):=by
 obtain⟨e,d,f,g,h⟩:=dr lW;have b:=run_make (P:=prog) w 53 31 e (.agg Pv.zero.cs) underlying53 d f .i64 .i64 (0:Nat) n (by omega) (by omega) (by rw[h];omega) (by omega)
 simp only[di,g] at b;exact b
theorem BP(w:World)(n:Nat)(b:n<=65536):Q.Gw 31 5 (w.alloc (.cells (madeCells Pv.zero.cs (n*5)) 31)) (some ⟨w.heap.size,0,none⟩) n 0 (vpg []):=
 Q.Gw.mk rfl (aH _ _) (az _) (by unfold maxLen;omega) (gG _ _) (by simp[vpg])
theorem jS(w:World)(a:Option Addr)(n cap:Nat)(L:List Pv)(X:Pgs w a L)(H:n=L.length)(G:L.length<=65536):
 Calls prog 102 #[.slice a n cap] w λe Z=>∃b d,e=.returned (.slice b n d)/\Q.Gw 31 5 Z b d n (vpg L)/\New w none b/\Below w.heap.size w Z:=by
 have HP:=iJ X;have R:=iJ H;rw[<-H] at G;have ab:=zk n G w;have N:=iJ (BP w n G);have M:=iJ (al w (.cells (madeCells Pv.zero.cs (n*5)) 31));clear X H;generalize (w.alloc (.cells (madeCells Pv.zero.cs (n*5)) 31))=w1 at *;go_enter func102,ntmps102;go_wp2_with fail
 clear ab;go_loopw [3,4] (λvo vi wx=>∃(i:Nat)(b:Option Addr)(d:Nat),i<=n/\vo=.slice b i d/\vi=.int .i64 (i:Int)/\Q.Gw 31 5 wx b d i (vpg (L.take i))/\New w none b/\Below w.heap.size w wx) (λ_ vi _=>n-(intOf vi).toNat)
 case atStart=>exact⟨0,some ⟨w.heap.size,0,none⟩,n,az _,rfl,rfl,N.o,λx I=>.inr (by cases I;exact ai _),M.o⟩
 case round=>
  clear N M;obtain⟨i,b,d,hi,rfl,rfl,m,s,hb⟩:=hrel;have P:=iJ m;have y:=iJ s;have t:=iJ hb;clear m s hb;by_cases aa:i<n
  . have ad:(i:Int)<(n:Int):=by omega
    have K:i<L.length:=by rw[<-R.o];exact aa
    obtain⟨g,off,rfl,B⟩:=HP.o i K;have f:∀k u,k<5->(L.getD i Pv.zero).cs.toList[k]?=some u->wr.cell? ⟨g,off+i*5+k,none⟩=some u:=λk u E h=>(t.o.cell (p:=⟨g,off+i*5+k,none⟩) (block_lt_of_cell (B k u E h))).trans (B k u E h)
    have U:Hid (vpg (L.take i)++(L.getD i Pv.zero).cs.toList=vpg (L.take (i+1))):=by
     show _=_;rw[vO,dS K];simp[K]
    obtain⟨q,Y⟩:∃q,L.getD i Pv.zero=q:=⟨_,rfl⟩;simp only[Y] at f U;clear Y B;have J:=f 0 _ (by decide) rfl
    have y1:=f 1 _ (by decide) rfl
    have y2:=f 2 _ (by decide) rfl
    have y3:=f 3 _ (by decide) rfl
    have y4:=f 4 _ (by decide) rfl
    rw[bY] at J;have gl:g<wr.heap.size:=block_lt_of_cell J;have l:=iJ (al wr (.cells q.cs 31));have V:=iJ (aH wr (.cells q.cs 31));have v:=iJ (P.o.keep l.o);have ac:i+1<=maxLen:=by unfold maxLen;omega
    have A:Hid (∀j u,q.cs.toList[j]?=some u->(wr.alloc (.cells q.cs 31)).cell? ((⟨wr.heap.size,0,none⟩:Addr).add j)=some u):=λj u h=>by
     rw[Addr.add_mid,bN,ay _ _ _ _ _ _ V.o,<-h];simp
    have T:Hid (∀u∈q.cs.toList,u.oneCell'=true):=by
     intro u h;simp[Pv.cs] at h;rcases h with rfl|rfl|rfl|rfl|rfl<;>rfl
    clear f V;simp only[Pv.cs] at l v A;go_wp2_with (at_builtin;refine jM underlying53 lW rfl (by decide) rfl _ _ rfl b i d (vpg (L.take i)) rfl v.o ⟨wr.heap.size,0,none⟩ 1 q.cs.toList rfl rfl A.o T.o ac (by omega) ?_)
    intro g2 c2 w5 m s W;have B5:Hid (Below w.heap.size w w5):=((But.ofBelow (S:=Q.InA b) (bt t.o l.o)).trans W (λ_ _ e=>e)).below (λk E ⟨x,I,e⟩=>by have:=i8 y.o I;omega)
    have N5:=iJ (oK y.o s (bt t.o l.o).size);have O:=iJ m;clear m s W v l A T J y1 y2 y3 y4 gl;rw[U.o] at O;go_wp2_with fail
    go_roundw
    case rel=>exact⟨i+1,some ⟨g2,0,none⟩,c2,by omega,rfl,by go_num,O.o,N5.o,B5.o⟩
    case measure=>simp[intOf];omega
  . obtain rfl:i=n:=by omega
    have GE:Hid (Q.Gw 31 5 wr b d i (vpg L)):=by
     have k:=P.o;rw[db (by rw[<-R.o];exact ai _)] at k
     exact k
    go_wp2_with fail
    go_ret;exact⟨b,d,rfl,GE.o,y.o,t.o⟩
theorem kP{l e:TypeId}{sz bs:Nat}{z:Value}(J:prog.underlying l=some (.slice e))(U:(prog.info? e).map (λi=>(i.zero,i.size,i.bytes))=some (some z,sz,bs))(N:z.cells.size=sz)(q:0<sz){w:World}{m:Array Oper}{o:Oper}{a:Act}{K:Act->World->Prop}{p:Exit->Act->World->Prop}{E:Prop}(S:o.guard=none)(s x:Operand)
 (G:o.op=.call {callee:=.builtin .append,args:=#[s,x],argTypes:=#[l,l]}) (b:Option Addr) (n cap:Nat) (C:List Value) (I:a.eval s=.slice b n cap) (v:Q.Gw e sz w b cap n C)
 (k:Addr) (c:Nat) (xs:List Value) (M:a.eval x=.slice (some k) 1 c) (A:xs.length=1*sz) (y:∀j u,xs[j]?=some u->w.cell? (k.add j)=some u) (t:∀u∈xs,u.oneCell'=true) (B:n+1<=maxLen) (T:(n+1)*bs<=140737488355328)
 (h:∀g f d,Q.Gw e sz d (some ⟨g,0,none⟩) f (n+1) (C++xs)->New w b (some ⟨g,0,none⟩)->But (Q.InA b) w d->K (a.put o.dst (.slice (some ⟨g,0,none⟩) (n+1) f)) d):
 if Region.wanted o (yielded m a.tmps)=true then Oper.wp prog o a w K p else E:=by
 have L:Region.wanted o (yielded m a.tmps)=true:=by simp[Region.wanted,S]
 rw[if_pos L];obtain⟨g,f,d,H,O,P,R⟩:=qv J U N q w o.type b n cap C v k c xs A y t B T;unfold Oper.wp execOp;simp only[G,resolve,invoke,builtin,dE,dF,bT,cR,bL,dM,I,M,H];exact h g f d O P R
def rdV(S:Vs)(z:Int):Option Pg:=if 0<S.X.P.count z then some (S.X.on z).pg else none
def rdR(D:Rd)(z:Int):Option Pg:=if 0<D.count z then some (D.on z).pg else none
def PV(r:Int)(C:List Int)(g:Int->Option Pg)(S:Vs):Prop:=∃f:Int->Option Pv,S=ldS r C f/\(∀k,(f k).map Pv.pg=g k)/\∀k q,f k=some q->q.pg.check=0
def PR(C:List Int)(g:Int->Option Pg)(D:Rd):Prop:=D.C=C/\(D.L=C.map λc=>decide (0<c))/\D.P.length=C.length/\∀i,i<C.length->(D.P.getD i Pv.zero).pg=(g ((i:Int)+1)).getD Pv.zero.pg
theorem PR.count{g:Int->Option Pg}(h:PR C g D)(z:Int):D.count z=iU C z:=by
 obtain⟨d,_⟩:=h;unfold Rd.count iU;rw[d];by_cases b:1<=z/\z<=C.length
 . rw[if_pos b,if_pos (Rd.has_iff.2 (by rw[d];exact b))]
 . rw[if_neg b,if_neg (λe=>b (by have:=Rd.has_iff.1 e;rw[d] at this;exact this))]
theorem zE{g:Int->Option Pg}{S:Vs}(j:PV r C g S)(b:PR C g D):rdV S=rdR D:=by
 funext z
 unfold rdV rdR;rw[b.count z];obtain⟨f,rfl,k,_⟩:=j;rw[show(ldS r C f).X.P.count z=iU C z from kr r C z]
 by_cases h:0<iU C z
 . rw[if_pos h,if_pos h]
   have m:1<=z/\z<=C.length:=by
    unfold iU at h;split at h
    . assumption
    . omega
   have l:(z-1).toNat<C.length:=by omega
   have e:=b.2.2.2 _ l;have i:(((z-1).toNat:Nat):Int)+1=z:=by omega
   rw[i,<-k z] at e
   have d:((ldS r C f).X.on z).pg=((f z).map Pv.pg).getD Pv.zero.pg:=by
    show((f z).getD Pv.zero).pg=_;cases f z<;>rfl
   rw[d,<-e];rfl
 . rw[if_neg h,if_neg h]
end Go.Proofs.YtbdkogimlbnlmaaGreat
