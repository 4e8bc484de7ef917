import Derived.Test.YteaogidofpfmmaaGreatWgB14
set_option linter.all false
set_option maxHeartbeats 32000000
set_option maxRecDepth 16000
namespace Go.Proofs.YteaogidofpfmmaaGreat
open Go.Proofs.Tryz
open Go.RowKit
variable {r:Int}{C:List Int}{b mb pb:Nat}{col pc:Nat->Nat}{S:Vs}{w:World}
def Fh(w w':World)(e:Ending)(r:Int)(C:List Int)(NL:List (Int×Pv)):Prop:=
 (∃er:Nat,er≠0/\(iu r C (nmg NL)).1=er/\e=.returned (.tuple #[.pointer none,.int .i64 ((er:Nat):Int)])/\Below w.heap.size w w')\/
 ((iu r C (nmg NL)).1=0/\∃(rb:Nat)(D:Rd),e=.returned (.tuple #[.pointer (some ⟨rb,0,none⟩),.int .i64 0])/\Rn w w' rb D/\D.R=r/\D.C=C/\(D.L=C.map λc=>decide (0<c))/\D.P.length=C.length/\(∀i,i<C.length->(D.P.getD i Pv.zero).pg=((iu r C (nmg NL)).2 ((i:Int)+1)).getD Pv.zero.pg)/\D.aA=none/\D.nA=0/\D.cA=0/\D.fl=0/\D.hush=false)
theorem qx{l:List (Int×Pg)}(h:Q.fits C.length r=false):(iu r C l).1=1:=by unfold iu;rw[if_pos h]
theorem oF{l:List (Int×Pg)}(h:Q.fits C.length r=true)(hb:jE r C=true):(iu r C l).1=13:=by unfold iu;rw[if_neg (by rw[h];decide),if_pos hb]
theorem kN{l:List (Int×Pg)}(h:Q.fits C.length r=true)(hb:jE r C=false)(a:(ldG (ip C) (λ_=>none) l).1≠0):(iu r C l).1=(ldG (ip C) (λ_=>none) l).1:=by unfold iu;rw[if_neg (by rw[h];decide),if_neg (by rw[hb];decide),if_pos a]
theorem pD{l:List (Int×Pg)}(h:Q.fits C.length r=true)(hb:jE r C=false)(a:(ldG (ip C) (λ_=>none) l).1=0)(c:kD C (ldG (ip C) (λ_=>none) l).2=true):(iu r C l).1=9:=by unfold iu;rw[if_neg (by rw[h];decide),if_neg (by rw[hb];decide),if_neg (by rw[a];simp),if_pos c]
theorem ux{l:List (Int×Pg)}(h:Q.fits C.length r=true)(hb:jE r C=false)(a:(ldG (ip C) (λ_=>none) l).1=0)(c:kD C (ldG (ip C) (λ_=>none) l).2=false):iu r C l=(0,(ldG (ip C) (λ_=>none) l).2):=by unfold iu;rw[if_neg (by rw[h];decide),if_neg (by rw[hb];decide),if_neg (by rw[a];simp),if_neg (by rw[c];decide)]
theorem qt(cnt:Int->Int)(f:Int->Option Pg)(n:Int)(p:Pg)(T:List (Int×Pg)):ldG cnt f ((n,p)::T)=if ¬0<cnt n then (15,f) else if (f n).isSome=true then (10,f) else if p.check≠0 then (p.check,f) else ldG cnt (λk=>if k=n then some p else f k) T:=rfl
theorem zL(w:World)(r:Int)(a:Option Addr)(n cap:Nat)(C:List Int)(hC:Q.Ir w a C)(hn:n=C.length)(aN:Option Addr)(m br:Nat)(s:List (Int×Pv))(hN:Nm w aN s)(hm:m=s.length)(bB:m<=1000000):
 Calls prog 74 #[.int .i64 r,.slice a n cap,.slice aN m br] w λe w'=>Fh w w' e r C s:=by
 by_cases hf:Q.fits n r=false
 . have NN:=gW (Fd w (n:Int) r hf);have v:Hid ((iu r C (nmg s)).1=1):=qx (by rw[<-hn];exact hf)
   clear hC hn hN hm hf;go_enter func74,ntmps74;go_wp2_with fail
   refine NN.o.mono ?_;rintro _ wq ⟨rfl,E⟩;rw[E];clear E;go_wp2_with fail
   go_ret2
   exact .inl ⟨1,by decide,v.o,rfl,Below.refl _ _⟩
 have ae:Q.fits n r=true:=by simpa using hf
 have h6:n<=65536/\1<=n:=by unfold Q.fits at ae;simp only[b7,bZ] at ae;omega
 have bD:2<=r/\r<65536:=by unfold Q.fits at ae;simp only[b7,bZ] at ae;omega
 have NY:=gW (Cw w n r ae);have FT:Hid (Q.fits C.length r=true):=by show _=_;rw[<-hn];exact ae
 have HC:=gW hC;have G:=gW hn;have aP:=gW hN;have HM:=gW hm;clear hf ae hC hn hN hm;go_enter func74,ntmps74;go_wp2_with fail
 refine NY.o.mono ?_;rintro _ w1 ⟨A,D0,rfl,aw,aY⟩
 have L0:Hid (La w w1 w1.heap.size A r C n 0 0 0 D0 none 0):=by
  obtain⟨q1,q2,q3,q4,q5,q6,q7,q8,q9⟩:=aY;exact⟨aw,q1,by rw[q2];simp,by rw[q3];simp,q4,⟨q5,q6,q7,q8,q9⟩,λx y=>aw.lr.lt y,Q.Gw.nil _ _ _,λx y=>(by cases y),λj hj=>absurd hj (dz _),⟨aw.b.size,ai _⟩⟩
 clear aw aY NY;generalize w1.heap.size=a8 at L0;go_wp2_with fail
 go_loopw [10,11] (λvb vi wx=>∃(i:Nat)(D:Rd)(aB:Option Addr)(cB:Nat),i<=n/\vb=.slice aB i cB/\vi=.int .i64 (i:Int)/\La w wx a8 A r C n i i i D aB cB) (λ_ vi _=>n-(intOf vi).toNat)
 case atStart=>exact⟨0,D0,none,0,an _,rfl,rfl,L0.o⟩
 case round=>
  clear L0;obtain⟨i,D,aB,cB,hi,rfl,rfl,hL⟩:=hrel;have d:=gW hL;clear hL;by_cases c:i<n
  . have bw:(i:Int)<(n:Int):=by omega
    have ao:i<C.length:=by rw[<-G.o];exact c
    obtain⟨bc,oc,rfl,cA⟩:=(HC.o.keep d.o.q.b).at ao;obtain⟨x,y⟩:∃x,C.getD i 0=x:=⟨_,rfl⟩;have O:=gW y;rw[y] at cA;clear y;by_cases ab:x<0
    . have dx:decide (x<0)=true:=au ab;have v:Hid ((iu r C (nmg s)).1=13):=oF FT.o (wV ao (.inl (by rw[O.o];exact ab)))
      go_wp2_with fail
      go_ret2
      exact .inl ⟨13,by decide,v.o,rfl,d.o.q.b⟩
    have dx:decide (x<0)=false:=ar ab;by_cases aK:r<x
    . have bh:decide (r<x)=true:=au aK;have v:Hid ((iu r C (nmg s)).1=13):=oF FT.o (wV ao (.inr (by rw[O.o];exact aK)))
      go_wp2_with fail
      go_ret2
      exact .inl ⟨13,by decide,v.o,rfl,d.o.q.b⟩
    have bh:decide (r<x)=false:=ar aK;obtain⟨l1,l2,l3⟩:=d.o.lens G.o.symm hi hi;obtain⟨M,ax⟩:∃g,D.aC=some ⟨g,0,none⟩:=d.o.q.cr.addr (by omega)
    obtain⟨I,a5⟩:∃g,D.aL=some ⟨g,0,none⟩:=d.o.q.lr.addr (by omega)
    obtain⟨x0,x1,x2,x3,f1,f2,f3⟩:=d.o.q.cells;rw[ax,l1] at x1;rw[a5,l2] at x2;have bv:bc<wr.heap.size:=block_lt_of_cell cA;have h:=gW (dr2 wr);have L1:=gW ((d.o.keep h.o).c1 G.o.symm c ax O.o);have S1:Hid (wr.drew.cell? ⟨A,1,none⟩=some (.slice (some ⟨M,0,none⟩) n D.cC)/\wr.drew.cell? ⟨bc,oc+i,none⟩=some (.int .i64 x)):=⟨x1,cA⟩
    have aU:Hid (wr.drew.cell? ⟨M,i,none⟩=some (.int .i64 (D.C.getD i 0))/\wr.drew.frozen? ⟨M,i,none⟩=false):=by
     have T:=(d.o.keep h.o).q.cr;rw[ax,l1] at T;exact⟨T.cell (by simp[Q.vi,show i<D.C.length by omega]),T.free i⟩
    obtain⟨J,av⟩:∃aA,({D with C:=D.C.set i x}:Rd)=aA:=⟨_,rfl⟩;rw[av] at L1;have aj:J.aL=some ⟨I,0,none⟩:=by rw[<-av];exact a5
    have K:Hid (J.aC=some ⟨M,0,none⟩/\J.C.length=n/\J.cC=D.cC/\J.cL=D.cL/\J.L.length=n):=by
     rw[<-av];exact⟨ax,by show(D.C.set i x).length=n;rw[cx,l1],rfl,rfl,l2⟩
    clear av x0 x3 f1 f2 f3 x1 x2;go_upto_region 10 with fail
    refine bA (S:=λW=>W.cell? ⟨A,1,none⟩=some (.slice (some ⟨M,0,none⟩) n D.cC)/\W.cell? ⟨bc,oc+i,none⟩=some (.int .i64 x)) (by kernel_rfl) (S1.o) (λhHeld=>?_)
    refine tkd 0 1 2 3 ?_;refine tkd 4 5 6 7 ?_;refine tkb 8 9 ?_;refine tw 10 λaz hK=>?_
    obtain⟨k0,k1⟩:=aU.o;go_simp
    have S2:Hid ((wr.drew.setCell ⟨M,i,none⟩ (.int .i64 x)).cell? ⟨A,1,none⟩=some (.slice (some ⟨M,0,none⟩) n D.cC)/\(wr.drew.setCell ⟨M,i,none⟩ (.int .i64 x)).cell? ⟨bc,oc+i,none⟩=some (.int .i64 x)):=by
     obtain⟨y0,y1,B,y3,_⟩:=L1.o.q.cells;obtain⟨b1,o1,e1,c1⟩:=(HC.o.keep L1.o.q.b).at ao;cases e1;rw[O.o] at c1;rw[K.o.1,K.o.2.1,K.o.2.2.1] at y1;exact⟨y1,c1⟩
    refine hK.o _ _ S2.o (λhHeld=>?_)
    clear k0 k1;refine td ?_;clear S1 aU hHeld h;have ah:wr.drew.setCell ⟨M,i,none⟩ (.int .i64 x)=(wr.setCell ⟨M,i,none⟩ (.int .i64 x)).drew:=rfl;rw[ah] at L1 S2;clear ah;generalize bp:(wr.setCell ⟨M,i,none⟩ (.int .i64 x)).drew=Y at *;clear bp;obtain⟨y0,y1,B,y3,_⟩:=L1.o.q.cells;rw[aj,K.o.2.2.2.2,K.o.2.2.2.1] at B;have be:=S2.o.2;have aD:=gW (dr2 Y);have L2:=gW ((L1.o.keep aD.o).c2 G.o.symm c aj O.o);have S3:Hid (Y.drew.cell? ⟨A,2,none⟩=some (.slice (some ⟨I,0,none⟩) n D.cL)/\Y.drew.cell? ⟨bc,oc+i,none⟩=some (.int .i64 x)):=⟨B,be⟩
    have aV:Hid (Y.drew.cell? ⟨I,i,none⟩=some (.bool (J.L.getD i false))/\Y.drew.frozen? ⟨I,i,none⟩=false):=by
     have T:=(L1.o.keep aD.o).q.lr;rw[aj] at T;exact⟨T.cell (by simp[vbl,show i<J.L.length by rw[K.o.2.2.2.2];exact c]),T.free i⟩
    obtain⟨D2,aG⟩:∃aA,({J with L:=J.L.set i (decide (0<x))}:Rd)=aA:=⟨_,rfl⟩;rw[aG] at L2
    have K2:Hid (D2.aL=some ⟨I,0,none⟩/\D2.L.length=n/\D2.cL=D.cL):=by
     rw[<-aG];exact⟨aj,by show(J.L.set i _).length=n;rw[cx,K.o.2.2.2.2],K.o.2.2.2.1⟩
    clear aG y0 y1 y3 B S2 aj;go_upto_region 11 with fail
    refine bA (S:=λW=>W.cell? ⟨A,2,none⟩=some (.slice (some ⟨I,0,none⟩) n D.cL)/\W.cell? ⟨bc,oc+i,none⟩=some (.int .i64 x)) (by kernel_rfl) (S3.o) (λhHeld=>?_)
    refine tkd 0 1 2 3 ?_;refine tkd 4 5 6 7 ?_;refine tkb 8 9 ?_;refine tk 10 ?_;refine tw 11 λaz hK=>?_
    obtain⟨k0,k1⟩:=aV.o;go_simp
    have S4:Hid ((Y.drew.setCell ⟨I,i,none⟩ (.bool (decide (0<x)))).cell? ⟨A,2,none⟩=some (.slice (some ⟨I,0,none⟩) n D.cL)/\(Y.drew.setCell ⟨I,i,none⟩ (.bool (decide (0<x)))).cell? ⟨bc,oc+i,none⟩=some (.int .i64 x)):=by
     obtain⟨y0,y1,B,y3,_⟩:=L2.o.q.cells;obtain⟨b1,o1,e1,c1⟩:=(HC.o.keep L2.o.q.b).at ao;cases e1;rw[O.o] at c1;rw[K2.o.1,K2.o.2.1,K2.o.2.2] at B;exact⟨B,c1⟩
    refine hK.o _ _ S4.o (λhHeld=>?_)
    clear k0 k1;refine td ?_;clear S3 aV hHeld S4 L1 aD;have ah:Y.drew.setCell ⟨I,i,none⟩ (.bool (decide (0<x)))=(Y.setCell ⟨I,i,none⟩ (.bool (decide (0<x)))).drew:=rfl;rw[ah] at L2;clear ah;generalize bq:(Y.setCell ⟨I,i,none⟩ (.bool (decide (0<x)))).drew=w3 at *;clear bq;have A0:=gW (al w3 (.cells #[.bool false] 4));have X0:=gW (aZ w3 (.cells #[.bool false] 4));have F:=gW (L2.o.keep A0.o);have G3:=gW F.o.hb;have bn:i+1<=maxLen:=by unfold maxLen;omega
    go_wp2_with (at_builtin;refine i5 underlying105 ui rfl (by decide) rfl _ _ rfl aB i cB (vbl (List.replicate i false)) rfl G3.o ⟨w3.heap.size,0,none⟩ 1 [.bool false] rfl rfl (kO X0.o) (λu U=>by rw[aM.1 U];rfl) bn (by omega) ?_)
    intro R bf w5 hG a1 hB;have L5:=gW (F.o.c3 (by rw[O.o];omega) hG a1 hB)
    clear hG a1 hB F G3 X0 A0 L2;go_wp2_with fail
    go_roundw
    case rel=>exact⟨i+1,D2,some ⟨R,0,none⟩,bf,by omega,rfl,by go_num,L5.o⟩
    case measure=>simp[intOf];omega
  . obtain rfl:i=n:=by omega
    have aR:=gW (d.o.lb G.o.symm);have BC:Hid (jE r C=false):=Et (λj hj=>d.o.ok j (by rw[G.o];exact hj))
    clear d;go_wp2_with fail
    go_loopw [12] (λvj wx=>∃(j:Nat)(D:Rd)(ap:List Bool)(g:Int->Option Pg),j<=m/\vj=.int .i64 (j:Int)/\Lb w wx a8 A r C i D aB cB ap g/\ldG (ip C) g (nmg (s.drop j))=ldG (ip C) (λ_=>none) (nmg s)) (λvj _=>m-(intOf vj).toNat)
    case atStart=>exact⟨0,D,_,_,an _,rfl,aR.o,by rw[eB]⟩
    case round=>
     clear aR;obtain⟨j,D,ap,g,hj,rfl,hL,f⟩:=hrel;have d:=gW hL;have EE:=gW f;clear hL f;by_cases c:j<m
     . have bz:(j:Int)<(m:Int):=by omega
       have aJ:j<s.length:=by rw[<-HM.o];exact c
       obtain⟨H,N,rfl,aE⟩:=aP.o.c j aJ;have aC:=gW λ(W:World)(hb:Below w.heap.size w W)(k:Nat)(u:Value)(U:(nmc (s.getD j nm0))[k]?=some u)=>(hb.cell (p:=⟨H,N+j*6+k,none⟩) (block_lt_of_cell (aE k u U))).trans (aE k u U)
       have cN:=aC.o wr d.o.q.b;clear aE;have MX:Hid (s.getD j nm0∈s):=by show _∈_;simp[aJ]
       have ED:=gW (uR aJ);have PX:=gW λ(W:World)(hb:Below w.heap.size w W)=>(aP.o.keep hb).p _ MX.o
       obtain⟨x,y⟩:∃x,s.getD j nm0=x:=⟨_,rfl⟩;simp only[y] at cN ED PX aC;clear y MX;obtain⟨z,p⟩:=x;have TH:=gW (lD wr A D _ (d.o.rq G.o.symm h6.1).1 z);rw[d.o.cnt z] at TH;have f:=EE.o;rw[ED.o] at f;have n0:=cN 0 _ rfl;rw[dr] at n0;have Z:Hid (∀W:World,Below w.heap.size w W->∀(k:Nat)(u:Value),p.cs.toList[k]?=some u->W.cell? ⟨H,N+j*6+(k+1),none⟩=some u):=λW hb k u U=>aC.o W hb (k+1) u U
       have ac:Hid (∀k u,p.cs.toList[k]?=some u->wr.cell? ⟨H,N+j*6+(k+1),none⟩=some u):=λk u U=>cN (k+1) u U
       have aF:H<wr.heap.size:=block_lt_of_cell n0;clear cN;by_cases V:0<ip C z
       . rw[au V] at TH
         have bF:1<=z/\z<=i:=by
          unfold ip at V;split at V
          . rename_i aq;rw[<-G.o] at aq;exact aq
          . omega
         obtain⟨k,hk⟩:∃k:Nat,z=(k:Int)+1:=⟨(z-1).toNat,by omega⟩
         subst hk;have ay:k<i:=by omega
         obtain⟨R,aI⟩:∃gg,aB=some ⟨gg,0,none⟩:=d.o.hb.addr (by omega)
         subst aI;have X:wr.cell? ⟨R,k,none⟩=some (.bool (ap.getD k false)):=d.o.hb.cell (by simp[vbl,d.o.hB,ay])
         have bi:wr.frozen? ⟨R,k,none⟩=false:=d.o.hb.free k;rw[d.o.hs k ay] at X;have bE:(k:Int)+1-1=(k:Int):=by omega
         have bG:(k:Int)<(i:Int):=by omega
         have aX:R<wr.heap.size:=block_lt_of_cell X;rw[qt] at f;rw[if_neg (λaq=>aq V)] at f
         by_cases hg:(g ((k:Int)+1)).isSome=true
         . rw[if_pos hg] at f;rw[hg] at X;have v:Hid ((iu r C (nmg s)).1=10):=by show _=_;rw[kN FT.o BC.o (by rw[<-f];simp),<-f]
           have BB:=gW d.o.q.b;clear f V d EE;go_wp2_with fail
           refine TH.o.mono ?_;rintro _ wq ⟨rfl,E⟩;rw[E];clear E;go_wp2_with fail
           go_ret2
           exact .inl ⟨10,by decide,v.o,rfl,BB.o⟩
         . rw[if_neg hg] at f;have bk:(g ((k:Int)+1)).isSome=false:=by simpa using hg
           rw[bk] at X;have CK:=gW (yh wr p (PX.o wr d.o.q.b).1);have q0:=ac.o 0 _ rfl;have q1:=ac.o 1 _ rfl;have q2:=ac.o 2 _ rfl;have q3:=ac.o 3 _ rfl;have q4:=ac.o 4 _ rfl;have PV:Hid (p.vl=.agg #[.int .i64 p.kind,.int .i64 p.level,.slice p.aI p.items.length p.cI,.slice p.aD p.data.length p.cD,.int .i64 p.next]):=rfl;rw[PV.o] at CK;by_cases ad:p.pg.check≠0
           . rw[if_pos ad] at f;have v:Hid ((iu r C (nmg s)).1=p.pg.check):=by show _=_;rw[kN FT.o BC.o (by rw[<-f];exact ad),<-f]
             have BB:=gW d.o.q.b;have af:=gW ad;obtain⟨aW,a9⟩:∃ba,p.pg.check=ba:=⟨_,rfl⟩;rw[a9] at CK af v;have bs:((aW:Int) != 0)=true:=by have:=af.o;simpa using this
             clear f V d EE ad a9;go_wp2_with fail
             refine TH.o.mono ?_;rintro _ wq ⟨rfl,E⟩;rw[E];clear E;go_wp2_with fail
             refine CK.o.mono ?_;rintro _ w3 ⟨rfl,aa⟩;have B3:=gW (bt BB.o aa);clear aa;go_wp2_with fail
             go_ret2
             exact .inl ⟨aW,af.o,v.o,rfl,B3.o⟩
           . rw[if_neg ad] at f;have aL:p.pg.check=0:=by simpa using ad
             have E2:=gW f;have af:=gW aL;rw[aL] at CK;clear f V EE ad aL;go_wp2_with fail
             refine TH.o.mono ?_;rintro _ wq ⟨rfl,E⟩;rw[E];clear E;go_wp2_with fail
             refine CK.o.mono ?_;rintro _ w3 ⟨rfl,aa⟩;have F:=gW (d.o.keep aa);have bg:=(aa.cell (p:=⟨R,k,none⟩) aX).trans X;have bj:w3.frozen? ⟨R,k,none⟩=false:=F.o.hb.free k;have n3:=(aa.cell (p:=⟨H,N+j*6,none⟩) aF).trans n0;have bb:Hid (∀q u,p.cs.toList[q]?=some u->w3.cell? ⟨H,N+j*6+(q+1),none⟩=some u):=λq u U=>(aa.cell (p:=⟨H,N+j*6+(q+1),none⟩) aF).trans (ac.o q u U)
             clear aa TH CK X bi n0 ac d q0 q1 q2 q3 q4 aX aF;go_upto_region 25 with fail
             have R2:=gW (F.o.mid (i:=k));obtain⟨gP,ak⟩:∃gg,D.aP=some ⟨gg,0,none⟩:=F.o.q.pr.addr (by rw[F.o.hP];omega)
             obtain⟨y0,y1,B,y3,_⟩:=R2.o.cells;rw[ak,F.o.hP] at y3;generalize a7:w3.setCell ⟨R,k,none⟩ (.bool true)=w4 at *;have aQ:=gW a7;clear a7 bg bj n3 bb y0 y1 B;have h:=gW (dr2 w4)
             have SS:Hid (∀W:World,Below w4.heap.size w4 W->W.cell? ⟨A,3,none⟩=some (.slice (some ⟨gP,0,none⟩) i D.cP)/\W.cell? ⟨H,N+j*6+1,none⟩=some (.int .i64 p.kind)/\W.cell? ⟨H,N+j*6+2,none⟩=some (.int .i64 p.level)/\W.cell? ⟨H,N+j*6+3,none⟩=some (.slice p.aI p.items.length p.cI)/\W.cell? ⟨H,N+j*6+4,none⟩=some (.slice p.aD p.data.length p.cD)/\W.cell? ⟨H,N+j*6+5,none⟩=some (.int .i64 p.next)):=λW hb=>by
              have hw:=bt R2.o.b hb;exact⟨(hb.cell (p:=⟨A,3,none⟩) (block_lt_of_cell y3)).trans y3,Z.o W hw 0 _ rfl,Z.o W hw 1 _ rfl,Z.o W hw 2 _ rfl,Z.o W hw 3 _ rfl,Z.o W hw 4 _ rfl⟩
             have aS:=gW (PX.o w4.drew (bt R2.o.b h.o)).1;obtain⟨sm,si⟩:=kW (p:=p) (.inl af.o);have CP:=gW (pE w4.drew p aS.o sm.1 si sm.2);rw[PV.o] at CP;have bl:k<D.P.length:=by rw[F.o.hP];exact ay
             have bd:Hid (IntKind.i64.wrap ((k:Nat):Int)=(k:Int)):=iz (by omega) (by omega)
             clear y3 sm si aS;refine wrd SS h.o λhHeld=>?_
             refine tkd 0 1 2 3 ?_;refine tkd 4 5 6 7 ?_;refine tkb 8 9 ?_;refine tk 10 ?_;rw[bd.o];refine tw 11 λaz hK=>?_
             go_simp;refine CP.o.mono ?_;rintro _ w5 ⟨qq,rfl,a2,bm,a4,a3⟩;have N5:=gW (a2.pre (v':=w4) (ai _));have G5:=gW a4;have B5:=gW (bt h.o a3);clear a2 bm a4 a3;go_wp2_with fail
             refine hK.o _ _ (SS.o _ B5.o) (λhHeld=>?_)
             refine tk 12 ?_;obtain⟨D5,a0⟩:=F.o.lay ay ak qq aQ.o.symm B5.o N5.o (by rw[G5.o];exact af.o)
             have L5:=gW a0;clear a0
             have aT:Hid (w5.there gP (k*5) 5):=by
              have T:=(R2.o.keep B5.o).pr;rw[ak] at T;exact T.there5 bl
             refine tw 13 λaz hK=>?_
             rw[if_pos (by rfl)]
             refine wp_store_mid (P:=prog) 77 _ _ rfl gP (k*5) qq.cs ?hxs ?hys aT.o iD (by simp[Pv.cs,Value.oneCell']) ?_
             case hxs=>simp[Act.eval]
             case hys=>rfl
             have SE:Hid ((w5.setCells gP (k*5) qq.cs.toList).cell? ⟨A,3,none⟩=some (.slice (some ⟨gP,0,none⟩) i D.cP)):=by
              obtain⟨bu,hc⟩:=(R2.o.keep B5.o).pr.blk ak;have bx:=(R2.o.keep B5.o).box;have b6:=(kj gP qq.cs.toList w5 (k*5)).same bx (λe=>iP bx hc (by decide) e)
              show _=_;rw[am _ _ _ _ _ _ b6];show some (Value.slice D.aP D.P.length D.cP)=_;rw[ak,F.o.hP]
             have ag:=L5.o.q.b;refine hK.o _ _ ⟨SE.o,Z.o _ ag 0 _ rfl,Z.o _ ag 1 _ rfl,Z.o _ ag 2 _ rfl,Z.o _ ag 3 _ rfl,Z.o _ ag 4 _ rfl⟩ (λhHeld=>?_)
             clear ag SE;refine td ?_;clear hHeld SS aT R2 F B5 N5 h CP aQ;generalize w5.setCells gP (k*5) qq.cs.toList=w6 at *;go_wp2_with fail
             go_roundw
             case rel=>exact⟨j+1,D5,_,_,by omega,by go_num,L5.o,by rw[G5.o];exact E2.o⟩
             case measure=>simp[intOf];omega
       . rw[ar V] at TH;rw[qt] at f;rw[if_pos V] at f;have v:Hid ((iu r C (nmg s)).1=15):=by show _=_;rw[kN FT.o BC.o (by rw[<-f];simp),<-f]
         have BB:=gW d.o.q.b;clear f V d EE;go_wp2_with fail
         refine TH.o.mono ?_;rintro _ wq ⟨rfl,E⟩;rw[E];clear E;go_wp2_with fail
         go_ret2
         exact .inl ⟨15,by decide,v.o,rfl,BB.o⟩
     . obtain rfl:j=m:=by omega
       have E0:Hid (ldG (ip C) (λ_=>none) (nmg s)=(0,g)):=by
        show _=_;rw[<-EE.o,dw (by rw[<-HM.o];exact ai _)]
        rfl
       clear EE;go_wp2_with fail
       go_loopw [15] (λvq wx=>∃q:Nat,q<=i/\vq=.int .i64 (q:Int)/\wx=wr/\∀t,t<q->0<C.getD t 0->(g ((t:Int)+1)).isSome=true) (λvq _=>i-(intOf vq).toNat)
       case atStart=>exact⟨0,an _,rfl,rfl,λt ht=>absurd ht (dz _)⟩
       case round=>
        obtain⟨q,hq,rfl,rfl,hQ⟩:=hrel;have HQ:=gW hQ;clear hQ;by_cases c:q<i
        . have bC:(q:Int)<(i:Int):=by omega
          have a6:q<C.length:=by rw[<-G.o];exact c
          obtain⟨bc,oc,rfl,cA⟩:=(HC.o.keep d.o.q.b).at a6;obtain⟨x,y⟩:∃x,C.getD q 0=x:=⟨_,rfl⟩;have O:=gW y;rw[y] at cA;clear y;obtain⟨R,aI⟩:∃gg,aB=some ⟨gg,0,none⟩:=d.o.hb.addr (by omega)
          subst aI;have X:wr.cell? ⟨R,q,none⟩=some (.bool (ap.getD q false)):=d.o.hb.cell (by simp[vbl,d.o.hB,c])
          rw[d.o.hs q c] at X;obtain⟨bo,aH⟩:∃bo,(g ((q:Int)+1)).isSome=bo:=⟨_,rfl⟩;have aO:=gW aH;rw[aH] at X;clear aH;by_cases ab:0<x
          . have dx:decide (0<x)=true:=au ab;cases bo with
            |false=>
             have v:Hid ((iu r C (nmg s)).1=9):=pD FT.o BC.o (by rw[E0.o]) (by rw[E0.o];exact AK a6 (by rw[O.o];exact ab) aO.o)
             go_wp2_with fail
             go_ret2
             exact .inl ⟨9,by decide,v.o,rfl,d.o.q.b⟩
            |true=>
             go_wp2_with fail
             go_roundw
             case rel=>exact⟨q+1,by omega,by go_num,by first|rfl|trivial,λt ht h0=>by
              by_cases e:t=q
              . rw[e];exact aO.o
              . exact HQ.o t (by omega) h0⟩
             case measure=>simp[intOf];omega
          . have dx:decide (0<x)=false:=ar ab;go_wp2_with fail
            go_roundw
            case rel=>exact⟨q+1,by omega,by go_num,by first|rfl|trivial,λt ht h0=>by
             by_cases e:t=q
             . rw[e,O.o] at h0;exact absurd h0 ab
             . exact HQ.o t (by omega) h0⟩
            case measure=>simp[intOf];omega
        . obtain rfl:q=i:=by omega
          have v:Hid (iu r C (nmg s)=(0,g)):=by
           have k:=ux (l:=nmg s) FT.o BC.o (by rw[E0.o]) (by rw[E0.o];exact CE (λt ht h0=>HQ.o t (by rw[G.o];exact ht) h0))
           rw[E0.o] at k;exact k
          go_wp2_with fail
          go_ret2
          refine .inr ⟨by rw[v.o],A,D,rfl,d.o.q,d.o.hR,d.o.hC,d.o.hL,by rw[d.o.hP,G.o],λt ht=>?_,d.o.ha.1,d.o.ha.2.1,d.o.ha.2.2.1,d.o.ha.2.2.2.1,d.o.ha.2.2.2.2⟩
          rw[v.o];exact d.o.hg t (by rw[G.o];exact ht)
def nlv(z:Int)(p:Pv):Value:=.agg #[.int .i64 z,.int .i64 p.kind,.int .i64 p.level,.slice p.aI p.items.length p.cI,.slice p.aD p.data.length p.cD,.int .i64 p.next]
def lU(f:Int->Option Pv)(z:Int)(q:Pv):Int->Option Pv:=λk=>if k=z then some q else f k
theorem mB{W:World}{g:Nat}{v0 a c v3 v4 v5:Value}{t:TypeId}(h:W.heap[g]?=some (.cells #[v0,a,c,v3,v4,v5] t (0,0))):W.cell? ⟨g,0,none⟩=some v0/\W.cell? ⟨g,1,none⟩=some a/\W.cell? ⟨g,2,none⟩=some c/\W.cell? ⟨g,3,none⟩=some v3/\W.cell? ⟨g,4,none⟩=some v4/\W.cell? ⟨g,5,none⟩=some v5:=by
 refine⟨?_,?_,?_,?_,?_,?_⟩<;>(rw[am _ _ _ _ _ _ h];rfl)
theorem Vw.look2(h:Vw w b S pb mb pc col)(z:Int):(Instr.lookup 113 (.map (some mb)) (.int .i64 z) true).run prog w=.ok (.tuple #[(S.X.on z).vl,.bool (S.X.f z).isSome]) w:=by
 obtain⟨c,e,a,d,h⟩:=h;have k:=h.mp.look rI vJ Pv.zero.vl (zeroValue77 w) z true;rw[k];simp only[if_true];unfold Vm.on;cases S.X.f z<;>rfl
theorem Vw.c1(h:Vw w b S pb mb pc col):w.cell? ⟨b,1,none⟩=some (.map (some mb)):=by
 obtain⟨c,e,a,d,h⟩:=h;exact h.cells.2.1
theorem Vw.laid{a:World}(h:Vw w b S pb mb pc col)(z:Int)(q:Pv)(hb:Below w.heap.size w a)(x:Pn w a q)(t:q.items.length<=2199023255520):
 ∃c,(Instr.mapUpdate 113 (.map (some mb)) (.int .i64 z) q.vl).run prog a=.ok () c/\(∃i,Vw c b ⟨⟨S.X.P,lU S.X.f z q,S.X.ch⟩,S.al,S.fl⟩ pb mb pc i/\Vf w col c i)/\But (λk=>k=mb) a c/\c.heap.size=a.heap.size:=by
 obtain⟨j,m,B⟩:=h.vx;obtain⟨D,s⟩:=B.page hb;obtain⟨l,n,f⟩:=D;obtain⟨c,y,v,g,A⟩:=f.mp.store rI vJ z q.vl;refine⟨c,y,⟨j8 col w a 6,⟨l,n,j,m,?_⟩,s.trans ⟨?_,λ_ _=>rfl⟩⟩,g,A⟩
 . have e:(λk=>(lU S.X.f z q k).map Pv.vl)=lc (λk=>(S.X.f k).map Pv.vl) z q.vl:=by
    funext k
    unfold lU lc;split<;>rfl
   refine f.mapped (f':=lU S.X.f z q) (by rw[e];exact v) g (λk p d=>?_)
   unfold lU at d;split at d
   . cases d;exact x.pz t
   . exact f.fz k p d
 . exact g.mono (λk hk e=>by
    have e:k=mb:=e;rw[e];have:=f.cm;show 1<=_/\_<=5;rw[show j8 col w a 6 mb=2 from this]
    decide)
def VLd(w w':World)(e:Ending)(b:Nat)(S:Vs)(pb mb:Nat)(pc col:Nat->Nat)(z:Int)(p:Pv):Prop:=
     (∃er:Nat,er≠0/\e=.returned (.int .i64 ((er:Nat):Int))/\(if ¬0<S.X.P.count z then 15 else if (S.X.f z).isSome=true then 10 else p.pg.check)=er/\Below w.heap.size w w')\/
     (0<S.X.P.count z/\(S.X.f z).isSome=false/\p.pg.check=0/\e=.returned (.int .i64 0)/\∃(q:Pv)(col':Nat->Nat),q.pg=p.pg/\Vw w' b ⟨⟨S.X.P,lU S.X.f z q,S.X.ch⟩,S.al,S.fl⟩ pb mb pc col'/\Vf w col w' col')
theorem zR(w:World)(b:Nat)(S:Vs)(pb mb:Nat)(pc col:Nat->Nat)(h:Vw w b S pb mb pc col)(z:Int)(p:Pv)(hP:Pi w p):
 Calls prog 76 #[.pointer (some ⟨b,0,none⟩),nlv z p] w λe w'=>VLd w w' e b S pb mb pc col z p:=by
 have F:=gW (al w (.cells #[.int .i64 z,.int .i64 p.kind,.int .i64 p.level,.slice p.aI p.items.length p.cI,.slice p.aD p.data.length p.cD,.int .i64 p.next] 91));have B:=gW (aZ w (.cells #[.int .i64 z,.int .i64 p.kind,.int .i64 p.level,.slice p.aI p.items.length p.cI,.slice p.aD p.data.length p.cD,.int .i64 p.next] 91));unfold nlv;have HV:=gW h;have HP:=gW hP;clear h hP;have A:=gW (HV.o.keep F.o);have m:=gW (uI _ b S pb mb pc col A.o z);by_cases n:0<S.X.P.count z
 . rw[au n] at m;have y:=gW n;clear n;go_enter func76,ntmps76;go_wp2_with fail
   refine m.o.mono ?_;rintro _ wq ⟨rfl,D⟩;rw[D];clear D m;go_upto_region 3 with fail
   generalize ap:(w.alloc (.cells #[.int .i64 z,.int .i64 p.kind,.int .i64 p.level,.slice p.aI p.items.length p.cI,.slice p.aD p.data.length p.cD,.int .i64 p.next] 91))=a at *;clear ap;have lx:w.heap.size<a.heap.size:=(ae.1 B.o).1;generalize w.heap.size=f at B lx ⊢;have d:Hid (∀W:World,Below a.heap.size a W->W.cell? ⟨b,1,none⟩=some (.map (some mb))/\W.cell? ⟨f,0,none⟩=some (.int .i64 z)/\(Instr.lookup 113 (.map (some mb)) (.int .i64 z) true).run prog W=.ok (.tuple #[(S.X.on z).vl,.bool (S.X.f z).isSome]) W):=λW hb=>⟨(A.o.keep hb).c1,(mB (iy B.o hb)).1,(A.o.keep hb).look2 z⟩
   have i:=gW (dr2 a);obtain⟨N,T⟩:∃N,(S.X.f z).isSome=N:=⟨_,rfl⟩;simp only[T] at d;have P:=gW T;clear T;have OV:Hid ((S.X.on z).vl=.agg (S.X.on z).cs):=rfl;simp only[OV.o] at d;refine wrd d i.o λhHeld=>?_
   refine tkd 0 1 2 3 ?_;refine tkd 4 5 6 7 ?_;refine tkb 8 9 ?_;have E:=gW (bt i.o (al a.drew (.cells #[.int .i64 0,.int .i64 0,.slice none 0 0,.slice none 0 0,.int .i64 0] 77)));have J:=gW (aZ a.drew (.cells #[.int .i64 0,.int .i64 0,.slice none 0 0,.slice none 0 0,.int .i64 0] 77));refine tw 10 λK k=>?_
   go_simp;refine k.o _ _ (d.o _ E.o) (λhHeld=>?_)
   try simp only[pt]
   have ab:(a.drew.alloc (.cells #[.int .i64 0,.int .i64 0,.slice none 0 0,.slice none 0 0,.int .i64 0] 77))=(a.alloc (.cells #[.int .i64 0,.int .i64 0,.slice none 0 0,.slice none 0 0,.int .i64 0] 77)).drew:=rfl;rw[ab] at E J;clear ab;generalize aq:(a.alloc (.cells #[.int .i64 0,.int .i64 0,.slice none 0 0,.slice none 0 0,.int .i64 0] 77)).drew=w2 at *;clear aq;have t:=gW (yG (S.X.on z).cs E.o (ai _));refine tw 11 λK k=>?_
   rw[if_pos (by rfl)]
   refine fF 77 _ _ rfl a.heap.size _ rfl rfl 77 _ J.o iD rfl (by simp[Pv.cs,Value.oneCell']) ?_
   refine k.o _ _ (d.o _ t.o) (λhHeld=>?_)
   refine tk 12 ?_;refine td ?_;clear hHeld i;have L:=gW (iy B.o t.o);have g:=gW (A.o.keep t.o);have v:=gW (bt F.o t.o);generalize av:w2.setRow a.heap.size (S.X.on z).cs=w3 at *;have P2:=gW (HP.o.keep v.o);clear av t d A B J E;cases N with
   |true=>
    go_wp2_with fail
    go_ret;exact .inl ⟨10,by decide,rfl,by rw[if_neg (λe=>e y.o),if_pos P.o],v.o⟩
   |false=>
    obtain⟨y0,y1,y2,y3,y4,y5⟩:=mB L.o;have l:=gW (zS w3 p P2.o);have Z:Hid (p.vl=.agg #[.int .i64 p.kind,.int .i64 p.level,.slice p.aI p.items.length p.cI,.slice p.aD p.data.length p.cD,.int .i64 p.next]):=rfl;rw[Z.o] at l;obtain⟨O,V⟩:∃am,p.pg.check=am:=⟨_,rfl⟩;have R:=gW V;rw[V] at l;clear V;by_cases U:O=0
    . subst U;go_wp2_with fail
      refine l.o.mono ?_;rintro _ s ⟨rfl,j⟩;have M:=gW (iy L.o j);have I:=gW (g.o.keep j);have G:=gW (bt v.o j);have P4:=gW (P2.o.keep j);clear j l L g y0 y1 y2 y3 y4 y5 v P2;have i:=gW (dr2 s);have d:Hid (∀W:World,Below s.heap.size s W->W.cell? ⟨b,1,none⟩=some (.map (some mb))/\W.cell? ⟨f,0,none⟩=some (.int .i64 z)/\W.cell? ⟨f,1,none⟩=some (.int .i64 p.kind)/\W.cell? ⟨f,2,none⟩=some (.int .i64 p.level)/\W.cell? ⟨f,3,none⟩=some (.slice p.aI p.items.length p.cI)/\W.cell? ⟨f,4,none⟩=some (.slice p.aD p.data.length p.cD)/\W.cell? ⟨f,5,none⟩=some (.int .i64 p.next)):=λW hb=>⟨(I.o.keep hb).c1,mB (iy M.o hb)⟩
      obtain⟨sm,si⟩:=kW (p:=p) (.inl R.o);have H:=gW (qJ s.drew p (P4.o.keep i.o) sm.1 sm.2);rw[Z.o] at H;have SI:=gW si;clear sm si;go_upto_region 9 with fail
      refine wrd d i.o λhHeld=>?_
      refine tkd 0 1 2 3 ?_;refine tkd 4 5 6 7 ?_;refine tw 8 λK k=>?_
      go_simp;refine H.o.mono ?_;rintro _ w5 ⟨q,rfl,af,aj,ag⟩;have N5:=gW (af.pre (v':=s) (ai _));have Y:=gW aj;have x:=gW (bt i.o ag);clear af aj ag;go_wp2_with fail
      refine k.o _ _ (d.o _ x.o) (λhHeld=>?_)
      try simp only[pt]
      have LQ:Hid (q.items.length<=2199023255520):=by
       have e:=bf (λan:Pg=>an.items.length) Y.o
       simp only[Pv.pg,bu] at e;show _<=_;rw[e];exact az SI.o (by decide)
      obtain⟨w6,ak,⟨aw,X,ah⟩,ad,ao⟩:=I.o.laid z q x.o N5.o LQ.o;have V6:=gW X;have F6:=gW ((Vf.keep G.o).trans ah)
      have c:Hid (w6.cell? ⟨b,1,none⟩=some (.map (some mb))/\w6.heap[f]?=some (.cells #[.int .i64 z,.int .i64 p.kind,.int .i64 p.level,.slice p.aI p.items.length p.cI,.slice p.aD p.data.length p.cD,.int .i64 p.next] 91 (0,0))):=⟨X.c1,ad.same (iy M.o x.o) (λe=>by
       have e:f=mb:=e;obtain⟨ac,cc,aa,ca,hq⟩:=I.o.keep x.o;obtain⟨es,cl,hm,_⟩:=hq.mp;have:=iy M.o x.o;rw[e] at this;rw[show(w5.heap[mb]?=some (.map es cl)) from hm] at this
       cases this)⟩
      have VL:Hid (q.vl=.agg q.cs):=rfl;rw[VL.o] at ak;try rw[VL.o]
      clear X ah ad ao;refine tw 9 λK k=>?_
      go_simp;refine k.o _ _ ⟨c.o.1,mB c.o.2⟩ (λhHeld=>?_)
      refine td ?_;clear hHeld i d H ak;go_wp2_with fail
      go_ret;exact .inr ⟨y.o,P.o,R.o,rfl,q,aw,Y.o,V6.o,F6.o⟩
    . have c0:((O:Int) != 0)=true:=by simpa using U
      go_wp2_with fail
      refine l.o.mono ?_;rintro _ s ⟨rfl,j⟩;have G:=gW (bt v.o j);clear j l y0 y1 y2 y3 y4 y5;go_wp2_with fail
      go_ret;exact .inl ⟨O,U,rfl,by rw[if_neg (λe=>e y.o),if_neg (by rw[P.o];decide)];exact R.o,G.o⟩
 . rw[ar n] at m;have y:=gW n;clear n;go_enter func76,ntmps76;go_wp2_with fail
   refine m.o.mono ?_;rintro _ wq ⟨rfl,D⟩;rw[D];clear D m;go_wp2_with fail
   go_ret;exact .inl ⟨15,by decide,rfl,by rw[if_pos (show ¬0<S.X.P.count z from by have:=y.o;omega)],F.o⟩
end Go.Proofs.YteaogidofpfmmaaGreat
namespace Go.Proofs.YteaogidofpfmmaaGreat
open Go.Proofs.Tryz
open Go.RowKit
open Go.MapKept
theorem pQ:∀(l m:List Int),l.Nodup->(∀x∈l,x∈m)->l.length<=m.length
 | [],m,_,_=>an _
 |a::t,m,hn,hs=>by
  have hn':=e8.1 hn;have b:=hs a bC;have d:=pQ t (m.erase a) hn'.2 (λx c=>(List.mem_erase_of_ne (λe=>hn'.1 (by rw[<-e];exact c))).2 (hs x (bj _ c)))
  rw[List.length_erase_of_mem b] at d;have:0<m.length:=List.length_pos_of_mem b;simp only[a7];omega
def nK(e:MapEntry):Int:=match e.key with
 | .int _ k=>k
 |_=>0
theorem Mo.count{a:Array MapEntry}{B:Nat}{f:Int->Option Value}(h:Mo a B f)(c:List Int)(s:c.Nodup)(hk:∀k,(f k).isSome=true↔k∈c):a.size=c.length:=by
 have l:∀e∈a.toList,e.key=.int .i64 (nK e)/\(f (nK e)).isSome=true:=λe b=>by
  obtain⟨k,d,p⟩:=h.key e b;have:nK e=k:=by unfold nK;rw[d]
  rw[this];exact⟨d,by rw[p];rfl⟩
 obtain⟨_,_,r⟩:=h.st
 have d:a.toList.map (·.key)=(a.toList.map nK).map (λk=>Value.int .i64 k):=by
  rw[List.map_map];exact List.map_congr_left (λe b=>(l e b).1)
 have t:(a.toList.map nK).Nodup:=by
  have i:(a.toList.map (·.key)).Nodup:=r
  rw[d] at i;exact List.Pairwise.imp (λA e=>A (by rw[e])) (fB.1 i)
 have m:=pQ (a.toList.map nK) c t (λx g=>by
  obtain⟨e,b,rfl⟩:=bM.1 g;exact(hk _).1 (l e b).2)
 have n:=pQ c (a.toList.map nK) s (λx g=>by
  have j:=(hk x).2 g;cases e:f x with
  |none=>rw[e] at j;cases j
  |some v=>
   obtain⟨q,b,y⟩:=h.has x v e;refine bM.2 ⟨q,b,?_⟩;unfold nK;rw[y])
 rw[bu] at m n;have:a.toList.length=a.size:=Array.length_toList;omega
theorem qI{α:Type}(p q:α->Bool):∀l:List α,(∀x∈l,p x=true->q x=true)->l.countP q=l.countP p+l.countP (λx=>q x&& !p x)
 | [],_=>rfl
 |x::t,h=>by
  have ih:=qI p q t (λy b=>h y (bj _ b))
  have a:=h x bC;simp only[List.countP_cons,ih];cases hp:p x<;>cases hq:q x
  . simp
  . simp;omega
  . rw[hp,hq] at a;exact absurd (a rfl) (by decide)
  . simp;omega
def kh(n:Nat)(f:Int->Option Pv):List Int:=((List.range n).filter λi:Nat=>(f ((i:Int)+1)).isSome).map λi=>((i:Nat):Int)+1
theorem uY(n:Nat)(f:Int->Option Pv):(kh n f).Nodup:=by
 unfold kh;refine fB.2 ?_;refine List.Pairwise.imp (R:=λa b:Nat=>a≠b) ?_ (List.Pairwise.filter _ List.nodup_range)
 intro a b c e;have d:((a:Nat):Int)+1=((b:Nat):Int)+1:=e;exact c (by omega)
theorem yg{n:Nat}{f:Int->Option Pv}(a:∀k,(f k).isSome=true->1<=k/\k<=n)(k:Int):(f k).isSome=true↔k∈kh n f:=by
 unfold kh;constructor
 . intro h;obtain⟨c,d⟩:=a k h;refine bM.2 ⟨(k-1).toNat,eG.2 ⟨dv.2 (by omega),?_⟩,by omega⟩
   rw[show(((k-1).toNat:Nat):Int)+1=k by omega]
   exact h
 . intro h;obtain⟨i,b,e⟩:=bM.1 h;rw[<-e];exact(eG.1 b).2
theorem Bo(r:Int)(C:List Int):((Q.Po.start r C).pages 4).length=(List.range C.length).countP (λi=>decide (0<C.getD i 0))\/∃c∈C,c<0:=by
 by_cases d:∃c∈C,c<0
 . exact .inr d
 . refine .inl ?_
   have k:∀c∈C,0<=c:=λc g=>by
    by_cases h:c<0
    . exact absurd ⟨c,g,h⟩ d
    . omega
   show(if (1:Int)<=4/\(4:Int)<=4 then _ else _:List Int).length=_
   rw[if_pos (by omega)]
   show(Q.jD _ 4).length=_;unfold Q.jD;rw[bu,<-List.countP_eq_length_filter];show List.countP _ (List.range ((Q.Po.start r C).pg.length))=_;have j:(Q.Po.start r C).pg.length=C.length:=by unfold Q.Po.start;exact bu _
   rw[j];refine List.countP_congr (λi a=>?_)
   have a:=dv.1 a;have e:(Q.Po.start r C).pg.getD i Q.Pg.zero=(C.getD i 0,decide (0<C.getD i 0)):=by unfold Q.Po.start;simp[a]
   rw[e];have:=k (C.getD i 0) (by simp[a])
   unfold Q.stt;by_cases b:C.getD i 0=0
   . rw[if_pos (show(C.getD i 0,decide (0<C.getD i 0)).1=0 from b),b]
     simp
   . rw[if_neg (show ¬(C.getD i 0,decide (0<C.getD i 0)).1=0 from b)]
     have f:0<C.getD i 0:=by omega
     simp only[au f];simp
theorem zn{r:Int}{C:List Int}{f:Int->Option Pv}{g:Int->Option Pg}(hb:jE r C=false)(n:∀k,(f k).isSome=true->0<ip C k)(d:∀k,(g k).isSome=(f k).isSome):decide ((kh C.length f).length<((Q.Po.start r C).pages 4).length)=kD C g:=by
 have p:¬ ∃c∈C,c<0:=by
  rintro⟨c,hc,h0⟩;unfold jE at hb;rw[fb] at hb;exact hb c hc (by simp[h0])
 have j:=(Bo r C).resolve_right p
 have l:(kh C.length f).length=(List.range C.length).countP (λi:Nat=>(f ((i:Int)+1)).isSome):=by
  unfold kh;rw[bu,List.countP_eq_length_filter]
 have m:=qI (λi:Nat=>(f ((i:Int)+1)).isSome) (λi:Nat=>decide (0<C.getD i 0)) (List.range C.length) (λi a h=>by
  have a:=dv.1 a;have:=n _ h;unfold ip at this;rw[if_pos (by omega),show((i:Int)+1-1).toNat=i by omega] at this
  exact au this)
 rw[j,l,m];unfold kD;cases hl:(List.range C.length).any (λi=>decide (0<C.getD i 0)&&(g ((i:Int)+1)).isNone) with
 |true=>
  obtain⟨i,a,h⟩:=fH.1 hl;refine au ?_
  have:0<(List.range C.length).countP (λi:Nat=>decide (0<C.getD i 0)&& !(f ((i:Int)+1)).isSome):=List.countP_pos_iff.2 ⟨i,a,by
   rw[b7] at h ⊢;refine⟨h.1,?_⟩;rw[<-d];cases e:g ((i:Int)+1) with
   |none=>rfl
   |some v=>rw[e] at h;exact absurd h.2 (by simp)⟩
  omega
 |false=>
  refine ar ?_
  have:(List.range C.length).countP (λi:Nat=>decide (0<C.getD i 0)&& !(f ((i:Int)+1)).isSome)=0:=List.countP_eq_zero.2 (λi a h=>by
   have:=fb.1 hl i a;apply this;rw[b7] at h ⊢;refine⟨h.1,?_⟩;have b:=h.2;rw[<-d] at b;cases e:g ((i:Int)+1) with
   |none=>rfl
   |some v=>rw[e] at b;exact absurd b (by simp))
  omega
end Go.Proofs.YteaogidofpfmmaaGreat
namespace Go.Proofs.YteaogidofpfmmaaGreat
open Go.Proofs.Tryz
open Go.RowKit
variable {r:Int}{C:List Int}{mb pb:Nat}{col pc:Nat->Nat}{w wx wy:World}
theorem mD(r:Int)(C:List Int)(z:Int):(Q.Po.start r C).count z=ip C z:=by
 have c:(Q.Po.start r C).pg.length=C.length:=by unfold Q.Po.start;exact bu _
 unfold Q.Po.count Q.Po.has ip;rw[c];by_cases a:1<=z/\z<=C.length
 . rw[if_pos a,if_pos (by simp[a])]
   obtain⟨i,b⟩:∃i:Nat,(z-1).toNat=i:=⟨_,rfl⟩;rw[b];have d:i<C.length:=by omega
   unfold Q.Po.start;simp[d]
 . rw[if_neg a,if_neg (by simpa using a)]
def ldS(r:Int)(C:List Int)(f:Int->Option Pv):Vs:=⟨⟨Q.Po.start r C,f,[]⟩,[],0⟩
def Eg(w w':World)(e:Ending)(r:Int)(C:List Int)(NL:List (Int×Pv)):Prop:=
 (∃er:Nat,er≠0/\(iu r C (nmg NL)).1=er/\e=.returned (.tuple #[.pointer none,.int .i64 ((er:Nat):Int)])/\Below w.heap.size w w')\/
 ((iu r C (nmg NL)).1=0/\∃(b:Nat)(f:Int->Option Pv),e=.returned (.tuple #[.pointer (some ⟨b,0,none⟩),.int .i64 0])/\yd w w' b (ldS r C f)/\(∀k,(f k).map Pv.pg=(iu r C (nmg NL)).2 k)/\(∀k q,f k=some q->q.pg.check=0)/\∀k,(f k).isSome=true->0<ip C k)
structure Lv(w wx:World)(b pb mb:Nat)(r:Int)(C:List Int)(f:Int->Option Pv)(g:Int->Option Pg)(pc col:Nat->Nat):Prop where
 v:Vw wx b (ldS r C f) pb mb pc col
 b:Below w.heap.size w wx
 c:∀k,col k≠0->w.heap.size<=k
 g:∀k,(f k).map Pv.pg=g k
 s:∀k q,f k=some q->q.pg.check=0
 p:∀k,(f k).isSome=true->0<ip C k
theorem Lv.keep{b:Nat}{f:Int->Option Pv}{g:Int->Option Pg}(h:Lv w wx b pb mb r C f g pc col)(hb:Below wx.heap.size wx wy):Lv w wy b pb mb r C f g pc col:=⟨h.v.keep hb,bt h.b hb,h.c,h.g,h.s,h.p⟩
theorem Lv.sm{b:Nat}{f:Int->Option Pv}{g:Int->Option Pg}(h:Lv w wx b pb mb r C f g pc col)(k:Int):(g k).isSome=(f k).isSome:=by
 rw[<-h.g k];cases f k<;>rfl
theorem Lv.laid{b:Nat}{f:Int->Option Pv}{g:Int->Option Pg}{c:Nat->Nat}(h:Lv w wx b pb mb r C f g pc col){z:Int}{q:Pv}{p:Pg}(i:q.pg=p)(m:0<ip C z)(j:p.check=0)(l:Vw wy b (ldS r C (lU f z q)) pb mb pc c)(d:Vf wx col wy c):Lv w wy b pb mb r C (lU f z q) (λk=>if k=z then some p else g k) pc c:=by
 have sz:=h.b.size;refine⟨l,?_,λk hk=>?_,λk=>?_,λk n e=>?_,λk e=>?_⟩
 . exact((But.ofBelow (S:=λk=>1<=col k/\col k<=5) h.b).trans d.b (λ_ _ e=>e)).below (λk hk e=>by have:=h.c k (by omega);omega)
 . by_cases s:k<wx.heap.size
   . exact h.c k (by rw[<-d.c k s];exact hk)
   . omega
 . unfold lU;by_cases e:k=z
   . rw[if_pos e,if_pos e,<-i];rfl
   . rw[if_neg e,if_neg e];exact h.g k
 . unfold lU at e;by_cases a:k=z
   . rw[if_pos a] at e;cases e;rw[i];exact j
   . rw[if_neg a] at e;exact h.s k n e
 . unfold lU at e;by_cases a:k=z
   . rw[a];exact m
   . rw[if_neg a] at e;exact h.p k e
theorem Vw.mlen{b:Nat}{f:Int->Option Pv}(h:Vw w b (ldS r C f) pb mb pc col)(j:∀k,(f k).isSome=true->0<ip C k)(a:TypeId):(Builtin.len_ #[113] a #[.map (some mb)]).run prog w=.ok (.int .i64 (((kh C.length f).length:Nat):Int)) w:=by
 obtain⟨q,t,p,s,l⟩:=h;obtain⟨d,c,g,i⟩:=l.mp
 have e:=i.count (kh C.length f) (uY _ _) (λk=>by
  have m:=yg (n:=C.length) (f:=f) (λk hk=>by
   have:=j k hk;unfold ip at this;split at this
   . assumption
   . omega) k
  rw[<-m];show((f k).map Pv.vl).isSome=true↔_;cases f k<;>simp)
 have k:=run_len_map w 113 a mb d c (P:=prog) (by kernel_rfl) g
 rw[k,e];rfl
theorem Ad(w:World)(r:Int)(a:Option Addr)(n cap:Nat)(C:List Int)(hC:Q.Ir w a C)(F:n=C.length)(aN:Option Addr)(m aF:Nat)(c:List (Int×Pv))(hN:Nm w aN c)(hm:m=c.length)(aK:m<=1000000):
 Calls prog 40 #[.int .i64 r,.slice a n cap,.slice aN m aF] w λe w'=>Eg w w' e r C c:=by
 by_cases H:Q.fits n r=false
 . have NN:=gW (Q.Es w r a n cap H);have s:Hid ((iu r C (nmg c)).1=1):=qx (by rw[<-F];exact H)
   clear hC F hN hm H;go_enter func40,ntmps40;go_wp2_with fail
   refine NN.o.mono ?_;rintro _ wq ⟨rfl,ax⟩;rw[ax];clear ax;go_wp2_with fail
   go_ret2
   exact .inl ⟨1,by decide,s.o,rfl,Below.refl _ _⟩
 have ae:Q.fits n r=true:=by simpa using H
 have E:Hid (Q.fits C.length r=true):=by show _=_;rw[<-F];exact ae
 have LA:=gW (Q.Do w r a n cap C hC F ae);have HN:=gW F;have ag:=gW hN;have HM:=gW hm;have aC:= @run_makeMap prog;clear H ae hC F hN hm;go_enter func40,ntmps40;go_wp2_with fail
 refine LA.o.mono ?_;rintro _ w1 (⟨L,rfl,aw⟩|⟨L,pb,rfl,hM⟩)
 . have s:Hid ((iu r C (nmg c)).1=13):=oF E.o L;rw[aw];clear aw L;go_wp2_with fail
   go_ret2
   exact .inl ⟨13,by decide,s.o,rfl,Below.refl _ _⟩
 have B:Hid (jE r C=false):=L;have VM:=gW (xW hM);clear hM L LA;go_wp2_with fail
 generalize aD:((w1.alloc (.map #[] 0)).alloc (.cells #[.pointer (some ⟨pb,0,none⟩),.map (some w1.heap.size),.slice none 0 0,.slice none 0 0,.int .i64 0] 117))=w2 at *;clear aD;generalize w1.heap.size+1=b at *;obtain⟨A,mb,pc,col,hV,ak,am⟩:=VM.o;have L0:Hid (Lv w w2 b A mb r C (λ_=>none) (λ_=>none) pc col):=⟨hV,ak,am,λ_=>rfl,λk ay e=>(by cases e),λk e=>(by cases e)⟩
 clear hV ak am VM aC;go_loopw [29] (λvj wx=>∃(j:Nat)(f:Int->Option Pv)(g:Int->Option Pg)(pc col:Nat->Nat),j<=m/\vj=.int .i64 (j:Int)/\Lv w wx b A mb r C f g pc col/\ldG (ip C) g (nmg (c.drop j))=ldG (ip C) (λ_=>none) (nmg c)) (λvj _=>m-(intOf vj).toNat)
 case atStart=>exact⟨0,_,_,pc,col,an _,rfl,L0.o,by rw[eB]⟩
 case round=>
  clear L0;obtain⟨j,f,g,pc,col,hj,rfl,hL,d⟩:=hrel;have h:=gW hL;have N:=gW d;clear hL d;by_cases aB:j<m
  . have aJ:(j:Int)<(m:Int):=by omega
    have af:j<c.length:=by rw[<-HM.o];exact aB
    obtain⟨g1,aE,rfl,ad⟩:=ag.o.c j af;have ab:=gW λ(W:World)(hb:Below w.heap.size w W)(k:Nat)(u:Value)(hu:(nmc (c.getD j nm0))[k]?=some u)=>(hb.cell (p:=⟨g1,aE+j*6+k,none⟩) (block_lt_of_cell (ad k u hu))).trans (ad k u hu)
    have y:=ab.o wr h.o.b;clear ad;have MX:Hid (c.getD j nm0∈c):=by show _∈_;simp[af]
    have ED:=gW (uR af);have PX:=gW λ(W:World)(hb:Below w.heap.size w W)=>(ag.o.keep hb).p _ MX.o
    obtain⟨x,hx⟩:∃x,c.getD j nm0=x:=⟨_,rfl⟩;simp only[hx] at y ED PX ab;clear hx MX ab;obtain⟨z,p⟩:=x;have Z:=y 0 _ rfl;have n1:=y 1 _ rfl;have n2:=y 2 _ rfl;have n3:=y 3 _ rfl;have n4:=y 4 _ rfl;have n5:=y 5 _ rfl;rw[dr] at Z;have aI:g1<wr.heap.size:=block_lt_of_cell Z;clear y;have A0:=gW (al wr (.cells #[.int .i64 z,.int .i64 p.kind,.int .i64 p.level,.slice p.aI p.items.length p.cI,.slice p.aD p.data.length p.cD,.int .i64 p.next] 91));have P:=gW (h.o.keep A0.o);have T:=gW (zR _ b (ldS r C f) A mb pc col P.o.v z p (PX.o _ P.o.b).1);unfold nlv at T;have d:=N.o;rw[ED.o,qt] at d
    have D:Hid ((ip C z<=0->(iu r C (nmg c)).1=15)/\(0<ip C z->(g z).isSome=true->(iu r C (nmg c)).1=10)/\(0<ip C z->(g z).isSome=false->p.pg.check≠0->(iu r C (nmg c)).1=p.pg.check)/\(0<ip C z->(g z).isSome=false->p.pg.check=0->ldG (ip C) (λk=>if k=z then some p.pg else g k) (nmg (c.drop (j+1)))=ldG (ip C) (λ_=>none) (nmg c))):=by
     refine⟨λk=>?_,λt v=>?_,λt v Y=>?_,λt v Y=>?_⟩
     . rw[if_pos (show ¬0<ip C z by omega)] at d
       rw[kN E.o B.o (by rw[<-d];simp),<-d]
     . rw[if_neg (λe=>e t),if_pos v] at d
       rw[kN E.o B.o (by rw[<-d];simp),<-d]
     . rw[if_neg (λe=>e t),if_neg (by rw[v];decide),if_pos Y] at d
       rw[kN E.o B.o (by rw[<-d];exact Y),<-d]
     . rw[if_neg (λe=>e t),if_neg (by rw[v];decide),if_neg (λe=>e Y)] at d
       exact d
    clear d N ED;go_wp2_with fail
    refine T.o.mono ?_;rintro _ w4 (⟨er,K,rfl,i,ah⟩|⟨U,h2,h3,rfl,ay,aG,V,av,ao⟩)
    . have L4:=gW (bt P.o.b ah)
      have s:Hid ((iu r C (nmg c)).1=er):=by
       have hs:=h.o.sm z;have q:(ldS r C f).X.P.count z=ip C z:=mD r C z;rw[q] at i;have aA:((ldS r C f).X.f z).isSome=(f z).isSome:=rfl;rw[aA,<-hs] at i;show _=_;by_cases t:0<ip C z
       . rw[if_neg (λe=>e t)] at i
         by_cases v:(g z).isSome=true
         . rw[if_pos v] at i;rw[<-i];exact D.o.2.1 t v
         . rw[if_neg v] at i;rw[<-i];exact D.o.2.2.1 t (by simpa using v) (by rw[i];exact K)
       . rw[if_pos t] at i;rw[<-i];exact D.o.1 (by omega)
      have az:=gW K;have e9:((er:Int) != 0)=true:=by simpa using K
      clear K i ah T Z n1 n2 n3 n4 n5 D;go_wp2_with fail
      go_ret2
      exact .inl ⟨er,az.o,s.o,rfl,L4.o⟩
    . have q:(ldS r C f).X.P.count z=ip C z:=mD r C z;rw[q] at U;have L4:=gW (P.o.laid V U h3 av ao);have E3:Hid (ldG (ip C) (λk=>if k=z then some p.pg else g k) (nmg (c.drop (j+1)))=ldG (ip C) (λ_=>none) (nmg c)):=D.o.2.2.2 U (by rw[h.o.sm z];exact h2) h3
      clear U h2 h3 V av ao q T Z n1 n2 n3 n4 n5 D;go_wp2_with fail
      go_roundw
      case rel=>exact⟨j+1,_,_,pc,aG,by omega,by go_num,L4.o,E3.o⟩
      case measure=>simp[intOf];omega
  . obtain rfl:j=m:=by omega
    have G:Hid (ldG (ip C) (λ_=>none) (nmg c)=(0,g)):=by
     show _=_;rw[<-N.o,dw (by rw[<-HM.o];exact ai _)]
     rfl
    clear N;have O:=gW (zn (r:=r) (f:=f) (g:=g) B.o h.o.p h.o.sm);have M:=gW (dr2 wr)
    have TA:=gW (show ∀W:World,Below wr.heap.size wr W->Calls prog 77 #[.pointer (some ⟨A,0,none⟩),.int .i64 4] W λe w'=>e=.returned (.int .i64 ((((Q.Po.start r C).pages 4).length:Nat):Int))/\Below W.heap.size W w' from λW hb=>by
     obtain⟨ac,cc,aa,ca,V⟩:=h.o.v.keep hb;exact Q.yW W A _ _ V.pool 4)
    have S:Hid (∀W:World,Below wr.heap.size wr W->W.cell? ⟨b,0,none⟩=some (.pointer (some ⟨A,0,none⟩))/\W.cell? ⟨b,1,none⟩=some (.map (some mb))/\∀ty,(Builtin.len_ #[113] ty #[.map (some mb)]).run prog W=.ok (.int .i64 (((kh C.length f).length:Nat):Int)) W):=λW hb=>⟨(h.o.v.keep hb).c0,(h.o.v.keep hb).c1,λty=>(h.o.v.keep hb).mlen h.o.p ty⟩
    obtain⟨J,aq⟩:∃J,((Q.Po.start r C).pages 4).length=J:=⟨_,rfl⟩;obtain⟨I,ap⟩:∃I,(kh C.length f).length=I:=⟨_,rfl⟩;simp only[aq] at TA O;simp only[ap] at S O;clear aq ap;go_upto_region 12 with fail
    refine wrd S M.o λhHeld=>?_
    refine tkd 0 1 2 3 ?_;refine tkd 4 5 6 7 ?_;refine tk 8 ?_;refine tw 9 λaH hK=>?_
    go_simp;refine(TA.o _ M.o).mono ?_;rintro _ w5 ⟨rfl,aj⟩;have B5:=gW (bt M.o aj);clear aj;go_wp2_with fail
    refine hK.o _ _ (S.o _ B5.o) (λhHeld=>?_)
    refine tk 10 ?_;refine td ?_;have R:=gW (h.o.keep B5.o);clear hHeld S TA M;by_cases hl:I<J
    . have dl:decide ((I:Int)<(J:Int))=true:=au (by omega)
      have s:Hid ((iu r C (nmg c)).1=9):=by
       refine pD E.o B.o (by rw[G.o]) ?_
       rw[G.o];have:=O.o;rw[au hl] at this;exact this.symm
      go_wp2_with fail
      go_ret2
      exact .inl ⟨9,by decide,s.o,rfl,R.o.b⟩
    . have dl:decide ((I:Int)<(J:Int))=false:=ar (by omega)
      have s:Hid (iu r C (nmg c)=(0,g)):=by
       have:=O.o;rw[ar hl] at this;have k:=ux (l:=nmg c) E.o B.o (by rw[G.o]) (by rw[G.o];exact this.symm)
       rw[G.o] at k;exact k
      go_wp2_with fail
      go_ret2
      exact .inr ⟨by rw[s.o],b,f,rfl,⟨A,mb,pc,col,R.o.v,R.o.b,R.o.c⟩,by rw[s.o];exact h.o.g,h.o.s,h.o.p⟩
theorem mV{l e:TypeId}{sz bs:Nat}{z:Value}(H:prog.underlying l=some (.slice e))(S:(prog.info? e).map (λi=>(i.zero,i.size,i.bytes))=some (some z,sz,bs))(L:z.cells.size=sz)(q:0<sz){w:World}{m:Array Oper}{o:Oper}{a:Act}{K:Act->World->Prop}{p:Exit->Act->World->Prop}{E:Prop}(P:o.guard=none)(s x:Operand)
 (D:o.op=.call {callee:=.builtin .append,args:=#[s,x],argTypes:=#[l,l]}) (b:Option Addr) (n cap:Nat) (C:List Value) (G:a.eval s=.slice b n cap) (v:Q.Gw e sz w b cap n C)
 (k:Addr) (c:Nat) (xs:List Value) (J:a.eval x=.slice (some k) 1 c) (A:xs.length=1*sz) (y:∀j u,xs[j]?=some u->w.cell? (k.add j)=some u) (t:∀u∈xs,u.oneCell'=true) (B:n+1<=maxLen) (R:(n+1)*bs<=140737488355328)
 (h:∀g f d,Q.Gw e sz d (some ⟨g,0,none⟩) f (n+1) (C++xs)->New w b (some ⟨g,0,none⟩)->But (Q.InA b) w d->K (a.put o.dst (.slice (some ⟨g,0,none⟩) (n+1) f)) d):
 if Region.wanted o (yielded m a.tmps)=true then Oper.wp prog o a w K p else E:=by
 have I:Region.wanted o (yielded m a.tmps)=true:=by simp[Region.wanted,P]
 rw[if_pos I];obtain⟨g,f,d,F,M,N,O⟩:=r8 H S L q w o.type b n cap C v k c xs A y t B R;unfold Oper.wp execOp;simp only[D,resolve,invoke,builtin,dS,dT,dy,dM,bO,dW,G,J,F];exact h g f d M N O
end Go.Proofs.YteaogidofpfmmaaGreat
