import Derived.Test.YteaogidofpfmmaaGreatWaB12
set_option linter.all false
set_option maxHeartbeats 32000000
set_option maxRecDepth 16000
namespace Go.Proofs.YteaogidofpfmmaaGreat
open Go.Proofs.Tryz
open Go.RowKit
variable {cs:Array Value}{r x:Int}{B:List Bool}{C:List Int}{P:List Pv}{cB cap g gB i iB iC iL n rb w1s:Nat}{aB:Option Addr}{D:Rd}{t:TypeId}{W W' w wx wy:World}
theorem Gb(w:World)(n r:Int)(h:Q.fits n r=false):Calls prog 121 #[.int .i64 n,.int .i64 r] w λe l=>e=.returned (.tuple #[.pointer none,.int .i64 1])/\l=w:=by
 have b:=ix (pT w r);unfold Q.fits at h;by_cases a:n<1
 . have c:decide (n<1)=true:=ar a;clear h;go_enter func121,ntmps121;go_wp2_with fail
   go_ret2
   exact⟨rfl,rfl⟩
 . by_cases d:65536<n
   . have c:decide (n<1)=false:=ah a;have k:decide (65536<n)=true:=ar d;clear h;go_enter func121,ntmps121;go_wp2_with fail
     go_ret2
     exact⟨rfl,rfl⟩
   . have c:decide (n<1)=false:=ah a;have k:decide (65536<n)=false:=ah d
     have f:(decide (2<=r)&&decide (r<65536))=false:=by
      rw[ar (show 1<=n by omega),ar (show n<=65536 by omega)] at h
      simpa using h
     rw[f] at b;clear h f;go_enter func121,ntmps121;go_wp2_with fail
     refine b.o.mono ?_;rintro _ m ⟨rfl,j⟩;rw[j];clear j;go_wp2_with fail
     go_ret2
     exact⟨rfl,rfl⟩
def Rd.Fresh(D:Rd)(r:Int)(i:Nat):Prop:=D.R=r/\D.C=List.replicate i 0/\D.L=List.replicate i false/\D.P=List.replicate i Pv.zero/\D.aA=none/\D.nA=0/\D.cA=0/\D.fl=0/\D.hush=false
theorem Rn.start(r:Int):Rn w (w.alloc (.cells #[.int .i64 r,.slice none 0 0,.slice none 0 0,.slice none 0 0,.slice none 0 0,.int .i64 0,.bool false] 109)) w.heap.size ⟨r,none,0,[],none,0,[],none,0,[],none,0,0,0,false⟩:=
 ⟨bj _ _,Q.Gw.nil _ _ _,Q.Gw.nil _ _ _,Q.Gw.nil _ _ _,λp a=>absurd a (cf),λp a=>absurd a (cf),am _,New.none _ _,New.none _ _,New.none _ _,al _ _⟩
theorem lF{v:Value}(h:W.heap[g]?=some (.cells #[v] t (0,0))):∀j u,[v][j]?=some u->W.cell? ((⟨g,0,none⟩:Addr).add j)=some u:=by
 intro j u a;rw[Addr.add_mid,de,ai _ _ _ _ _ _ h,<-a];simp
theorem zero_add{W:World}{g:Nat}{t:TypeId}(h:W.heap[g]?=some (.cells #[.int .i64 0,.int .i64 0,.slice none 0 0,.slice none 0 0,.int .i64 0] t (0,0))):∀j u,Pv.zero.cs.toList[j]?=some u->W.cell? ((⟨g,0,none⟩:Addr).add j)=some u:=by
 intro j u a;rw[Addr.add_mid,de,ai _ _ _ _ _ _ h,<-a];simp[Pv.zero,Pv.cs]
theorem DM:∀u∈Pv.zero.cs.toList,u.oneCell'=true:=by
 intro u a;simp[Pv.zero,Pv.cs] at a;rcases a with rfl|rfl|rfl<;>rfl
theorem oJ{α:Type}(i:Nat)(x:α):List.replicate i x++[x]=List.replicate (i+1) x:=by rw[List.replicate_succ']
theorem DC(w:World)(n:Nat)(r:Int)(h:Q.fits n r=true):Calls prog 121 #[.int .i64 (n:Int),.int .i64 r] w λe w'=>∃(rb:Nat)(D:Rd),e=.returned (.tuple #[.pointer (some ⟨rb,0,none⟩),.int .i64 0])/\Rn w w' rb D/\D.Fresh r n:=by
 have RA:=ix (pT w r);unfold Q.fits at h;simp only[ce,cZ] at h;rw[ar (show 2<=r by omega),ar (show r<65536 by omega)] at RA
 have d1:decide ((n:Int)<1)=false:=ah (by omega)
 have d2:decide ((65536:Int)<(n:Int))=false:=ah (by omega)
 have h6:n<=65536:=by omega
 have S0:=ix (Rn.start (w:=w) r);clear h;go_enter func121,ntmps121;go_wp2_with fail
 refine RA.o.mono ?_;rintro _ wq ⟨rfl,ae⟩;rw[ae];clear ae;go_wp2_with fail
 generalize (w.alloc (.cells #[.int .i64 r,.slice none 0 0,.slice none 0 0,.slice none 0 0,.slice none 0 0,.int .i64 0,.bool false] 109))=w1 at *;go_loopw [7] (λvi wx=>∃(i:Nat)(D:Rd),i<=n/\vi=.int .i64 (i:Int)/\Rn w wx w.heap.size D/\D.Fresh r i) (λvi _=>n-(intOf vi).toNat)
 case atStart=>exact⟨0,_,an _,rfl,S0.o,rfl,rfl,rfl,rfl,rfl,rfl,rfl,rfl,rfl⟩
 case round=>
  clear S0;obtain⟨i,D,hi,rfl,hR,R⟩:=hrel;have Z:=ix hR;have FF:=ix R;have LC:D.C.length=i:=by rw[R.2.1,dt]
  have LL:D.L.length=i:=by rw[R.2.2.1,dt]
  have LP:D.P.length=i:=by rw[R.2.2.2.1,dt]
  have l:=ix LC;have m:=ix LL;have p:=ix LP;clear hR R LC LL LP;by_cases aq:i<n
  . have ap:(i:Int)<(n:Int):=by omega
    have ab:i+1<=maxLen:=by unfold maxLen;omega
    obtain⟨U,E,F,G,M,N,O⟩:=Z.o.cells;rw[l.o] at E;rw[m.o] at F;rw[p.o] at G;have Y:=Z.o.lb;have q:=ix (al wr (.cells #[Value.int .i64 0] 3));have s:=ix (bj wr (.cells #[Value.int .i64 0] 3));have a:=ix (Z.o.keep q.o);have f:=ix a.o.cr;rw[l.o] at f;go_wp2_with (at_builtin;refine jq underlying22 li rfl (by decide) rfl _ _ rfl D.aC i D.cC (Q.vi D.C) rfl f.o ⟨wr.heap.size,0,none⟩ 1 [Value.int .i64 0] rfl rfl (lF s.o) (λag u=>by rw[aZ.1 u];rfl) ab (by omega) ?_)
    intro gC cC d v A k;have J:=ix (a.o.apC (x:=0) (by rw[l.o];exact v) A k)
    rw[l.o] at J;have j:d.heap[w.heap.size]?=some (.cells D.box 109 (0,0)):=k.same a.o.box (λ⟨ac,T,e⟩=>by obtain⟨ad,S⟩:=a.o.cr.blk T;exact jd a.o.box S (by decide) e.symm)
    have y1:d.cell? ⟨w.heap.size,1,none⟩=some (.slice D.aC i D.cC):=by rw[ai _ _ _ _ _ _ j];show some (Value.slice D.aC D.C.length D.cC)=_;rw[l.o]
    have z1:d.frozen? ⟨w.heap.size,1,none⟩=false:=by simp[World.frozen?,j]
    clear v A k j U E F G M N O a f s q Y;go_upto_region 8 with fail
    generalize V:(d.setCell ⟨w.heap.size,1,none⟩ (.slice (some ⟨gC,0,none⟩) (i+1) cC))=w6 at *;clear V y1 z1;obtain⟨b,H⟩:∃X,({D with aC:=some ⟨gC,0,none⟩,cC:=cC,C:=D.C++[0]}:Rd)=X:=⟨_,rfl⟩;rw[H] at J;have am:Hid (b.C.length=i+1):=by show _=_;rw[<-H];show(D.C++[0]).length=_;rw[af,l.o];rfl
    have m:Hid (b.L.length=i):=by show _=_;rw[<-H];exact m.o
    have p:Hid (b.P.length=i):=by show _=_;rw[<-H];exact p.o
    replace l:=am
    have aj:=ix H;clear H;obtain⟨U,E,F,G,M,N,O⟩:=J.o.cells;rw[l.o] at E;rw[m.o] at F;rw[p.o] at G;have Y:=J.o.lb;have q:=ix (al w6 (.cells #[Value.bool false] 4));have s:=ix (bj w6 (.cells #[Value.bool false] 4));have a:=ix (J.o.keep q.o);have f:=ix a.o.lr;rw[m.o] at f;go_wp2_with (at_builtin;refine jq underlying105 uF rfl (by decide) rfl _ _ rfl b.aL i b.cL (vbl b.L) rfl f.o ⟨w6.heap.size,0,none⟩ 1 [Value.bool false] rfl rfl (lF s.o) (λag u=>by rw[aZ.1 u];rfl) ab (by omega) ?_)
    intro gL cL d v A k;have K:=ix (a.o.apL (x:=false) (by rw[m.o];exact v) A k)
    rw[m.o] at K;have j:d.heap[w.heap.size]?=some (.cells b.box 109 (0,0)):=k.same a.o.box (λ⟨ac,T,e⟩=>by obtain⟨ad,S⟩:=a.o.lr.blk T;exact jd a.o.box S (by decide) e.symm)
    have y2:d.cell? ⟨w.heap.size,2,none⟩=some (.slice b.aL i b.cL):=by rw[ai _ _ _ _ _ _ j];show some (Value.slice b.aL b.L.length b.cL)=_;rw[m.o]
    have z2:d.frozen? ⟨w.heap.size,2,none⟩=false:=by simp[World.frozen?,j]
    clear v A k j U E F G M N O a f s q Y;go_upto_region 9 with fail
    generalize V:(d.setCell ⟨w.heap.size,2,none⟩ (.slice (some ⟨gL,0,none⟩) (i+1) cL))=w7 at *;clear V y2 z2;obtain⟨c,I⟩:∃X,({b with aL:=some ⟨gL,0,none⟩,cL:=cL,L:=b.L++[false]}:Rd)=X:=⟨_,rfl⟩;rw[I] at K;have l:Hid (c.C.length=i+1):=by show _=_;rw[<-I];exact l.o
    have ao:Hid (c.L.length=i+1):=by show _=_;rw[<-I];show(b.L++[false]).length=_;rw[af,m.o];rfl
    have p:Hid (c.P.length=i):=by show _=_;rw[<-I];exact p.o
    replace m:=ao
    have ak:=ix I;clear I;obtain⟨U,E,F,G,M,N,O⟩:=K.o.cells;rw[l.o] at E;rw[m.o] at F;rw[p.o] at G;have Y:=K.o.lb;have q:=ix (al w7 (.cells #[.int .i64 0,.int .i64 0,.slice none 0 0,.slice none 0 0,.int .i64 0] 77));have s:=ix (bj w7 (.cells #[.int .i64 0,.int .i64 0,.slice none 0 0,.slice none 0 0,.int .i64 0] 77));have a:=ix (K.o.keep q.o);have f:=ix a.o.pr;rw[p.o] at f;go_wp2_with (at_builtin;refine jq underlying106 Ap rfl (by decide) rfl _ _ rfl c.aP i c.cP (vpg c.P) rfl f.o ⟨w7.heap.size,0,none⟩ 1 Pv.zero.cs.toList rfl rfl (zero_add s.o) DM ab (by omega) ?_)
    intro gP cP d v A k;have y:=ix (a.o.apP (x:=Pv.zero) (Pn.zero _ _) (.inr rfl) (by rw[p.o];exact v) A k)
    rw[p.o] at y;have j:d.heap[w.heap.size]?=some (.cells c.box 109 (0,0)):=k.same a.o.box (λ⟨ac,T,e⟩=>by obtain⟨ad,S⟩:=a.o.pr.blk T;exact jd a.o.box S (by decide) e.symm)
    have y3:d.cell? ⟨w.heap.size,3,none⟩=some (.slice c.aP i c.cP):=by rw[ai _ _ _ _ _ _ j];show some (Value.slice c.aP c.P.length c.cP)=_;rw[p.o]
    have z3:d.frozen? ⟨w.heap.size,3,none⟩=false:=by simp[World.frozen?,j]
    clear v A k j U E F G M N O a f s q Y;go_upto_region 6 with fail
    generalize V:(d.setCell ⟨w.heap.size,3,none⟩ (.slice (some ⟨gP,0,none⟩) (i+1) cP))=w8 at *;clear V y3 z3;obtain⟨D3,aa⟩:∃X,({c with aP:=some ⟨gP,0,none⟩,cP:=cP,P:=c.P++[Pv.zero]}:Rd)=X:=⟨_,rfl⟩;rw[aa] at y
    have F3:Hid (D3.Fresh r (i+1)):=by
     show Rd.Fresh _ _ _;obtain⟨q1,q2,q3,q4,q5,q6,q7,q8,q9⟩:=FF.o;rw[<-aa,<-ak.o,<-aj.o];refine⟨q1,?_,?_,?_,q5,q6,q7,q8,q9⟩
     . show D.C++[0]=_;rw[q2];exact oJ i 0
     . show D.L++[false]=_;rw[q3];exact oJ i false
     . show D.P++[Pv.zero]=_;rw[q4];exact oJ i Pv.zero
    clear aa;go_wp2_with fail
    go_roundw
    case rel=>exact⟨i+1,D3,by omega,by go_num,y.o,F3.o⟩
    case measure=>simp[intOf];omega
  . obtain rfl:i=n:=by omega
    go_wp2_with fail
    go_ret2
    exact⟨w.heap.size,D,rfl,Z.o,FF.o⟩
theorem Q.Gw.setc{e:TypeId}{sz:Nat}{C:List Value}(h:Q.Gw e sz w (some ⟨g,0,none⟩) cap n C)(k:Nat)(v:Value):Q.Gw e sz (w.setCell ⟨g,k,none⟩ v) (some ⟨g,0,none⟩) cap n (C.set k v):=by
 have a:=h.length;rcases h.cases with⟨h0,_⟩|⟨g',cur,h0,hg,h1,h2,h3,h4⟩
 . cases h0
 . cases h0;refine Q.Gw.mk (by rw[da];exact a) (aE _ _ _ _ _ _ hg) h1 h2 (by simpa using h3) ?_
   rw[e7,List.take_set,h4]
theorem Q.Gw.free{e:TypeId}{sz:Nat}{C:List Value}(h:Q.Gw e sz w (some ⟨g,0,none⟩) cap n C)(k:Nat):w.frozen? ⟨g,k,none⟩=false:=by
 rcases h.cases with⟨h0,_⟩|⟨g',cur,h0,hg,_⟩
 . cases h0
 . cases h0;exact bq _ _ _ _ _ hg
theorem ry(l:List Int)(k:Nat)(x:Int):(Q.vi l).set k (.int .i64 x)=Q.vi (l.set k x):=by simp[Q.vi,ij]
theorem xG(l:List Bool)(k:Nat)(x:Bool):(vbl l).set k (.bool x)=vbl (l.set k x):=by simp[vbl,ij]
theorem Q.Gw.there5(h:Q.Gw 77 5 w (some ⟨g,0,none⟩) cap P.length (vpg P)){k:Nat}(hk:k<P.length):w.there g (k*5) 5:=by
 rcases h.cases with⟨h0,_⟩|⟨g',cur,h0,hg,h1,h2,h3,h4⟩
 . cases h0
 . cases h0;intro j a;have b:P.length*5<=cap*5:=fd _ h1;constructor
   . rw[ai _ _ _ _ _ _ hg];simp[show k*5+j<cur.size by omega]
   . exact bq _ _ _ _ _ hg
theorem Q.Gw.setp(h:Q.Gw 77 5 w (some ⟨g,0,none⟩) cap P.length (vpg P))(k:Nat)(v:Pv):Q.Gw 77 5 (w.setCells g (k*5) v.cs.toList) (some ⟨g,0,none⟩) cap (P.set k v).length (vpg (P.set k v)):=by
 rcases h.cases with⟨h0,_⟩|⟨g',cur,h0,hg,h1,h2,h3,h4⟩
 . cases h0
 . cases h0;obtain⟨E,p,q,s⟩:=py g 77 v.cs.toList w (k*5) cur hg;have y:v.cs.toList.length=5:=rfl;refine Q.Gw.mk (ot _) p (by rw[da];exact h1) h2 (by rw[q];exact h3) ?_
   rw[da];apply List.ext_getElem?;intro i;have A:P.length*5<=cap*5:=fd _ h1;by_cases a:i<P.length*5
   . have m:(vpg P)[i]?=cur[i]?:=by rw[<-h4,d5,if_pos a];simp
     have b:i/5<P.length:=by omega
     have d:i=i/5*5+i%5:=by omega
     have f:i%5<5:=ip _ (by decide)
     rw[d5,if_pos a,Array.getElem?_toList,s i (by omega),y]
     have l:(vpg (P.set k v))[i]?=((P.set k v).getD (i/5) Pv.zero).cs.toList[i%5]?:=by
      conv=>lhs;rw[d]
      exact pB (P.set k v) (i/5) (i%5) (by rw[da];exact b) f
     have j:(vpg P)[i]?=(P.getD (i/5) Pv.zero).cs.toList[i%5]?:=by
      conv=>lhs;rw[d]
      exact pB P (i/5) (i%5) b f
     rw[l];by_cases c:k*5<=i/\i<k*5+5
     . have e:i/5=k:=by omega
       rw[if_pos c,e,show i-k*5=i%5 by omega]
       simp[show k<P.length by omega]
     . have e:¬k=i/5:=by omega
       rw[if_neg c,<-m,j];simp[fU e]
   . rw[d5,if_neg a,ep (by rw[ot,da];omega)]
theorem Rn.but1(h:Rn w W rb D)(b:But (λk=>k=g) W W')(A:w.heap.size<=g)(c:W.heap[g]?=some (.cells cs t (0,0)))(f:t≠109)(j:t≠5)(l:t≠89):
 W'.heap[rb]?=some (.cells D.box 109 (0,0))/\(∀p,Pn w W p->Pn w W' p)/\Below w.heap.size w W'/\∀{e:TypeId}{sz:Nat}{a:Option Addr}{cap n:Nat}{C:List Value},e≠t->Q.Gw e sz W a cap n C->Q.Gw e sz W' a cap n C:=by
 refine⟨b.same h.box (λe=>jd h.box c (λe=>f e.symm) e),λp s=>s.but b (λk e=>⟨t,cs,by rw[e];exact c,j,l⟩),?_,λq d=>d.but b (λy v e=>by obtain⟨E,m⟩:=d.blk v;exact jd m c q e)⟩
 exact((But.ofBelow (S:=λk=>k=g) h.b).trans b (λ_ _ e=>e)).below (λk hk e=>by omega)
theorem Rn.setC(h:Rn w W rb D)(a:D.aC=some ⟨g,0,none⟩)(k:Nat)(x:Int):Rn w (W.setCell ⟨g,k,none⟩ (.int .i64 x)) rb {D with C:=D.C.set k x}:=by
 obtain⟨m,j⟩:=h.cr.blk a;have bs:But (λk=>k=g) W (W.setCell ⟨g,k,none⟩ (.int .i64 x)):=(But.refl (λk=>k=g) W).setCell (p:=⟨g,k,none⟩) (λ_=>rfl) _
 obtain⟨d,e,f,b⟩:=h.but1 bs (jL h.nC a) j (by decide) (by decide) (by decide)
 have c:=h.cr;rw[a] at c;refine⟨?_,?_,b (by decide) h.lr,b (by decide) h.pr,λp l=>e p (h.pn p l),h.ps,h.nb,h.nC,h.nl,h.np,f⟩
 . rw[d];unfold Rd.box;rw[da]
 . show Q.Gw _ _ _ D.aC _ (D.C.set k x).length _;rw[a,da,<-ry];exact c.setc k _
theorem Rn.setL(h:Rn w W rb D)(a:D.aL=some ⟨g,0,none⟩)(k:Nat)(x:Bool):Rn w (W.setCell ⟨g,k,none⟩ (.bool x)) rb {D with L:=D.L.set k x}:=by
 obtain⟨m,j⟩:=h.lr.blk a;have bs:But (λk=>k=g) W (W.setCell ⟨g,k,none⟩ (.bool x)):=(But.refl (λk=>k=g) W).setCell (p:=⟨g,k,none⟩) (λ_=>rfl) _
 obtain⟨d,e,f,b⟩:=h.but1 bs (jL h.nl a) j (by decide) (by decide) (by decide)
 have c:=h.lr;rw[a] at c;refine⟨?_,b (by decide) h.cr,?_,b (by decide) h.pr,λp l=>e p (h.pn p l),h.ps,h.nb,h.nC,h.nl,h.np,f⟩
 . rw[d];unfold Rd.box;rw[da]
 . show Q.Gw _ _ _ D.aL _ (D.L.set k x).length _;rw[a,da,<-xG];exact c.setc k _
theorem Rn.setP(h:Rn w W rb D)(b:D.aP=some ⟨g,0,none⟩)(k:Nat)(x:Pv)(m:Pn w W x)(q:x.pg.check=0\/x=Pv.zero):Rn w (W.setCells g (k*5) x.cs.toList) rb {D with P:=D.P.set k x}:=by
 obtain⟨s,l⟩:=h.pr.blk b;have bs:=kR g x.cs.toList W (k*5);obtain⟨f,c,j,d⟩:=h.but1 bs (jL h.np b) l (by decide) (by decide) (by decide)
 have e:=h.pr;rw[b] at e;refine⟨?_,d (by decide) h.cr,d (by decide) h.lr,?_,λp a=>?_,λp a=>?_,h.nb,h.nC,h.nl,h.np,j⟩
 . rw[f];unfold Rd.box;rw[da]
 . show Q.Gw _ _ _ D.aP _ (D.P.set k x).length _;rw[b];exact e.setp k x
 . rcases gz a with a|rfl
   . exact c p (h.pn p a)
   . exact c p m
 . rcases gz a with a|rfl
   . exact h.ps p a
   . exact q
theorem Rn.foreign(h:Rn w W rb D)(b:But (λk=>k=g) W W')(j:w.heap.size<=g)(q:W.heap[g]?=some (.cells cs 4 (0,0)))(l:∀x,D.aL=some x->x.block≠g):Rn w W' rb D:=by
 obtain⟨c,d,f,a⟩:=h.but1 b j q (by decide) (by decide) (by decide)
 exact⟨c,a (by decide) h.cr,h.lr.but b (λy s e=>l y s e),a (by decide) h.pr,λp m=>d p (h.pn p m),h.ps,h.nb,h.nC,h.nl,h.np,f⟩
def ldG(cnt:Int->Int):(Int->Option Pg)->List (Int×Pg)->Nat×(Int->Option Pg)
 |f,[]=>(0,f)
 |f,(n,p)::T=>if ¬0<cnt n then (15,f) else if (f n).isSome=true then (10,f) else if p.check≠0 then (p.check,f) else ldG cnt (λk=>if k=n then some p else f k) T
def iO(C:List Int)(z:Int):Int:=if 1<=z/\z<=C.length then C.getD (z-1).toNat 0 else 0
def nmc(x:Int×Pv):List Value:=.int .i64 x.1::x.2.cs.toList
def nm0:Int×Pv:=(0,Pv.zero)
structure Nm(w:World)(a:Option Addr)(L:List (Int×Pv)):Prop where
 c:∀j,j<L.length->∃g off,a=some ⟨g,off,none⟩/\∀k u,(nmc (L.getD j nm0))[k]?=some u->w.cell? ⟨g,off+j*6+k,none⟩=some u
 p:∀x∈L,Pi w x.2/\N64 x.1
theorem Nm.keep{f:World}{a:Option Addr}{L:List (Int×Pv)}(h:Nm w a L)(hb:Below w.heap.size w f):Nm f a L:=⟨λj m=>by
 obtain⟨g,l,e,b⟩:=h.c j m;exact⟨g,l,e,λk u c=>(hb.cell (p:=⟨g,l+j*6+k,none⟩) (block_lt_of_cell (b k u c))).trans (b k u c)⟩,λx d=>⟨(h.p x d).1.keep hb,(h.p x d).2⟩⟩
def nmg(L:List (Int×Pv)):List (Int×Pg):=L.map λx=>(x.1,x.2.pg)
theorem pm{α:Type}(C:List α)(n i:Nat)(d:α)(c:C.length=n)(hi:i<n)(x:α)(b:C.getD i d=x)(z:α):(C.take i++List.replicate (n-i) z).set i x=C.take (i+1)++List.replicate (n-(i+1)) z:=by
 have a:(C.take i).length=i:=by rw[dm];omega
 have e:C[i]'(by omega)=x:=by rw[<-b];simp[show i<C.length by omega]
 rw[eZ _ _ (by omega),a,eC,bZ (by omega:i<C.length),e,show n-i=(n-(i+1))+1 by omega,List.replicate_succ,gA,aR]
 rfl
structure La(w wx:World)(w1s rb:Nat)(r:Int)(C:List Int)(n i iL iB:Nat)(D:Rd)(aB:Option Addr)(cB:Nat):Prop where
 q:Rn w wx rb D
 hR:D.R=r
 hC:D.C=C.take i++List.replicate (n-i) 0
 hL:D.L=(C.map λc=>decide (0<c)).take iL++List.replicate (n-iL) false
 hP:D.P=List.replicate n Pv.zero
 ha:D.aA=none/\D.nA=0/\D.cA=0/\D.fl=0/\D.hush=false
 lw:∀x,D.aL=some x->x.block<w1s
 hb:Q.Gw 4 1 wx aB cB iB (vbl (List.replicate iB false))
 bn:∀x,aB=some x->w1s<=x.block
 ok:∀j,j<iB->0<=C.getD j 0/\C.getD j 0<=r
 sz:w.heap.size<=w1s/\w1s<=wx.heap.size
theorem La.keep(h:La w wx w1s rb r C n i iL iB D aB cB)(hb:Below wx.heap.size wx wy):La w wy w1s rb r C n i iL iB D aB cB:=
 ⟨h.q.keep hb,h.hR,h.hC,h.hL,h.hP,h.ha,h.lw,h.hb.keep hb,h.bn,h.ok,⟨h.sz.1,ay h.sz.2 hb.size⟩⟩
theorem La.lens(h:La w wx w1s rb r C n i iL iB D aB cB)(a:C.length=n)(hi:i<=n)(b:iL<=n):D.C.length=n/\D.L.length=n/\D.P.length=n:=by
 rw[h.hC,h.hL,h.hP];simp;omega
theorem La.c1{a:Nat}(h:La w W w1s rb r C n i iL iB D aB cB)(d:C.length=n)(hi:i<n)(b:D.aC=some ⟨a,0,none⟩)(f:C.getD i 0=x):
 La w (W.setCell ⟨a,i,none⟩ (.int .i64 x)) w1s rb r C n (i+1) iL iB {D with C:=D.C.set i x} aB cB:=by
 obtain⟨m,l⟩:=h.q.cr.blk b;refine⟨h.q.setC b i x,h.hR,?_,h.hL,h.hP,h.ha,h.lw,?_,h.bn,h.ok,⟨h.sz.1,?_⟩⟩
 . show D.C.set i _=_;rw[h.hC];exact pm C n i 0 d hi _ f 0
 . exact h.hb.but ((But.refl (λk=>k=a) W).setCell (p:=⟨a,i,none⟩) (λ_=>rfl) (.int .i64 x)) (λy j e=>by
    obtain⟨c2,c⟩:=h.hb.blk j;exact jd c l (by decide) e)
 . exact ay h.sz.2 ((But.refl (λk=>k=a) W).setCell (p:=⟨a,i,none⟩) (λ_=>rfl) (.int .i64 x)).size
theorem La.c2{a:Nat}(h:La w W w1s rb r C n iC i iB D aB cB)(c:C.length=n)(hi:i<n)(b:D.aL=some ⟨a,0,none⟩)(d:C.getD i 0=x):
 La w (W.setCell ⟨a,i,none⟩ (.bool (decide (0<x)))) w1s rb r C n iC (i+1) iB {D with L:=D.L.set i (decide (0<x))} aB cB:=by
 have j:=h.lw _ b;refine⟨h.q.setL b i _,h.hR,h.hC,?_,h.hP,h.ha,h.lw,?_,h.bn,h.ok,⟨h.sz.1,?_⟩⟩
 . show D.L.set i _=_;rw[h.hL];refine pm _ n i false (by rw[bM];exact c) hi _ ?_ false
   rw[<-d];simp[show i<C.length by omega]
 . exact h.hb.but ((But.refl (λk=>k=a) W).setCell (p:=⟨a,i,none⟩) (λ_=>rfl) _) (λy f e=>by
    have:=h.bn y f;simp only at j;omega)
 . exact ay h.sz.2 ((But.refl (λk=>k=a) W).setCell (p:=⟨a,i,none⟩) (λ_=>rfl) (.bool (decide (0<x)))).size
theorem La.c3{q:World}{c:Nat}(h:La w W w1s rb r C n iC iL i D aB cB)(G:0<=C.getD i 0/\C.getD i 0<=r)(s:Q.Gw 4 1 q (some ⟨g,0,none⟩) c (i+1) (vbl (List.replicate i false)++[.bool false]))(A:New W aB (some ⟨g,0,none⟩))(b:But (Q.InA aB) W q):
 La w q w1s rb r C n iC iL (i+1) D (some ⟨g,0,none⟩) c:=by
 have m:∀{t:TypeId}{k:Nat}{cs:Array Value},W.heap[k]?=some (.cells cs t (0,0))->t≠4->¬Q.InA aB k:=λhk F ⟨y,a,e⟩=>by
  obtain⟨f,d⟩:=h.hb.blk a;exact jd hk d F e.symm
 have v:w1s<=g:=by
  rcases A ⟨g,0,none⟩ rfl with⟨z,l,e⟩|e
  . have e:z.block=g:=e;rw[<-e];exact h.bn z l
  . exact ay h.sz.2 e
 refine⟨⟨b.same h.q.box (m h.q.box (by decide)),h.q.cr.but b (λy a=>by obtain⟨f,d⟩:=h.q.cr.blk a;exact m d (by decide)),h.q.lr.but b (λy a ⟨z,l,e⟩=>?_),h.q.pr.but b (λy a=>by obtain⟨f,d⟩:=h.q.pr.blk a;exact m d (by decide)),λp E=>(h.q.pn p E).but b (λk ⟨y,a,e⟩=>?_),h.q.ps,h.q.nb,h.q.nC,h.q.nl,h.q.np,?_⟩,h.hR,h.hC,h.hL,h.hP,h.ha,h.lw,by rw[uB,oJ] at s;exact s,λy a=>by cases a;exact v,λj H=>?_,⟨h.sz.1,ay h.sz.2 b.size⟩⟩
 . have:=h.lw y a;have:=h.bn z l;omega
 . obtain⟨f,d⟩:=h.hb.blk a;exact⟨4,f,by rw[<-e];exact d,by decide,by decide⟩
 . exact((But.ofBelow (S:=Q.InA aB) h.q.b).trans b (λ_ _ e=>e)).below (λk hk ⟨y,a,e⟩=>by have:=h.bn y a;have:=h.sz.1;omega)
 . by_cases e:j=i
   . rw[e];exact G
   . exact h.ok j (by omega)
def mw(a:Option Addr)(k:Nat):Bool:=match a with
 |none=>false
 |some x=>decide (x.block=k)
theorem kP{a:Option Addr}{k:Nat}:mw a k=true↔∃x,a=some x/\x.block=k:=by
 cases a with
 |none=>simp[mw]
 |some x=>simp[mw]
def lJ(w wx:World)(rb:Nat)(D:Rd)(k:Nat):Nat:=if k=rb then 1 else if mw D.aC k=true then 2 else if mw D.aL k=true then 3 else if mw D.aP k=true then 4 else if w.heap.size<=k/\k<wx.heap.size then 6 else 0
theorem Rn.rq(h:Rn w wx rb D)(R:D.L.length=D.C.length)(S:D.P.length=D.C.length)(O:D.C.length<=65536):Rq wx rb D (lJ w wx rb D)/\∀k,lJ w wx rb D k≠0->w.heap.size<=k:=by
 have H:∀{t:TypeId}{k:Nat}{cs:Array Value},wx.heap[k]?=some (.cells cs t (0,0))->t≠109->k≠rb:=λhk f=>jd hk h.box f
 have j:∀{t e:TypeId}{sz k:Nat}{cs:Array Value}{a:Option Addr}{cap n:Nat}{C:List Value},Q.Gw e sz wx a cap n C->wx.heap[k]?=some (.cells cs t (0,0))->t≠e->¬mw a k=true:=λm hk f e=>by
  obtain⟨x,b,e⟩:=kP.1 e;obtain⟨s,d⟩:=m.blk b;exact jd hk d f e.symm
 have N:∀{t:TypeId}{k:Nat}{cs:Array Value},wx.heap[k]?=some (.cells cs t (0,0))->t≠109->t≠3->t≠4->t≠77->w.heap.size<=k->lJ w wx rb D k=6:=λhk y A E F G=>by
  unfold lJ;rw[if_neg (H hk y),if_neg (j h.cr hk A),if_neg (j h.lr hk E),if_neg (j h.pr hk F),if_pos ⟨G,(ae.1 hk).1⟩]
 have low:∀k,lJ w wx rb D k≠0->w.heap.size<=k/\k<wx.heap.size:=λk hk=>by
  unfold lJ at hk;by_cases y:k=rb
  . rw[y];exact⟨h.nb,h.lb⟩
  . rw[if_neg y] at hk;by_cases A:mw D.aC k=true
    . obtain⟨x,b,e⟩:=kP.1 A;rw[<-e];exact⟨jL h.nC b,h.cr.lt b⟩
    . rw[if_neg A] at hk;by_cases E:mw D.aL k=true
      . obtain⟨x,b,e⟩:=kP.1 E;rw[<-e];exact⟨jL h.nl b,h.lr.lt b⟩
      . rw[if_neg E] at hk;by_cases F:mw D.aP k=true
        . obtain⟨x,b,e⟩:=kP.1 F;rw[<-e];exact⟨jL h.np b,h.pr.lt b⟩
        . rw[if_neg F] at hk;by_cases G:w.heap.size<=k/\k<wx.heap.size
          . exact G
          . rw[if_neg G] at hk;exact absurd rfl hk
 have V:∀{a:Option Addr}{c:Nat}{L:List Iv},Jw wx a c L->New w none a->∀x,a=some x->¬ ¬(lJ w wx rb D x.block=6):=λT I x b e=>by
  rcases T.cases with⟨h0,_⟩|⟨g,s,h0,m,_⟩
  . rw[h0] at b;cases b
  . rw[h0] at b;cases b;exact e (N m (by decide) (by decide) (by decide) (by decide) (jL I h0))
 have M:∀{a:Option Addr}{c:Nat}{l:List Nat},Rw wx a c l->New w none a->∀x,a=some x->¬ ¬(lJ w wx rb D x.block=6):=λU I x b e=>by
  rcases U.cases with⟨h0,_⟩|⟨g,s,h0,m,_⟩
  . rw[h0] at b;cases b
  . rw[h0] at b;cases b;exact e (N m (by decide) (by decide) (by decide) (by decide) (jL I h0))
 refine⟨⟨h.box,h.cr,h.lr,h.pr,λp K v J=>?_,h.ps,if_pos rfl,λx b=>?_,λx b=>?_,λx b=>?_,λk hk=>(low k hk).2,R,S,O⟩,λk hk=>(low k hk).1⟩
 . have q:=h.pn p K;exact Pn.pi (v:=w) ⟨q.it.but J (V q.it q.itn),q.itn,q.d.but J (M q.d q.dn),q.dn,λt f=>⟨(q.fr t f).1.but J (M (q.fr t f).1 (q.fr t f).2.1),(q.fr t f).2⟩,q.dist,q.d8,q.ns,q.nk,q.nl,q.nn⟩ (ay (mC (h.ps p K)).2 (by decide))
 . obtain⟨s,d⟩:=h.cr.blk b;unfold lJ;rw[if_neg (H d (by decide)),if_pos (kP.2 ⟨x,b,rfl⟩)]
 . obtain⟨s,d⟩:=h.lr.blk b;unfold lJ;rw[if_neg (H d (by decide)),if_neg (j h.cr d (by decide)),if_pos (kP.2 ⟨x,b,rfl⟩)]
 . obtain⟨s,d⟩:=h.pr.blk b;unfold lJ;rw[if_neg (H d (by decide)),if_neg (j h.cr d (by decide)),if_neg (j h.lr d (by decide)),if_pos (kP.2 ⟨x,b,rfl⟩)]
structure Lb(w wx:World)(w1s rb:Nat)(r:Int)(C:List Int)(n:Nat)(D:Rd)(aB:Option Addr)(cB:Nat)(B:List Bool)(g:Int->Option Pg):Prop where
 q:Rn w wx rb D
 hR:D.R=r
 hC:D.C=C
 hL:D.L=C.map λc=>decide (0<c)
 hP:D.P.length=n
 hg:∀i,i<n->(D.P.getD i Pv.zero).pg=(g ((i:Int)+1)).getD Pv.zero.pg
 ha:D.aA=none/\D.nA=0/\D.cA=0/\D.fl=0/\D.hush=false
 lw:∀x,D.aL=some x->x.block<w1s
 hb:Q.Gw 4 1 wx aB cB n (vbl B)
 hB:B.length=n
 hs:∀i,i<n->B.getD i false=(g ((i:Int)+1)).isSome
 bn:∀x,aB=some x->w1s<=x.block
 sz:w.heap.size<=w1s/\w1s<=wx.heap.size
theorem Lb.keep{g:Int->Option Pg}(h:Lb w wx w1s rb r C n D aB cB B g)(hb:Below wx.heap.size wx wy):Lb w wy w1s rb r C n D aB cB B g:=
 ⟨h.q.keep hb,h.hR,h.hC,h.hL,h.hP,h.hg,h.ha,h.lw,h.hb.keep hb,h.hB,h.hs,h.bn,⟨h.sz.1,ay h.sz.2 hb.size⟩⟩
theorem La.lb(h:La w wx w1s rb r C n n n n D aB cB)(b:C.length=n):Lb w wx w1s rb r C n D aB cB (List.replicate n false) (λ_=>none):=by
 refine⟨h.q,h.hR,?_,?_,?_,λi a=>?_,h.ha,h.lw,h.hb,by simp,λi a=>?_,h.bn,h.sz⟩
 . rw[h.hC,eC,<-b,du];simp
 . rw[h.hL,eC,<-b,eU (by rw[bM];omega)];simp
 . rw[h.hP];simp
 . rw[h.hP];simp[a]
 . simp[a]
theorem Lb.cnt{g:Int->Option Pg}(h:Lb w wx w1s rb r C n D aB cB B g)(z:Int):D.count z=iO C z:=by
 unfold Rd.count Rd.has iO;rw[h.hC];by_cases a:1<=z/\z<=C.length
 . rw[if_pos a,if_pos (by simp[a])]
 . rw[if_neg a,if_neg (by simpa using a)]
theorem Lb.rq{g:Int->Option Pg}(h:Lb w wx w1s rb r C n D aB cB B g)(a:C.length=n)(b:n<=65536):Rq wx rb D (lJ w wx rb D)/\∀k,lJ w wx rb D k≠0->w.heap.size<=k:=
 h.q.rq (by rw[h.hL,h.hC,bM]) (by rw[h.hP,h.hC,a]) (by rw[h.hC,a];exact b)
theorem Lb.mid{g:Int->Option Pg}(h:Lb w wx w1s rb r C n D (some ⟨gB,0,none⟩) cB B g):Rn w (wx.setCell ⟨gB,i,none⟩ (.bool true)) rb D:=by
 obtain⟨c,b⟩:=h.hb.blk rfl
 exact h.q.foreign ((But.refl (λk=>k=gB) wx).setCell (p:=⟨gB,i,none⟩) (λ_=>rfl) _) (ay h.sz.1 (h.bn _ rfl)) b (λy a e=>by
  have:=h.lw y a;have:=h.bn _ rfl;simp only at this;omega)
theorem Lb.lay{b:World}{c:Nat}{g:Int->Option Pg}(h:Lb w wx w1s rb r C n D (some ⟨gB,0,none⟩) cB B g)(hi:i<n)(q:D.aP=some ⟨c,0,none⟩)(x:Pv){a:World}(d:a=wx.setCell ⟨gB,i,none⟩ (.bool true))(hb:Below a.heap.size a b)(H:Pn a b x)(G:x.pg.check=0):
 ∃v,Lb w (b.setCells c (i*5) x.cs.toList) w1s rb r C n v (some ⟨gB,0,none⟩) cB (B.set i true) (λk=>if k=(i:Int)+1 then some x.pg else g k):=by
 obtain⟨T,N⟩:=h.hb.blk rfl
 have I:∀y,D.aL=some y->y.block≠gB:=λy l e=>by
  have:=h.lw y l;have:=h.bn _ rfl;simp only at this;omega
 have A:But (λk=>k=gB) wx a:=by rw[d];exact(But.refl (λk=>k=gB) wx).setCell (p:=⟨gB,i,none⟩) (λ_=>rfl) _
 have J:=h.q.foreign A (ay h.sz.1 (h.bn _ rfl)) N I;have m:Q.Gw 4 1 a (some ⟨gB,0,none⟩) cB n (vbl (B.set i true)):=by rw[d,<-xG];exact h.hb.setc i _
 have s:=J.keep hb;have L:a.heap.size=wx.heap.size:=by rw[d];simp[World.setCell]
 have M:Pn w b x:=H.pre (by rw[L];exact ay h.sz.1 h.sz.2)
 have K:=s.setP q i x M (.inl G);have O:i<D.P.length:=by rw[h.hP];exact hi
 refine⟨{D with P:=D.P.set i x},K,h.hR,h.hC,h.hL,?_,λj f=>?_,h.ha,h.lw,?_,?_,λj f=>?_,h.bn,⟨h.sz.1,?_⟩⟩
 . show(D.P.set i x).length=n;rw[da,h.hP]
 . show((D.P.set i x).getD j Pv.zero).pg=_;by_cases e:j=i
   . subst e;rw[if_pos rfl];simp[O]
   . rw[if_neg (by omega),<-h.hg j f]
     simp[fU (Ne.symm e)]
 . refine(m.keep hb).but (kR c x.cs.toList b (i*5)) (λy l e=>?_)
   cases l;obtain⟨c1,E⟩:=(m.keep hb).blk rfl;obtain⟨c2,F⟩:=s.pr.blk q;exact jd E F (by decide) e
 . rw[da,h.hB]
 . by_cases e:j=i
   . subst e;rw[if_pos rfl];simp[h.hB,hi]
   . rw[if_neg (by omega),<-h.hs j f]
     simp[fU (Ne.symm e)]
 . have R:=hb.size;have S:=(kR c x.cs.toList b (i*5)).size;have:=h.sz.2;omega
def j8(r:Int)(C:List Int):Bool:=C.any λc=>decide (c<0)||decide (r<c)
def lf(C:List Int)(g:Int->Option Pg):Bool:=(List.range C.length).any λi=>decide (0<C.getD i 0)&&(g ((i:Int)+1)).isNone
def iP(r:Int)(C:List Int)(l:List (Int×Pg)):Nat×(Int->Option Pg):=
 if Q.fits C.length r=false then (1,λ_=>none) else if j8 r C=true then (13,λ_=>none)
 else if (ldG (iO C) (λ_=>none) l).1≠0 then ldG (iO C) (λ_=>none) l
 else if lf C (ldG (iO C) (λ_=>none) l).2=true then (9,(ldG (iO C) (λ_=>none) l).2) else (0,(ldG (iO C) (λ_=>none) l).2)
theorem xW(hi:i<C.length)(h:C.getD i 0<0\/r<C.getD i 0):j8 r C=true:=by
 unfold j8;rw[fT];refine⟨C.getD i 0,by simp[hi],?_⟩
 simp only[eF,cZ];exact h
theorem Fz(h:∀j,j<C.length->0<=C.getD j 0/\C.getD j 0<=r):j8 r C=false:=by
 unfold j8;rw[fb];intro c d;obtain⟨i,a,e⟩:=go d;have:=h i a;have b:C.getD i 0=c:=by simp[a,e]
 rw[b] at this;simp only[eF,cZ];omega
theorem BM{g:Int->Option Pg}(hi:i<C.length)(a:0<C.getD i 0)(b:(g ((i:Int)+1)).isSome=false):lf C g=true:=by
 unfold lf;rw[fT];refine⟨i,dB.2 hi,?_⟩;rw[ar a];simpa using b
theorem DH{C:List Int}{g:Int->Option Pg}(h:∀i,i<C.length->0<C.getD i 0->(g ((i:Int)+1)).isSome=true):lf C g=false:=by
 unfold lf;rw[fb];intro i a;have:=h i (dB.1 a);simp only[ce,cZ];rintro⟨k1,k2⟩;have:=this k1;cases e:g ((i:Int)+1) with
 |none=>rw[e] at this;cases this
 |some v=>rw[e] at k2;cases k2
theorem vy{L:List (Int×Pv)}{j:Nat}(a:j<L.length):nmg (L.drop j)=((L.getD j nm0).1,(L.getD j nm0).2.pg)::nmg (L.drop (j+1)):=by
 unfold nmg;have e:L.getD j nm0=L[j]:=by simp[a]
 rw[df a,e,bT]
def Ge(w w':World)(e:Ending)(r:Int)(C:List Int)(NL:List (Int×Pv)):Prop:=
 (∃er:Nat,er≠0/\(iP r C (nmg NL)).1=er/\e=.returned (.tuple #[.pointer none,.int .i64 ((er:Nat):Int)])/\Below w.heap.size w w')\/
 ((iP r C (nmg NL)).1=0/\∃(rb:Nat)(D:Rd),e=.returned (.tuple #[.pointer (some ⟨rb,0,none⟩),.int .i64 0])/\Rn w w' rb D/\D.R=r/\D.C=C/\(D.L=C.map λc=>decide (0<c))/\D.P.length=C.length/\(∀i,i<C.length->(D.P.getD i Pv.zero).pg=((iP r C (nmg NL)).2 ((i:Int)+1)).getD Pv.zero.pg)/\D.aA=none/\D.nA=0/\D.cA=0/\D.fl=0/\D.hush=false)
theorem qQ{l:List (Int×Pg)}(h:Q.fits C.length r=false):(iP r C l).1=1:=by unfold iP;rw[if_pos h]
theorem po{l:List (Int×Pg)}(h:Q.fits C.length r=true)(hb:j8 r C=true):(iP r C l).1=13:=by unfold iP;rw[if_neg (by rw[h];decide),if_pos hb]
theorem lD{l:List (Int×Pg)}(h:Q.fits C.length r=true)(hb:j8 r C=false)(a:(ldG (iO C) (λ_=>none) l).1≠0):(iP r C l).1=(ldG (iO C) (λ_=>none) l).1:=by unfold iP;rw[if_neg (by rw[h];decide),if_neg (by rw[hb];decide),if_pos a]
theorem qa{l:List (Int×Pg)}(h:Q.fits C.length r=true)(hb:j8 r C=false)(a:(ldG (iO C) (λ_=>none) l).1=0)(b:lf C (ldG (iO C) (λ_=>none) l).2=true):(iP r C l).1=9:=by unfold iP;rw[if_neg (by rw[h];decide),if_neg (by rw[hb];decide),if_neg (by rw[a];simp),if_pos b]
theorem uS{l:List (Int×Pg)}(h:Q.fits C.length r=true)(hb:j8 r C=false)(a:(ldG (iO C) (λ_=>none) l).1=0)(b:lf C (ldG (iO C) (λ_=>none) l).2=false):iP r C l=(0,(ldG (iO C) (λ_=>none) l).2):=by unfold iP;rw[if_neg (by rw[h];decide),if_neg (by rw[hb];decide),if_neg (by rw[a];simp),if_neg (by rw[b];decide)]
theorem qM(cnt:Int->Int)(f:Int->Option Pg)(n:Int)(p:Pg)(T:List (Int×Pg)):ldG cnt f ((n,p)::T)=if ¬0<cnt n then (15,f) else if (f n).isSome=true then (10,f) else if p.check≠0 then (p.check,f) else ldG cnt (λk=>if k=n then some p else f k) T:=rfl
theorem Ax(w:World)(r:Int)(a:Option Addr)(n cap:Nat)(C:List Int)(hC:Q.Ir w a C)(hn:n=C.length)(aN:Option Addr)(m bq:Nat)(f:List (Int×Pv))(hN:Nm w aN f)(hm:m=f.length)(bz:m<=1000000):
 Calls prog 74 #[.int .i64 r,.slice a n cap,.slice aN m bq] w λe w'=>Ge w w' e r C f:=by
 by_cases hf:Q.fits n r=false
 . have NN:=ix (Gb w (n:Int) r hf);have s:Hid ((iP r C (nmg f)).1=1):=qQ (by rw[<-hn];exact hf)
   clear hC hn hN hm hf;go_enter func74,ntmps74;go_wp2_with fail
   refine NN.o.mono ?_;rintro _ wq ⟨rfl,y⟩;rw[y];clear y;go_wp2_with fail
   go_ret2
   exact .inl ⟨1,by decide,s.o,rfl,Below.refl _ _⟩
 have ae:Q.fits n r=true:=by simpa using hf
 have h6:n<=65536/\1<=n:=by unfold Q.fits at ae;simp only[ce,cZ] at ae;omega
 have bB:2<=r/\r<65536:=by unfold Q.fits at ae;simp only[ce,cZ] at ae;omega
 have NY:=ix (DC w n r ae);have FT:Hid (Q.fits C.length r=true):=by show _=_;rw[<-hn];exact ae
 have HC:=ix hC;have E:=ix hn;have aM:=ix hN;have HM:=ix hm;clear hf ae hC hn hN hm;go_enter func74,ntmps74;go_wp2_with fail
 refine NY.o.mono ?_;rintro _ w1 ⟨rb,D0,rfl,av,aW⟩
 have L0:Hid (La w w1 w1.heap.size rb r C n 0 0 0 D0 none 0):=by
  obtain⟨q1,q2,q3,q4,q5,q6,q7,q8,q9⟩:=aW;exact⟨av,q1,by rw[q2];simp,by rw[q3];simp,q4,⟨q5,q6,q7,q8,q9⟩,λx v=>av.lr.lt v,Q.Gw.nil _ _ _,λx v=>(by cases v),λj hj=>absurd hj (dA _),⟨av.b.size,am _⟩⟩
 clear av aW NY;generalize w1.heap.size=w1s at L0;go_wp2_with fail
 go_loopw [10,11] (λvb vi wx=>∃(i:Nat)(D:Rd)(aB:Option Addr)(cB:Nat),i<=n/\vb=.slice aB i cB/\vi=.int .i64 (i:Int)/\La w wx w1s rb r C n i i i D aB cB) (λ_ vi _=>n-(intOf vi).toNat)
 case atStart=>exact⟨0,D0,none,0,an _,rfl,rfl,L0.o⟩
 case round=>
  clear L0;obtain⟨i,D,aB,cB,hi,rfl,rfl,hL⟩:=hrel;have b:=ix hL;clear hL;by_cases V:i<n
  . have bv:(i:Int)<(n:Int):=by omega
    have ap:i<C.length:=by rw[<-E.o];exact V
    obtain⟨bc,oc,rfl,cA⟩:=(HC.o.keep b.o.q.b).at ap;obtain⟨x,v⟩:∃x,C.getD i 0=x:=⟨_,rfl⟩;have M:=ix v;rw[v] at cA;clear v;by_cases ab:x<0
    . have dx:decide (x<0)=true:=ar ab;have s:Hid ((iP r C (nmg f)).1=13):=po FT.o (xW ap (.inl (by rw[M.o];exact ab)))
      go_wp2_with fail
      go_ret2
      exact .inl ⟨13,by decide,s.o,rfl,b.o.q.b⟩
    have dx:decide (x<0)=false:=ah ab;by_cases aJ:r<x
    . have bf:decide (r<x)=true:=ar aJ;have s:Hid ((iP r C (nmg f)).1=13):=po FT.o (xW ap (.inr (by rw[M.o];exact aJ)))
      go_wp2_with fail
      go_ret2
      exact .inl ⟨13,by decide,s.o,rfl,b.o.q.b⟩
    have bf:decide (r<x)=false:=ah aJ;obtain⟨l1,l2,l3⟩:=b.o.lens E.o.symm hi hi;obtain⟨I,aw⟩:∃g,D.aC=some ⟨g,0,none⟩:=b.o.q.cr.addr (by omega)
    obtain⟨G,a3⟩:∃g,D.aL=some ⟨g,0,none⟩:=b.o.q.lr.addr (by omega)
    obtain⟨x0,x1,x2,x3,f1,f2,f3⟩:=b.o.q.cells;rw[aw,l1] at x1;rw[a3,l2] at x2;have bu:bc<wr.heap.size:=block_lt_of_cell cA;have c:=ix (dr2 wr);have h:=ix ((b.o.keep c.o).c1 E.o.symm V aw M.o);have S1:Hid (wr.drew.cell? ⟨rb,1,none⟩=some (.slice (some ⟨I,0,none⟩) n D.cC)/\wr.drew.cell? ⟨bc,oc+i,none⟩=some (.int .i64 x)):=⟨x1,cA⟩
    have aS:Hid (wr.drew.cell? ⟨I,i,none⟩=some (.int .i64 (D.C.getD i 0))/\wr.drew.frozen? ⟨I,i,none⟩=false):=by
     have N:=(b.o.keep c.o).q.cr;rw[aw,l1] at N;exact⟨N.cell (by simp[Q.vi,show i<D.C.length by omega]),N.free i⟩
    obtain⟨H,au⟩:∃az,({D with C:=D.C.set i x}:Rd)=az:=⟨_,rfl⟩;rw[au] at h;have ak:H.aL=some ⟨G,0,none⟩:=by rw[<-au];exact a3
    have X:Hid (H.aC=some ⟨I,0,none⟩/\H.C.length=n/\H.cC=D.cC/\H.cL=D.cL/\H.L.length=n):=by
     rw[<-au];exact⟨aw,by show(D.C.set i x).length=n;rw[da,l1],rfl,rfl,l2⟩
    clear au x0 x3 f1 f2 f3 x1 x2;go_upto_region 10 with fail
    refine be (S:=λW=>W.cell? ⟨rb,1,none⟩=some (.slice (some ⟨I,0,none⟩) n D.cC)/\W.cell? ⟨bc,oc+i,none⟩=some (.int .i64 x)) (by kernel_rfl) (S1.o) (λhHeld=>?_)
    refine tkd 0 1 2 3 ?_;refine tkd 4 5 6 7 ?_;refine tkb 8 9 ?_;refine tw 10 λay hK=>?_
    obtain⟨k0,k1⟩:=aS.o;go_simp
    have S2:Hid ((wr.drew.setCell ⟨I,i,none⟩ (.int .i64 x)).cell? ⟨rb,1,none⟩=some (.slice (some ⟨I,0,none⟩) n D.cC)/\(wr.drew.setCell ⟨I,i,none⟩ (.int .i64 x)).cell? ⟨bc,oc+i,none⟩=some (.int .i64 x)):=by
     obtain⟨y0,y1,Y,y3,_⟩:=h.o.q.cells;obtain⟨b1,o1,e1,c1⟩:=(HC.o.keep h.o.q.b).at ap;cases e1;rw[M.o] at c1;rw[X.o.1,X.o.2.1,X.o.2.2.1] at y1;exact⟨y1,c1⟩
    refine hK.o _ _ S2.o (λhHeld=>?_)
    clear k0 k1;refine td ?_;clear S1 aS hHeld c;have aj:wr.drew.setCell ⟨I,i,none⟩ (.int .i64 x)=(wr.setCell ⟨I,i,none⟩ (.int .i64 x)).drew:=rfl;rw[aj] at h S2;clear aj;generalize bn:(wr.setCell ⟨I,i,none⟩ (.int .i64 x)).drew=T at *;clear bn;obtain⟨y0,y1,Y,y3,_⟩:=h.o.q.cells;rw[ak,X.o.2.2.2.2,X.o.2.2.2.1] at Y;have ba:=S2.o.2;have aC:=ix (dr2 T);have L2:=ix ((h.o.keep aC.o).c2 E.o.symm V ak M.o);have S3:Hid (T.drew.cell? ⟨rb,2,none⟩=some (.slice (some ⟨G,0,none⟩) n D.cL)/\T.drew.cell? ⟨bc,oc+i,none⟩=some (.int .i64 x)):=⟨Y,ba⟩
    have aT:Hid (T.drew.cell? ⟨G,i,none⟩=some (.bool (H.L.getD i false))/\T.drew.frozen? ⟨G,i,none⟩=false):=by
     have N:=(h.o.keep aC.o).q.lr;rw[ak] at N;exact⟨N.cell (by simp[vbl,show i<H.L.length by rw[X.o.2.2.2.2];exact V]),N.free i⟩
    obtain⟨D2,aF⟩:∃az,({H with L:=H.L.set i (decide (0<x))}:Rd)=az:=⟨_,rfl⟩;rw[aF] at L2
    have K2:Hid (D2.aL=some ⟨G,0,none⟩/\D2.L.length=n/\D2.cL=D.cL):=by
     rw[<-aF];exact⟨ak,by show(H.L.set i _).length=n;rw[da,X.o.2.2.2.2],X.o.2.2.2.1⟩
    clear aF y0 y1 y3 Y S2 ak;go_upto_region 11 with fail
    refine be (S:=λW=>W.cell? ⟨rb,2,none⟩=some (.slice (some ⟨G,0,none⟩) n D.cL)/\W.cell? ⟨bc,oc+i,none⟩=some (.int .i64 x)) (by kernel_rfl) (S3.o) (λhHeld=>?_)
    refine tkd 0 1 2 3 ?_;refine tkd 4 5 6 7 ?_;refine tkb 8 9 ?_;refine tk 10 ?_;refine tw 11 λay hK=>?_
    obtain⟨k0,k1⟩:=aT.o;go_simp
    have S4:Hid ((T.drew.setCell ⟨G,i,none⟩ (.bool (decide (0<x)))).cell? ⟨rb,2,none⟩=some (.slice (some ⟨G,0,none⟩) n D.cL)/\(T.drew.setCell ⟨G,i,none⟩ (.bool (decide (0<x)))).cell? ⟨bc,oc+i,none⟩=some (.int .i64 x)):=by
     obtain⟨y0,y1,Y,y3,_⟩:=L2.o.q.cells;obtain⟨b1,o1,e1,c1⟩:=(HC.o.keep L2.o.q.b).at ap;cases e1;rw[M.o] at c1;rw[K2.o.1,K2.o.2.1,K2.o.2.2] at Y;exact⟨Y,c1⟩
    refine hK.o _ _ S4.o (λhHeld=>?_)
    clear k0 k1;refine td ?_;clear S3 aT hHeld S4 h aC;have aj:T.drew.setCell ⟨G,i,none⟩ (.bool (decide (0<x)))=(T.setCell ⟨G,i,none⟩ (.bool (decide (0<x)))).drew:=rfl;rw[aj] at L2;clear aj;generalize bp:(T.setCell ⟨G,i,none⟩ (.bool (decide (0<x)))).drew=w3 at *;clear bp;have A0:=ix (al w3 (.cells #[.bool false] 4));have X0:=ix (bj w3 (.cells #[.bool false] 4));have A:=ix (L2.o.keep A0.o);have G3:=ix A.o.hb;have bm:i+1<=maxLen:=by unfold maxLen;omega
    go_wp2_with (at_builtin;refine jq underlying105 uF rfl (by decide) rfl _ _ rfl aB i cB (vbl (List.replicate i false)) rfl G3.o ⟨w3.heap.size,0,none⟩ 1 [.bool false] rfl rfl (lF X0.o) (λu O=>by rw[aZ.1 O];rfl) bm (by omega) ?_)
    intro gB bb w5 hG aY hB;have L5:=ix (A.o.c3 (by rw[M.o];omega) hG aY hB)
    clear hG aY hB A G3 X0 A0 L2;go_wp2_with fail
    go_roundw
    case rel=>exact⟨i+1,D2,some ⟨gB,0,none⟩,bb,by omega,rfl,by go_num,L5.o⟩
    case measure=>simp[intOf];omega
  . obtain rfl:i=n:=by omega
    have aP:=ix (b.o.lb E.o.symm);have BC:Hid (j8 r C=false):=Fz (λj hj=>b.o.ok j (by rw[E.o];exact hj))
    clear b;go_wp2_with fail
    go_loopw [12] (λvj wx=>∃(j:Nat)(D:Rd)(B:List Bool)(g:Int->Option Pg),j<=m/\vj=.int .i64 (j:Int)/\Lb w wx w1s rb r C i D aB cB B g/\ldG (iO C) g (nmg (f.drop j))=ldG (iO C) (λ_=>none) (nmg f)) (λvj _=>m-(intOf vj).toNat)
    case atStart=>exact⟨0,D,_,_,an _,rfl,aP.o,by rw[eH]⟩
    case round=>
     clear aP;obtain⟨j,D,B,g,hj,rfl,hL,d⟩:=hrel;have b:=ix hL;have EE:=ix d;clear hL d;by_cases V:j<m
     . have bw:(j:Int)<(m:Int):=by omega
       have aI:j<f.length:=by rw[<-HM.o];exact V
       obtain⟨F,J,rfl,aD⟩:=aM.o.c j aI;have aA:=ix λ(W:World)(hb:Below w.heap.size w W)(k:Nat)(u:Value)(O:(nmc (f.getD j nm0))[k]?=some u)=>(hb.cell (p:=⟨F,J+j*6+k,none⟩) (block_lt_of_cell (aD k u O))).trans (aD k u O)
       have cN:=aA.o wr b.o.q.b;clear aD;have MX:Hid (f.getD j nm0∈f):=by show _∈_;simp[aI]
       have ED:=ix (vy aI);have PX:=ix λ(W:World)(hb:Below w.heap.size w W)=>(aM.o.keep hb).p _ MX.o
       obtain⟨x,v⟩:∃x,f.getD j nm0=x:=⟨_,rfl⟩;simp only[v] at cN ED PX aA;clear v MX;obtain⟨z,p⟩:=x;have K:=ix (mE wr rb D _ (b.o.rq E.o.symm h6.1).1 z);rw[b.o.cnt z] at K;have d:=EE.o;rw[ED.o] at d;have n0:=cN 0 _ rfl;rw[dp] at n0;have U:Hid (∀W:World,Below w.heap.size w W->∀(k:Nat)(u:Value),p.cs.toList[k]?=some u->W.cell? ⟨F,J+j*6+(k+1),none⟩=some u):=λW hb k u O=>aA.o W hb (k+1) u O
       have ac:Hid (∀k u,p.cs.toList[k]?=some u->wr.cell? ⟨F,J+j*6+(k+1),none⟩=some u):=λk u O=>cN (k+1) u O
       have aE:F<wr.heap.size:=block_lt_of_cell n0;clear cN;by_cases R:0<iO C z
       . rw[ar R] at K
         have bD:1<=z/\z<=i:=by
          unfold iO at R;split at R
          . rename_i aq;rw[<-E.o] at aq;exact aq
          . omega
         obtain⟨k,hk⟩:∃k:Nat,z=(k:Int)+1:=⟨(z-1).toNat,by omega⟩
         subst hk;have ax:k<i:=by omega
         obtain⟨gB,aH⟩:∃gg,aB=some ⟨gg,0,none⟩:=b.o.hb.addr (by omega)
         subst aH;have Z:wr.cell? ⟨gB,k,none⟩=some (.bool (B.getD k false)):=b.o.hb.cell (by simp[vbl,b.o.hB,ax])
         have bg:wr.frozen? ⟨gB,k,none⟩=false:=b.o.hb.free k;rw[b.o.hs k ax] at Z;have bC:(k:Int)+1-1=(k:Int):=by omega
         have bE:(k:Int)<(i:Int):=by omega
         have aV:gB<wr.heap.size:=block_lt_of_cell Z;rw[qM] at d;rw[if_neg (λaq=>aq R)] at d
         by_cases hg:(g ((k:Int)+1)).isSome=true
         . rw[if_pos hg] at d;rw[hg] at Z;have s:Hid ((iP r C (nmg f)).1=10):=by show _=_;rw[lD FT.o BC.o (by rw[<-d];simp),<-d]
           have BB:=ix b.o.q.b;clear d R b EE;go_wp2_with fail
           refine K.o.mono ?_;rintro _ wq ⟨rfl,y⟩;rw[y];clear y;go_wp2_with fail
           go_ret2
           exact .inl ⟨10,by decide,s.o,rfl,BB.o⟩
         . rw[if_neg hg] at d;have bi:(g ((k:Int)+1)).isSome=false:=by simpa using hg
           rw[bi] at Z;have CK:=ix (zd wr p (PX.o wr b.o.q.b).1);have q0:=ac.o 0 _ rfl;have q1:=ac.o 1 _ rfl;have q2:=ac.o 2 _ rfl;have q3:=ac.o 3 _ rfl;have q4:=ac.o 4 _ rfl;have PV:Hid (p.vl=.agg #[.int .i64 p.kind,.int .i64 p.level,.slice p.aI p.items.length p.cI,.slice p.aD p.data.length p.cD,.int .i64 p.next]):=rfl;rw[PV.o] at CK;by_cases ad:p.pg.check≠0
           . rw[if_pos ad] at d;have s:Hid ((iP r C (nmg f)).1=p.pg.check):=by show _=_;rw[lD FT.o BC.o (by rw[<-d];exact ad),<-d]
             have BB:=ix b.o.q.b;have af:=ix ad;obtain⟨aU,a6⟩:∃a7,p.pg.check=a7:=⟨_,rfl⟩;rw[a6] at CK af s;have br:((aU:Int) != 0)=true:=by have:=af.o;simpa using this
             clear d R b EE ad a6;go_wp2_with fail
             refine K.o.mono ?_;rintro _ wq ⟨rfl,y⟩;rw[y];clear y;go_wp2_with fail
             refine CK.o.mono ?_;rintro _ w3 ⟨rfl,aa⟩;have B3:=ix (bt BB.o aa);clear aa;go_wp2_with fail
             go_ret2
             exact .inl ⟨aU,af.o,s.o,rfl,B3.o⟩
           . rw[if_neg ad] at d;have aK:p.pg.check=0:=by simpa using ad
             have E2:=ix d;have af:=ix aK;rw[aK] at CK;clear d R EE ad aK;go_wp2_with fail
             refine K.o.mono ?_;rintro _ wq ⟨rfl,y⟩;rw[y];clear y;go_wp2_with fail
             refine CK.o.mono ?_;rintro _ w3 ⟨rfl,aa⟩;have A:=ix (b.o.keep aa);have bd:=(aa.cell (p:=⟨gB,k,none⟩) aV).trans Z;have bh:w3.frozen? ⟨gB,k,none⟩=false:=A.o.hb.free k;have n3:=(aa.cell (p:=⟨F,J+j*6,none⟩) aE).trans n0;have a8:Hid (∀q u,p.cs.toList[q]?=some u->w3.cell? ⟨F,J+j*6+(q+1),none⟩=some u):=λq u O=>(aa.cell (p:=⟨F,J+j*6+(q+1),none⟩) aE).trans (ac.o q u O)
             clear aa K CK Z bg n0 ac b q0 q1 q2 q3 q4 aV aE;go_upto_region 25 with fail
             have R2:=ix (A.o.mid (i:=k));obtain⟨gP,ao⟩:∃gg,D.aP=some ⟨gg,0,none⟩:=A.o.q.pr.addr (by rw[A.o.hP];omega)
             obtain⟨y0,y1,Y,y3,_⟩:=R2.o.cells;rw[ao,A.o.hP] at y3;generalize a5:w3.setCell ⟨gB,k,none⟩ (.bool true)=w4 at *;have aO:=ix a5;clear a5 bd bh n3 a8 y0 y1 Y;have c:=ix (dr2 w4)
             have SS:Hid (∀W:World,Below w4.heap.size w4 W->W.cell? ⟨rb,3,none⟩=some (.slice (some ⟨gP,0,none⟩) i D.cP)/\W.cell? ⟨F,J+j*6+1,none⟩=some (.int .i64 p.kind)/\W.cell? ⟨F,J+j*6+2,none⟩=some (.int .i64 p.level)/\W.cell? ⟨F,J+j*6+3,none⟩=some (.slice p.aI p.items.length p.cI)/\W.cell? ⟨F,J+j*6+4,none⟩=some (.slice p.aD p.data.length p.cD)/\W.cell? ⟨F,J+j*6+5,none⟩=some (.int .i64 p.next)):=λW hb=>by
              have hw:=bt R2.o.b hb;exact⟨(hb.cell (p:=⟨rb,3,none⟩) (block_lt_of_cell y3)).trans y3,U.o W hw 0 _ rfl,U.o W hw 1 _ rfl,U.o W hw 2 _ rfl,U.o W hw 3 _ rfl,U.o W hw 4 _ rfl⟩
             have aQ:=ix (PX.o w4.drew (bt R2.o.b c.o)).1;obtain⟨sm,si⟩:=mC (p:=p) (.inl af.o);have CP:=ix (qb w4.drew p aQ.o sm.1 si sm.2);rw[PV.o] at CP;have bk:k<D.P.length:=by rw[A.o.hP];exact ax
             have a9:Hid (IntKind.i64.wrap ((k:Nat):Int)=(k:Int)):=iQ (by omega) (by omega)
             clear y3 sm si aQ;refine wrd SS c.o λhHeld=>?_
             refine tkd 0 1 2 3 ?_;refine tkd 4 5 6 7 ?_;refine tkb 8 9 ?_;refine tk 10 ?_;rw[a9.o];refine tw 11 λay hK=>?_
             go_simp;refine CP.o.mono ?_;rintro _ w5 ⟨qq,rfl,a0,bl,a2,a1⟩;have N5:=ix (a0.pre (v':=w4) (am _));have G5:=ix a2;have B5:=ix (bt c.o a1);clear a0 bl a2 a1;go_wp2_with fail
             refine hK.o _ _ (SS.o _ B5.o) (λhHeld=>?_)
             refine tk 12 ?_;obtain⟨D5,aX⟩:=A.o.lay ax ao qq aO.o.symm B5.o N5.o (by rw[G5.o];exact af.o)
             have L5:=ix aX;clear aX
             have aR:Hid (w5.there gP (k*5) 5):=by
              have N:=(R2.o.keep B5.o).pr;rw[ao] at N;exact N.there5 bk
             refine tw 13 λay hK=>?_
             rw[if_pos (by rfl)]
             refine wp_store_mid (P:=prog) 77 _ _ rfl gP (k*5) qq.cs ?hxs ?hys aR.o iV (by simp[Pv.cs,Value.oneCell']) ?_
             case hxs=>simp[Act.eval]
             case hys=>rfl
             have SE:Hid ((w5.setCells gP (k*5) qq.cs.toList).cell? ⟨rb,3,none⟩=some (.slice (some ⟨gP,0,none⟩) i D.cP)):=by
              obtain⟨bs,hc⟩:=(R2.o.keep B5.o).pr.blk ao;have bx:=(R2.o.keep B5.o).box;have b6:=(kR gP qq.cs.toList w5 (k*5)).same bx (λe=>jd bx hc (by decide) e)
              show _=_;rw[ai _ _ _ _ _ _ b6];show some (Value.slice D.aP D.P.length D.cP)=_;rw[ao,A.o.hP]
             have ag:=L5.o.q.b;refine hK.o _ _ ⟨SE.o,U.o _ ag 0 _ rfl,U.o _ ag 1 _ rfl,U.o _ ag 2 _ rfl,U.o _ ag 3 _ rfl,U.o _ ag 4 _ rfl⟩ (λhHeld=>?_)
             clear ag SE;refine td ?_;clear hHeld SS aR R2 A B5 N5 c CP aO;generalize w5.setCells gP (k*5) qq.cs.toList=w6 at *;go_wp2_with fail
             go_roundw
             case rel=>exact⟨j+1,D5,_,_,by omega,by go_num,L5.o,by rw[G5.o];exact E2.o⟩
             case measure=>simp[intOf];omega
       . rw[ah R] at K;rw[qM] at d;rw[if_pos R] at d;have s:Hid ((iP r C (nmg f)).1=15):=by show _=_;rw[lD FT.o BC.o (by rw[<-d];simp),<-d]
         have BB:=ix b.o.q.b;clear d R b EE;go_wp2_with fail
         refine K.o.mono ?_;rintro _ wq ⟨rfl,y⟩;rw[y];clear y;go_wp2_with fail
         go_ret2
         exact .inl ⟨15,by decide,s.o,rfl,BB.o⟩
     . obtain rfl:j=m:=by omega
       have E0:Hid (ldG (iO C) (λ_=>none) (nmg f)=(0,g)):=by
        show _=_;rw[<-EE.o,dw (by rw[<-HM.o];exact am _)]
        rfl
       clear EE;go_wp2_with fail
       go_loopw [15] (λvq wx=>∃q:Nat,q<=i/\vq=.int .i64 (q:Int)/\wx=wr/\∀t,t<q->0<C.getD t 0->(g ((t:Int)+1)).isSome=true) (λvq _=>i-(intOf vq).toNat)
       case atStart=>exact⟨0,an _,rfl,rfl,λt ht=>absurd ht (dA _)⟩
       case round=>
        obtain⟨q,hq,rfl,rfl,hQ⟩:=hrel;have HQ:=ix hQ;clear hQ;by_cases V:q<i
        . have bA:(q:Int)<(i:Int):=by omega
          have a4:q<C.length:=by rw[<-E.o];exact V
          obtain⟨bc,oc,rfl,cA⟩:=(HC.o.keep b.o.q.b).at a4;obtain⟨x,v⟩:∃x,C.getD q 0=x:=⟨_,rfl⟩;have M:=ix v;rw[v] at cA;clear v;obtain⟨gB,aH⟩:∃gg,aB=some ⟨gg,0,none⟩:=b.o.hb.addr (by omega)
          subst aH;have Z:wr.cell? ⟨gB,q,none⟩=some (.bool (B.getD q false)):=b.o.hb.cell (by simp[vbl,b.o.hB,V])
          rw[b.o.hs q V] at Z;obtain⟨bo,aG⟩:∃bo,(g ((q:Int)+1)).isSome=bo:=⟨_,rfl⟩;have aL:=ix aG;rw[aG] at Z;clear aG;by_cases ab:0<x
          . have dx:decide (0<x)=true:=ar ab;cases bo with
            |false=>
             have s:Hid ((iP r C (nmg f)).1=9):=qa FT.o BC.o (by rw[E0.o]) (by rw[E0.o];exact BM a4 (by rw[M.o];exact ab) aL.o)
             go_wp2_with fail
             go_ret2
             exact .inl ⟨9,by decide,s.o,rfl,b.o.q.b⟩
            |true=>
             go_wp2_with fail
             go_roundw
             case rel=>exact⟨q+1,by omega,by go_num,by first|rfl|trivial,λt ht h0=>by
              by_cases e:t=q
              . rw[e];exact aL.o
              . exact HQ.o t (by omega) h0⟩
             case measure=>simp[intOf];omega
          . have dx:decide (0<x)=false:=ah ab;go_wp2_with fail
            go_roundw
            case rel=>exact⟨q+1,by omega,by go_num,by first|rfl|trivial,λt ht h0=>by
             by_cases e:t=q
             . rw[e,M.o] at h0;exact absurd h0 ab
             . exact HQ.o t (by omega) h0⟩
            case measure=>simp[intOf];omega
        . obtain rfl:q=i:=by omega
          have s:Hid (iP r C (nmg f)=(0,g)):=by
           have k:=uS (l:=nmg f) FT.o BC.o (by rw[E0.o]) (by rw[E0.o];exact DH (λt ht h0=>HQ.o t (by rw[E.o];exact ht) h0))
           rw[E0.o] at k;exact k
          go_wp2_with fail
          go_ret2
          refine .inr ⟨by rw[s.o],rb,D,rfl,b.o.q,b.o.hR,b.o.hC,b.o.hL,by rw[b.o.hP,E.o],λt ht=>?_,b.o.ha.1,b.o.ha.2.1,b.o.ha.2.2.1,b.o.ha.2.2.2.1,b.o.ha.2.2.2.2⟩
          rw[s.o];exact b.o.hg t (by rw[E.o];exact ht)
end Go.Proofs.YteaogidofpfmmaaGreat
