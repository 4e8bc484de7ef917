import Derived.Test.YtbdkogimlbnlmaaGreatWlB19
set_option linter.all false
set_option maxHeartbeats 32000000
set_option maxRecDepth 8000
namespace Go.Proofs.YtbdkogimlbnlmaaGreat
open Go.Proofs.Tryz
open Go.RowKit
variable {s:Int}{c g i rb:Nat}{col:Nat->Nat}{a:Option Addr}{D:Rd}{t:TypeId}{W w wx wy:World}
theorem Sv.pgs{n:Nat}{s:Sn}(h:Sv w col n s):Pgs w s.aP s.P:=λt d=>by
 obtain⟨g,e⟩:=h.pr.addr (by omega)
 refine⟨g,0,e,λk u b f=>?_⟩
 have r:=h.pr;rw[e] at r;rw[bN];exact r.cell (by rw[nf s.P t k d b];exact f)
theorem Ra.at{H:List Sn}(h:Ra w rb D H col)(hi:i<H.length):∃g,D.aA=some ⟨g,0,none⟩/\w.cell? ⟨g,i*2,none⟩=some (.slice H[i].aC H[i].C.length H[i].cC)/\w.cell? ⟨g,i*2+1,none⟩=some (.slice H[i].aP H[i].P.length H[i].cP):=by
 obtain⟨g,e⟩:=h.a.ar.addr (by omega)
 have r:=h.a.ar;rw[e] at r;have b:=qS H i 0 hi (by decide)
 have d:=qS H i 1 hi (by decide)
 exact⟨g,e,r.cell (by rw[bY] at b;rw[b];rfl),r.cell (by rw[d];rfl)⟩
theorem Db(w:World)(rb:Nat)(D:Rd)(H:List Sn)(col:Nat->Nat)(h:Ra w rb D H col)(l:0<=D.fl/\D.fl<=1000000000000)(k:H.length<=1000000000000)(z:Int)(m:z<D.fl\/D.fl+(H.length:Int)<z):
 Calls prog 118 #[.pointer (some ⟨rb,0,none⟩),.int .i64 z] w λe p=>e=.returned (.bool false)/\Below w.heap.size w p:=by
 have d:=iJ (mI w rb D H col h l k);have c5:=h.c5;clear h;generalize H.length=n at *;generalize D.fl=f at *;by_cases j:z<f
 . go_enter func118,ntmps118;go_wp2_with fail
   go_ret;exact⟨rfl,Below.refl _ _⟩
 . have q:f+(n:Int)<z:=by omega
   have r:¬z<f:=j;clear m;go_enter func118,ntmps118;go_wp2_with fail
   refine d.o.mono ?_;rintro _ v ⟨rfl,hb⟩;have b:=iJ hb;clear hb;go_wp2_with fail
   go_ret;exact⟨rfl,b.o⟩
theorem yD(w:World)(rb:Nat)(D:Rd)(H:List Sn)(col:Nat->Nat)(h:Ra w rb D H col)(l:0<=D.fl/\D.fl<=1000000000000)(k:H.length<=1000000000000):
 Calls prog 118 #[.pointer (some ⟨rb,0,none⟩),.int .i64 (D.fl+(H.length:Int))] w λe m=>e=.returned (.bool true)/\Below w.heap.size w m:=by
 have d:=iJ (mI w rb D H col h l k);have c5:=h.c5;have b:Hid (∀W:World,Below w.heap.size w W->W.cell? ⟨rb,4,none⟩=some (.slice D.aA H.length D.cA)/\W.cell? ⟨rb,5,none⟩=some (.int .i64 D.fl)):=λW hb=>⟨(h.keep hb).c4,(h.keep hb).c5⟩
 clear h;generalize H.length=n at *;generalize D.fl=f at *;have x:¬f+(n:Int)<f:=by omega
 have y:f+(n:Int)-f=(n:Int):=by omega
 have q:Hid (IntKind.i64.wrap ((n:Nat):Int)=(n:Int)):=iT (by omega) (by omega)
 go_enter func118,ntmps118;go_wp2_with fail
 refine d.o.mono ?_;rintro _ p ⟨rfl,hb⟩;have j:=iJ hb;obtain⟨r,v⟩:=b.o p hb;clear hb c5 b d;go_wp2_with fail
 go_ret;exact⟨rfl,j.o⟩
def RUn(w:World)(rb:Nat)(D:Rd)(H:List Sn)(col:Nat->Nat)(i:Nat)(s:Sn)(e:Ending)(w':World):Prop:=∃(D':Rd)(col':Nat->Nat),e=.returned (.bool true)/\Ra w' rb D' (H.take i) col'/\Vf w col w' col'/\D'.Al {D with C:=s.C,P:=s.P}
theorem A6(w:World)(rb:Nat)(D:Rd)(H:List Sn)(col:Nat->Nat)(h:Ra w rb D H col)(hf:0<=D.fl/\D.fl<=1000000000000)(hH:H.length<=1000000000000)(i:Nat)(hi:i<H.length):
 Calls prog 118 #[.pointer (some ⟨rb,0,none⟩),.int .i64 (D.fl+(i:Int))] w λe w'=>RUn w rb D H col i H[i] e w':=by
 have q:=iJ (mI w rb D H col h hf hH);have c5:=h.c5;obtain⟨s,y⟩:∃s,H[i]=s:=⟨_,rfl⟩;have m:Hid (Sv w col D.C.length s):=h.a.sv s (by rw[<-y];exact eK hi)
 have V:Hid (∀(W:World)(J:Rd)(c:Nat->Nat),Ra W rb J H c->∃g,J.aA=some ⟨g,0,none⟩/\W.cell? ⟨g,i*2,none⟩=some (.slice s.aC s.C.length s.cC)/\W.cell? ⟨g,i*2+1,none⟩=some (.slice s.aP s.P.length s.cP)):=λW J c h2=>by
  have k:=h2.at hi;rw[y] at k;exact k
 obtain⟨g,eg,_⟩:=h.at hi;have l:=iJ eg;have L:=iJ h;have n6:=h.q.n6;have Y:=iJ λ(W:World)(hb:Below w.heap.size w W)=>Q.j9 W s.aC s.C.length s.cC s.C (m.o.keep hb).cr.ir rfl (by rw[m.o.nC];exact n6)
 have HI:=iJ hi;rw[y];clear h y eg;obtain⟨n,N⟩:∃n,H.length=n:=⟨_,rfl⟩;obtain⟨f,U⟩:∃f,D.fl=f:=⟨_,rfl⟩;have p:=iJ N;have HF:=iJ U;rw[U] at q c5 hf ⊢;rw[N] at q hi hH;clear N U;have h1:¬f+(i:Int)<f:=by omega
 have h2:f+(i:Int)-f=(i:Int):=by omega
 have h3:¬f+(n:Int)<f+(i:Int):=by omega
 have h4:(i:Int)<(n:Int):=by omega
 have WK:Hid (IntKind.i64.wrap ((i:Nat):Int)=(i:Int)):=iT (by omega) (by omega)
 go_enter func118,ntmps118;go_wp2_with fail
 refine q.o.mono ?_;rintro _ w1 ⟨rfl,S⟩;have I:=iJ S;have r:=iJ (L.o.keep S);have d:=r.o.c4;have d5:=r.o.c5;obtain⟨g',aa,O,R⟩:=V.o w1 D col r.o;obtain rfl:g'=g:=by have:=aa.symm.trans l.o;simpa using this
 rw[l.o,p.o] at d;rw[HF.o] at d5;clear S c5 q aa;go_wp2_with fail
 refine(Y.o _ I.o).mono ?_;rintro _ A ⟨b,c1,rfl,x⟩;have X:=iJ (bt I.o x.b);obtain⟨R3,K⟩:Hid (Ra (A.setCell ⟨rb,1,none⟩ (.slice b s.C.length c1)) rb {D with aC:=b,cC:=c1,C:=s.C} H (j6 col b 2))/\Hid (Vf w col (A.setCell ⟨rb,1,none⟩ (.slice b s.C.length c1)) (j6 col b 2)):=L.o.newC X.o x.r m.o.nC (x.n.mono (I.o).size);have R2:=iJ (L.o.keep X.o);have y1:=R2.o.q.cells.2.1;have z1:A.frozen? ⟨rb,1,none⟩=false:=bG _ _ _ _ _ R2.o.q.box;clear x d d5 O R r R2 Y;go_upto_region 6 with fail
 generalize A.setCell ⟨rb,1,none⟩ (.slice b s.C.length c1)=w3 at *;clear y1 z1;have d:=R3.o.c4;dsimp only at d;obtain⟨g2,ab,O,R⟩:=V.o w3 _ _ R3.o;obtain rfl:g2=g':=by have:=ab.symm.trans l.o;simpa using this
 rw[l.o,p.o] at d;clear ab;have G:=iJ (m.o.vf K.o);have Z:=iJ (jS w3 s.aP s.P.length s.cP s.P G.o.pgs rfl (by rw[G.o.nP];exact n6))
 go_wp2_with fail
 refine Z.o.mono ?_;rintro _ B ⟨j,c2,rfl,hG,hN,T⟩;obtain⟨v,F5⟩:Hid (Ra (B.setCell ⟨rb,3,none⟩ (.slice j s.P.length c2)) rb {D with aC:=b,cC:=c1,C:=s.C,aP:=j,cP:=c2,P:=s.P} H (j6 (j6 col b 2) j 4))/\Hid (Vf w3 (j6 col b 2) (B.setCell ⟨rb,3,none⟩ (.slice j s.P.length c2)) (j6 (j6 col b 2) j 4)):=R3.o.newP T hG (by show s.P.length=s.C.length;rw[m.o.nP,m.o.nC]) hN G.o.pz G.o.ps
 have M:=iJ (R3.o.keep T);have y3:=M.o.q.cells.2.2.2.1;have z3:B.frozen? ⟨rb,3,none⟩=false:=bG _ _ _ _ _ M.o.q.box;have F6:=iJ (K.o.trans F5.o);clear hG hN T d O R M Z R3 K F5;go_upto_region 7 with fail
 generalize B.setCell ⟨rb,3,none⟩ (.slice j s.P.length c2)=E at *;generalize j6 (j6 col b 2) j 4=c5 at *;clear y3 z3;have d:=v.o.c4;dsimp only at d;obtain⟨K1,K2⟩:Hid (Ra (E.setCell ⟨rb,4,none⟩ (.slice D.aA i D.cA)) rb {D with aC:=b,cC:=c1,C:=s.C,aP:=j,cP:=c2,P:=s.P,nA:=i} (H.take i) c5)/\Hid (Vf E c5 (E.setCell ⟨rb,4,none⟩ (.slice D.aA i D.cA)) c5):=v.o.cut (gE HI.o);have z4:E.frozen? ⟨rb,4,none⟩=false:=bG _ _ _ _ _ v.o.q.box;have ac:Hid (n<=D.cA):=by have:=v.o.a.ar.capLe;rw[p.o] at this;exact this.1
 have ad:=ac.o;rw[l.o,p.o] at d;rw[l.o] at K1 K2;go_wp2_with fail
 go_ret;exact⟨_,_,rfl,K1.o,F6.o.trans K2.o,⟨rfl,rfl,rfl,rfl,rfl,rfl⟩⟩
theorem Ra.settled{H:List Sn}(h:Ra w rb D H col)(f:Int):
 Ra ((w.setCell ⟨rb,5,none⟩ (.int .i64 f)).setCell ⟨rb,4,none⟩ (.slice none 0 0)) rb {D with aA:=none,nA:=0,cA:=0,fl:=f} [] col/\Vf w col ((w.setCell ⟨rb,5,none⟩ (.int .i64 f)).setCell ⟨rb,4,none⟩ (.slice none 0 0)) col:=by
 have q:=h.q;have bs:But (λk=>k=rb) w ((w.setCell ⟨rb,5,none⟩ (.int .i64 f)).setCell ⟨rb,4,none⟩ (.slice none 0 0)):=((But.refl (λk=>k=rb) w).setCell (p:=⟨rb,5,none⟩) (λ_=>rfl) _).setCell (p:=⟨rb,4,none⟩) (λ_=>rfl) _
 have ne:∀{k c:Nat},col k=c->c≠1->¬k=rb:=λe j d=>j (by rw[<-e,d];exact q.cb)
 refine⟨⟨⟨?_,q.cr.but bs (λx b=>ne (q.cc x b) (by decide)),q.lr.but bs (λx b=>ne (q.cl x b) (by decide)),q.pr.but bs (λx b=>ne (q.cp x b) (by decide)),λp m=>(q.pz p m).but bs (λk _ e=>ne e (by decide)),q.ps,q.cb,q.cc,q.cl,q.cp,λk l=>be (q.lt k l) bs.size,q.nL,q.nP,q.n6⟩,⟨Q.Gw.nil _ _ _,rfl,λx b=>(by cases b),λs n=>(by cases n)⟩⟩,pE (by rw[q.cb];decide) bs⟩
 rw[aY _ _ _ _ _ _ (aY _ _ _ _ _ _ q.box)];rfl
def RSe(w:World)(rb:Nat)(D:Rd)(H:List Sn)(col:Nat->Nat)(e:Ending)(w':World):Prop:=e=.returned (.tuple #[])/\∃(D1 D':Rd)(col':Nat->Nat),D.Set D1 D.C.length/\Ra w' rb D' [] col'/\Vf w col w' col'/\D'.Al {D1 with fl:=D.fl+(H.length:Int)}
theorem yq(w:World)(rb:Nat)(D:Rd)(H:List Sn)(r:Nat->Nat)(ah:Ra w rb D H r)(hf:0<=D.fl/\D.fl<=1000000000000)(hH:H.length<=1000000000000):
 Calls prog 58 #[.pointer (some ⟨rb,0,none⟩)] w λe w'=>RSe w rb D H r e w':=by
 obtain⟨col,ai⟩:∃c,c57 r=c:=⟨_,rfl⟩;have am:=iJ ai;have h:Rq w rb D col:=by rw[<-ai];exact ah.q.five
 have ap:=iJ ah;have an:=iJ hf;have ao:=iJ hH;clear ai ah hf hH;have HQ:=iJ h;have U:=h.nL;have hP:=h.nP;have h6:=h.n6;obtain⟨m,hm⟩:∃m,D.C.length=m:=⟨_,rfl⟩;rw[hm] at U hP h6;have I:=iJ hm;clear h hm;go_enter func58,ntmps58;go_wp2_with fail
 go_loopw [2] (λvk wx=>∃(k:Nat)(b:Rd),k<=m/\vk=.int .i64 (k:Int)/\D.Set b k/\Rq wx rb b col/\Vf w col wx col) (λvk _=>m-(intOf vk).toNat)
 case atStart=>exact⟨0,D,az _,rfl,Rd.Set.start D,HQ.o,Vf.refl _ _⟩
 case round=>
  obtain⟨k,b,hk,rfl,M,hR,hF⟩:=hrel;have y:=iJ M;have j:=iJ hR;have T:=iJ hF;have eC:b.C=D.C:=by rw[M.e]
  have eL:b.L.length=m:=M.nl.trans U;have eP:b.P.length=m:=M.np.trans hP;have B:=iJ eC;obtain⟨y0,n,q,N,y6⟩:=hR.cells;rw[eC,I.o] at n;rw[eL] at q;rw[eP] at N;have EL:=iJ eL;have EP:=iJ eP;clear M hR hF eC eL eP;by_cases R:k<m
  . have aq:(k:Int)<(m:Int):=by omega
    have aa:k<b.C.length:=by rw[B.o,I.o];exact R
    obtain⟨g,eg,A⟩:=j.o.cAt aa;obtain⟨d,ae,lA⟩:=j.o.lAt aa;obtain⟨l,af⟩:∃gg,b.aP=some ⟨gg,0,none⟩:=j.o.pr.addr (by rw[EP.o];omega)
    rw[eg] at n;rw[ae] at q;rw[af] at N;have EG:=iJ eg;have Z:=iJ ae;have ac:=iJ af;rw[B.o] at A;obtain⟨x,hx⟩:∃x,D.C.getD k 0=x:=⟨_,rfl⟩;rw[hx] at A;have J:=iJ hx
    have fL:Hid (∀W:World,Below wr.heap.size wr W->W.frozen? ⟨d,k,none⟩=false/\W.cell? ⟨d,k,none⟩=some (.bool (b.L.getD k false))):=λW hb=>by
     obtain⟨g3,K,au⟩:=(j.o.keep hb).lAt aa;obtain rfl:g3=d:=by have:=K.symm.trans Z.o;simpa using this
     have kk:=(j.o.keep hb).lr;rw[Z.o] at kk;exact⟨kk.free k,au⟩
    have S:=iJ (dr2 wr);have SS:Hid (∀W:World,Below wr.heap.size wr W->W.cell? ⟨rb,1,none⟩=some (.slice (some ⟨g,0,none⟩) m b.cC)/\W.cell? ⟨rb,2,none⟩=some (.slice (some ⟨d,0,none⟩) m b.cL)/\W.cell? ⟨g,k,none⟩=some (.int .i64 x)):=λW hb=>⟨(hb.cell (p:=⟨rb,1,none⟩) (block_lt_of_cell n)).trans n,(hb.cell (p:=⟨rb,2,none⟩) (block_lt_of_cell q)).trans q,(hb.cell (p:=⟨g,k,none⟩) (block_lt_of_cell A)).trans A⟩
    clear eg ae af hx lA aa;go_wp2_with fail
    refine wrd SS S.o λhHeld=>?_
    refine tkd 0 1 2 3 ?_;refine tkd 4 5 6 7 ?_;refine tkd 8 9 10 11 ?_;refine tkb 12 13 ?_;have aj:=iJ (j.o.keep S.o);obtain⟨R2,G⟩:Hid (Rq (wr.drew.setCell ⟨d,k,none⟩ (.bool (decide (0<x)))) rb _ col)/\Hid (Vf wr.drew col (wr.drew.setCell ⟨d,k,none⟩ (.bool (decide (0<x)))) col):=aj.o.setL Z.o k (decide (0<x))
    have S2:Hid ((wr.drew.setCell ⟨d,k,none⟩ (.bool (decide (0<x)))).cell? ⟨rb,1,none⟩=some (.slice (some ⟨g,0,none⟩) m b.cC)/\(wr.drew.setCell ⟨d,k,none⟩ (.bool (decide (0<x)))).cell? ⟨rb,2,none⟩=some (.slice (some ⟨d,0,none⟩) m b.cL)/\(wr.drew.setCell ⟨d,k,none⟩ (.bool (decide (0<x)))).cell? ⟨g,k,none⟩=some (.int .i64 x)):=by
     obtain⟨z0,V,X,Y,z6⟩:=R2.o.cells;dsimp only at V X;rw[aM,EL.o,Z.o] at X;rw[B.o,I.o,EG.o] at V;obtain⟨g3,K,ad⟩:=R2.o.cAt (i:=k) (by dsimp only;rw[B.o,I.o];exact R)
     dsimp only at K ad;obtain rfl:g3=g:=by have:=K.symm.trans EG.o;simpa using this
     rw[B.o,J.o] at ad;exact⟨V,X,ad⟩
    refine tw 14 λal hK=>?_
    obtain⟨f0,c0⟩:=fL.o wr.drew S.o;go_simp;refine hK.o _ _ S2.o (λhHeld=>?_)
    clear hK al f0 c0;refine td ?_;have EW:wr.drew.setCell ⟨d,k,none⟩ (.bool (decide (0<x)))=(wr.setCell ⟨d,k,none⟩ (.bool (decide (0<x)))).drew:=rfl;rw[<-EW];clear EW;obtain⟨n,q,A⟩:=S2.o;have v:=iJ ((T.o.trans (Vf.keep S.o)).trans G.o);clear hHeld SS S2 fL G T aj;generalize wr.drew.setCell ⟨d,k,none⟩ (.bool (decide (0<x)))=f at *;by_cases ab:x=0
    . subst ab;have O:=iJ (y.o.step1 (by rw[U];exact R) (by rw[hP];exact R) J.o)
      rw[J.o] at O
      have N:f.cell? ⟨rb,3,none⟩=some (.slice (some ⟨l,0,none⟩) m b.cP):=by
       obtain⟨z0,V,X,Y,z6⟩:=R2.o.cells;dsimp only at Y;rw[EP.o,ac.o] at Y;exact Y
      have ak:Hid (f.there l (k*5) 5):=by
       have hr:=R2.o.pr;dsimp only at hr;rw[ac.o] at hr;exact hr.there5 (by rw[EP.o];omega)
      obtain⟨R6,F6⟩:Hid (Rq (f.setCells l (k*5) Pv.zero.cs.toList) rb _ col)/\Hid (Vf f col (f.setCells l (k*5) Pv.zero.cs.toList) col):=R2.o.setP (g:=l) ac.o k Pv.zero (Pz.zero _ _) (.inr rfl);rw[show Pv.zero.cs=#[.int .i64 0,.int .i64 0,.slice none 0 0,.slice none 0 0,.int .i64 0] from rfl] at R6 F6
      have F7:=iJ (v.o.trans F6.o);clear R2 v F6 y;go_wp2_with (refine wpList_store_mid (P:=prog) rfl 31 _ _ rfl l (k*5) #[.int .i64 0,.int .i64 0,.slice none 0 0,.slice none 0 0,.int .i64 0] ?hx1 ?hy1 ?ht1 iP ?ho1 ?_)
      try case hx1=>rfl
      try case hy1=>rfl
      try case ht1=>exact ak.o
      try case ho1=>simp[Value.oneCell']
      generalize f.setCells l (k*5) #[.int .i64 0,.int .i64 0,.slice none 0 0,.slice none 0 0,.int .i64 0].toList=w6 at *;clear ak n q N A;go_roundw
      case rel=>exact⟨k+1,_,by omega,by go_num,O.o,R6.o,F7.o⟩
      case measure=>simp[intOf];omega
    . have O:=iJ (y.o.step0 (by rw[U];exact R) (by rw[J.o];exact ab))
      rw[J.o] at O;have dx:(x==0)=false:=by simp[ab]
      clear ab y;go_wp2_with fail
      go_roundw
      case rel=>exact⟨k+1,_,by omega,by go_num,O.o,R2.o,v.o⟩
      case measure=>simp[intOf];omega
  . have aq:¬((k:Int)<(m:Int)):=by omega
    have ar:k=m:=by omega
    subst ar;have E:=iJ y.o.e;obtain⟨R3,v⟩:Hid (Ra wr rb b H (cold r w col))/\Hid (Vf w r wr (cold r w col)):=ap.o.step j.o (by rw[am.o];exact T.o) (by rw[E.o]) (by rw[E.o]) (by rw[E.o]) (by rw[E.o])
    have FL:Hid (b.fl=D.fl):=by show _=_;rw[E.o]
    have MK:=iJ (mI wr rb b H _ R3.o (by rw[FL.o];exact an.o) ao.o)
    rw[FL.o] at MK;clear j T;generalize cold r w col=c3 at *;go_wp2_with fail
    refine MK.o.mono ?_;rintro _ f ⟨rfl,ag⟩;have R2:=iJ (R3.o.keep ag);have G:=iJ (v.o.trans (Vf.keep (c:=c3) ag));clear ag n q N y0 y6 MK R3 v;have c5:=R2.o.c5;have c4:=R2.o.c4;have f5:f.frozen? ⟨rb,5,none⟩=false:=bG _ _ _ _ _ R2.o.q.box;have f4:f.frozen? ⟨rb,4,none⟩=false:=bG _ _ _ _ _ R2.o.q.box;obtain⟨K1,K2⟩:Hid (Ra _ rb _ [] c3)/\Hid (Vf f c3 _ c3):=R2.o.settled (D.fl+(H.length:Int));have F4:=iJ (G.o.trans K2.o);clear K2 G R2;go_wp2_with fail
    go_end0
    exact⟨rfl,b,_,c3,by rw[I.o];exact y.o,K1.o,F4.o,⟨rfl,rfl,rfl,rfl,rfl,rfl⟩⟩
def d7(col0:Nat->Nat)(w:World)(col:Nat->Nat)(a1 a2:Option Addr)(k:Nat):Nat:=if jY a1 k=true then 7 else if jY a2 k=true then 7 else cold col0 w col k
theorem Dl.seven{r:Rd}{d:Nat->Nat}{m:Option Addr}{C:Nat}{n:Option Addr}{E:Nat}{L:List Int}{H:List Sn}(h:Dl w rb r col m C n E wx D L a c)(A:Ra w rb r H d)(B:c57 d=col):
 Ra wx rb D H (d7 d w col m n)/\Vf w d wx (d7 d w col m n)/\Sv wx (d7 d w col m n) D.C.length ⟨m,C,r.C,n,E,r.P⟩:=by
 have J:Vf w (c57 d) wx col:=by rw[B];exact h.f
 obtain⟨k,f⟩:=A.step h.q J (by rw[h.e]) (by rw[h.e]) (by rw[h.e]) h.n
 have y:D.P=r.P:=by rw[h.e]
 have G:∀{j:Nat},j<w.heap.size->d7 d w col m n j=cold d w col j:=λ{j} l=>by
  unfold d7;rw[if_neg (λe=>by obtain⟨x,b,e⟩:=i9.1 e;have:=i8 h.cn b;omega),if_neg (λe=>by obtain⟨x,b,e⟩:=i9.1 e;have:=i8 h.pn b;omega)]
 have at0:∀{j c:Nat},cold d w col j=c->c≠0->d7 d w col m n j=c:=λ{j c} e M=>by
  by_cases l:j<w.heap.size
  . rw[G l];exact e
  . exfalso;unfold cold at e;rw[if_neg l,<-B] at e;have:d j≠0:=λI=>M (by rw[<-e];exact lj I (by decide))
    exact l (A.q.lt j this)
 have q:=k.q;refine⟨⟨⟨q.box,q.cr,q.lr,q.pr,λp v=>(q.pz p v).mono (λj _ e=>at0 e (by decide)),q.ps,at0 q.cb (by decide),λx b=>at0 (q.cc x b) (by decide),λx b=>at0 (q.cl x b) (by decide),λx b=>at0 (q.cp x b) (by decide),λj l=>?_,q.nL,q.nP,q.n6⟩,⟨k.a.ar,k.a.na,λx b=>at0 (k.a.ca x b) (by decide),λt K=>(k.a.sv t K).recol (λj _ e=>at0 rfl (by omega))⟩⟩,⟨f.b,λj l=>(G l).trans (f.c j l)⟩,⟨h.ca,h.pa,λp v=>(q.pz p (by rw[y];exact v)).mono (λj _ e=>at0 e (by decide)),λp v=>q.ps p (by rw[y];exact v),h.n.symm,?_,λx b=>if_pos (i9.2 ⟨x,b,rfl⟩),λx b=>?_⟩⟩
 . unfold d7 at l;split at l
   . rename_i e;obtain⟨x,b,e⟩:=i9.1 e;rw[<-e];exact Q.Gw.lt h.ca b
   . split at l
     . rename_i e;obtain⟨x,b,e⟩:=i9.1 e;rw[<-e];exact h.pa.lt b
     . exact q.lt j l
 . show r.P.length=D.C.length;rw[<-y];exact q.nP
 . show d7 d w col m n x.block=7;unfold d7;split
   . rfl
   . rw[if_pos (i9.2 ⟨x,b,rfl⟩)]
def RDp(w:World)(rb:Nat)(D:Rd)(H:List Sn)(col:Nat->Nat)(z:Int)(e:Ending)(w':World):Prop:=∃(D':Rd)(H':List Sn)(col':Nat->Nat),Ra w' rb D' H' col'/\Vf w col w' col'/\
 ((e=.returned (.int .i64 0)/\∃D2,Rd.dropS (D.tot+1) D [z]=some D2/\D'.Al D2/\∃s:Sn,s.C=D.C/\s.P=D.P/\H'=H++[s])\/(e=.returned (.int .i64 15)/\Rd.dropS (D.tot+1) D [z]=none/\D'.Al D/\H'=H))
theorem DJ(w:World)(rb:Nat)(D:Rd)(H:List Sn)(G:Nat->Nat)(aI:Ra w rb D H G)(hh:D.hush=false)(hH:H.length<=1000000000000)(hn:0<D.C.length)(a7:∀c∈D.C,c<=65536)(z:Int):
 Calls prog 43 #[.pointer (some ⟨rb,0,none⟩),.int .i64 z] w λe w'=>RDp w rb D H G z e w':=by
 obtain⟨col,aO⟩:∃c,c57 G=c:=⟨_,rfl⟩;have aQ:=iJ aO;have h:Rq w rb D col:=by rw[<-aO];exact aI.q.five
 have aq:=iJ aI;have bd:=iJ hH;clear aO aI hH;have CI:=iJ λ(W:World)(hb:Below w.heap.size w W)=>Q.j9 W D.aC D.C.length D.cC D.C (h.keep hb).cr.ir rfl h.n6
 have CP:=iJ λ(W:World)(hb:Below w.heap.size w W)=>jS W D.aP D.P.length D.cP D.P (h.keep hb).pgs rfl (by rw[h.nP];exact h.n6)
 have SS:Hid (∀W:World,Below w.heap.size w W->W.cell? ⟨rb,1,none⟩=some (.slice D.aC D.C.length D.cC)/\W.cell? ⟨rb,3,none⟩=some (.slice D.aP D.P.length D.cP)):=λW hb=>⟨(h.keep hb).cells.2.1,(h.keep hb).cells.2.2.2.1⟩
 have HQ:=iJ h;have HH:=iJ hh;have aN:Hid (D.tot<=D.C.length*65536):=sT Int.toNat 65536 D.C (λc hc=>by have:=a7 c hc;omega)
 have aR:=iJ h.lt;have DR:=iJ (dr2 w);obtain⟨g,hg,_⟩:=h.cAt hn;have HG:=iJ hg;have N6:=h.n6;obtain⟨B,aj⟩:∃an,D.C.length=an:=⟨_,rfl⟩;obtain⟨nP,ak⟩:∃an,D.P.length=an:=⟨_,rfl⟩;simp only[aj,ak] at CI CP SS N6 hn aN;have aa:=iJ aj;have ao:=iJ ak;have bo:Hid (nP=B):=by show _=_;rw[<-aj,<-ak];exact h.nP
 clear h hh aj ak hg a7;go_enter func43,ntmps43;go_upto_region 1 with fail
 refine wrd SS DR.o λhHeld=>?_
 refine tkd 0 1 2 3 ?_;refine tkd 5 6 7 8 ?_;refine tw 4 λK N=>?_
 go_simp;refine(CI.o _ DR.o).mono ?_;rintro _ w1 ⟨l,I,rfl,aB⟩;have O1:=iJ aB;have B1:=iJ (bt DR.o aB.b);clear aB;go_wp2_with fail
 refine N.o _ _ (SS.o _ B1.o) (λhHeld=>?_)
 clear N K;refine tw 9 λK N=>?_
 go_simp;refine(CP.o _ B1.o).mono ?_;rintro _ w2 ⟨p,J,rfl,a0,a4,aE⟩;have G2:=iJ a0;have N2:=iJ (a4.mono B1.o.size);have O2:=iJ (O1.o.keep aE);have B2:=iJ (bt B1.o aE);clear a0 a4 aE;go_wp2_with fail
 refine N.o _ _ (SS.o _ B2.o) (λhHeld=>?_)
 clear N K;refine tkb 10 11 ?_;refine td ?_
 have bc:Hid (Dl w rb D col l I p J (w2.alloc (.cells #[.int .i64 z] 3)) D [z] (some ⟨w2.heap.size,0,none⟩) 1):=by
  have ha:=al w2 (.cells #[.int .i64 z] 3);refine⟨HQ.o.keep (bt B2.o ha),Vf.keep (bt B2.o ha),rfl,rfl,?_,?_,O2.o.r.keep ha,O2.o.n.mono DR.o.size,?_,?_,N2.o⟩
  . exact Q.Ig.mk (aH _ _) (ai _) (by unfold maxLen;decide) rfl rfl
  . intro y hy;cases hy;exact .inr B2.o.size
  . intro x y hx hy e;cases hy;have f:=O2.o.r.lt hx;dsimp only at e;omega
  . rw[ao.o];exact G2.o.keep ha
 clear CI CP SS G2 N2 O2 O1 B1;go_wp2_with fail
 go_loopw [7,8,9,10] (λv7 _ _ _ wx=>∃(b:Rd)(L:List Int)(a:Option Addr)(c:Nat),v7=.slice a L.length c/\Dl w rb D col l I p J wx b L a c/\Rd.dropS (b.tot+1) b L=Rd.dropS (D.tot+1) D [z]/\L.length+8*b.tot<=1+8*D.tot) (λ_ _ _ _ wx=>mC g B wx)
 case atStart=>exact⟨D,[z],some ⟨w2.heap.size,0,none⟩,1,rfl,bc.o,rfl,by simp⟩
 case round=>
  clear bc;obtain⟨b,L,a,c,rfl,hD,hS,hB⟩:=hrel;have d:=iJ hD;have HS:=iJ hS;have HB:=iJ hB;clear hD hS hB;cases L with
  |nil=>
   have av:Hid (Rd.dropS (D.tot+1) D [z]=some b):=by
    show _=_;rw[<-HS.o];rfl
   obtain⟨R3,F3,SV⟩:Hid (Ra wr rb b H (d7 G w col l p))/\Hid (Vf w G wr (d7 G w col l p))/\Hid (Sv wr (d7 G w col l p) b.C.length ⟨l,I,D.C,p,J,D.P⟩):=d.o.seven aq.o aQ.o;have O:=iJ (oN wr rb b H _ R3.o (by rw[d.o.e];exact HH.o) ⟨l,I,D.C,p,J,D.P⟩ SV.o bd.o)
   dsimp only at O;rw[aa.o,ao.o] at O;have AL:Hid (b.R=D.R):=by show _=_;rw[d.o.e]
   simp only[bj];generalize d7 G w col l p=c3 at *;go_wp2_with fail
   refine O.o.mono ?_;rintro _ w4 ⟨T,X,bv,rfl,a6,aZ⟩;have R4:=iJ a6;have F5:=iJ (F3.o.trans aZ);clear a6 aZ;go_wp2_with fail
   go_ret;exact⟨_,_,_,R4.o,F5.o,.inl ⟨rfl,b,av.o,⟨rfl,rfl,rfl,rfl,rfl,rfl⟩,_,rfl,rfl,rfl⟩⟩
  |cons x L=>
   obtain⟨M,ea⟩:∃M,a=some ⟨M,0,none⟩:=by
    rcases d.o.t.cases with⟨_,_,E⟩|⟨M,_,e,_⟩
    . exact absurd E (by simp)
    . exact⟨M,e⟩
   subst ea
   have bw:L.length+1<=c:=by
    rcases d.o.t.cases with⟨E,_⟩|⟨_,_,_,_,f,_⟩
    . cases E
    . rw[List.length_reverse] at f;exact f
   have bl:wr.cell? ⟨M,L.length,none⟩=some (.int .i64 x):=by
    have hc:=d.o.t.cell (i:=L.length) (by simp)
    rw[hc,List.reverse_cons];simp
   have LB:Hid (L.length<=17592186044000):=by
    have f:=HB.o;have Z:D.tot<=B*65536:=aN.o;have h3:B*65536<=65536*65536:=dT _ N6;show _<=_;simp only[bf] at f;omega
   have ME:=iJ (yP d.o.q (g:=g) (by rw[d.o.e];exact HG.o))
   rw[show b.C.length=B from d.o.n.trans aa.o] at ME
   have TH:=iJ (kf wr rb b col d.o.q x);have ar:=iJ d.o.pop;have lc:((x::L).length:Int)=(L.length:Int)+1:=by simp
   have ls:(L.length:Int)+1-1=(L.length:Int):=by omega
   have lb:=LB.o;by_cases E:0<b.count x
   . rw[ax E] at TH
     have n:Hid (Rd.dropS b.tot (b.put x (b.count x-1)) (if b.count x-1=0 then (b.on x).pg.kids++L else L)=Rd.dropS (D.tot+1) D [z]):=by
      show _=_;rw[<-HS.o];show _=if 0<b.count x then _ else _
      rw[if_pos E]
     have S:=iJ (Rd.put_tot E);obtain⟨x1,x2,x3⟩:=Rd.count_at E;obtain⟨i,hi⟩:∃i:Nat,x=(i:Int)+1:=⟨(x-1).toNat,by omega⟩
     subst hi;have ei:((i:Int)+1-1).toNat=i:=by omega
     have ad:i<b.C.length:=by omega
     have bb:i<B:=by rw[<-aa.o,<-d.o.n];exact ad
     have bp:(i:Int)<(B:Int):=by omega
     have bs:(i:Int)+1-1=(i:Int):=by omega
     have ah:b.aC=some ⟨g,0,none⟩:=by rw[d.o.e];exact HG.o
     have aW:b.cC=D.cC:=by rw[d.o.e]
     have bm:b.C.length=B:=d.o.n.trans aa.o;obtain⟨g',ac,cA⟩:=d.o.q.cAt ad;rw[ah] at ac;cases ac;have c1:=d.o.q.cells.2.1;rw[ah,aW,bm] at c1;rw[ei] at x3;rw[<-x3] at cA
     have fA:wr.frozen? ⟨g,i,none⟩=false:=by
      have ag:=d.o.q.cr;rw[ah] at ag;exact Q.Gw.free ag i
     have r:Hid (Dl w rb D col l I p J (wr.setCell ⟨g,i,none⟩ (.int .i64 (b.count ((i:Int)+1)-1))) (b.put ((i:Int)+1) (b.count ((i:Int)+1)-1)) L (some ⟨M,0,none⟩) c):=by
      have ag:=ar.o.set aR.o ah i (b.count ((i:Int)+1)-1);unfold Rd.put;rw[ei];exact ag
     have aT:Hid ((b.put ((i:Int)+1) (b.count ((i:Int)+1)-1)).P=b.P):=rfl
     have CB:b.count ((i:Int)+1)<=4294967296:=by
      have f:=S.o;have Z:=HB.o;have h3:D.tot<=B*65536:=aN.o;have h4:B*65536<=65536*65536:=dT _ N6;have h5:=Gp ad;rw[<-x3] at h5;simp only[bf] at Z;omega
     have aS:Hid ((b.put ((i:Int)+1) (b.count ((i:Int)+1)-1)).C.getD i 0=b.count ((i:Int)+1)-1):=by
      show(b.C.set _ _).getD i 0=_;rw[ei,kG,if_pos ⟨rfl,ad⟩]
     clear d HS ar x1 x2 x3 aW ad;generalize b.count ((i:Int)+1)=cnt at *;obtain⟨A,ay⟩:∃A,b.put ((i:Int)+1) (cnt-1)=A:=⟨_,rfl⟩;obtain⟨U,aG⟩:∃U,b.on ((i:Int)+1)=U:=⟨_,rfl⟩;rw[aG] at n
     have ap:Hid (A.P.getD i Pv.zero=U):=by
      show _=_;rw[<-ay,aT.o,<-aG];unfold Rd.on;rw[ei]
     rw[ay] at n S r aS;clear ay aG aT;go_wp2_with fail
     refine TH.o.mono ?_;rintro _ wq ⟨rfl,V⟩;rw[V];clear V TH;go_upto_region 10 with fail
     generalize wr.setCell ⟨g,i,none⟩ (.int .i64 (cnt-1))=ws at *;have af:A.C.length=B:=r.o.n.trans aa.o;have am:A.aC=some ⟨g,0,none⟩:=by rw[r.o.e];exact HG.o
     have ba:i<A.C.length:=by rw[af];exact bb
     obtain⟨g',ac,cB⟩:=r.o.q.cAt ba;rw[am] at ac;cases ac;rw[aS.o] at cB;have bn:A.cC=D.cC:=by rw[r.o.e]
     have aU:=r.o.q.cells.2.1;rw[am,bn,af] at aU;clear cA fA c1 bl;by_cases hz:cnt-1=0
     . rw[if_pos hz] at n;have aK:A.P.length=B:=r.o.q.nP.trans af;obtain⟨gP,aX,Y⟩:=r.o.q.pAt ba;rw[ap.o] at Y;have aV:=r.o.q.cells.2.2.2.1;rw[aX,aK] at aV;have z0:=Y 0 _ (by decide) rfl
       have z1:=Y 1 _ (by decide) rfl
       have z2:=Y 2 _ (by decide) rfl
       have z3:=Y 3 _ (by decide) rfl
       have z4:=Y 4 _ (by decide) rfl
       rw[bY] at z0
       have aM:Hid (U∈A.P):=by
        show _∈_;rw[<-ap.o];have h:i<A.P.length:=by rw[aK];exact bb
        simp[h]
       have KD:=iJ (tF ws U (r.o.q.pz U aM.o).pi);have KL:=iJ (tq (r.o.q.ps U aM.o));unfold Pv.vl at KD;simp only[Pv.cs] at KD;generalize U.pg.kids=v at *;obtain⟨K,N⟩:∃K,v.length=K:=⟨_,rfl⟩;rw[N] at KD KL;have k:=iJ N;have kl:=KL.o;clear N Y ap aX aK;rw[hz] at cB;go_wp2_with fail
       refine KD.o.mono ?_;rintro _ w5 ⟨ab,aw,rfl,hI⟩;have D5:=iJ (r.o.keep hI.b);have I5:Hid (Q.Ig w5 ab aw v):=hI.r
       have N5:Hid (∀y q,ab=some y->(some ⟨M,0,none⟩:Option Addr)=some q->y.block≠q.block):=λy q hy hq e=>by
        have f:=i8 hI.n hy;have Z:=r.o.t.lt hq;omega
       clear hI KD z0 z1 z2 z3 z4 aV aU cB r aM;go_wp2_with fail
       go_loopw [7,10] (λv7 aL wx=>∃(m:Nat)(T:Option Addr)(X:Nat),m<=K/\aL=.int .i64 ((K:Int)-1-(m:Int))/\v7=.slice T (L.length+m) X/\Dl w rb D col l I p J wx A (v.drop (K-m)++L) T X/\Q.Ig wx ab aw v/\∀y q,ab=some y->T=some q->y.block≠q.block) (λ_ aL _=>(intOf aL+1).toNat)
       case atStart=>exact⟨0,some ⟨M,0,none⟩,c,az _,by simp,rfl,by rw[Nat.sub_zero,List.drop_of_length_le (by rw[k.o];omega)];exact D5.o,I5.o,N5.o⟩
       case round=>
        clear D5 I5 N5;obtain⟨m,T,X,hm,rfl,rfl,aY,a3,a5⟩:=hrel;have O:=iJ aY;have II:=iJ a3;have NN:=iJ a5;clear aY a3 a5;by_cases br:m<K
        . have bh:(0:Int)<=(K:Int)-1-(m:Int):=by omega
          obtain⟨j,hj⟩:∃j:Nat,K=j+1+m:=⟨K-1-m,by omega⟩
          have ej:(K:Int)-1-(m:Int)=(j:Int):=by omega
          have a8:j<K:=by omega
          have bq:(j:Int)<(K:Int):=by omega
          obtain⟨gk,ek⟩:∃gk,ab=some ⟨gk,0,none⟩:=by
           rcases II.o.cases with⟨_,_,E⟩|⟨gk,_,e,_⟩
           . have f:=k.o;rw[E] at f;simp at f;omega
           . exact⟨gk,e⟩
          subst ek;have bg:=II.o.cell (i:=j) (by rw[k.o];exact a8)
          have aP:Hid (v.drop (K-(m+1))++L=v.getD j 0::(v.drop (K-m)++L)):=by
           have f:j<v.length:=by rw[k.o];exact a8
           show _=_;have e9:v.getD j 0=v[j]:=by simp[f]
           rw[show K-(m+1)=j by omega,show K-m=j+1 by omega,e9,cF f]
           rfl
          have lr:Hid (L.length+m=(v.drop (K-m)++L).reverse.length):=by
           have f:=k.o;show _=_;rw[List.length_reverse,ae,dv];omega
          have TT:=iJ O.o.t;obtain⟨st,a9⟩:∃st,v.drop (K-m)++L=st:=⟨_,rfl⟩;rw[a9] at TT O aP lr;obtain⟨sr,aJ⟩:∃sr,st.reverse=sr:=⟨_,rfl⟩;rw[aJ] at TT lr;have be:=iJ aJ;have bk:sr.length+1<=17592186044416:=by have:=lr.o;omega
          generalize v.getD j 0=kx at *;rw[ej];clear a9 aJ hj;go_wp2_with (first|(at_builtin;refine Q.jN rfl _ _ rfl T (L.length+m) X sr ?q1 lr.o (TT.o.keep (al _ _)) ⟨wr.heap.size,0,none⟩ 1 kx ?q2 ?q3 bk ?_)|fail)
          try case q1=>rfl
          try case q2=>rfl
          try case q3=>simp
          intro g6 c6 w6 aD aA aF bi;rw[<-be.o] at aD;have D6:=iJ (O.o.push aR.o aD aA aF);have I6:Hid (Q.Ig w6 (some ⟨gk,0,none⟩) aw v/\∀y q,(some ⟨gk,0,none⟩:Option Addr)=some y->(some ⟨g6,0,none⟩:Option Addr)=some q->y.block≠q.block):=Fz II.o NN.o aA aF;clear aD aA aF bi bg;go_wp2_with fail
          go_roundw
          case rel=>exact⟨m+1,_,c6,by omega,by go_num,by rw[fC],by rw[aP.o];exact D6.o,I6.o.1,I6.o.2⟩
          case measure=>simp[intOf]
        . obtain rfl:m=K:=by omega
          have bh:¬(0:Int)<=(m:Int)-1-(m:Int):=by omega
          have D7:Hid (Dl w rb D col l I p J wr A (v++L) T X):=by
           have f:=O.o;rw[df,fa] at f;exact f
          have M7:=iJ (yP D7.o.q (g:=g) am);rw[af] at M7;go_wp2_with fail
          go_roundw
          case rel=>
           refine⟨A,v++L,T,X,by rw[ae,k.o,Nat.add_comm],D7.o,by rw[S.o];exact n.o,?_⟩
           have f:=HB.o;have Z:=S.o;rw[ae,k.o];simp only[bf] at f;omega
          case measure=>
           have f:=ME.o;have Z:=M7.o;have h3:=S.o;omega
     . rw[if_neg hz] at n;have bu:(cnt-1==0)=false:=by simp[hz]
       have M8:=iJ (yP r.o.q (g:=g) am);rw[af] at M8;clear hz;go_wp2_with fail
       go_roundw
       case rel=>
        refine⟨A,L,some ⟨M,0,none⟩,c,rfl,r.o,by rw[S.o];exact n.o,?_⟩
        have f:=HB.o;have Z:=S.o;simp only[bf] at f;omega
       case measure=>
        have f:=ME.o;have Z:=M8.o;have h3:=S.o;omega
   . rw[au E] at TH
     have av:Hid (Rd.dropS (D.tot+1) D [z]=none):=by
      show _=_;rw[<-HS.o];show(if 0<b.count x then _ else _)=_
      rw[if_neg E]
     have NT:=iJ (qQ wr rb b col d.o.q l p B I nP J);obtain⟨R3,F3,SV⟩:Hid (Ra wr rb b H (d7 G w col l p))/\Hid (Vf w G wr (d7 G w col l p))/\Hid (Sv wr (d7 G w col l p) b.C.length ⟨l,I,D.C,p,J,D.P⟩):=d.o.seven aq.o aQ.o;have UN:=iJ (aq.o.undone R3.o F3.o ⟨l,I,D.C,p,J,D.P⟩ SV.o d.o.cn d.o.pn);dsimp only at UN;rw[aa.o,ao.o] at UN;have EE:=iJ d.o.e;clear R3 F3 SV;clear ar;go_wp2_with fail
     refine TH.o.mono ?_;rintro _ wq ⟨rfl,V⟩;rw[V];clear V TH;go_wp2_with fail
     refine NT.o.mono ?_;rintro _ wq ⟨rfl,V⟩;rw[V];clear V NT;go_wp2_with fail
     go_ret;exact⟨_,_,_,UN.o.1,UN.o.2,.inr ⟨rfl,av.o,⟨by rw[EE.o];rfl,rfl,by rw[EE.o];rfl,rfl,by rw[EE.o];rfl,by rw[EE.o];rfl⟩,rfl⟩⟩
theorem m7:(prog.info? 39).map (λi=>(i.zero,i.size,i.bytes))=some (some (.agg #[.int .i64 0,.int .i64 0,.int .i64 0,.slice none 0 0,.slice none 0 0,.int .i64 0]),6,80):=by kernel_rfl
theorem xV:(prog.info? 39).map (·.size)=some 6:=by kernel_rfl
def nms(L:List (Int×Pv)):List Value:=(L.map nmc).flatten
theorem sA(A B:List (Int×Pv)):nms (A++B)=nms A++nms B:=by simp[nms]
theorem xL(x:Int×Pv):nms [x]=nmc x:=by simp[nms]
structure Nn(w wx:World)(a:Option Addr)(c:Nat)(L:List (Int×Pv)):Prop where
 r:Q.Gw 39 6 wx a c L.length (nms L)
 n:New w none a
 p:∀x∈L,Pn w wx x.2/\x.2.items.length<=1048576
 b:Below w.heap.size w wx
theorem Nn.keep{L:List (Int×Pv)}(h:Nn w wx a c L)(hb:Below wx.heap.size wx wy):Nn w wy a c L:=⟨h.r.keep hb,h.n,λx b=>⟨(h.p x b).1.keep hb,(h.p x b).2⟩,bt h.b hb⟩
theorem Nn.push{d:Nat}{L:List (Int×Pv)}{x:Int×Pv}(h:Nn w wx a c L)(j:Pn w wx x.2/\x.2.items.length<=1048576)(l:Q.Gw 39 6 wy (some ⟨g,0,none⟩) d (L.length+1) (nms L++nmc x))(m:New wx a (some ⟨g,0,none⟩))(b:But (Q.InA a) wx wy):Nn w wy (some ⟨g,0,none⟩) d (L++[x]):=by
 have f:∀k,Q.InA a k->∃t cs,Bx wx t k cs/\t≠5/\t≠51:=λk ⟨y,hy,e⟩=>by
  obtain⟨p,n⟩:=h.r.blk hy;exact⟨39,p,by rw[<-e];exact n,by decide,by decide⟩
 refine⟨?_,h.n.trans m h.b.size,λy hy=>?_,?_⟩
 . rw[ae,sA,xL];exact l
 . rcases bq.1 hy with hy|hy
   . exact⟨(h.p y hy).1.but b f,(h.p y hy).2⟩
   . rw[aQ.1 hy];exact⟨j.1.but b f,j.2⟩
 . exact((But.ofBelow (S:=Q.InA a) h.b).trans b (λ_ _ e=>e)).below (λk q ⟨y,hy,e⟩=>by have:=i8 h.n hy;omega)
def Rd.pgAt(D:Rd)(s:Int)(k:Nat):Pg:=if s=1 then Pv.zero.pg else (D.P.getD k Pv.zero).pg
def Rd.listed(D:Rd)(s:Int)(i:Nat):List (Int×Pg):=((List.range i).filter λ(k:Nat)=>decide (((D.state ((k:Int)+1):Nat):Int)=s)).map λ(k:Nat)=>((k:Int)+1,D.pgAt s k)
theorem Rd.listed_yes(h:((D.state ((i:Int)+1):Nat):Int)=s):D.listed s (i+1)=D.listed s i++[((i:Int)+1,D.pgAt s i)]:=by
 unfold Rd.listed;rw[gm,gq,bP];simp[h]
theorem Rd.listed_no(h:((D.state ((i:Int)+1):Nat):Int)≠s):D.listed s (i+1)=D.listed s i:=by
 unfold Rd.listed;rw[gm,gq,bP];simp[h]
theorem sh(A B:List (Int×Pv)):nmg (A++B)=nmg A++nmg B:=by simp[nmg]
theorem qm{v0 b d v3 v4 v5:Value}(h:W.heap[g]?=some (.cells #[v0,b,d,v3,v4,v5] t (0,0))):W.cell? ⟨g,0,none⟩=some v0/\W.cell? ⟨g,1,none⟩=some b/\W.cell? ⟨g,2,none⟩=some d/\W.cell? ⟨g,3,none⟩=some v3/\W.cell? ⟨g,4,none⟩=some v4/\W.cell? ⟨g,5,none⟩=some v5:=by
 refine⟨?_,?_,?_,?_,?_,?_⟩<;>(rw[ay _ _ _ _ _ _ h];rfl)
theorem ny{x:Int×Pv}(h:W.heap[g]?=some (.cells #[.int .i64 x.1,.int .i64 x.2.kind,.int .i64 x.2.level,.slice x.2.aI x.2.items.length x.2.cI,.slice x.2.aD x.2.data.length x.2.cD,.int .i64 x.2.next] t (0,0))):∀j u,(nmc x)[j]?=some u->W.cell? ((⟨g,0,none⟩:Addr).add j)=some u:=by
 intro j u b;rw[Addr.add_mid,bN,ay _ _ _ _ _ _ h,<-b];simp[nmc,Pv.cs]
theorem nj{x:Int×Pv}:∀u∈nmc x,u.oneCell'=true:=by
 intro u b;simp only[nmc,Pv.cs,cO,bm,gO] at b;rcases b with rfl|rfl|rfl|rfl|rfl|rfl<;>rfl
theorem rR(w:World)(rb:Nat)(D:Rd)(col:Nat->Nat)(h:Rq w rb D col)(s:Int):
 Calls prog 53 #[.pointer (some ⟨rb,0,none⟩),.int .i64 s] w λe w'=>∃(a:Option Addr)(c:Nat)(L:List (Int×Pv)),e=.returned (.slice a L.length c)/\Nn w w' a c L/\nmg L=D.listed s D.C.length:=by
 have HQ:=iJ h;have h6:=h.n6;obtain⟨n,T⟩:∃n,D.C.length=n:=⟨_,rfl⟩;have HN:=iJ T;have NP:Hid (D.P.length=n):=h.nP.trans T;rw[T] at h6 ⊢;clear h T;go_enter func53,ntmps53;go_wp2_with fail
 go_loopw [5,6,7] (λv5 v6 _ wx=>∃(i:Nat)(a:Option Addr)(c:Nat)(L:List (Int×Pv)),i<=n/\v6=.int .i64 ((i:Int)+1)/\v5=.slice a L.length c/\Nn w wx a c L/\nmg L=D.listed s i/\L.length<=i) (λ_ v6 _ _=>n+1-(intOf v6).toNat)
 case atStart=>exact⟨0,none,0,[],az _,rfl,rfl,⟨Q.Gw.nil _ _ _,New.none _ _,λx hx=>(by cases hx),Below.refl _ _⟩,rfl,ai _⟩
 case round=>
  obtain⟨i,a,c,L,hi,rfl,rfl,aa,hL,ah⟩:=hrel;have v:=iJ aa;have O:=iJ hL;have A:=iJ ah;have j:=iJ (HQ.o.keep aa.b);have y1:=j.o.cells.2.1;rw[HN.o] at y1;clear aa hL ah;by_cases aj:i<n
  . have ar:(i:Int)+1<=(n:Int):=by omega
    have aq:i<D.C.length:=by rw[HN.o];exact aj
    have d:=iJ (lz wr rb D col j.o ((i:Int)+1));by_cases m:((D.state ((i:Int)+1):Nat):Int)=s
    . have LY:=iJ (Rd.listed_yes m);rw[m] at d;have e1:(s==s)=true:=by simp
      have ak:L.length+1<=maxLen:=by have:=A.o;unfold maxLen;omega
      have av:L.length<=65536:=by have:=A.o;omega
      have V:=iJ (al wr (.cells #[.int .i64 0,.int .i64 0,.int .i64 0,.slice none 0 0,.slice none 0 0,.int .i64 0] 39));have E:=iJ (aH wr (.cells #[.int .i64 0,.int .i64 0,.int .i64 0,.slice none 0 0,.slice none 0 0,.int .i64 0] 39));have X2:Hid (((wr.alloc (.cells #[.int .i64 0,.int .i64 0,.int .i64 0,.slice none 0 0,.slice none 0 0,.int .i64 0] 39)).setRow wr.heap.size #[.int .i64 ((i:Int)+1),.int .i64 0,.int .i64 0,.slice none 0 0,.slice none 0 0,.int .i64 0]).heap[wr.heap.size]?=some (.cells #[.int .i64 ((i:Int)+1),.int .i64 0,.int .i64 0,.slice none 0 0,.slice none 0 0,.int .i64 0] 39 (0,0))):=dc _ _ _ _ _ _ E.o;have y:Hid (Below wr.heap.size wr ((wr.alloc (.cells #[.int .i64 0,.int .i64 0,.int .i64 0,.slice none 0 0,.slice none 0 0,.int .i64 0] 39)).setRow wr.heap.size #[.int .i64 ((i:Int)+1),.int .i64 0,.int .i64 0,.slice none 0 0,.slice none 0 0,.int .i64 0])):=((But.ofBelow (S:=λk=>k=wr.heap.size) V.o).trans (Q.jg _ _ _) (λ_ _ e=>e)).below (λk hk e=>by omega)
      clear m;by_cases G:s=1
      . subst G;go_wp2_with fail
        refine d.o.mono ?_;rintro _ wq ⟨rfl,l⟩;rw[l];clear l d;go_upto_region 7 with(first|(refine cE rfl 39 _ _ rfl wr.heap.size _ rfl rfl 39 _ E.o xV rfl (by simp[Value.oneCell']) ?_)|fail)
        generalize (wr.alloc (.cells #[.int .i64 0,.int .i64 0,.int .i64 0,.slice none 0 0,.slice none 0 0,.int .i64 0] 39)).setRow wr.heap.size #[.int .i64 ((i:Int)+1),.int .i64 0,.int .i64 0,.slice none 0 0,.slice none 0 0,.int .i64 0]=M at *;obtain⟨x0,x1,x2,x3,x4,x5⟩:=qm X2.o;have A3:=iJ (al M (.cells #[.int .i64 ((i:Int)+1),.int .i64 0,.int .i64 0,.slice none 0 0,.slice none 0 0,.int .i64 0] 39));have b:=iJ (aH M (.cells #[.int .i64 ((i:Int)+1),.int .i64 0,.int .i64 0,.slice none 0 0,.slice none 0 0,.int .i64 0] 39));have B:=iJ ((v.o.keep y.o).keep A3.o);clear V E y1;go_wp2_with (at_builtin;refine jM underlying36 m7 rfl (by decide) rfl _ _ rfl a L.length c (nms L) rfl B.o.r ⟨M.heap.size,0,none⟩ 1 (nmc ((i:Int)+1,Pv.zero)) rfl rfl (ny (x:=((i:Int)+1,Pv.zero)) b.o) nj ak (by omega) ?_)
        intro g5 c5 w5 I J H;have C:=iJ (B.o.push (x:=((i:Int)+1,Pv.zero)) ⟨Pn.zero _ _,az _⟩ I J H);clear I J H B A3 b x0 x1 x2 x3 x4 x5;go_wp2_with fail
        go_roundw
        case rel=>exact⟨i+1,some ⟨g5,0,none⟩,c5,L++[((i:Int)+1,Pv.zero)],by omega,by go_num,by rw[ae];rfl,C.o,by rw[sh,O.o,LY.o];simp[nmg,Rd.pgAt],by rw[ae];have:=A.o;simp;omega⟩
        case measure=>simp[intOf];omega
      . have e2:(s==1)=false:=by simpa using G
        have e3:(s != 1)=true:=by simpa using G
        have PG:Hid (D.pgAt s i=(D.P.getD i Pv.zero).pg):=by show _=_;unfold Rd.pgAt;rw[if_neg G]
        clear G;go_wp2_with fail
        refine d.o.mono ?_;rintro _ wq ⟨rfl,l⟩;rw[l];clear l d;go_upto_region 7 with(first|(refine cE rfl 39 _ _ rfl wr.heap.size _ rfl rfl 39 _ E.o xV rfl (by simp[Value.oneCell']) ?_)|fail)
        generalize (wr.alloc (.cells #[.int .i64 0,.int .i64 0,.int .i64 0,.slice none 0 0,.slice none 0 0,.int .i64 0] 39)).setRow wr.heap.size #[.int .i64 ((i:Int)+1),.int .i64 0,.int .i64 0,.slice none 0 0,.slice none 0 0,.int .i64 0]=M at *;have R:=iJ (j.o.keep y.o);obtain⟨gP,ap,p⟩:=R.o.pAt aq;have z3:=R.o.cells.2.2.2.1;rw[ap,NP.o] at z3;have au:(i:Int)<(n:Int):=by omega
        have aw:(i:Int)+1-1=(i:Int):=by omega
        have WI:Hid (IntKind.i64.wrap ((i:Nat):Int)=(i:Int)):=iT (by omega) (by omega)
        have Z:Hid (D.P.getD i Pv.zero∈D.P):=by
         show _∈_;have:i<D.P.length:=by rw[NP.o];exact aj
         simp[this]
        obtain⟨K,am⟩:∃K,D.P.getD i Pv.zero=K:=⟨_,rfl⟩;rw[am] at p Z PG;obtain⟨sm,sl⟩:=jU (R.o.ps K Z.o);have SL:=iJ sl;have N:=iJ (jX M K (R.o.pz K Z.o).pi sm.1 sl sm.2);have u0:=p 0 _ (by decide) rfl
        have u1:=p 1 _ (by decide) rfl
        have u2:=p 2 _ (by decide) rfl
        have u3:=p 3 _ (by decide) rfl
        have u4:=p 4 _ (by decide) rfl
        rw[bY] at u0;unfold Pv.vl at N;simp only[Pv.cs] at N;clear p am V E y1 sm sl;go_wp2_with fail
        refine N.o.mono ?_;rintro _ w3 ⟨r,rfl,ac,ag,ad,U⟩;have b:=iJ (iQ X2.o U);have B:=iJ ((v.o.keep y.o).keep U);have PN:=iJ (ac.pre (v':=w) (aO v.o.b.size y.o.size));have L3:Hid (r.items.length<=1048576):=by show _<=_;rw[ag];exact SL.o
        have G3:=iJ ad
        have TH:Hid (w3.there wr.heap.size 1 5):=λk hk=>by
         obtain⟨x0,x1,x2,x3,x4,x5⟩:=qm b.o;match k,hk with
         |0,_=>exact⟨by rw[x1];rfl,bG _ _ _ _ _ b.o⟩
         |1,_=>exact⟨by rw[x2];rfl,bG _ _ _ _ _ b.o⟩
         |2,_=>exact⟨by rw[x3];rfl,bG _ _ _ _ _ b.o⟩
         |3,_=>exact⟨by rw[x4];rfl,bG _ _ _ _ _ b.o⟩
         |4,_=>exact⟨by rw[x5];rfl,bG _ _ _ _ _ b.o⟩
        have BW:Hid (wr.heap.size<w3.heap.size):=(af.1 b.o).1;have B3:=iJ (bt y.o U);have RC:Hid (r.cs=#[.int .i64 r.kind,.int .i64 r.level,.slice r.aI r.items.length r.cI,.slice r.aD r.data.length r.cD,.int .i64 r.next]):=rfl;clear ac ag ad U N u0 u1 u2 u3 u4 z3;go_upto_region 9 with(first|(refine wpList_store_mid (P:=prog) rfl 31 _ _ rfl wr.heap.size 1 #[.int .i64 r.kind,.int .i64 r.level,.slice r.aI r.items.length r.cI,.slice r.aD r.data.length r.cD,.int .i64 r.next] ?hx1 ?hy1 TH.o iP ?ho1 ?_)|fail)
        try case hx1=>rfl
        try case hy1=>rfl
        try case ho1=>simp[Value.oneCell']
        have q:=iJ (World.cell?_setCells_in wr.heap.size #[.int .i64 r.kind,.int .i64 r.level,.slice r.aI r.items.length r.cI,.slice r.aD r.data.length r.cD,.int .i64 r.next].toList 1 w3 (λao hj=>(TH.o ao hj).1))
        have ab:=iJ (World.cell?_setCells_out wr.heap.size #[.int .i64 r.kind,.int .i64 r.level,.slice r.aI r.items.length r.cI,.slice r.aD r.data.length r.cD,.int .i64 r.next].toList 1 w3 ⟨wr.heap.size,0,none⟩ (λ_ _=>.inl (fU 0)))
        have Y:=iJ (jr wr.heap.size #[.int .i64 r.kind,.int .i64 r.level,.slice r.aI r.items.length r.cI,.slice r.aD r.data.length r.cD,.int .i64 r.next].toList w3 1);have B4:=iJ (((But.ofBelow (S:=λk=>k=wr.heap.size) B3.o).trans Y.o (λ_ _ e=>e)).below (λk hk e=>by omega))
        have P4:=iJ (PN.o.but Y.o (λk e=>by subst e;exact⟨39,_,b.o,by decide,by decide⟩))
        have q0:=(qm b.o).1;rw[<-ab.o] at q0;have q1:=q.o 0 (show 0<5 by decide)
        have q2:=q.o 1 (show 1<5 by decide)
        have q3:=q.o 2 (show 2<5 by decide)
        have q4:=q.o 3 (show 3<5 by decide)
        have q5:=q.o 4 (show 4<5 by decide)
        clear q ab Y TH b PN B B3;generalize w3.setCells wr.heap.size 1 #[.int .i64 r.kind,.int .i64 r.level,.slice r.aI r.items.length r.cI,.slice r.aD r.data.length r.cD,.int .i64 r.next].toList=f at *;have q1:f.cell? ⟨wr.heap.size,1,none⟩=some (.int .i64 r.kind):=q1;have q2:f.cell? ⟨wr.heap.size,2,none⟩=some (.int .i64 r.level):=q2;have q3:f.cell? ⟨wr.heap.size,3,none⟩=some (.slice r.aI r.items.length r.cI):=q3;have q4:f.cell? ⟨wr.heap.size,4,none⟩=some (.slice r.aD r.data.length r.cD):=q4;have q5:f.cell? ⟨wr.heap.size,5,none⟩=some (.int .i64 r.next):=q5;have X:=iJ (al f (.cells #[.int .i64 ((i:Int)+1),.int .i64 r.kind,.int .i64 r.level,.slice r.aI r.items.length r.cI,.slice r.aD r.data.length r.cD,.int .i64 r.next] 39));have X5:=iJ (aH f (.cells #[.int .i64 ((i:Int)+1),.int .i64 r.kind,.int .i64 r.level,.slice r.aI r.items.length r.cI,.slice r.aD r.data.length r.cD,.int .i64 r.next] 39));have C:=iJ ((v.o.keep B4.o).keep X.o);have P5:=iJ (P4.o.keep X.o);go_wp2_with (at_builtin;refine jM underlying36 m7 rfl (by decide) rfl _ _ rfl a L.length c (nms L) rfl C.o.r ⟨f.heap.size,0,none⟩ 1 (nmc ((i:Int)+1,r)) rfl rfl (ny (x:=((i:Int)+1,r)) X5.o) nj ak (by omega) ?_)
        intro g5 c5 w5 I J H;have N6:=iJ (C.o.push (x:=((i:Int)+1,r)) ⟨P5.o,L3.o⟩ I J H);clear I J H C X X5 q0 q1 q2 q3 q4 q5;go_wp2_with fail
        go_roundw
        case rel=>exact⟨i+1,some ⟨g5,0,none⟩,c5,L++[((i:Int)+1,r)],by omega,by go_num,by rw[ae];rfl,N6.o,by rw[sh,O.o,LY.o,PG.o,<-G3.o];rfl,by rw[ae];have:=A.o;simp;omega⟩
        case measure=>simp[intOf];omega
    . have LN:=iJ (Rd.listed_no m);obtain⟨st,an⟩:∃st,D.state ((i:Int)+1)=st:=⟨_,rfl⟩;rw[an] at d m;have e1:(((st:Nat):Int)==s)=false:=by simpa using m
      clear m an;go_wp2_with fail
      refine d.o.mono ?_;rintro _ wq ⟨rfl,l⟩;rw[l];clear l d;go_wp2_with fail
      go_roundw
      case rel=>exact⟨i+1,a,c,L,by omega,by go_num,rfl,v.o,by rw[LN.o];exact O.o,by have:=A.o;omega⟩
      case measure=>simp[intOf];omega
  . obtain rfl:i=n:=by omega
    have ar:¬(i:Int)+1<=(i:Int):=by omega
    go_wp2_with fail
    go_ret;exact⟨a,c,L,rfl,v.o,O.o⟩
end Go.Proofs.YtbdkogimlbnlmaaGreat
