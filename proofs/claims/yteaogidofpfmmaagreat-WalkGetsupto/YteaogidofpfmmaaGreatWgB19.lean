import Derived.Test.YteaogidofpfmmaaGreatWgB18
import Derived.Deep.DeepCutAuto
set_option linter.all false
set_option maxHeartbeats 8000000
set_option maxRecDepth 10000
namespace Go.Proofs.YteaogidofpfmmaaGreat
open Go.Proofs.Tryz
open Go.RowKit
variable {n:Int}{rd:Int->Option Pg}{G:List Int}{b rb:Nat}{col:Nat->Nat}{p:Pg}{D:Rd}{r:Rg}{t:TypeId}{v0 v1 v2 v3 v4:Value}{W w w':World}
theorem ou{rd:Int->Option Pg}{t:Nat}{G:List Int}{n l:Int}(h:l<=0):iE rd t G n l=(G,0):=by
 cases t with
 |zero=>rfl
 |succ t=>unfold iE;rw[if_pos h]
theorem xU{t:Nat}{l:Int}(c:rd n=some p)(a:n∉G)(d:0<l)(hk:p.kind=3):iE rd (t+1) G n l=if (p.data.length:Int)≠min l 480\/decide (p.next=0)≠decide (l<=480) then (n::G,5) else iE rd t (n::G) p.next (l-480):=by
 conv=>lhs;unfold iE
 rw[if_neg (by omega),c]
 simp only;rw[if_neg a,if_neg (by rw[hk];simp)]
def itM(rd:Int->Option Pg)(r:Rg)(x:It)(G:List Int):List Int×Nat:=if has r x.key=false then (G,11) else if x.size<=32 then (G,0) else iE rd 8 G x.child x.size
theorem su{x:It}{L:List It}:iM rd r (x::L) G=if (itM rd r x G).2≠0 then itM rd r x G else iM rd r L (itM rd r x G).1:=by
 conv=>lhs;unfold iM
 unfold itM;by_cases a:has r x.key=false
 . rw[if_pos a,if_pos a,if_pos (by simp)]
 . rw[if_neg a,if_neg a];by_cases c:x.size<=32
   . rw[if_pos c,if_pos c,if_neg (by simp)]
   . rw[if_neg c,if_neg c]
theorem Rq.page(h:Rq w rb D col)(d:0<D.count n):∃(i g:Nat),n=(i:Int)+1/\i<D.C.length/\D.C.length<=65536/\w.cell? ⟨rb,3,none⟩=some (.slice (some ⟨g,0,none⟩) D.C.length D.cP)/\(∀k u,k<5->(D.on n).cs.toList[k]?=some u->w.cell? ⟨g,i*5+k,none⟩=some u):=by
 obtain⟨l,m⟩:=Rd.has_iff.1 (ju d);obtain⟨i,a⟩:∃i:Nat,n=(i:Int)+1:=⟨(n-1).toNat,by omega⟩
 subst a;have a:i<D.C.length:=by omega
 obtain⟨g,e,c⟩:=h.pAt a;obtain⟨c0,c1,c2,c3,j⟩:=h.cells;rw[e,h.nP] at c3;have f:D.on ((i:Int)+1)=D.P.getD i Pv.zero:=by unfold Rd.on;simp
 exact⟨i,g,rfl,a,h.n6,c3,by rw[f];exact c⟩
def ItR(w w':World)(e:Ending)(cb rb gm:Nat)(D:Rd)(ks:Nat)(R:List Int×Nat):Prop:=∃ks':Nat,e=.returned (.int .i64 ((R.2:Nat):Int))/\But (cko cb gm) w w'/\Ckm w' cb rb gm D.C.length R.1 ks'/\(R.2=0->ks'=ks+1)
theorem rag4(h:W.heap[b]?=some (.cells #[v0,v1,v2,v3] t (0,0))):W.cell? ⟨b,0,none⟩=some v0/\W.cell? ⟨b,1,none⟩=some v1/\W.cell? ⟨b,2,none⟩=some v2/\W.cell? ⟨b,3,none⟩=some v3:=by
 refine⟨?_,?_,?_,?_⟩<;>(rw[am _ _ _ _ _ _ h];rfl)
theorem mj(h:W.heap[b]?=some (.cells #[v0,v1,v2,v3,v4] t (0,0))):W.cell? ⟨b,0,none⟩=some v0/\W.cell? ⟨b,1,none⟩=some v1/\W.cell? ⟨b,2,none⟩=some v2/\W.cell? ⟨b,3,none⟩=some v3/\W.cell? ⟨b,4,none⟩=some v4:=by
 refine⟨?_,?_,?_,?_,?_⟩<;>(rw[am _ _ _ _ _ _ h];rfl)
theorem Rq.cko{a c:Nat}(h:Rq w rb D col)(d:∀k,cko a c k->col k=0)(hb:But (cko a c) w w'):Rq w' rb D col:=h.but hb (λk hk e=>hk (d k e))
theorem s8(w:World)(m rb v:Nat)(D:Rd)(col:Nat->Nat)(hR:Rq w rb D col)(hA:ix (rdR D))(aw:∀k,cko m v k->col k=0)(G:List Int)(a:Nat)(M:Ckm w m rb v D.C.length G a)(x:Iv)(hs:x.size<=3840)(r:Rv)(am:Ri w r)(hK:Bs w x.aK x.key)(aG:a<=1000000000000):
 Calls prog 114 #[.pointer (some ⟨m,0,none⟩),x.vl,r.val] w λe w'=>ItR w w' e m rb v D a (itM (rdR D) r.rg x.it G):=by
 have A1:=al w (.cells x.cs 89);have A2:=al (w.alloc (.cells x.cs 89)) (.cells r.cs 62);have E:=gW (bt A1 A2);have X0:=gW ((A2.block w.heap.size (by rw[size_alloc];omega)).trans (ah w (.cells x.cs 89)))
 have Y0:=gW (ah (w.alloc (.cells x.cs 89)) (.cells r.cs 62));rw[size_alloc] at Y0;clear A1 A2;have F:=gW (Cb _ r x.aK _ x.cK x.key (am.keep E.o) (hK.keep E.o) rfl);have HC:=gW (M.keep E.o);have HR:=gW (hR.keep E.o);have HL:=gW M.lb;obtain⟨aK,cK,g,aV,cV,val,child,C⟩:=x;obtain⟨aL,cL,Y,aH,cH,O,Z⟩:=r;obtain⟨R,af⟩:∃R,itM (rdR D) (Rv.rg ⟨aL,cL,Y,aH,cH,O,Z⟩) (Iv.it ⟨aK,cK,g,aV,cV,val,child,C⟩) G=R:=⟨_,rfl⟩;rw[af];have B:=gW (show itM (rdR D) ⟨Y,O,Z⟩ ⟨g,val,child,C⟩ G=R from af)
 have ag:=gW aw;have ay:=gW hA;have hs:C<=3840:=hs;unfold Iv.vl Rv.val at *;simp only[Iv.cs,Rv.cs,Rv.rg,Iv.it] at E X0 Y0 F HC HR B ⊢;clear af am hK M hR hA aw;generalize av:(w.alloc (.cells #[.slice aK g.length cK,.slice aV val.length cV,.int .i64 child,.int .i64 C] 89)).alloc (.cells #[.slice aL Y.length cL,.slice aH O.length cH,.bool Z] 62)=w1 at *;obtain⟨i0,i1,i2,i3⟩:=rag4 X0.o;obtain⟨j0,j1,j2⟩:=ia Y0.o;cases hh:has ⟨Y,O,Z⟩ g with
 |false=>
  rw[hh] at F;have c:Hid (R=(G,11)):=gW (by rw[<-B.o];unfold itM;exact if_pos hh)
  go_enter func114,ntmps114;go_upto_region 1 with fail
  clear av;go_wp2_with fail
  refine F.o.mono ?_;rintro _ w2 ⟨rfl,A⟩;have L:=gW (bt E.o A);have I:=gW (HC.o.keep A);clear A F;go_wp2;go_ret;rw[c.o];exact⟨a,rfl,But.ofBelow L.o,I.o,λh=>by cases h⟩
 |true=>
  rw[hh] at F;replace B:Hid ((if C<=32 then (G,0) else iE (rdR D) 8 G child C)=R):=gW (by rw[<-B.o];unfold itM;exact(if_neg (by show ¬has ⟨Y,O,Z⟩ g=false;rw[hh];decide)).symm)
  clear hh;have aP:IntKind.i64.wrap ((a:Int)+1)=(a:Int)+1:=iz (by omega) (by omega)
  have aC:((a+1:Nat):Int)=(a:Int)+1:=by omega
  go_enter func114,ntmps114;go_upto_region 1 with fail
  clear av;go_wp2_with fail
  refine F.o.mono ?_;rintro _ w2 ⟨rfl,A⟩;have L:=gW (bt E.o A);have I:=gW (HC.o.keep A);have R2:=gW (HR.o.keep A);have X2:=gW ((A.block w.heap.size (ae.1 X0.o).1).trans X0.o);clear A F i0 i1 i2 i3 j0 j1 j2 HC HR;obtain⟨c0,c1,c2⟩:=I.o.cells;have f2:=I.o.fz 2;have b3:=(But.refl (cko m v) w2).setCell (p:=⟨m,2,none⟩) (λ_=>.inl rfl) (.int .i64 ((a:Int)+1))
  have U:=I.o.more;rw[aC] at U;have hL:=HL.o;have X3:=gW (b3.same X2.o (λe=>by rcases e with e|e<;>omega))
  have R3:=gW (R2.o.cko ag.o b3);have P:=gW ((But.ofBelow (S:=cko m v) L.o).trans b3 (λ_ _ e=>e))
  replace U:=gW U
  obtain⟨i0,i1,i2,i3⟩:=rag4 X3.o;go_upto_region 4 with fail
  generalize w2.setCell ⟨m,2,none⟩ (.int .i64 ((a:Int)+1))=w3 at *;clear c0 c1 c2 f2 b3 L I R2 X2;by_cases h2:C<=32
  . have c:Hid (R=(G,0)):=gW (B.o.symm.trans (if_pos h2));go_wp2;go_ret;rw[c.o];exact⟨a+1,rfl,P.o,U.o,λ_=>rfl⟩
  . replace B:=gW ((if_neg h2).symm.trans B.o)
    go_upto_region 8 with fail
    clear i0 i1 i2 i3;go_loopw [7,8] (λp q wr=>∃(t:Nat)(f:List Int)(n l:Int),p=.int .i64 l/\q=.int .i64 n/\l<=480*t/\l<=3840/\0<=l/\But (cko m v) w3 wr/\Ckm wr m rb v D.C.length f (a+1)/\iE (rdR D) t f n l=R) (λp _ _=>(intOf p).toNat)
    case atStart=>exact⟨8,G,child,C,rfl,rfl,by omega,hs,by omega,But.refl _ _,U.o,B.o⟩
    case round=>
     obtain⟨t,f,n,l,rfl,rfl,aI,aJ,aM,hB,M,s⟩:=hrel;have HB:=gW hB;have CC:=gW M;have V:=gW s;have RW:=gW (R3.o.cko ag.o hB);clear hB M s;by_cases aA:0<l
     . have EN:=gW (nO wr m rb v D col RW.o f (a+1) CC.o n);obtain⟨H,rfl⟩:∃H,t=H+1:=⟨t-1,by omega⟩
       go_wp2_with fail
       refine EN.o.mono ?_;rintro e w4 (⟨rfl,ax,hw⟩|⟨rfl,h0,ap,an,ak⟩)
       . obtain rfl:=hw.symm
         have c:Hid (R=(f,15)):=by
          show _=_;rw[<-V.o];unfold iE;rw[if_neg (by omega)]
          rcases ax with h|h
          . rw[mo h]
          . cases hp:rdR D n with
            |none=>rfl
            |some p=>simp only;rw[if_pos h]
         clear hw ax EN;go_wp2;go_ret;rw[c.o];exact⟨a+1,rfl,P.o.trans HB.o (λ_ _ e=>e),CC.o,λh=>by cases h⟩
       . have B4:=gW (HB.o.trans (an.mono (T:=cko m v) λk _ e=>.inr e) (λ_ _ e=>e))
         have R4:=gW (R3.o.cko ag.o B4.o);have C4:=gW ak;have ac:=gW (ay.o n _ (lh h0));have RD:=gW (lh h0);have ab:=gW ap;obtain⟨i,aD,rfl,O,y,c3,s⟩:=R4.o.page h0;clear an ak h0 ap EN;have az:(i:Int)<(D.C.length:Int):=by omega
         have aO:(i:Int)+1-1=(i:Int):=by omega
         obtain⟨c0,c1,c2⟩:=C4.o.cells;obtain⟨q,hq⟩:∃q,D.on ((i:Int)+1)=q:=⟨_,rfl⟩;rw[hq] at s ac RD;clear hq;obtain⟨kq,lq,aq,cq,aa,ad,cd,K,nq⟩:=q;have y0:=s 0 _ (by decide) rfl
         have y1:=s 1 _ (by decide) rfl
         have y2:=s 2 _ (by decide) rfl
         have y3:=s 3 _ (by decide) rfl
         have y4:=s 4 _ (by decide) rfl
         rw[dr] at y0;clear s;have aj:=C4;obtain⟨ai,hN⟩:∃ai,D.C.length=ai:=⟨_,rfl⟩;rw[hN] at c1 c3 az y;have HD:=gW hN;clear hN;by_cases h3:kq=3
         . subst h3;have ao:=gW ((ac.o.blob rfl).2.2);have j:Hid ((if (K.length:Int)≠min l 480\/decide (nq=0)≠decide (l<=480) then (((i:Int)+1)::f,5) else iE (rdR D) H (((i:Int)+1)::f) nq (l-480))=R):=gW (by rw[<-V.o];exact(xU RD.o ab.o aA rfl).symm)
           have aF:K.length<=480:=ao.o.2.1;have A5:=gW (al w4 (.cells #[.int .i64 3,.int .i64 lq,.slice aq aa.length cq,.slice ad K.length cd,.int .i64 nq] 77));have X5:=ah w4 (.cells #[.int .i64 3,.int .i64 lq,.slice aq aa.length cq,.slice ad K.length cd,.int .i64 nq] 77);have BF:=gW (B4.o.andBelow A5.o);have J:=gW (aj.o.keep A5.o);obtain⟨j0,j1,j2,j3,j4⟩:=mj X5;clear RD ab ac ao V C4 aj X5 A5;go_upto_region 12 with fail
           generalize w4.alloc (.cells #[.int .i64 3,.int .i64 lq,.slice aq aa.length cq,.slice ad K.length cd,.int .i64 nq] 77)=w5 at *;clear y0 y1 y2 y3 y4 c0 c1 c2 c3;generalize K.length=d at *;have N:=gW (P.o.trans BF.o (λ_ _ e=>e))
           by_cases h4:l<=480
           . by_cases X:(d:Int)=l
             . subst X;have hm:min 480 (d:Int)=(d:Int):=by omega
               have aN:min (d:Int) 480=(d:Int):=by omega
               have aQ:IntKind.i64.wrap ((d:Int)-(d:Int))=0:=by rw[Int.sub_self];exact iz (by omega) (by omega)
               by_cases y:nq=0
               . subst y
                 have c:Hid (iE (rdR D) H (((i:Int)+1)::f) 0 0=R):=gW (by
                  have h7:=j.o;rw[if_neg (λh=>by rcases h with h|h;exact h (by omega);exact h (by rw[au (rfl:(0:Int)=0),au h4])),ou (by omega)] at h7
                  rw[<-h7];exact ou (by omega))
                 clear j;go_wp2;go_roundw
                 case rel=>exact⟨H,((i:Int)+1)::f,0,0,by first|rfl|go_num,rfl,by omega,by omega,by omega,BF.o,J.o,c.o⟩
                 case measure=>simp[intOf];omega
               . have c:Hid (R=(((i:Int)+1)::f,5)):=gW (by
                  rw[<-j.o];exact if_pos (.inr (λh=>by rw[ar y,au h4] at h;cases h)))
                 clear j;have hq:(nq==0)=false:=by simp[y]
                 go_wp2;go_ret;rw[c.o];exact⟨a+1,rfl,N.o,J.o,λh=>by cases h⟩
             . have c:Hid (R=(((i:Int)+1)::f,5)):=gW (by
                rw[<-j.o];exact if_pos (.inl (λh=>X (by omega))))
               clear j;have hm:min 480 l=l:=by omega
               go_wp2;go_ret;rw[c.o];exact⟨a+1,rfl,N.o,J.o,λh=>by cases h⟩
           . have hm:min 480 l=480:=by omega
             by_cases X:(d:Int)=480
             . obtain rfl:d=480:=by omega
               clear X;have hw:IntKind.i64.wrap (l-480)=l-480:=iz (by omega) (by omega)
               have aB:¬l-480=0:=by omega
               have aE:(l-480==0)=false:=by simp[aB]
               by_cases y:nq=0
               . subst y
                 have c:Hid (R=(((i:Int)+1)::f,5)):=gW (by
                  rw[<-j.o];exact if_pos (.inr (λh=>by rw[au (rfl:(0:Int)=0),ar h4] at h;cases h)))
                 clear j;go_wp2;go_ret;rw[c.o];exact⟨a+1,rfl,N.o,J.o,λh=>by cases h⟩
               . have c:Hid (iE (rdR D) H (((i:Int)+1)::f) nq (l-480)=R):=gW (by
                  rw[<-j.o];exact(if_neg (λh=>by rcases h with h|h;exact h (by omega);exact h (by rw[ar y,ar h4]))).symm)
                 clear j;have hq:(nq==0)=false:=by simp[y]
                 go_wp2;go_roundw
                 case rel=>exact⟨H,((i:Int)+1)::f,nq,l-480,by first|rfl|go_num,rfl,by omega,by omega,by omega,BF.o,J.o,c.o⟩
                 case measure=>simp[intOf];omega
             . have c:Hid (R=(((i:Int)+1)::f,5)):=gW (by
                rw[<-j.o];exact if_pos (.inl (λh=>X (by omega))))
               clear j;go_wp2;go_ret;rw[c.o];exact⟨a+1,rfl,N.o,J.o,λh=>by cases h⟩
         . have c:Hid (R=(((i:Int)+1)::f,15)):=by
            show _=_;rw[<-V.o];unfold iE;rw[if_neg (by omega),RD.o]
            simp only;rw[if_neg ab.o];exact if_pos (show(kq:Int)≠3 from h3)
           go_wp2;go_ret;rw[c.o];exact⟨a+1,rfl,P.o.trans B4.o (λ_ _ e=>e),C4.o,λh=>by cases h⟩
     . obtain rfl:l=0:=by omega
       go_wp2;go_ret;have:=V.o;rw[ou (by omega)] at this
       rw[<-this];exact⟨a+1,rfl,P.o.trans HB.o (λ_ _ e=>e),CC.o,λ_=>rfl⟩
theorem Dl(h:W.heap[b]?=some (.cells #[v0,v1,v2,v3,v4] t (0,0))):W.cell? ⟨b,0,none⟩=some v0/\W.cell? ⟨b,1,none⟩=some v1/\W.cell? ⟨b,2,none⟩=some v2/\W.cell? ⟨b,3,none⟩=some v3/\W.cell? ⟨b,4,none⟩=some v4:=by
 refine⟨?_,?_,?_,?_,?_⟩<;>(rw[am _ _ _ _ _ _ h];rfl)
theorem sc{o:Nat}(h:w.rangeAt b o #[v0,v1,v2,v3].toList):w.cell? ⟨b,o,none⟩=some v0/\w.cell? ⟨b,o+1,none⟩=some v1/\w.cell? ⟨b,o+2,none⟩=some v2/\w.cell? ⟨b,o+3,none⟩=some v3:=
 ⟨h 0 _ rfl,h 1 _ rfl,h 2 _ rfl,h 3 _ rfl⟩
theorem pJ(w:World)(p:Pv)(i:Nat)(hi:i<p.items.length)(r:Rv)(hP:Pi w p)(aE:Ri w r)(aC:Rb r)(hk:∀x∈p.items,x.key.length<=24):
 Calls prog 115 #[p.vl,.int .i64 (i:Int),r.val] w λe w'=>∃q:Rv,e=.returned q.val/\Ro w w' q/\q.rg=wth p.pg i r.rg:=by
 obtain⟨ar,au,aw,aq,aG⟩:=ml w (.cells p.cs 77) (.cells r.cs 62) (.cells #[.slice none 0 0,.slice none 0 0,.bool false] 62) (Below.refl _ _);have I:=gW aq;have j:=gW ar;have X1:=gW au;have X2:=gW aw;have aM:=gW aG;clear aq ar au aw aG;have hn:p.items.length<=2199023255520:=hP.it.2.1;obtain⟨F,J,ea,cA⟩:=(hP.it.keep I.o).at hi;have ag:=gW (hP.keep I.o);have aj:=gW (aE.keep I.o);have y:=gW ((ag.o.it).1 _ (ie hi));have ei:p.pg.at i=(p.items.getD i Iv.zero).it:=iY p.items i;have K:=hk _ (ie hi);have KN:∀ad,ad<p.items.length->(p.items.getD ad Iv.zero).key.length<=24:=λad hj=>hk _ (ie hj)
 have sw:=size_alloc ((w.alloc (.cells p.cs 77)).alloc (.cells r.cs 62)) (.cells #[.slice none 0 0,.slice none 0 0,.bool false] 62);rw[size_alloc,size_alloc] at sw;clear hk;obtain⟨wt,ap⟩:∃wt,wth p.pg i r.rg=wt:=⟨_,rfl⟩;have WT:=gW ap;rw[ap];unfold wth at WT;clear ap hP aE;obtain⟨kind,ac,aI,cI,L,aD,cD,ab,next⟩:=p
 have ea:aI=some ⟨F,J,none⟩:=ea;subst ea;unfold Pv.vl Rv.val at *;simp only[Pv.cs,Rv.cs] at *;generalize aQ:((w.alloc (.cells #[.int .i64 kind,.int .i64 ac,.slice (some ⟨F,J,none⟩) L.length cI,.slice aD ab.length cD,.int .i64 next] 77)).alloc (.cells #[.slice r.aL r.lo.length r.cL,.slice r.aH r.hi.length r.cH,.bool r.op] 62)).alloc (.cells #[.slice none 0 0,.slice none 0 0,.bool false] 62)=a at*
 obtain⟨d0,d1,d2,d3⟩:=sc cA;obtain⟨m0,m1,m2,m3,m4⟩:=Dl j.o;have a2:(i:Int)<(L.length:Int):=by omega
 have a1:(0:Int)<=(i:Int):=by omega
 obtain⟨x,c⟩:∃x,L.getD i Iv.zero=x:=⟨_,rfl⟩;rw[c] at d0 y ei K;clear c cA d1 d2 d3;obtain⟨f,g,d,av,cv,val,child,a7⟩:=x;simp only at d0;have s:=gW (al a (.cells #[.slice f d.length g,.slice none 0 0,.bool true] 62));have N:=gW (ah a (.cells #[.slice f d.length g,.slice none 0 0,.bool true] 62));go_enter func115,ntmps115;go_upto_region 1 with fail
 clear aQ;go_upto_region 2 with fail
 generalize a.alloc (.cells #[.slice f d.length g,.slice none 0 0,.bool true] 62)=V at *;have BV:=gW (bt I.o s.o);have Y0:=gW ((s.o.block w.heap.size (ae.1 j.o).1).trans j.o);have Y1:=gW ((s.o.block (w.heap.size+1) (ae.1 X1.o).1).trans X1.o);have Y2:=gW ((s.o.block (w.heap.size+2) (ae.1 X2.o).1).trans X2.o);have RV:=gW (aj.o.keep s.o);have IV:=gW (y.o.keep s.o);have PV:=gW (ag.o.keep s.o);have aO:=gW d0;have aK:=s;have ax:=y;have aN:=aj;have aJ:=I;clear d0 m0 m1 m2 m3 m4 j X1 X2 y aj I s;obtain⟨m0,m1,m2,m3,m4⟩:=Dl Y0.o;have a0:w.heap.size+3<=a.heap.size:=aM.o;have a4:IntKind.i64.wrap ((i:Int)+1)=(i:Int)+1:=iz (by omega) (by omega)
 by_cases U:i+1<L.length
 . have a5:(i:Int)+1<(L.length:Int):=by omega
   have a8:(0:Int)<=(i:Int)+1:=by omega
   have a3:((i:Int)+1).toNat=i+1:=by omega
   obtain⟨P,o2,e2,cB⟩:=(PV.o.it).at U;simp only[ay,Addr.mk.injEq] at e2;obtain⟨rfl,rfl,_⟩:=e2;obtain⟨T,_,_,_⟩:=sc cB;have YI:=gW (((ag.o.it).1 _ (ie U)));have aB:(⟨kind,ac,some ⟨F,J,none⟩,cI,L,aD,cD,ab,next⟩:Pv).pg.at (i+1)=(L.getD (i+1) Iv.zero).it:=iY L (i+1)
   have am:=KN (i+1) U;obtain⟨af,hy⟩:∃af,L.getD (i+1) Iv.zero=af:=⟨_,rfl⟩;rw[hy] at T YI aB am;clear hy cB;obtain⟨E,C,m,_,_,_,_,_⟩:=af;simp only at T;have aA:=YI
   have FN:Hid (F≠a.heap.size):=λe=>by
    obtain⟨p0,p1,p2⟩:=ia N.o;have hb:=block_lt_of_cell aO.o;have hb:F<a.heap.size:=hb;omega
   have g2:=bq V a.heap.size 2 _ _ N.o;have aa:=aS V a.heap.size 2 _ _ (.bool false) N.o;have g1:=bq _ a.heap.size 1 _ _ aa;have az:=aS _ a.heap.size 1 _ _ (.slice E m.length C) aa;obtain⟨v0,v1,v2⟩:=ia N.o;obtain⟨aX,aY,aZ⟩:=ia (show _=some (Obj.cells #[.slice f d.length g,.slice none 0 0,.bool false] 62 (0,0)) from aa)
   have P:=(But.refl (λk=>k=a.heap.size) V).setCell (p:=⟨a.heap.size,2,none⟩) (λ_=>rfl) (.bool false)
   have R:=P.setCell (p:=⟨a.heap.size,1,none⟩) (λ_=>rfl) (.slice E m.length C)
   have aP:=(P.cell (p:=⟨F,J+(i+1)*4,none⟩) (block_lt_of_cell T) (λe=>FN.o e)).trans T
   obtain⟨aR,aT,aU,aV,aW⟩:=Dl (P.same Y0.o (λe=>by have e:w.heap.size=a.heap.size:=e;omega))
   have Z0:=gW (R.same Y0.o (λe=>by have e:w.heap.size=a.heap.size:=e;omega))
   have Z1:=gW (R.same Y1.o (λe=>by have e:w.heap.size+1=a.heap.size:=e;omega))
   have H:=gW (R.same Y2.o (λe=>by have e:w.heap.size+2=a.heap.size:=e;omega))
   have Z3:=gW (show _=some (Obj.cells #[.slice f d.length g,.slice E m.length C,.bool false] 62 (0,0)) from az)
   have Z:=gW (((But.ofBelow (S:=λk=>k=a.heap.size) aK.o).trans R (λ_ _ e=>e)).below (λk hk e=>by have e:k=a.heap.size:=e;omega))
   have SK:=gW (show Ri ((V.setCell ⟨a.heap.size,2,none⟩ (.bool false)).setCell ⟨a.heap.size,1,none⟩ (.slice E m.length C)) ⟨f,g,d,E,C,m,false⟩ from⟨ax.o.bk.keep Z.o,ax.o.ck,aA.o.bk.keep Z.o,aA.o.ck⟩)
   have RW:=gW (aN.o.keep Z.o);have BW:=gW (bt aJ.o Z.o)
   have ao:Hid (Rb ⟨f,g,d,E,C,m,false⟩):=by
    have K:d.length<=24:=K;have am:m.length<=24:=am;exact⟨show d.length<=_ by omega,show m.length<=_ by omega⟩
   have EQ:Hid (wt=js r.rg (⟨f,g,d,E,C,m,false⟩:Rv).rg):=by
    show _=_;rw[<-WT.o];have Y:i+1<(⟨kind,ac,some ⟨F,J,none⟩,cI,L,aD,cD,ab,next⟩:Pv).pg.items.length:=by simpa[Pv.pg] using U
    rw[ei,aB,if_pos Y];simp only[Y,not_true_eq_false,decide_false];rfl
   go_upto_region 5 with fail
   generalize (V.setCell ⟨a.heap.size,2,none⟩ (.bool false)).setCell ⟨a.heap.size,1,none⟩ (.slice E m.length C)=B at *;clear g1 g2 az aa P R T aP m0 m1 m2 m3 m4 aR aT aU aV aW v0 v1 v2 aX aY aZ;have A:=gW (sT B r ⟨f,g,d,E,C,m,false⟩ RW.o SK.o aC ao.o);unfold Rv.val at A;simp only[Rv.cs] at A;obtain⟨n0,n1,n2⟩:=ia Z1.o;obtain⟨q0,q1,q2⟩:=ia Z3.o;go_wp2_with fail
   refine A.o.mono ?_;rintro e W5 ⟨q,rfl,l,X⟩;have O:=gW ((l.l.b.block (w.heap.size+2) (ae.1 H.o).1).trans H.o);have h:=gW (l.pre BW.o);have M:Hid ((∀x,q.aL=some x->B.heap.size<=x.block)/\∀x,q.aH=some x->B.heap.size<=x.block):=⟨λx c=>l.l.fresh c,λx c=>l.h.fresh c⟩
   have QG:=gW (X.trans EQ.o.symm);have h4:w.heap.size+2<B.heap.size:=(ae.1 H.o).1;clear A l X n0 n1 n2 q0 q1 q2;obtain⟨aL,cL,lo,aH,cH,hi,op⟩:=q;go_wp2_with (refine bz rfl 62 _ _ rfl (w.heap.size+2) _ rfl rfl 62 _ O.o iF rfl (by simp[Value.oneCell',Rv.cs]) ?_)
   refine aF (v:=.agg _) (dB results115 _ _ (w.heap.size+2) 62 _ (0,0) _ rfl (br _ _ _ _ _ _ O.o) underlying62 rfl iF) rfl ?_;exact⟨⟨aL,cL,lo,aH,cH,hi,op⟩,rfl,⟨h.o.l.setRow (by omega) (λx c e=>by have:=M.o.1 x c;omega) _,h.o.h.setRow (by omega) (λx c e=>by have:=M.o.2 x c;omega) _,h.o.apart,h.o.l8,h.o.h8⟩,QG.o⟩
 . have a6:¬(i:Int)+1<(L.length:Int):=by omega
   have Z0:=Y0;have Z1:=Y1;have H:=Y2;have Z3:=N;have SK:=gW (show Ri V ⟨f,g,d,none,0,[],true⟩ from⟨IV.o.bk,IV.o.ck,Bs.nil _,ai _⟩)
   have RW:=RV;have BW:=BV
   have ao:Hid (Rb ⟨f,g,d,none,0,[],true⟩):=by
    have K:d.length<=24:=K;exact⟨show d.length<=_ by omega,an _⟩
   have EQ:Hid (wt=js r.rg (⟨f,g,d,none,0,[],true⟩:Rv).rg):=by
    show _=_;rw[<-WT.o];have Y:¬i+1<(⟨kind,ac,some ⟨F,J,none⟩,cI,L,aD,cD,ab,next⟩:Pv).pg.items.length:=by simpa[Pv.pg] using U
    rw[ei,if_neg Y];simp only[Y,not_false_eq_true,decide_true];rfl
   go_upto_region 5 with fail
   clear m0 m1 m2 m3 m4;generalize V=B at *;have A:=gW (sT B r ⟨f,g,d,none,0,[],true⟩ RW.o SK.o aC ao.o);unfold Rv.val at A;simp only[Rv.cs] at A;obtain⟨n0,n1,n2⟩:=ia Z1.o;obtain⟨q0,q1,q2⟩:=ia Z3.o;go_wp2_with fail
   refine A.o.mono ?_;rintro e W5 ⟨q,rfl,l,X⟩;have O:=gW ((l.l.b.block (w.heap.size+2) (ae.1 H.o).1).trans H.o);have h:=gW (l.pre BW.o);have M:Hid ((∀x,q.aL=some x->B.heap.size<=x.block)/\∀x,q.aH=some x->B.heap.size<=x.block):=⟨λx c=>l.l.fresh c,λx c=>l.h.fresh c⟩
   have QG:=gW (X.trans EQ.o.symm);have h4:w.heap.size+2<B.heap.size:=(ae.1 H.o).1;clear A l X n0 n1 n2 q0 q1 q2;obtain⟨aL,cL,lo,aH,cH,hi,op⟩:=q;go_wp2_with (refine bz rfl 62 _ _ rfl (w.heap.size+2) _ rfl rfl 62 _ O.o iF rfl (by simp[Value.oneCell',Rv.cs]) ?_)
   refine aF (v:=.agg _) (dB results115 _ _ (w.heap.size+2) 62 _ (0,0) _ rfl (br _ _ _ _ _ _ O.o) underlying62 rfl iF) rfl ?_;exact⟨⟨aL,cL,lo,aH,cH,hi,op⟩,rfl,⟨h.o.l.setRow (by omega) (λx c e=>by have:=M.o.1 x c;omega) _,h.o.h.setRow (by omega) (λx c e=>by have:=M.o.2 x c;omega) _,h.o.apart,h.o.l8,h.o.h8⟩,QG.o⟩
theorem vd{rd:Int->Option Pg}:∀(t:Nat)(G:List Int)(n l:Int),∀x∈G,x∈(iE rd t G n l).1
 |0,G,n,l,x,h=>h
 |t+1,G,n,l,x,h=>by
  unfold iE;split
  . exact h
  . cases hp:rd n with
    |none=>exact h
    |some p=>
     simp only;split
     . exact h
     . split
       . exact bj _ h
       . split
         . exact bj _ h
         . exact vd t (n::G) p.next (l-480) x (bj _ h)
theorem xg{x:It}:∀k∈G,k∈(itM rd r x G).1:=by
 intro k hk;unfold itM;split
 . exact hk
 . split
   . exact hk
   . exact vd _ _ _ _ k hk
theorem xc{x:It}(h:Gok rd G):Gok rd (itM rd r x G).1/\G.length<=(itM rd r x G).1.length:=by
 unfold itM;split
 . exact⟨h,ai _⟩
 . split
   . exact⟨h,ai _⟩
   . exact pY _ _ _ _ h
theorem Dr(h:Sound p):lvl p 0=decide (p.kind=1):=by
 by_cases c:p.kind=1
 . rw[au c];exact jb.2 ⟨by omega,(h.leaf0 c).1⟩
 . rw[ar c];cases e:lvl p 0 with
   |false=>rfl
   |true=>
    obtain⟨a,b⟩:=jb.1 e;rcases h.kind with k|k|k
    . exact absurd k c
    . have:=(h.idx k).1;omega
    . exact absurd k a
theorem Fg(h:Sound p){c:Int}(f:0<c):lvl p c=(decide (p.kind=2)&&decide (p.level=c)):=by
 by_cases d:p.kind=2
 . unfold lvl;simp[d]
 . rw[ar d,eU];cases e:lvl p c with
   |false=>rfl
   |true=>
    obtain⟨a,b⟩:=jb.1 e;rcases h.kind with k|k|k
    . have:=(h.leaf0 k).1;omega
    . exact absurd k d
    . exact absurd k a
def PgR(w w':World)(e:Ending)(cb rb gm:Nat)(D:Rd)(G:List Int)(s:Cst):Prop:=∃ks':Nat,e=.returned (.int .i64 ((s.er:Nat):Int))/\But (cko cb gm) w w'/\Ckm w' cb rb gm D.C.length s.G ks'/\(s.er=0->ks'=s.ks/\Kb (rdR D) s/\∀x∈G,x∈s.G)
def rE(r:Rv)(k:Nat):Prop:=(∃x,r.aL=some x/\x.block=k)\/∃x,r.aH=some x/\x.block=k
theorem Ri.but'{S:Nat->Prop}{r:Rv}(h:Ri w r)(hb:But S w w')(c:∀k,rE r k->¬S k):Ri w' r:=⟨h.bl.but hb (λx a _=>c _ (.inl ⟨x,a,rfl⟩)),h.cl,h.bh.but hb (λx a _=>c _ (.inr ⟨x,a,rfl⟩)),h.ch⟩
def xY(D:Rd)(root:Int)(f:Nat):Prop:=∀(w:World)(cb rb gm:Nat)(col:Nat->Nat),Rq w rb D col->(∀k,cko cb gm k->col k=0)->∀(G:List Int)(ks:Nat),Ckm w cb rb gm D.C.length G ks->∀(n lv:Int),lv=(f:Int)->∀(r:Rv),Ri w r->Rb r->(∀k,rE r k->¬cko cb gm k)->∀(rt:Bool),(rt=true/\n=root\/rt=false/\root∈G)->Kb (rdR D) ⟨G,ks,0⟩->
 Calls prog 68 #[.pointer (some ⟨cb,0,none⟩),.int .i64 n,.int .i64 lv,r.val,.bool rt] w λe w'=>PgR w w' e cb rb gm D G (ib (ik (rdR D) root) (rdR D) (λ_=>true) true f ⟨G,ks,0⟩ ⟨n,lv,r.rg⟩)
theorem Ek(D:Rd)(hA:ix (rdR D))(hN:j5 (rdR D) 65536)(root:Int):xY D root 0:=by
 intro w s rb m col hR aW G l E n lv aQ r aO aN aP rt aT hK;have A0:=gW (al w (.cells r.cs 62));have X0:=gW (ah w (.cells r.cs 62));have EN:=gW (nO _ s rb m D col (hR.keep A0.o) G l (E.keep A0.o) n);have HR:=gW hR;have HC:=gW E;have HL:=gW E.lb;have RI:=gW aO;have RB:=gW aN;have ak:=gW aP;have Y:=gW aW;have HK:=gW hK;have aI:=gW aT;have HA:=gW hA;have HN:=gW hN;have aH:=gW aQ;obtain⟨X,aF⟩:∃X,ib (ik (rdR D) root) (rdR D) (λ_=>true) true 0 ⟨G,l,0⟩ ⟨n,lv,r.rg⟩=X:=⟨_,rfl⟩
 rw[aF];have TS:=gW aF;unfold Rv.val;simp only[Rv.cs] at A0 X0 EN ⊢;clear hR E aO aN aP aW hK aT hA hN aF aQ;go_enter func68,ntmps68;go_upto_region 1 with fail
 generalize w.alloc (.cells #[.slice r.aL r.lo.length r.cL,.slice r.aH r.hi.length r.cH,.bool r.op] 62)=w1 at *;go_wp2_with fail
 refine EN.o.mono ?_;rintro e k (⟨rfl,aX,hw⟩|⟨rfl,h0,aR,aa,ac⟩)
 . obtain rfl:=hw.symm
   have v:Hid (X=⟨G,l,15⟩):=by
    show _=_;rw[<-TS.o];refine(nH rfl ?_);rcases aX with h|h
    . exact .inl (mo h)
    . exact .inr h
   clear hw aX;go_wp2;go_ret;rw[v.o];exact⟨l,rfl,But.ofBelow A0.o,HC.o.keep A0.o,λh=>by cases h⟩
 have aZ:=gW (aa.same X0.o (λe=>by have e:w.heap.size=m:=e;have:=HL.o.2;omega))
 have J:=gW (((But.ofBelow (S:=cko s m) A0.o).trans (aa.mono (T:=cko s m) λab _ e=>.inr e) (λ_ _ e=>e)))
 have N:=gW ac;have H0:=gW h0;have am:=gW aR;have aA:=gW (HA.o n _ (lh h0));have RD:=gW (lh h0);have R2:=gW (HR.o.cko Y.o J.o);obtain⟨i,aY,rfl,hi,K,c3,F⟩:=R2.o.page h0;have aS:=R2.o.ps _ (Rd.on_mem R2.o (ju h0));have aC:=gW ((R2.o.pz _ (Rd.on_mem R2.o (ju h0))));clear aa ac h0 aR EN;have a9:(i:Int)<(D.C.length:Int):=by omega
 have a4:(i:Int)+1-1=(i:Int):=by omega
 have ba:IntKind.i64.wrap ((i:Int)+1-1)=(i:Int):=by rw[a4];exact iz (by omega) (by omega)
 obtain⟨c0,c1,c2⟩:=N.o.cells;obtain⟨q,hq⟩:∃q,D.on ((i:Int)+1)=q:=⟨_,rfl⟩;rw[hq] at F aA RD aC aS;clear hq;obtain⟨kq,lq,aq,g,L,ad,cd,ai,nx⟩:=q;have y0:=F 0 _ (by decide) rfl
 have y1:=F 1 _ (by decide) rfl
 have y2:=F 2 _ (by decide) rfl
 have y3:=F 3 _ (by decide) rfl
 have y4:=F 4 _ (by decide) rfl
 rw[dr] at y0;have gl:aY<k.heap.size:=block_lt_of_cell y0;have XR:=gW (aZ.o);have A3:=gW (al k (.cells #[.int .i64 kq,.int .i64 lq,.slice aq L.length g,.slice ad ai.length cd,.int .i64 nx] 77));have X3:=gW (ah k (.cells #[.int .i64 kq,.int .i64 lq,.slice aq L.length g,.slice ad ai.length cd,.int .i64 nx] 77));clear F;go_upto_region 4 with fail
 have B3:=gW (J.o.andBelow A3.o);have aL:=gW ((A3.o.block w.heap.size (ae.1 XR.o).1).trans XR.o);have C3:=gW (N.o.keep A3.o);have R3:=gW (R2.o.keep A3.o);have P3:=gW (aC.o.keep A3.o);have aJ:=gW (RI.o.but' B3.o ak.o);have bb:=J.o.size;have A:k.heap.size≠s/\k.heap.size≠m/\w.heap.size≠s/\w.heap.size≠m:=by have:=HL.o;omega
 generalize k.alloc (.cells #[.int .i64 kq,.int .i64 lq,.slice aq L.length g,.slice ad ai.length cd,.int .i64 nx] 77)=w3 at *;obtain⟨m0,m1,m2,m3,m4⟩:=mj X3.o;have a8:L.length<=1048576:=(kW (aS)).2;clear y0 y1 y2 y3 y4 c0 c1 c2 c3 XR A3 J N R2 aC A0 X0;obtain rfl:lv=0:=by have:=aH.o;omega
 clear aH;have af:=Dr aA.o;by_cases hk:kq=1
 . subst hk;have af:lvl (Pv.pg ⟨1,lq,aq,g,L,ad,cd,ai,nx⟩) 0=true:=by rw[af];rfl
   obtain⟨R,aM⟩:∃R,iM (rdR D) r.rg (L.map Iv.it) (((i:Int)+1)::G)=R:=⟨_,rfl⟩;have RR:=gW aM
   have az:Hid (X=i6 (rdR D) root ⟨((i:Int)+1)::G,l,0⟩ ⟨(i:Int)+1,0,r.rg⟩ (Pv.pg ⟨1,lq,aq,g,L,ad,cd,ai,nx⟩)):=gW (by
    rw[<-TS.o];exact nR (M:=ik (rdR D) root) rfl RD.o am.o af (.inr rfl))
   have h8:L.length<=8:=by have:=(aA.o.node (.inl rfl)).2.2.1;simpa[Pv.pg] using this
   have KT:=gW (HK.o.tel (root:=root) (a:=⟨(i:Int)+1,0,r.rg⟩) RD.o am.o (by simpa[Pv.pg] using h8))
   have GK:=gW (HK.o.g.cons RD.o am.o);have KN:Hid (l<=8*65536):=gW (HK.o.len HN.o);have SZ:Hid (∀x∈L,x.size<=3840):=gW (λx C=>((aA.o.fits (x:=x.it) (bM.2 ⟨x,C,rfl⟩)).leaf rfl).2.1)
   clear af aM;by_cases aB:rt=false/\L.length<4
   . obtain⟨rfl,h4⟩:=aB
     have a3:(i:Int)+1≠root:=λe=>by
      rcases aI.o with⟨h,_⟩|⟨_,h⟩
      . cases h
      . exact am.o (e▸h)
     have a0:(L.length:Int)<4:=by omega
     have v:Hid (X=⟨((i:Int)+1)::G,l,5⟩):=gW (by
      rw[az.o];unfold i6;rw[if_pos ⟨a3,by simpa[Pv.pg] using h4⟩])
     go_wp2;go_ret;rw[v.o];exact⟨l,rfl,B3.o,C3.o,λh=>by cases h⟩
   . have CT:Hid (X=if R.2≠0 then ⟨R.1,l,R.2⟩ else ⟨R.1,l+L.length,0⟩):=gW (by
      rw[az.o,<-RR.o];unfold i6
      rw[if_neg (λh=>aB (by
       rcases aI.o with⟨h1,h2⟩|⟨h1,h2⟩
       . exact absurd h2 h.1
       . exact⟨h1,by simpa[Pv.pg] using h.2⟩))]
      refine(if_pos rfl).trans ?_;show(if (iM (rdR D) r.rg (L.map Iv.it) (((i:Int)+1)::G)).2≠0 then _ else (⟨_,l+(L.map Iv.it).length,0⟩:Cst))=_
      rw[bu];rfl)
     have a1:rt=true\/rt=false/\¬L.length<4:=by
      cases rt with
      |true=>exact .inl rfl
      |false=>exact .inr ⟨rfl,λh=>aB ⟨rfl,h⟩⟩
     have aU:=az;clear aB az;rcases a1 with rfl|⟨rfl,h4⟩
     . go_upto_region 9 with fail
       clear m0 m1 m2 m3 m4;go_loopw [12] (λq wr=>∃(j:Nat)(c:List Int),q=.int .i64 (j:Int)/\j<=L.length/\But (cko s m) w3 wr/\Ckm wr s rb m D.C.length c (l+j)/\Gok (rdR D) c/\(∀x∈((i:Int)+1)::G,x∈c)/\iM (rdR D) r.rg ((L.drop j).map Iv.it) c=R) (λq _=>L.length-(intOf q).toNat)
       case atStart=>exact⟨0,_,rfl,an _,But.refl _ _,C3.o,GK.o,λ_ h=>h,RR.o⟩
       case round=>
        obtain⟨j,c,rfl,hj,B,E,hg,aw,F⟩:=hrel;have Z:=gW B;have CC:=gW E;have GG:=gW hg;have ao:=gW aw;have HV:=gW F;have X4:=gW (B.same X3.o (λe=>e.elim A.1 A.2.1))
        have aE:=gW (B.same aL.o (λe=>e.elim A.2.2.1 A.2.2.2))
        have R4:=gW (R3.o.cko Y.o B);have P4:=gW (Pz.pi (P3.o.but B (λab _ K e=>by rw[Y.o ab e] at K;cases K)))
        have aD:=gW (aJ.o.but' B ak.o);clear B E hg aw F;obtain⟨m0,m1,m2,m3,m4⟩:=mj X4.o;by_cases I:j<L.length
        . have a7:(j:Int)<(L.length:Int):=by omega
          have a2:(0:Int)<=(j:Int):=by omega
          obtain⟨d,f,ea,cA⟩:=P4.o.it.at I;have ea:aq=some ⟨d,f,none⟩:=ea;obtain⟨x,C⟩:∃x,L.getD j Iv.zero=x:=⟨_,rfl⟩;have XI:=gW (P4.o.it.1 _ (ie I));have SX:=SZ.o _ (ie I)
          have H:Hid ((if (itM (rdR D) r.rg x.it c).2≠0 then itM (rdR D) r.rg x.it c else iM (rdR D) r.rg ((L.drop (j+1)).map Iv.it) (itM (rdR D) r.rg x.it c).1)=R):=gW (by
           have e:L.getD j Iv.zero=L[j]:=by simp[I]
           rw[<-HV.o,co I,bO,<-e,C,su])
          have ap:L.getD j Iv.zero=x:=C;simp only[ap] at cA XI SX;subst ea;have HX:=gW C;clear C ap HV;have GS:=gW (xg (rd:=rdR D) (r:=r.rg) (x:=x.it) (G:=c));have GO:=gW (xc (r:=r.rg) (x:=x.it) GG.o);have O:=gW (λ(U:World)(hb:But (cko s m) wr U)(E:Ckm U s rb m D.C.length c (l+j))(hk:Bs U x.aK x.key)=>s8 U s rb m D col (R4.o.cko Y.o hb) HA.o Y.o c (l+j) E x SX r (aD.o.but' hb ak.o) hk (by have:=KN.o;omega))
          obtain⟨ag,hZ⟩:∃ag,itM (rdR D) r.rg x.it c=ag:=⟨_,rfl⟩;rw[hZ] at O H GS GO;clear hZ;obtain⟨aK,cK,au,aV,cV,val,child,ax⟩:=x;simp only[Iv.cs] at cA;unfold Iv.vl Rv.val at O;simp only[Iv.cs,Rv.cs] at O
          have SS:Hid (∀U:World,But (cko s m) wr U->(U.cell? ⟨k.heap.size,2,none⟩=some (.slice (some ⟨d,f,none⟩) L.length g))/\(U.cell? ⟨d,f+j*4,none⟩=some (.slice aK au.length cK)/\U.cell? ⟨d,f+j*4+1,none⟩=some (.slice aV val.length cV)/\U.cell? ⟨d,f+j*4+2,none⟩=some (.int .i64 child)/\U.cell? ⟨d,f+j*4+3,none⟩=some (.int .i64 ax))/\(U.cell? ⟨w.heap.size,0,none⟩=some (.slice r.aL r.lo.length r.cL)/\U.cell? ⟨w.heap.size,1,none⟩=some (.slice r.aH r.hi.length r.cH)/\U.cell? ⟨w.heap.size,2,none⟩=some (.bool r.op))):=gW (λU hb=>by
           have PU:=Pz.pi (P3.o.but (Z.o.trans hb (λ_ _ e=>e)) (λab _ K e=>by rw[Y.o ab e] at K;cases K))
           obtain⟨b2,o2,e2,cB⟩:=PU.it.at I;have e2:(some ⟨d,f,none⟩:Option Addr)=some ⟨b2,o2,none⟩:=e2;simp only[ay,Addr.mk.injEq] at e2;obtain⟨rfl,rfl,_⟩:=e2;have cB:U.rangeAt d (f+j*4) (L.getD j Iv.zero).cs.toList:=cB;rw[HX.o] at cB;obtain⟨q0,q1,q2,q3⟩:=sc cB;obtain⟨_,_,p2,_,_⟩:=mj (hb.same X4.o (λe=>e.elim A.1 A.2.1))
           exact⟨p2,⟨q0,q1,q2,q3⟩,ia (hb.same aE.o (λe=>e.elim A.2.2.1 A.2.2.2))⟩)
          go_upto_region 13 with fail
          have DR:=gW (dr2 wr);have DB:=gW (But.ofBelow (S:=cko s m) DR.o);refine bA (S:=λU=>(U.cell? ⟨k.heap.size,2,none⟩=some (.slice (some ⟨d,f,none⟩) L.length g))/\(U.cell? ⟨d,f+j*4,none⟩=some (.slice aK au.length cK)/\U.cell? ⟨d,f+j*4+1,none⟩=some (.slice aV val.length cV)/\U.cell? ⟨d,f+j*4+2,none⟩=some (.int .i64 child)/\U.cell? ⟨d,f+j*4+3,none⟩=some (.int .i64 ax))/\(U.cell? ⟨w.heap.size,0,none⟩=some (.slice r.aL r.lo.length r.cL)/\U.cell? ⟨w.heap.size,1,none⟩=some (.slice r.aH r.hi.length r.cH)/\U.cell? ⟨w.heap.size,2,none⟩=some (.bool r.op))) (by kernel_rfl) (SS.o _ DB.o) (λhHeld=>?_)
          refine tkd 0 1 2 3 ?_;refine tkb 4 5 ?_;refine tk 6 ?_;refine tw 7 λKx hK=>?_
          go_simp;refine(O.o _ DB.o (CC.o.keep DR.o) (XI.o.bk.keep DR.o)).mono ?_;rintro e W2 ⟨aG,rfl,aa,ac,av⟩;have J:=gW (DB.o.trans aa (λ_ _ e=>e))
          have N:=gW ac;have K2:=gW av;clear aa ac av O;go_wp2_with fail
          refine hK.o _ _ (SS.o _ J.o) (λhHeld=>?_)
          refine tk 8 ?_;refine td ?_;clear hHeld SS;obtain⟨Z1,P⟩:=ag;simp only at H N K2 GS GO;by_cases V:P=0
          . subst V;have v:Hid (iM (rdR D) r.rg ((L.drop (j+1)).map Iv.it) Z1=R):=gW ((if_neg (by simp)).symm.trans H.o)
            have ek:=K2.o rfl;subst ek;clear H K2;go_wp2;go_roundw
            case rel=>exact⟨j+1,Z1,by go_num,by omega,Z.o.trans J.o (λ_ _ e=>e),N.o,GO.o.1,λaj hy=>GS.o aj (ao.o aj hy),v.o⟩
            case measure=>simp[intOf];omega
          . have v:Hid ((Z1,P)=R):=gW ((if_pos V).symm.trans H.o);have a5:((P:Int)==0)=false:=by simp[V]
            have a6:¬(P:Int)=0:=by omega
            have y:Hid (X=⟨Z1,l,P⟩):=gW (by rw[CT.o,<-v.o];exact if_pos V)
            clear H K2;go_wp2;go_ret;rw[y.o];exact⟨aG,rfl,B3.o.trans (Z.o.trans J.o (λ_ _ e=>e)) (λ_ _ e=>e),N.o,λh=>absurd h V⟩
        . obtain rfl:j=L.length:=by omega
          have v:Hid ((c,0)=R):=gW (by rw[<-HV.o,fG];rfl)
          have y:Hid (X=⟨c,l+L.length,0⟩):=gW (by rw[CT.o,<-v.o];exact if_neg (by simp))
          go_wp2;go_ret;rw[y.o];refine⟨l+L.length,rfl,B3.o.trans Z.o (λ_ _ e=>e),CC.o,λ_=>⟨rfl,?_,λx C=>ao.o x (bj _ C)⟩⟩
          have kt:=KT.o;rw[<-aU.o,y.o] at kt;exact kt
     . have a0:¬(L.length:Int)<4:=by omega
       go_upto_region 9 with fail
       clear m0 m1 m2 m3 m4;go_loopw [12] (λq wr=>∃(j:Nat)(c:List Int),q=.int .i64 (j:Int)/\j<=L.length/\But (cko s m) w3 wr/\Ckm wr s rb m D.C.length c (l+j)/\Gok (rdR D) c/\(∀x∈((i:Int)+1)::G,x∈c)/\iM (rdR D) r.rg ((L.drop j).map Iv.it) c=R) (λq _=>L.length-(intOf q).toNat)
       case atStart=>exact⟨0,_,rfl,an _,But.refl _ _,C3.o,GK.o,λ_ h=>h,RR.o⟩
       case round=>
        obtain⟨j,c,rfl,hj,B,E,hg,aw,F⟩:=hrel;have Z:=gW B;have CC:=gW E;have GG:=gW hg;have ao:=gW aw;have HV:=gW F;have X4:=gW (B.same X3.o (λe=>e.elim A.1 A.2.1))
        have aE:=gW (B.same aL.o (λe=>e.elim A.2.2.1 A.2.2.2))
        have R4:=gW (R3.o.cko Y.o B);have P4:=gW (Pz.pi (P3.o.but B (λab _ K e=>by rw[Y.o ab e] at K;cases K)))
        have aD:=gW (aJ.o.but' B ak.o);clear B E hg aw F;obtain⟨m0,m1,m2,m3,m4⟩:=mj X4.o;by_cases I:j<L.length
        . have a7:(j:Int)<(L.length:Int):=by omega
          have a2:(0:Int)<=(j:Int):=by omega
          obtain⟨d,f,ea,cA⟩:=P4.o.it.at I;have ea:aq=some ⟨d,f,none⟩:=ea;obtain⟨x,C⟩:∃x,L.getD j Iv.zero=x:=⟨_,rfl⟩;have XI:=gW (P4.o.it.1 _ (ie I));have SX:=SZ.o _ (ie I)
          have H:Hid ((if (itM (rdR D) r.rg x.it c).2≠0 then itM (rdR D) r.rg x.it c else iM (rdR D) r.rg ((L.drop (j+1)).map Iv.it) (itM (rdR D) r.rg x.it c).1)=R):=gW (by
           have e:L.getD j Iv.zero=L[j]:=by simp[I]
           rw[<-HV.o,co I,bO,<-e,C,su])
          have ap:L.getD j Iv.zero=x:=C;simp only[ap] at cA XI SX;subst ea;have HX:=gW C;clear C ap HV;have GS:=gW (xg (rd:=rdR D) (r:=r.rg) (x:=x.it) (G:=c));have GO:=gW (xc (r:=r.rg) (x:=x.it) GG.o);have O:=gW (λ(U:World)(hb:But (cko s m) wr U)(E:Ckm U s rb m D.C.length c (l+j))(hk:Bs U x.aK x.key)=>s8 U s rb m D col (R4.o.cko Y.o hb) HA.o Y.o c (l+j) E x SX r (aD.o.but' hb ak.o) hk (by have:=KN.o;omega))
          obtain⟨ag,hZ⟩:∃ag,itM (rdR D) r.rg x.it c=ag:=⟨_,rfl⟩;rw[hZ] at O H GS GO;clear hZ;obtain⟨aK,cK,au,aV,cV,val,child,ax⟩:=x;simp only[Iv.cs] at cA;unfold Iv.vl Rv.val at O;simp only[Iv.cs,Rv.cs] at O
          have SS:Hid (∀U:World,But (cko s m) wr U->(U.cell? ⟨k.heap.size,2,none⟩=some (.slice (some ⟨d,f,none⟩) L.length g))/\(U.cell? ⟨d,f+j*4,none⟩=some (.slice aK au.length cK)/\U.cell? ⟨d,f+j*4+1,none⟩=some (.slice aV val.length cV)/\U.cell? ⟨d,f+j*4+2,none⟩=some (.int .i64 child)/\U.cell? ⟨d,f+j*4+3,none⟩=some (.int .i64 ax))/\(U.cell? ⟨w.heap.size,0,none⟩=some (.slice r.aL r.lo.length r.cL)/\U.cell? ⟨w.heap.size,1,none⟩=some (.slice r.aH r.hi.length r.cH)/\U.cell? ⟨w.heap.size,2,none⟩=some (.bool r.op))):=gW (λU hb=>by
           have PU:=Pz.pi (P3.o.but (Z.o.trans hb (λ_ _ e=>e)) (λab _ K e=>by rw[Y.o ab e] at K;cases K))
           obtain⟨b2,o2,e2,cB⟩:=PU.it.at I;have e2:(some ⟨d,f,none⟩:Option Addr)=some ⟨b2,o2,none⟩:=e2;simp only[ay,Addr.mk.injEq] at e2;obtain⟨rfl,rfl,_⟩:=e2;have cB:U.rangeAt d (f+j*4) (L.getD j Iv.zero).cs.toList:=cB;rw[HX.o] at cB;obtain⟨q0,q1,q2,q3⟩:=sc cB;obtain⟨_,_,p2,_,_⟩:=mj (hb.same X4.o (λe=>e.elim A.1 A.2.1))
           exact⟨p2,⟨q0,q1,q2,q3⟩,ia (hb.same aE.o (λe=>e.elim A.2.2.1 A.2.2.2))⟩)
          go_upto_region 13 with fail
          have DR:=gW (dr2 wr);have DB:=gW (But.ofBelow (S:=cko s m) DR.o);refine bA (S:=λU=>(U.cell? ⟨k.heap.size,2,none⟩=some (.slice (some ⟨d,f,none⟩) L.length g))/\(U.cell? ⟨d,f+j*4,none⟩=some (.slice aK au.length cK)/\U.cell? ⟨d,f+j*4+1,none⟩=some (.slice aV val.length cV)/\U.cell? ⟨d,f+j*4+2,none⟩=some (.int .i64 child)/\U.cell? ⟨d,f+j*4+3,none⟩=some (.int .i64 ax))/\(U.cell? ⟨w.heap.size,0,none⟩=some (.slice r.aL r.lo.length r.cL)/\U.cell? ⟨w.heap.size,1,none⟩=some (.slice r.aH r.hi.length r.cH)/\U.cell? ⟨w.heap.size,2,none⟩=some (.bool r.op))) (by kernel_rfl) (SS.o _ DB.o) (λhHeld=>?_)
          refine tkd 0 1 2 3 ?_;refine tkb 4 5 ?_;refine tk 6 ?_;refine tw 7 λKx hK=>?_
          go_simp;refine(O.o _ DB.o (CC.o.keep DR.o) (XI.o.bk.keep DR.o)).mono ?_;rintro e W2 ⟨aG,rfl,aa,ac,av⟩;have J:=gW (DB.o.trans aa (λ_ _ e=>e))
          have N:=gW ac;have K2:=gW av;clear aa ac av O;go_wp2_with fail
          refine hK.o _ _ (SS.o _ J.o) (λhHeld=>?_)
          refine tk 8 ?_;refine td ?_;clear hHeld SS;obtain⟨Z1,P⟩:=ag;simp only at H N K2 GS GO;by_cases V:P=0
          . subst V;have v:Hid (iM (rdR D) r.rg ((L.drop (j+1)).map Iv.it) Z1=R):=gW ((if_neg (by simp)).symm.trans H.o)
            have ek:=K2.o rfl;subst ek;clear H K2;go_wp2;go_roundw
            case rel=>exact⟨j+1,Z1,by go_num,by omega,Z.o.trans J.o (λ_ _ e=>e),N.o,GO.o.1,λaj hy=>GS.o aj (ao.o aj hy),v.o⟩
            case measure=>simp[intOf];omega
          . have v:Hid ((Z1,P)=R):=gW ((if_pos V).symm.trans H.o);have a5:((P:Int)==0)=false:=by simp[V]
            have a6:¬(P:Int)=0:=by omega
            have y:Hid (X=⟨Z1,l,P⟩):=gW (by rw[CT.o,<-v.o];exact if_pos V)
            clear H K2;go_wp2;go_ret;rw[y.o];exact⟨aG,rfl,B3.o.trans (Z.o.trans J.o (λ_ _ e=>e)) (λ_ _ e=>e),N.o,λh=>absurd h V⟩
        . obtain rfl:j=L.length:=by omega
          have v:Hid ((c,0)=R):=gW (by rw[<-HV.o,fG];rfl)
          have y:Hid (X=⟨c,l+L.length,0⟩):=gW (by rw[CT.o,<-v.o];exact if_neg (by simp))
          go_wp2;go_ret;rw[y.o];refine⟨l+L.length,rfl,B3.o.trans Z.o (λ_ _ e=>e),CC.o,λ_=>⟨rfl,?_,λx C=>ao.o x (bj _ C)⟩⟩
          have kt:=KT.o;rw[<-aU.o,y.o] at kt;exact kt
 . have af:lvl (Pv.pg ⟨kq,lq,aq,g,L,ad,cd,ai,nx⟩) 0=false:=by rw[af];exact ar hk
   have v:Hid (X=⟨((i:Int)+1)::G,l,15⟩):=gW (by
    rw[<-TS.o];exact mf (M:=ik (rdR D) root) rfl RD.o am.o af)
   clear af;go_wp2;go_ret;rw[v.o];exact⟨l,rfl,B3.o,C3.o,λh=>by cases h⟩
end Go.Proofs.YteaogidofpfmmaaGreat
