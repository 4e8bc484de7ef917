import Derived.Test.YtbdkogimlbnlmaaGreatWlB3
set_option linter.all false
set_option maxHeartbeats 16000000
set_option maxRecDepth 10000
namespace Go.Proofs.YtbdkogimlbnlmaaGreat.Q
open Tryz
open Go.RowKit
variable {hi lo:Int}{A B L M:List Rn}{cap:Nat}{a:Option Addr}{v:Value}{W W6 w0:World}
theorem Fc(w:World)(b:Nat)(a:Option Addr)(cap:Nat)(L:List Rn)(d:St w b a cap L):
 Calls prog 114 #[.pointer (some ⟨b,0,none⟩)] w λe m=>e=.returned (.int .i64 ((min (sz L) mxi:Nat):Int))/\Below w.heap.size w m:=by
 have q:=d.cell;have h:=iJ (zf w a L.length cap);have g:=al w (.cells #[.slice a L.length cap] 169);have nb:=jd w (.slice a L.length cap) 169
 have i:=iJ (mU (w.alloc (.cells #[.slice a L.length cap] 169)) (w.alloc (.cells #[.slice a L.length cap] 169)) 168 #[.pointer (some ⟨w.heap.size,0,none⟩)] L _ (wW _ w.heap.size a cap L nb (d.row.vs.keep g) d.len) (But.refl _ _)
  (λk j=>by
    rcases j with rfl|⟨x,l,rfl⟩
    . rw[size_alloc];omega
    . have:=d.row.lt l;rw[size_alloc];omega) (enters_of func168 (by kernel_rfl) rfl) (λr f=>⟨(d.bnd r f).1,(d.bnd r f).2,d.can.1 r f⟩))
 clear d nb;generalize min (sz L) mxi=z at *;generalize L.length=n at *;go_enter func114,ntmps114;go_wp2_with fail
 refine h.o.mono ?_;rintro e s ⟨rfl,rfl⟩;go_wp2_with fail
 refine i.o.mono ?_;rintro e t ⟨rfl,p⟩;go_wp2;go_ret;exact⟨rfl,bt g p⟩
theorem uz(l c:Nat)(i:l<=c)(h:c<=14000000000000)(w:World):(Instr.makeSlice 169 (.int .i64 (l:Int)) (.int .i64 (c:Int))).run prog w=.ok (.slice (some ⟨w.heap.size,0,none⟩) l c) (w.alloc (.cells (madeCells (rcs Rn.zero) (c*2)) 171)):=by
 obtain⟨d,hi,e,f,g⟩:=dr nG;have b:=run_make (P:=prog) w 169 171 d (.agg (rcs Rn.zero)) underlying169 hi e .i64 .i64 l c (by omega) (by omega) (by rw[g];omega) (by omega)
 simp only[di,f] at b;exact b
theorem BH(w:World)(c:Nat):jD (w.alloc (.cells (madeCells (rcs Rn.zero) (c*2)) 171)) w.heap.size (madeCells (rcs Rn.zero) (c*2)).toList:=by
 unfold jD;rw[iz];exact aF w _
theorem ry(w:World)(b:Nat)(a:Option Addr)(cap:Nat)(L:List Rn)(d:St w b a cap L):
 Calls prog 169 #[.pointer (some ⟨b,0,none⟩)] w λe q=>e=.returned (.slice (some ⟨w.heap.size,0,none⟩) L.length L.length)/\Vw q (some ⟨w.heap.size,0,none⟩) L.length L/\Below w.heap.size w q:=by
 have j:=d.cell;have y:=d.len;have D:=uz L.length L.length (ai _) (by omega) w
 have f:=al w (.cells (madeCells (rcs Rn.zero) (L.length*2)) 171);have l:=BH w L.length;have C:=(f.cell (p:=⟨b,0,none⟩) (block_lt_of_cell j)).trans j;have m:(madeCells (rcs Rn.zero) (L.length*2)).toList.length=L.length*2:=by rw[Array.length_toList,gG]
 obtain⟨r,t,g,i⟩:=jH (w.alloc (.cells (madeCells (rcs Rn.zero) (L.length*2)) 171)) 3 w.heap.size L.length L.length a L.length cap [] (rc L) (madeCells (rcs Rn.zero) (L.length*2)).toList l (by rw[iN,show Nat.min L.length L.length=L.length from iE _])
  ((d.row.vs.keep f).imp (λh=>by rw[h];rfl) id) (by rw[iN,m];omega) (jW L)
 rw[bj] at t;rw[cY,iN,du (by omega)] at g
 have s:=iJ (show Vw r (some ⟨w.heap.size,0,none⟩) L.length L/\Below w.heap.size w r from⟨Vw.mk (Y:=[]) g (ai _) (by unfold maxLen;omega) (by simp),((But.ofBelow (S:=λ_=>False) f).trans i (λk x e=>by omega)).below (λ_ _ h=>h)⟩)
 clear g i m l d;generalize L.length=n at *;go_enter func169,ntmps169;go_wp2;go_ret;exact⟨rfl,s.o⟩
theorem AY(w:World)(p q:Int):Vs (w.alloc (.cells #[.int .i64 p,.int .i64 q] 171)) (some ⟨w.heap.size,0,none⟩) [(p,q)]:=by
 refine .inr ⟨_,_,rfl,λj u b=>?_⟩
 rw[ay _ _ _ _ _ _ (aF w _),bN];simpa[rc,rcs] using b
theorem mj(w:World)(am:Option Addr)(c:Nat)(M:List Rn)(lo hi:Int)(n:Vs w am M)(an:Nm lo)(ak:Nm hi)(hb:∀r∈M,Nm r.1/\Nm r.2)(av:M.length<=11000000000000):
 Calls prog 201 #[.slice am M.length c,.int .i64 lo,.int .i64 hi] w λe w'=>
  ∃d j,e=.returned (.slice d (left M lo hi).length j)/\Vw w' d j (left M lo hi)/\New w none d/\Below w.heap.size w w':=by
 by_cases H:M=[]
 . subst H;rw[nW,bj];go_enter func201,ntmps201;go_wp2;go_ret;exact⟨none,0,rfl,Vw.nil _,New.none _ _,Below.refl _ _⟩
 . have x:0<M.length:=bR.2 H;rw[nv H];have eh:M.head H=M.getD 0 Rn.zero:=by rw[List.head_eq_getElem,aq,aR x];rfl
   have el:M.getLast H=M.getD (M.length-1) Rn.zero:=by rw[List.getLast_eq_getElem,aq,aR (by omega)];rfl
   rw[eh,el];obtain⟨b,o,rfl,d1,d2⟩:=n.at x;obtain⟨b',o',e,V,X⟩:=n.at (show M.length-1<M.length by omega)
   simp only[aE,Addr.mk.injEq,eH] at e;obtain⟨rfl,rfl⟩:=e;obtain⟨⟨f1,f2⟩,f3,f4⟩:=hb _ (kS x);obtain⟨⟨f5,f6⟩,f7,f8⟩:=hb _ (kS (show M.length-1<M.length by omega))
   generalize hm:M.length-1=m at *;generalize hn:M.length=ae at *;have Y:m<ae:=by omega
   have h2:(ae:Int)-1=(m:Int):=by omega
   generalize M.getD 0 Rn.zero=f at *;generalize M.getD m Rn.zero=l at *;rw[eE,bY] at d1 d2;obtain⟨g1,q⟩:=an;obtain⟨g3,g4⟩:=ak;have g:=al w (.cells #[.int .i64 f.1,.int .i64 f.2] 171);have ai:=(g.cell (p:=⟨b,o+m*2,none⟩) (block_lt_of_cell V)).trans V;have aj:=(g.cell (p:=⟨b,o+m*2+1,none⟩) (block_lt_of_cell X)).trans X;have bd:=block_lt_of_cell V;have ah:=block_lt_of_cell X;clear n hb hm hn eh el H x;obtain⟨D,aa⟩:∃W,w.alloc (.cells #[.int .i64 f.1,.int .i64 f.2] 171)=W:=⟨_,rfl⟩;rw[aa] at g ai aj;have sf:D.heap.size=w.heap.size+1:=by rw[<-aa,size_alloc]
   have I:=aF w (.cells #[.int .i64 f.1,.int .i64 f.2] 171);rw[aa] at I;have au:D.cell? ⟨w.heap.size,0,none⟩=some (.int .i64 f.1):=by rw[ay _ _ _ _ _ _ I];rfl
   /- a row,the last run's box behind it,one run more behind that -/
   have J:∀(W:World)(t s:Nat)(L:List Rn)(hR:Vw W (some ⟨t,0,none⟩) s L\/(L=[]))(hL:L.length<=4),∀g N c0,((g=some ⟨t,0,none⟩/\c0=s/\Vw W (some ⟨t,0,none⟩) s L)\/(g=none/\c0=0/\L=[]))->N=L.length->
    ∃q c2 i,(Builtin.append_ #[169,169] 169 #[.slice g N c0,.slice (some ⟨W.heap.size+1,0,none⟩) 1 1]).run prog ((W.alloc (.cells #[.int .i64 l.1,.int .i64 l.2] 171)).alloc (.cells #[.int .i64 (hi+1),.int .i64 l.2] 171))=.ok (.slice (some ⟨q,0,none⟩) (N+1) c2) i/\
     Vw i (some ⟨q,0,none⟩) c2 (L++[(hi+1,l.2)])/\New W g (some ⟨q,0,none⟩)/\But (InA g) W i:=by
    intro W t s L _ hL g N c0 h ao;have vs:=AY (W.alloc (.cells #[.int .i64 l.1,.int .i64 l.2] 171)) (hi+1) l.2;rw[size_alloc] at vs;have k:=bt (al W (.cells #[.int .i64 l.1,.int .i64 l.2] 171)) (al _ (.cells #[.int .i64 (hi+1),.int .i64 l.2] 171))
    have hv:Vw ((W.alloc (.cells #[.int .i64 l.1,.int .i64 l.2] 171)).alloc (.cells #[.int .i64 (hi+1),.int .i64 l.2] 171)) g c0 L:=by
     rcases h with⟨rfl,rfl,h⟩|⟨rfl,rfl,rfl⟩
     . exact h.keep k
     . exact Vw.nil _
    obtain⟨q,c2,i,hr,Y,h2,h3⟩:=mw _ 169 g N c0 L ao hv _ 1 1 [(hi+1,l.2)] rfl vs (by simp) (by simp;omega)
    exact⟨q,c2,i,hr,Y,h2.mono k.size,(But.ofBelow k).trans (But.inA h3) (λ_ _ h=>h)⟩
   by_cases c1:f.1<lo
   . have ar:IntKind.i64.wrap (lo-1)=lo-1:=mi (by omega) (by omega)
     rw[if_pos c1];have ab:=AY D f.1 (lo-1);rw[sf] at ab;obtain⟨t,s,Z,ac,E,q2,q3⟩:=mw (D.alloc (.cells #[.int .i64 f.1,.int .i64 (lo-1)] 171)) 169 none 0 0 [] rfl (Vw.nil _) _ 1 1 [(f.1,lo-1)] rfl ab (by simp) (by simp)
     rw[bN] at ac;rw[cY] at E
     have C:Below w.heap.size w Z:=by
      have Y:=bt g (al D (.cells #[.int .i64 f.1,.int .i64 (lo-1)] 171));exact((But.ofBelow (S:=λ_=>False) Y).grown q3 (λad hk _=>by cases hk)).below (λ_ _ h=>h)
     have O:New w none (some ⟨t,0,none⟩):=q2.mono (by rw[size_alloc,sf];omega)
     have e3:=(C.cell (p:=⟨b,o+m*2,none⟩) bd).trans V;have e4:=(C.cell (p:=⟨b,o+m*2+1,none⟩) ah).trans X;clear q2 q3 ab;by_cases c2:hi<l.2
     . have ap:IntKind.i64.wrap (hi+1)=hi+1:=mi (by omega) (by omega)
       rw[if_pos c2];obtain⟨q,T,i,U,G,P,R⟩:=J Z t s [(f.1,lo-1)] (.inl E) (by simp) (some ⟨t,0,none⟩) 1 s (.inl ⟨rfl,rfl,E⟩) rfl
       have ag:∃d j,Ending.returned (.slice (some ⟨q,0,none⟩) 2 T)=.returned (.slice d ([(f.1,lo-1)]++[(hi+1,l.2)]).length j)/\Vw i d j ([(f.1,lo-1)]++[(hi+1,l.2)])/\New w none d/\Below w.heap.size w i:=
        ⟨_,T,rfl,G,O.trans P C.size,((But.ofBelow (S:=λ_=>False) C).trans R (λad hk h=>by
          obtain⟨af,hx,rfl⟩:=h;rcases O af hx with⟨y,hy,_⟩|h2
          . cases hy
          . omega)).below (λ_ _ h=>h)⟩
       have K:=iJ ag;clear ag G P R E O C J I;go_enter func201,ntmps201;go_wp2_with (first|(at_builtin;refine Lib.wpList_append_run _ rfl _ _ _ _ rfl _ _ rfl rfl _ _ ac ?_)|(at_builtin;refine Lib.wpList_append_run _ rfl _ _ _ _ rfl _ _ rfl rfl _ _ U ?_))
       go_ret;exact K.o
     . rw[if_neg c2,cU];have K:=iJ (show ∃d j,Ending.returned (.slice (some ⟨t,0,none⟩) 1 s)=.returned (.slice d ([(f.1,lo-1)]).length j)/\Vw (Z.alloc (.cells #[.int .i64 l.1,.int .i64 l.2] 171)) d j [(f.1,lo-1)]/\New w none d/\Below w.heap.size w (Z.alloc (.cells #[.int .i64 l.1,.int .i64 l.2] 171)) from⟨_,s,rfl,E.keep (al _ _),O,bt C (al _ _)⟩)
       clear E O C J I;go_enter func201,ntmps201;go_wp2_with (at_builtin;refine Lib.wpList_append_run _ rfl _ _ _ _ rfl _ _ rfl rfl _ _ ac ?_)
       go_ret;exact K.o
   . rw[if_neg c1,cY];by_cases c2:hi<l.2
     . have ap:IntKind.i64.wrap (hi+1)=hi+1:=mi (by omega) (by omega)
       rw[if_pos c2];obtain⟨q,T,i,U,G,P,R⟩:=J D 0 0 [] (.inr rfl) (by simp) none 0 0 (.inr ⟨rfl,rfl,rfl⟩) rfl
       rw[bN] at U;rw[cY] at G;rw[sf] at U
       have K:=iJ (show ∃d j,Ending.returned (.slice (some ⟨q,0,none⟩) 1 T)=.returned (.slice d ([(hi+1,l.2)]).length j)/\Vw i d j [(hi+1,l.2)]/\New w none d/\Below w.heap.size w i from
        ⟨_,T,rfl,G,P.mono (by omega),((But.ofBelow (S:=λ_=>False) g).trans R (λad hk h=>by obtain⟨af,hx,_⟩:=h;cases hx)).below (λ_ _ h=>h)⟩)
       clear G P R J I;go_enter func201,ntmps201;go_wp2_with (at_builtin;refine Lib.wpList_append_run _ rfl _ _ _ _ rfl _ _ rfl rfl _ _ U ?_)
       go_ret;exact K.o
     . rw[if_neg c2];clear J I;go_enter func201,ntmps201;go_wp2;go_ret;exact⟨none,0,rfl,Vw.nil _,New.none _ _,bt g (al _ _)⟩
theorem yx(h:Can L)(d:Spl L lo hi A M B)(i:lo<=hi)(p:Nm lo)(n:Nm hi):
 sz (gap lo hi (jR M lo hi))=nb (λz=> !has L z) lo (hi-lo+1).toNat/\∀r∈gap lo hi (jR M lo hi),Nm r.1/\Nm r.2/\r.1<=r.2:=by
 have m:Ris M:=⟨λr b=>h.1 r (by rw[d.eq];simp[b]),by have:=h.ris.2;rw[d.eq,kD] at this;exact this.2.1⟩
 obtain⟨c1,c2⟩:=rD i m d.m;obtain⟨e,f,j⟩:=vd i c1 c2;constructor
 . rw[zq (a:=lo) (k:=(hi-lo+1).toNat) e (λr b=>by have:=f r b;omega)]
   refine oz λx g l=>?_
   rw[j,uS d,ax g,ax (show x<=hi by omega)]
   simp
 . intro r b;have g:=f r b;have l:=e.1 r b;unfold Nm at *;omega
theorem Ie(b:Nat)(h:W.cell? ⟨b,0,none⟩=some v)(hb:But (InA a) W.drew W6)(d:St w0 b a cap L):W6.cell? ⟨b,0,none⟩=some v:=
 (hb.cell (p:=⟨b,0,none⟩) (block_lt_of_cell h) (λ⟨_,f,e⟩=>d.ne f e)).trans h
theorem EY(b:Nat)(h:W.cell? ⟨b,0,none⟩=some v)(f:W.frozen? ⟨b,0,none⟩=false)(hb:But (InA a) W.drew W6)(d:St w0 b a cap L):W6.frozen? ⟨b,0,none⟩=false:=
 (hb.frozen (p:=⟨b,0,none⟩) (block_lt_of_cell h) (λ⟨_,g,e⟩=>d.ne g e)).trans f
set_option maxRecDepth 20000 in
theorem sS(w:World)(b:Nat)(a:Option Addr)(cap:Nat)(L:List Rn)(lo hi:Int)(t:St w b a cap L)(X:Nm lo)(V:Nm hi)(aI:L.length+1<=11000000000000):
 Calls prog 155 #[.pointer (some ⟨b,0,none⟩),.int .i64 lo,.int .i64 hi] w λe w'=>
  e=.returned (.int .i64 ((min (nb (λz=> !has L z) lo (hi-lo+1).toNat) mxi:Nat):Int))/\∃D J L',St w' b D J L'/\(∀z,has L' z=(has L z||(decide (lo<=z)&&decide (z<=hi))))/\L'.length<=L.length+1/\New w a D/\But (λk=>k=b\/InA a k) w w':=by
 by_cases af:lo<=hi
 . obtain⟨A1,M1,B1,am⟩:=spl lo hi t.can.ris af;obtain⟨aw,ax⟩:=yx t.can am af X V;rw[<-aw];have C1:=iJ (Ct w b lo hi);obtain⟨Wa,aB⟩:∃Wa,w3 w b lo hi=Wa:=⟨_,rfl⟩;have ka:=oq w b lo hi;have sa:=qt w b lo hi;obtain⟨p1,p2,p3⟩:=oe w b lo hi;rw[aB] at ka sa p1 p2 p3 C1;have GS:=Dq Wa b w.heap.size (w.heap.size+1) (w.heap.size+1+1) a cap L A1 M1 B1 lo hi (t.keep ka) am af X V p1 p2 p3;have bi:=t.lt
   have C2:=iJ (mU Wa Wa 190 #[.pointer (some ⟨w.heap.size+1,0,none⟩),.pointer (some ⟨w.heap.size,0,none⟩),.pointer (some ⟨w.heap.size+1+1,0,none⟩)] _ _ GS (But.refl _ _)
    (λk hk=>by
      rcases hk with hk|rfl|rfl|rfl
      . rcases hk with rfl|⟨aL,hx,rfl⟩
        . omega
        . have:=t.row.lt hx;omega
      . omega
      . omega
      . omega) (enters_of func190 (by kernel_rfl) rfl) ax)
   clear GS p1 p2 p3 aB aw ax am;generalize min (sz (gap lo hi (jR M1 lo hi))) mxi=a8 at *;have hx:max (-9223372036854775808) (lo-1)<=min 9223372036854775807 (hi+1):=by have O:=X;have K:=V;unfold Nm at O K;omega
   obtain⟨A,M,B,sp⟩:=spl (max (-9223372036854775808) (lo-1)) (min 9223372036854775807 (hi+1)) t.can.ris hx;obtain⟨r1,r2,r3,r4,r5,r6,r7⟩:=E5 (mn:=(-9223372036854775808)) (mx:=9223372036854775807) t.can (λr hr=>⟨(t.bnd r hr).1.1,(t.bnd r hr).2.2⟩) af X.1 V.2 rfl rfl sp
   have C3:=iJ λW=>yT W lo X
   have C4:=iJ λW=>yJ W hi V
   have C5:=iJ λ(W:World)(hb:Below w.heap.size w W)=>mV W b a cap L (max (-9223372036854775808) (lo-1)) (min 9223372036854775807 (hi+1)) A M B (t.keep hb) sp hx
   have az:L.length=A.length+M.length+B.length:=by rw[sp.eq];simp[fC]
   have eL:=sp.eq;have hc:=t.cell;generalize max (-9223372036854775808) (lo-1)=aL at *;generalize min 9223372036854775807 (hi+1)=ap at *;obtain⟨P,ak⟩:∃aK:Nat,aK=A.length+M.length:=⟨_,rfl⟩;rw[<-ak] at C5;have bh:P<=11000000000000:=by omega
   have T:=iJ ak;have C:=iJ t;have R1:=iJ (And.intro r1 (And.intro r2 (And.intro r3 (And.intro r4 (And.intro r5 r6)))));have HL:=iJ az;have Z:=iJ eL;have SP:=iJ sp;have HA:=iJ aI;have HR:=iJ R1.o
   have n:=iJ (show ∀r∈A++[(ko M lo,kj M hi)]++B,Nm r.1/\Nm r.2 from λr hr=>by
    obtain⟨q1,q2,q3,q4,q5,q6⟩:=R1.o;rcases jT.1 hr with hr|hr|hr
    . exact C.o.bnd r (by rw[Z.o];simp[hr])
    . rw[aQ] at hr;rw[hr];have:=X.1;have:=X.2;have:=V.1;have:=V.2;unfold Nm;show(_<=ko M lo/\ko M lo<=_)/\(_<=kj M hi/\kj M hi<=_);omega
    . exact C.o.bnd r (by rw[Z.o];simp[hr]))
   clear ak t r1 r2 r3 r4 r5 r6 r7 az eL sp aI R1;go_enter func155,ntmps155;go_wp2_with fail
   refine C1.o.mono ?_;rintro e w1 ⟨rfl,rfl⟩;go_wp2_with fail
   refine C2.o.mono ?_;rintro e d ⟨rfl,ah⟩;have y:=bt ka ah;go_wp2_with fail
   refine(C3.o _).mono ?_;rintro e w2 ⟨rfl,rfl⟩;go_wp2_with fail
   refine(C4.o _).mono ?_;rintro e w2 ⟨rfl,rfl⟩;go_wp2_with fail
   refine(C5.o _ (bt y (al _ _))).mono ?_;rintro e E ⟨rfl,ad⟩;have m:=bt (bt y (al _ _)) ad;have j0:=(ad.block d.heap.size (by rw[size_alloc];omega)).trans (aF d (.cells #[.int .i64 lo,.int .i64 hi] 171))
   have s3:d.heap.size<E.heap.size:=by have:=ad.size;rw[size_alloc] at this;omega
   have aP:d.heap.size≠b:=by have:=y.size;omega
   by_cases I:M=[]
   all_goals
    first
    |have hj:ko M lo=lo/\kj M hi=hi:=by rw[I];exact⟨rfl,rfl⟩
     have aV:P=A.length:=by rw[T.o,I];simp
     rw[hj.1,hj.2] at HR n;clear hj I;subst aV;obtain⟨i,ab⟩:∃j,j=lo:=⟨_,rfl⟩;obtain⟨s,aa⟩:∃j,j=hi:=⟨_,rfl⟩;go_wp2_with fail
     obtain⟨q,U⟩:∃q,q=E:=⟨_,rfl⟩;rw[<-U];have j4:q.heap[d.heap.size]?=some (.cells #[.int .i64 i,.int .i64 s] 171 (0,0)):=by rw[U,ab,aa];exact j0
     have b4:But (λk=>k=d.heap.size) w q:=by rw[U];exact But.ofBelow m
     rw[show(A++[(lo,hi)]++B)=A++[(i,s)]++B by rw[ab,aa]] at HR n
     clear ab aa U ah ad m
    |obtain⟨g,Y,ac,hg⟩:∃g Y,a=some ⟨g,0,none⟩/\jD w g (rc L++Y):=by
      rcases C.o.row.cases with⟨_,_,h0⟩|⟨g,Y,O,K,_⟩
      . rw[Z.o] at h0;simp at h0;exact absurd h0.2.1 I
      . exact⟨g,Y,O,K⟩
     have aj:0<M.length:=bR.2 I;have aT:A.length<P:=by have:=T.o;omega
     have aW:A.length<L.length:=by have:=HL.o;omega
     have aD:P-1<L.length:=by have:=HL.o;have:=T.o;omega
     have ef:L.getD A.length Rn.zero=M.head I:=by rw[Z.o,aq,aU,bg (ai _),df,br aj,List.head_eq_getElem,aR aj];rfl
     have el:L.getD (P-1) Rn.zero=M.getLast I:=by
      rw[Z.o,aq,br (by have:=T.o;simp;omega),bg (by have:=T.o;omega),List.getLast_eq_getElem,show P-1-A.length=M.length-1 by have:=T.o;omega,aR (by omega)]
      rfl
     obtain⟨b0,o0,l,d1,d2⟩:=C.o.row.vs.at aW;rw[ac] at l;simp only[aE,Addr.mk.injEq,eH] at l;obtain⟨rfl,rfl⟩:=l;obtain⟨a9,bj,l,d3,d4⟩:=C.o.row.vs.at aD;rw[ac] at l;simp only[aE,Addr.mk.injEq,eH] at l;obtain⟨rfl,rfl⟩:=l;rw[bN,ef] at d1;rw[bN,el] at d4;have ab:=tM I lo;have aa:=tL I hi;obtain⟨m1,aC⟩:∃aJ:Nat,aJ=P-1:=⟨_,rfl⟩;rw[<-aC] at d4 aD;have i1:(P:Int)-1=(m1:Int):=by omega
     have bf:g≠b:=C.o.ne ac;have be:=hg.lt;generalize M.head I=an at *;generalize M.getLast I=ao at *;obtain⟨i,a7⟩:∃j,(if an.1<lo then an.1 else lo)=j:=⟨_,rfl⟩
     obtain⟨s,a6⟩:∃j,(if hi<ao.2 then ao.2 else hi)=j:=⟨_,rfl⟩
     have au:ko M lo=i:=by rw[ab,<-a7];split<;>omega
     have ar:kj M hi=s:=by rw[aa,<-a6];split<;>omega
     rw[au,ar] at HR n;rw[ac] at hc;clear ac I au ar ab aa d2 d3 ef el hg aC aj;have ag:=(m.cell (p:=⟨b,0,none⟩) (block_lt_of_cell hc)).trans hc;have e1:=(m.cell (p:=⟨g,A.length*2,none⟩) (block_lt_of_cell d1)).trans d1;have e4:=(m.cell (p:=⟨g,m1*2+1,none⟩) (block_lt_of_cell d4)).trans d4;have jf:∀k,E.frozen? ⟨d.heap.size,k,none⟩=false:=λk=>bG _ _ _ _ _ j0
     have aX:=jf 0;have aZ:=jf 1;have a1:E.cell? ⟨d.heap.size,0,none⟩=some (.int .i64 lo):=by rw[ay _ _ _ _ _ _ j0];rfl
     have a2:E.cell? ⟨d.heap.size,1,none⟩=some (.int .i64 hi):=by rw[ay _ _ _ _ _ _ j0];rfl
     have aS:d.heap.size≠g:=by have:=y.size;omega
     have o1:But (λk=>k=d.heap.size) E (E.setCell ⟨d.heap.size,0,none⟩ (.int .i64 i)):=(But.refl (λk=>k=d.heap.size) E).setCell (p:=⟨d.heap.size,0,none⟩) (λ_=>rfl) _
     have aO:=(o1.cell (p:=⟨b,0,none⟩) (block_lt_of_cell ag) (λe=>aP e.symm)).trans ag
     have e5:=(o1.cell (p:=⟨g,m1*2+1,none⟩) (block_lt_of_cell e4) (λe=>aS e.symm)).trans e4
     have q0:=aY E d.heap.size 0 _ _ (.int .i64 i) j0;have q1:=aY _ d.heap.size 1 _ _ (.int .i64 s) q0;have a0:(E.setCell ⟨d.heap.size,0,none⟩ (.int .i64 i)).frozen? ⟨d.heap.size,1,none⟩=false:=bG _ _ _ _ _ q0;have a3:(E.setCell ⟨d.heap.size,0,none⟩ (.int .i64 i)).cell? ⟨d.heap.size,1,none⟩=some (.int .i64 hi):=by rw[ay _ _ _ _ _ _ q0];rfl
     have Q1:=iJ q1;have B4:=iJ ((But.ofBelow (S:=λk=>k=d.heap.size) m).trans (o1.setCell (p:=⟨d.heap.size,1,none⟩) (λ_=>rfl) (.int .i64 s)) (λ_ _ h=>h))
     clear q0 q1 jf o1;go_wp2_with fail
     obtain⟨q,U⟩:∃q,(E.setCell ⟨d.heap.size,0,none⟩ (.int .i64 i)).setCell ⟨d.heap.size,1,none⟩ (.int .i64 s)=q:=⟨_,rfl⟩;have b4:=B4.o;have j4:q.heap[d.heap.size]?=some (.cells #[.int .i64 i,.int .i64 s] 171 (0,0)):=by rw[<-U];exact Q1.o
     rw[U] at b4 ⊢;clear Q1 B4 U ah ad m ag aO e1 e4 e5 aX aZ a0 a1 a2 a3 d1 d4
    have aG:q.cell? ⟨d.heap.size,0,none⟩=some (.int .i64 i):=by rw[ay _ _ _ _ _ _ j4];rfl
    have aH:q.cell? ⟨d.heap.size,1,none⟩=some (.int .i64 s):=by rw[ay _ _ _ _ _ _ j4];rfl
    have S4:=C.o.but b4 (λh=>by have:=y.size;omega) (λz H h=>by have:=C.o.row.lt H;have:=y.size;omega)
    have c4:=S4.cell;have f4:q.frozen? ⟨b,0,none⟩=false:=bG _ _ _ _ _ S4.blk;have a5:=al q (.cells #[.int .i64 i,.int .i64 s] 171);have n5:=aF q (.cells #[.int .i64 i,.int .i64 s] 171);obtain⟨G,aA⟩:∃G,q.alloc (.cells #[.int .i64 i,.int .i64 s] 171)=G:=⟨_,rfl⟩;rw[aA] at a5 n5;have f:=S4.keep a5;have s5:G.heap.size=q.heap.size+1:=by rw[<-aA,size_alloc]
    have V5:Vw G (some ⟨q.heap.size,0,none⟩) 1 [(i,s)]:=Vw.mk (Y:=[]) (by unfold jD;rw[cU];exact n5) (ai _) (by unfold maxLen;omega) (by simp)
    have ba:w.heap.size<=q.heap.size:=b4.size;have C6:=lN G.drew a cap A M B (by have:=f.row;rw[Z.o] at this;exact this) (some ⟨q.heap.size,0,none⟩) 1 [(i,s)] V5 (λz ap H hy e=>by have:=C.o.row.lt H;cases hy;have e':z.block=q.heap.size:=e;omega) (by have:=HA.o;have:=HL.o;simp;omega)
    rw[<-HL.o,<-T.o] at C6;have eT:A.length+[(i,s)].length+B.length=(A++[(i,s)]++B).length:=by rw[ae,ae]
    rw[eT] at C6;have lT:(A++[(i,s)]++B).length<=L.length+1:=by have:=HL.o;simp;omega
    have c5:=f.cell;have f5:G.frozen? ⟨b,0,none⟩=false:=bG _ _ _ _ _ f.blk;have bk:=(a5.cell (p:=⟨d.heap.size,0,none⟩) (block_lt_of_cell aG)).trans aG;have bl:=(a5.cell (p:=⟨d.heap.size,1,none⟩) (block_lt_of_cell aH)).trans aH;obtain⟨R,hR⟩:∃R,A++[(i,s)]++B=R:=⟨_,rfl⟩;rw[hR] at C6 lT HR n;have aM:=iJ C6
    have av:∀(D:Option Addr)(J:Nat)(N:World),Vw N D J R->New G.drew a D->But (InA a) G.drew N->St (N.setCell ⟨b,0,none⟩ (.slice D R.length J)) b D J R/\(∀z,has R z=(has L z||(decide (lo<=z)&&decide (z<=hi))))/\R.length<=L.length+1/\New w a D/\But (λk=>k=b\/InA a k) w (N.setCell ⟨b,0,none⟩ (.slice D R.length J)):=by
     intro D J N O K x;obtain⟨q1,q2,q3,q4,q5,q6⟩:=HR.o
     have a4:∀z,D=some z->z.block≠b:=λz H=>by
      rcases K z H with⟨ap,hy,e⟩|h
      . rw[<-e];exact f.ne hy
      . have h':G.heap.size<=z.block:=h;have:=C.o.lt;omega
     have bb:=x.same (show G.drew.heap[b]?=_ from f.blk) (λh=>by obtain⟨z,H,e⟩:=h;exact f.ne H e)
     have aN:But (λk=>k=b\/InA a k) w N:=(b4.mono (λk hk h=>by have:=y.size;omega)).trans (((But.ofBelow (S:=InA a) a5).trans (But.drew (But.refl (InA a) G)) (λ_ _ h=>h)).trans x (λ_ _ h=>h)) (λk _ h=>.inr h)
     refine⟨⟨?_,?_,q1,?_,by have:=HA.o;omega⟩,q2,lT,K.mono (show w.heap.size<=G.heap.size by omega),aN.setCell (λ_=>.inl rfl) _⟩
     . rw[aY _ _ _ _ _ _ bb];rfl
     . exact O.but (S:=λk=>k=b) ((But.refl (λk=>k=b) N).setCell (p:=⟨b,0,none⟩) (λ_=>rfl) _) (λz H=>a4 z H)
     . exact n.o
    have FF:=iJ av;clear av C6 HR n HA HL T Z SP S4 f V5 n5 j4 a5 eT b4 j0;go_region_with (go_at_call 178;refine aM.o.mono ?_;rintro e N ⟨D,J,rfl,O,K,x⟩;have bc:=Ie b c5 x C.o;have bd:=EY b c5 f5 x C.o;have F1:=iJ (FF.o D J N O K x);clear O K x)
    all_goals
     go_wp2;go_ret;exact⟨rfl,D,J,R,F1.o⟩
 . have h0:(hi-lo+1).toNat=0:=by omega
   rw[h0]
   have H:∀z,has L z=(has L z||(decide (lo<=z)&&decide (z<=hi))):=λz=>by
    have:(decide (lo<=z)&&decide (z<=hi))=false:=by
     rw[eY,dB,dB];omega
    rw[this,fD]
   have aT:hi<lo:=by omega
   have C:=iJ t;have HZ:=iJ H;clear t H X V;go_enter func155,ntmps155;go_wp2;go_ret;exact⟨rfl,a,cap,L,C.o,HZ.o,eJ _,New.refl _ _,But.refl _ _⟩
theorem wK(f:Can L)(d:Spl L lo hi A M B)(i:lo<=hi)(l:Nm lo)(j:Nm hi):
 sz (jR M lo hi)=nb (has L) lo (hi-lo+1).toNat/\∀r∈jR M lo hi,Nm r.1/\Nm r.2/\r.1<=r.2:=by
 have h:Ris M:=⟨λr b=>f.1 r (by rw[d.eq];simp[b]),by have:=f.ris.2;rw[d.eq,kD] at this;exact this.2.1⟩
 obtain⟨c1,c2⟩:=rD i h d.m;constructor
 . rw[zq (a:=lo) (k:=(hi-lo+1).toNat) c1 (λr b=>by have:=c2 r b;omega)]
   refine oz λx e g=>?_
   rw[uS d,ax e,ax (show x<=hi by omega)]
   simp
 . intro r b;have e:=c2 r b;have g:=c1.1 r b;unfold Nm at *;omega
theorem drw(w:World):Below w.heap.size w w.drew:=⟨rfl,rfl,rfl,ai _,λ_ _=>rfl⟩
theorem yi(b:Nat)(h:W.cell? ⟨b,0,none⟩=some v)(hb:Below W.heap.size W W6):W6.cell? ⟨b,0,none⟩=some v:=(hb.cell (p:=⟨b,0,none⟩) (block_lt_of_cell h)).trans h
theorem yY(b:Nat)(h:W.cell? ⟨b,0,none⟩=some v)(hb:But (InA a) W W6)(d:St w0 b a cap L):W6.cell? ⟨b,0,none⟩=some v:=
 (hb.cell (p:=⟨b,0,none⟩) (block_lt_of_cell h) (λ⟨_,f,e⟩=>d.ne f e)).trans h
theorem sK(b:Nat)(h:W.cell? ⟨b,0,none⟩=some v)(f:W.frozen? ⟨b,0,none⟩=false)(hb:But (InA a) W W6)(d:St w0 b a cap L):W6.frozen? ⟨b,0,none⟩=false:=
 (hb.frozen (p:=⟨b,0,none⟩) (block_lt_of_cell h) (λ⟨_,g,e⟩=>d.ne g e)).trans f
set_option maxRecDepth 20000 in
theorem yn(w:World)(b:Nat)(a:Option Addr)(cap:Nat)(L:List Rn)(lo hi:Int)(H:St w b a cap L)(ar:Nm lo)(aq:Nm hi)(aH:L.length+1<=11000000000000):
 Calls prog 184 #[.pointer (some ⟨b,0,none⟩),.int .i64 lo,.int .i64 hi] w λe w'=>
  e=.returned (.int .i64 ((min (nb (has L) lo (hi-lo+1).toNat) mxi:Nat):Int))/\∃d s L',St w' b d s L'/\(∀z,has L' z=(has L z&& !(decide (lo<=z)&&decide (z<=hi))))/\L'.length<=L.length+1/\New w a d/\But (λk=>k=b\/InA a k) w w':=by
 by_cases ak:lo<=hi
 . obtain⟨A,M,B,sp⟩:=spl lo hi H.can.ris ak;obtain⟨ax,ay⟩:=wK H.can sp ak ar aq;rw[<-ax];have C1:=iJ (tD w b lo hi);obtain⟨Wa,aA⟩:∃Wa,w3 w b lo hi=Wa:=⟨_,rfl⟩;have ka:=oq w b lo hi;have sa:=qt w b lo hi;obtain⟨p1,p2,p3⟩:=oe w b lo hi;rw[aA] at ka sa p1 p2 p3 C1;have GS:=tB Wa b w.heap.size (w.heap.size+1) (w.heap.size+1+1) a cap L A M B lo hi (H.keep ka) sp ak p1 p2 p3;have aP:=H.lt
   have C2:=iJ (mU Wa Wa 205 #[.pointer (some ⟨w.heap.size,0,none⟩),.pointer (some ⟨w.heap.size+1,0,none⟩),.pointer (some ⟨w.heap.size+1+1,0,none⟩)] _ _ GS (But.refl _ _)
    (λk hk=>by
      rcases hk with hk|rfl|rfl|rfl
      . rcases hk with rfl|⟨aM,hx,rfl⟩
        . omega
        . have:=H.row.lt hx;omega
      . omega
      . omega
      . omega) (enters_of func205 (by kernel_rfl) rfl) ay)
   clear GS p1 p2 p3 aA ax ay;generalize min (sz (jR M lo hi)) mxi=aN at *;obtain⟨r1,r2,r3⟩:=yM (mn:=(-9223372036854775808)) (mx:=9223372036854775807) H.can (λr hr=>⟨(H.bnd r hr).1.1,(H.bnd r hr).2.2⟩) ak sp
   have C5:=iJ λ(W:World)(hb:Below w.heap.size w W)=>mV W b a cap L lo hi A M B (H.keep hb) sp ak
   have az:L.length=A.length+M.length+B.length:=by rw[sp.eq];simp[fC]
   have eL:=sp.eq;have hc:=H.cell;have aL:=H.row.len;obtain⟨aJ,aB⟩:=aL;unfold maxLen at aB
   have lV:(left M lo hi).length<=2:=by
    by_cases h0:M=[]
    . rw[h0,nW];simp
    . rw[nv h0,ae];split<;>split<;>simp
   have aD:(left M lo hi).length<=M.length+1:=by
    cases M with
    |nil=>rw[nW];simp
    |cons=>simp;omega
   obtain⟨Z,au⟩:∃aI:Nat,aI=A.length+M.length:=⟨_,rfl⟩;rw[<-au] at C5;have l1:A.length<=Z:=by omega
   have l2:Z<=cap:=by omega
   have l3:Z<=11000000000000:=by omega
   have x1:(A.length:Int)<=(Z:Int):=by omega
   have x2:(Z:Int)<=(cap:Int):=by omega
   have wN:IntKind.i64.wrap (Z:Int)=(Z:Int):=iT (by omega) (by omega)
   have nM:Z-A.length=M.length:=by omega
   have wL:IntKind.i64.wrap (A.length:Int)=(A.length:Int):=iT (by omega) (by omega)
   have aF:∀r∈A++left M lo hi++B,Nm r.1/\Nm r.2:=λr hr=>by
    have j:=r3 r hr;have l:=r1.1 r hr;unfold Nm;omega
   have aG:∀r∈M,Nm r.1/\Nm r.2:=λr hr=>H.bnd r (by rw[eL];simp[hr])
   have af:=iJ au;have G:=iJ H;have D:=iJ az;have EL:=iJ eL;have N:=iJ aH;have HV:=iJ lV;have HM:=iJ aD;have V:=iJ (And.intro r1 r2);have n:=iJ aF;have BM:=iJ aG;have ao:=iJ ar;have ap:=iJ aq;clear au H az eL aH r1 r2 r3 sp aF aG lV aD;rcases G.o.row.cases with⟨hag,aj,h0⟩|⟨g,Y,hag,hg,j,l,i⟩
   . subst hag;subst aj;have e4:L.length=0:=by rw[h0];rfl
     have e1:A.length=0:=by have:=D.o;omega
     have e2:M.length=0:=by have:=D.o;omega
     have e3:Z=0:=by have:=af.o;omega
     have VS:=iJ λ(W:World)(_:Below w.heap.size w W)=>(show Vs W none M from .inl (co.1 e2))
     clear l1 l2 l3 x1 x2 wN nM wL aJ aB;rw[e1,e3] at C5;go_enter func184,ntmps184;go_wp2_with fail
     refine C1.o.mono ?_;rintro e w1 ⟨rfl,rfl⟩;go_wp2_with fail
     refine C2.o.mono ?_;rintro e W1 ⟨rfl,ah⟩;have b1:=bt ka ah;go_wp2_with fail
     refine(C5.o _ b1).mono ?_;rintro e f ⟨rfl,ai⟩;have I:=bt b1 ai;have C:=G.o.keep I;have c3:=C.cell;have f3:f.frozen? ⟨b,0,none⟩=false:=bG _ _ _ _ _ C.blk;have x:=iJ (VS.o f.drew (bt I (drw f)));have O:=mj f.drew none 0 M lo hi x.o ao.o ap.o BM.o (by have:=D.o;have:=N.o;omega)
     have E:=λ(W:World)(d:Option Addr)(c':Nat)(hV:Vw W d c' (left M lo hi))(hN:New f.drew none d)(hb:Below f.heap.size f W)=>lN W none 0 A M B (by have:=(C.keep hb).row;rw[EL.o] at this;exact this) d c' (left M lo hi) hV
      (λz y t T e=>by
        have j:=C.row.lt t;rcases hN y T with⟨q,hq,_⟩|h
        . cases hq
        . have h':f.heap.size<=y.block:=h;omega) (by have:=HV.o;have:=D.o;have:=N.o;omega)
     have lT:(A++left M lo hi++B).length<=L.length+1:=by have:=D.o;have:=HM.o;rw[ae,ae];omega
     have eT:A.length+(left M lo hi).length+B.length=(A++left M lo hi++B).length:=by rw[ae,ae]
     rw[eT,<-D.o,<-af.o] at E;obtain⟨R,hR⟩:∃R,A++left M lo hi++B=R:=⟨_,rfl⟩;rw[hR] at E lT V n;obtain⟨aa,ad⟩:∃aa,left M lo hi=aa:=⟨_,rfl⟩;rw[ad] at O E
     have ac:∀(K:World),Below f.heap.size f K->∀(d:Option Addr)(s:Nat)(m:World),Vw m d s R->New K none d->But (InA none) K m->St (m.setCell ⟨b,0,none⟩ (.slice d R.length s)) b d s R/\(∀z,has R z=(has L z&& !(decide (lo<=z)&&decide (z<=hi))))/\R.length<=L.length+1/\New w none d/\But (λk=>k=b\/InA none k) w (m.setCell ⟨b,0,none⟩ (.slice d R.length s)):=by
      intro K X d s m j l i;have P:=C.keep X;have s5:=X.size;have s3:=I.size;obtain⟨q1,q2⟩:=V.o
      have an:∀z,d=some z->z.block≠b:=λz t=>by
       rcases l z t with⟨y,T,e⟩|h
       . rw[<-e];exact P.ne T
       . have:=G.o.lt;omega
      have bb:=i.same P.blk (λh=>by obtain⟨z,t,e⟩:=h;exact P.ne t e)
      have ag:But (λk=>k=b\/InA none k) w m:=(But.ofBelow (bt I X)).trans i (λk _ h=>.inr h)
      refine⟨⟨?_,?_,q1,n.o,by have:=N.o;omega⟩,q2,lT,l.mono (by omega),ag.setCell (λ_=>.inl rfl) _⟩
      . rw[aY _ _ _ _ _ _ bb];rfl
      . exact j.but (S:=λk=>k=b) ((But.refl (λk=>k=b) m).setCell (p:=⟨b,0,none⟩) (λ_=>rfl) _) (λz t=>an z t)
     have FF:=iJ ac;have G6:=iJ O;have G7:=iJ E;clear ac O E V n N D af EL C eT x HV HM BM hR ad;rw[e1,e3,e4,show((0:Nat):Int)=0 from rfl] at G7
     rw[e2] at G6;rw[e4] at c3;clear e1 e2 e3 e4 h0;go_wp2_with fail
     go_region_with (first|(go_at_call 201;with_reducible refine G6.o.mono ?_;rintro e U ⟨a5,c5,rfl,j,l,i⟩;have J:=iJ (show Below f.heap.size f U from bt (drw f) i);have ab:=yi b c3 J.o;have G8:=iJ (G7.o U a5 c5 j l J.o);clear j l i)|(go_at_call 178;with_reducible refine G8.o.mono ?_;rintro e m ⟨d,s,rfl,j,l,i⟩;have av:=yY b ab i G.o;have aw:=sK b ab ((J.o.frozen (p:=⟨b,0,none⟩) (block_lt_of_cell c3)).trans f3) i G.o;have F1:=iJ (FF.o U J.o d s m j l i);clear j l i))
     all_goals
      go_wp2;go_ret;exact⟨rfl,d,s,R,F1.o⟩
   . subst hag;have aO:=hg.lt;by_cases al:M.length=0
     . have aK:Z=A.length:=by omega
       subst aK;clear nM;have VS:=iJ λ(W:World)(am:Option Addr)(_:Below w.heap.size w W)=>(show Vs W am M from .inl (co.1 al))
       by_cases aj:cap=A.length
       all_goals
        clear hg j l i;go_enter func184,ntmps184;go_wp2_with fail
        refine C1.o.mono ?_;rintro e w1 ⟨rfl,rfl⟩;go_wp2_with fail
        refine C2.o.mono ?_;rintro e W1 ⟨rfl,ah⟩;have b1:=bt ka ah;go_wp2_with fail
        refine(C5.o _ b1).mono ?_;rintro e f ⟨rfl,ai⟩;have I:=bt b1 ai;have C:=G.o.keep I;have c3:=C.cell;have f3:f.frozen? ⟨b,0,none⟩=false:=bG _ _ _ _ _ C.blk;first
        |have e0:cap=A.length:=aj
         clear e0;have x:=iJ (VS.o f.drew (some ⟨g,0,none⟩) (bt I (drw f)));have O:=mj f.drew (some ⟨g,0,none⟩) 0 M lo hi x.o ao.o ap.o BM.o (by have:=D.o;have:=N.o;omega)
        |have x:=iJ (VS.o f.drew (some ⟨g,A.length*2,none⟩) (bt I (drw f)))
         have O:=mj f.drew (some ⟨g,A.length*2,none⟩) (cap-A.length) M lo hi x.o ao.o ap.o BM.o (by have:=D.o;have:=N.o;omega)
        have E:=λ(W:World)(d:Option Addr)(c':Nat)(hV:Vw W d c' (left M lo hi))(hN:New f.drew none d)(hb:Below f.heap.size f W)=>lN W (some ⟨g,0,none⟩) cap A M B (by have:=(C.keep hb).row;rw[EL.o] at this;exact this) d c' (left M lo hi) hV
         (λz y t T e=>by
           have j:=C.row.lt t;rcases hN y T with⟨q,hq,_⟩|h
           . cases hq
           . have h':f.heap.size<=y.block:=h;omega) (by have:=HV.o;have:=D.o;have:=N.o;omega)
        have lT:(A++left M lo hi++B).length<=L.length+1:=by have:=D.o;have:=HM.o;rw[ae,ae];omega
        have eT:A.length+(left M lo hi).length+B.length=(A++left M lo hi++B).length:=by rw[ae,ae]
        rw[eT,<-D.o,<-af.o] at E;obtain⟨R,hR⟩:∃R,A++left M lo hi++B=R:=⟨_,rfl⟩;rw[hR] at E lT V n;obtain⟨aa,ad⟩:∃aa,left M lo hi=aa:=⟨_,rfl⟩;rw[ad] at O E
        have ac:∀(K:World),Below f.heap.size f K->∀(d:Option Addr)(s:Nat)(m:World),Vw m d s R->New K (some ⟨g,0,none⟩) d->But (InA (some ⟨g,0,none⟩)) K m->St (m.setCell ⟨b,0,none⟩ (.slice d R.length s)) b d s R/\(∀z,has R z=(has L z&& !(decide (lo<=z)&&decide (z<=hi))))/\R.length<=L.length+1/\New w (some ⟨g,0,none⟩) d/\But (λk=>k=b\/InA (some ⟨g,0,none⟩) k) w (m.setCell ⟨b,0,none⟩ (.slice d R.length s)):=by
         intro K X d s m j l i;have P:=C.keep X;have s5:=X.size;have s3:=I.size;obtain⟨q1,q2⟩:=V.o
         have an:∀z,d=some z->z.block≠b:=λz t=>by
          rcases l z t with⟨y,T,e⟩|h
          . rw[<-e];exact P.ne T
          . have:=G.o.lt;omega
         have bb:=i.same P.blk (λh=>by obtain⟨z,t,e⟩:=h;exact P.ne t e)
         have ag:But (λk=>k=b\/InA (some ⟨g,0,none⟩) k) w m:=(But.ofBelow (bt I X)).trans i (λk _ h=>.inr h)
         refine⟨⟨?_,?_,q1,n.o,by have:=N.o;omega⟩,q2,lT,l.mono (by omega),ag.setCell (λ_=>.inl rfl) _⟩
         . rw[aY _ _ _ _ _ _ bb];rfl
         . exact j.but (S:=λk=>k=b) ((But.refl (λk=>k=b) m).setCell (p:=⟨b,0,none⟩) (λ_=>rfl) _) (λz t=>an z t)
        have FF:=iJ ac;have G6:=iJ O;have G7:=iJ E;clear ac O E V n N D af EL C eT x HV HM BM hR ad;rw[al] at G6;try rw[aj] at G7
        clear al;go_wp2_with fail
        go_region_with (first|(go_at_call 201;with_reducible refine G6.o.mono ?_;rintro e U ⟨a5,c5,rfl,j,l,i⟩;have J:=iJ (show Below f.heap.size f U from bt (drw f) i);have ab:=yi b c3 J.o;have G8:=iJ (G7.o U a5 c5 j l J.o);clear j l i)|(go_at_call 178;with_reducible refine G8.o.mono ?_;rintro e m ⟨d,s,rfl,j,l,i⟩;have av:=yY b ab i G.o;have aw:=sK b ab ((J.o.frozen (p:=⟨b,0,none⟩) (block_lt_of_cell c3)).trans f3) i G.o;have F1:=iJ (FF.o U J.o d s m j l i);clear j l i))
        all_goals
         go_wp2;go_ret;exact⟨rfl,d,s,R,F1.o⟩
     . have aj:¬cap=A.length:=by omega
       have aC:M≠[]:=λe=>al (by rw[e];rfl)
       have VS:=iJ λ(W:World)(hb:Below w.heap.size w W)=>(show Vs W (some ⟨g,A.length*2,none⟩) M from by
        have h:=(G.o.keep hb).row.vs;rw[EL.o] at h;obtain⟨b0,o0,e0,h⟩:=h.mid aC;simp only[aE,Addr.mk.injEq,eH] at e0;obtain⟨rfl,rfl⟩:=e0;rwa [bN] at h)
       clear hg j l i aC al;go_enter func184,ntmps184;go_wp2_with fail
       refine C1.o.mono ?_;rintro e w1 ⟨rfl,rfl⟩;go_wp2_with fail
       refine C2.o.mono ?_;rintro e W1 ⟨rfl,ah⟩;have b1:=bt ka ah;go_wp2_with fail
       refine(C5.o _ b1).mono ?_;rintro e f ⟨rfl,ai⟩;have I:=bt b1 ai;have C:=G.o.keep I;have c3:=C.cell;have f3:f.frozen? ⟨b,0,none⟩=false:=bG _ _ _ _ _ C.blk;have x:=iJ (VS.o f.drew (bt I (drw f)));have O:=mj f.drew (some ⟨g,A.length*2,none⟩) (cap-A.length) M lo hi x.o ao.o ap.o BM.o (by have:=D.o;have:=N.o;omega)
       have E:=λ(W:World)(d:Option Addr)(c':Nat)(hV:Vw W d c' (left M lo hi))(hN:New f.drew none d)(hb:Below f.heap.size f W)=>lN W (some ⟨g,0,none⟩) cap A M B (by have:=(C.keep hb).row;rw[EL.o] at this;exact this) d c' (left M lo hi) hV
        (λz y t T e=>by
          have j:=C.row.lt t;rcases hN y T with⟨q,hq,_⟩|h
          . cases hq
          . have h':f.heap.size<=y.block:=h;omega) (by have:=HV.o;have:=D.o;have:=N.o;omega)
       have lT:(A++left M lo hi++B).length<=L.length+1:=by have:=D.o;have:=HM.o;rw[ae,ae];omega
       have eT:A.length+(left M lo hi).length+B.length=(A++left M lo hi++B).length:=by rw[ae,ae]
       rw[eT,<-D.o,<-af.o] at E;obtain⟨R,hR⟩:∃R,A++left M lo hi++B=R:=⟨_,rfl⟩;rw[hR] at E lT V n;obtain⟨aa,ad⟩:∃aa,left M lo hi=aa:=⟨_,rfl⟩;rw[ad] at O E
       have ac:∀(K:World),Below f.heap.size f K->∀(d:Option Addr)(s:Nat)(m:World),Vw m d s R->New K (some ⟨g,0,none⟩) d->But (InA (some ⟨g,0,none⟩)) K m->St (m.setCell ⟨b,0,none⟩ (.slice d R.length s)) b d s R/\(∀z,has R z=(has L z&& !(decide (lo<=z)&&decide (z<=hi))))/\R.length<=L.length+1/\New w (some ⟨g,0,none⟩) d/\But (λk=>k=b\/InA (some ⟨g,0,none⟩) k) w (m.setCell ⟨b,0,none⟩ (.slice d R.length s)):=by
        intro K X d s m j l i;have P:=C.keep X;have s5:=X.size;have s3:=I.size;obtain⟨q1,q2⟩:=V.o
        have an:∀z,d=some z->z.block≠b:=λz t=>by
         rcases l z t with⟨y,T,e⟩|h
         . rw[<-e];exact P.ne T
         . have:=G.o.lt;omega
        have bb:=i.same P.blk (λh=>by obtain⟨z,t,e⟩:=h;exact P.ne t e)
        have ag:But (λk=>k=b\/InA (some ⟨g,0,none⟩) k) w m:=(But.ofBelow (bt I X)).trans i (λk _ h=>.inr h)
        refine⟨⟨?_,?_,q1,n.o,by have:=N.o;omega⟩,q2,lT,l.mono (by omega),ag.setCell (λ_=>.inl rfl) _⟩
        . rw[aY _ _ _ _ _ _ bb];rfl
        . exact j.but (S:=λk=>k=b) ((But.refl (λk=>k=b) m).setCell (p:=⟨b,0,none⟩) (λ_=>rfl) _) (λz t=>an z t)
       have FF:=iJ ac;have G6:=iJ O;have G7:=iJ E;clear ac O E V n N D af EL C eT x HV HM BM hR ad;go_wp2_with fail
       go_region_with (first|(go_at_call 201;with_reducible refine G6.o.mono ?_;rintro e U ⟨a5,c5,rfl,j,l,i⟩;have J:=iJ (show Below f.heap.size f U from bt (drw f) i);have ab:=yi b c3 J.o;have G8:=iJ (G7.o U a5 c5 j l J.o);clear j l i)|(go_at_call 178;with_reducible refine G8.o.mono ?_;rintro e m ⟨d,s,rfl,j,l,i⟩;have av:=yY b ab i G.o;have aw:=sK b ab ((J.o.frozen (p:=⟨b,0,none⟩) (block_lt_of_cell c3)).trans f3) i G.o;have F1:=iJ (FF.o U J.o d s m j l i);clear j l i))
       all_goals
        go_wp2;go_ret;exact⟨rfl,d,s,R,F1.o⟩
 . have h0:(hi-lo+1).toNat=0:=by omega
   rw[h0]
   have t:∀z,has L z=(has L z&& !(decide (lo<=z)&&decide (z<=hi))):=λz=>by
    have:(decide (lo<=z)&&decide (z<=hi))=false:=by
     rw[eY,dB,dB];omega
    rw[this];simp
   have aQ:hi<lo:=by omega
   have G:=iJ H;have HZ:=iJ t;clear H t ar aq;go_enter func184,ntmps184;go_wp2;go_ret;exact⟨rfl,a,cap,L,G.o,(by simpa using HZ.o),eJ _,New.refl _ _,But.refl _ _⟩
end Go.Proofs.YtbdkogimlbnlmaaGreat.Q
