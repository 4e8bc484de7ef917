import Derived.Test.YteaogidofpfmmaaGreatWgB17
set_option linter.all false
set_option maxHeartbeats 16000000
set_option maxRecDepth 10000
namespace Go.Proofs.YteaogidofpfmmaaGreat
open Go.Proofs.Tryz
open Go.RowKit
variable {rd:Int->Option Pg}{x:Iv}{k:List Nat}{v:Value}{w w':World}
theorem AY:(prog.info? 91).map (λi=>(i.zero,i.size,i.bytes))=some (some (.agg #[.int .i64 0,.int .i64 0,.int .i64 0,.slice none 0 0,.slice none 0 0,.int .i64 0]),6,80):=by kernel_rfl
def nmw(L:List (Int×Pv)):List Value:=(L.map nmc).flatten
theorem Dc(L:List (Int×Pv))(x:Int×Pv):nmw L++nmc x=nmw (L++[x]):=by simp[nmw]
theorem rC:∀(L:List (Int×Pv))(i k:Nat),i<L.length->k<6->(nmw L)[i*6+k]?=(nmc (L.getD i (0,Pv.zero)))[k]?
 | [],i,k,h,_=>absurd h (dz _)
 |x::L,0,k,h,hk=>by
  have a:(nmc x).length=6:=rfl;simp only[nmw,bO,eN,eX,b9];rw[cM (by omega)]
  rfl
 |x::L,i+1,k,h,hk=>by
  have a:(nmc x).length=6:=rfl;have b:=rC L i k (by simpa using h) hk
  show((x::L).map nmc).flatten[(i+1)*6+k]?=_;rw[bO,eN,bP (by omega),a,show(i+1)*6+k-6=i*6+k by omega]
  exact b
theorem EJ{W:World}{g:Nat}{x:Int×Pv}{t:TypeId}(h:W.heap[g]?=some (.cells (nmc x).toArray t (0,0))):∀j u,(nmc x)[j]?=some u->W.cell? ((⟨g,0,none⟩:Addr).add j)=some u:=by
 intro j u a;rw[Addr.add_mid,b9,am _ _ _ _ _ _ h,<-a];simp
theorem DZ{x:Int×Pv}:∀u∈nmc x,u.oneCell'=true:=by
 intro u hu;unfold nmc at hu;rcases bN.1 hu with rfl|hu
 . rfl
 . simp[Pv.cs] at hu;rcases hu with rfl|rfl|rfl|rfl|rfl<;>rfl
def iJ(rd:Int->Option Pg)(k:List Nat):Nat->Int->Option (List (Int×Pg))
 |0,_=>some []
 |h+1,n=>match rd n with
  |none=>none
  |some p=>if lvl p h=false then none else (iJ rd k h (p.at (iQ k p.items)).child).map λl=>(n,p)::l
theorem sM{L:List It}(h:0<L.length):iQ k L<L.length:=by
 unfold iQ;have:=oW k (L.drop 1);rw[di] at this;omega
theorem Aw{h:Nat}{n:Int}{q:Pv}(b:rd n=some q.pg)(a:lvl q.pg h=true)(L:List (Int×Pv)):(iJ rd k (h+1) n).map (λl=>nmg L++l)=(iJ rd k h (q.pg.at (iQ k q.pg.items)).child).map (λl=>nmg (L++[(n,q)])++l):=by
 conv=>lhs;unfold iJ
 rw[b];simp only[a,Bool.true_eq_false,gJ,Option.map_map];congr 1
 funext l
 simp[nmg]
def WayR(w w':World)(e:Ending)(R:Option (List (Int×Pg))):Prop:=(R=none/\e=.returned (.tuple #[.slice none 0 0,.int .i64 15])/\Below w.heap.size w w')\/
 ∃(L:List (Int×Pv))(a:Option Addr)(c:Nat),R=some (nmg L)/\e=.returned (.tuple #[.slice a L.length c,.int .i64 0])/\Q.Gw 91 6 w' a c L.length (nmw L)/\(∀y,a=some y->w.heap.size<=y.block)/\(∀x,L.getLast?=some x->Pi w' x.2)/\Below w.heap.size w w'
theorem s7(w:World)(af:Nat)(rd:Int->Option Pg)(hA:ix rd)(XV:Nat->Prop)(hR:iZ 52 (.pointer (some ⟨af,0,none⟩)) rd XV w)(root ac:Int)(h:Nat)(hh:h<=12)(ak:Option Addr)(ck:Nat)(k:List Nat)(J:Bs w ak k):
 Calls prog 42 #[.pointer (some ⟨af,0,none⟩),.agg #[.int .i64 root,.int .i64 (h:Int),.int .i64 ac],.slice ak k.length ck] w λe w'=>WayR w w' e (iJ rd k h root):=by
 have A0:=gW (al w (.cells #[.int .i64 root,.int .i64 (h:Int),.int .i64 ac] 34));have X0:=ah w (.cells #[.int .i64 root,.int .i64 (h:Int),.int .i64 ac] 34);obtain⟨t0,t1,t2⟩:=ia X0;obtain⟨R,ao⟩:∃R,iJ rd k h root=R:=⟨_,rfl⟩;rw[ao];have RR:=gW ao;have HR:=gW hR;have HA:=gW hA;have HB:=gW J;have aF:IntKind.i64.wrap ((h:Int)-1)=(h:Int)-1:=iz (by omega) (by omega)
 clear ao hR hA J X0;go_enter func42,ntmps42;go_upto_region 4 with fail
 generalize w.alloc (.cells #[.int .i64 root,.int .i64 (h:Int),.int .i64 ac] 34)=w1 at *;clear t0 t1 t2;have aG:(nmg ([]:List (Int×Pv)))=[]:=rfl;go_loopw [8,9,10] (λp q ai wr=>∃(C:Nat)(n:Int)(a:Option Addr)(c:Nat)(L:List (Int×Pv)),p=.slice a L.length c/\q=.int .i64 n/\ai=.int .i64 ((C:Int)-1)/\L.length+C=h/\Below w.heap.size w wr/\Q.Gw 91 6 wr a c L.length (nmw L)/\(∀y,a=some y->w.heap.size<=y.block)/\(∀x,L.getLast?=some x->Pi wr x.2)/\(iJ rd k C n).map (λag=>nmg L++ag)=R) (λ_ _ ai _=>(intOf ai+1).toNat)
 case atStart=>
  refine⟨h,root,none,0,[],rfl,rfl,rfl,by simp,A0.o,Q.Gw.nil _ _ _,λy F=>(by cases F),λx P=>absurd P (by simp),?_⟩
  rw[RR.o.symm];cases iJ rd k h root<;>rfl
 case round=>
  obtain⟨C,n,a,c,L,rfl,rfl,rfl,hL,hb,O,av,hP,hc⟩:=hrel;have M:=gW hb;have GG:=gW O;have PP:=gW hP;have NA:=gW av;have G:=gW hc;clear hb O hP hc av;cases C with
  |zero=>
   have K:Hid (R=some (nmg L)):=gW (by rw[<-G.o];simp[iJ])
   clear G;go_wp2;go_ret2
   exact Or.inr ⟨L,a,c,K.o,rfl,GG.o,NA.o,PP.o,M.o⟩
  |succ C=>
   have e1:((C+1:Nat):Int)-1=(C:Int):=by omega
   rw[e1];have OR:=gW (sZ wr ⟨af,0,none⟩ rd XV (HR.o.keep M.o) wr (But.refl _ _) n);go_wp2_with fail
   refine OR.o.mono ?_;rintro _ E ⟨q,rfl,hq,hg,aw⟩;have PN:=gW hq;have QG:=gW hg;have B2:=gW aw;clear hq hg aw OR;cases hrd:rd n with
   |none=>
    have K:Hid (R=none):=gW (by rw[<-G.o];unfold iJ;rw[hrd];rfl)
    obtain⟨f,r,B,m,d,g,i,A,t⟩:=q;simp only[Pv.vl,Pv.cs];have s:=gW (al E (.cells #[.int .i64 f,.int .i64 r,.slice B d.length m,.slice g A.length i,.int .i64 t] 77));clear G;simp only[Option.isSome_none,Bool.false_eq_true,gJ];go_wp2;go_ret2
    exact Or.inl ⟨K.o,rfl,bt M.o (bt B2.o s.o)⟩
   |some pg=>
    have aD:q.pg=pg:=by rw[QG.o,hrd];rfl
    have V:=gW (HA.o n pg hrd);simp only[Option.isSome_some,if_true];subst aD;obtain⟨f,r,B,m,d,g,i,A,t⟩:=q;have I:=gW (λ(U:World)=>uT U ⟨f,r,B,m,d,g,i,A,t⟩ (C:Int))
    unfold Pv.vl at I;simp only[Pv.vl,Pv.cs] at I ⊢;have s:=gW (al E (.cells #[.int .i64 f,.int .i64 r,.slice B d.length m,.slice g A.length i,.int .i64 t] 77));have X3:=gW (ah E (.cells #[.int .i64 f,.int .i64 r,.slice B d.length m,.slice g A.length i,.int .i64 t] 77));have au:=gW hrd;clear hrd QG;go_upto_region 7 with fail
    generalize E.alloc (.cells #[.int .i64 f,.int .i64 r,.slice B d.length m,.slice g A.length i,.int .i64 t] 77)=w3 at *;obtain⟨m0,m1,m2,m3,m4⟩:=iI X3.o;have B3:=gW (bt B2.o s.o);cases hlq:lvl (Pv.pg ⟨f,r,B,m,d,g,i,A,t⟩) (C:Int) with
    |false=>
     have K:Hid (R=none):=gW (by rw[<-G.o];unfold iJ;rw[au.o];simp only[hlq,if_true];rfl)
     rw[hlq] at I;clear G hlq;go_wp2_with (go_at_call 80;refine(I.o _).mono ?_;rintro _ V6 ⟨rfl,b⟩;have X:=gW b;clear b)
     go_ret2
     exact Or.inl ⟨K.o,rfl,bt M.o (bt B3.o X.o)⟩
    |true=>
     have Z:=gW ((Aw (k:=k) au.o hlq L).symm.trans G.o);rw[hlq] at I;have am:=gW hlq;clear G hlq;go_upto_region 9 with(go_at_call 80;refine(I.o _).mono ?_;rintro _ V6 ⟨rfl,b⟩;have X:=gW b;clear b)
     have aj:=gW (bt B3.o X.o);have X6:=gW ((X.o.block E.heap.size (ae.1 X3.o).1).trans X3.o);clear m0 m1 m2 m3 m4 I;obtain⟨m0,m1,m2,m3,m4⟩:=iI X6.o;have W:=gW (al V6 (.cells #[.int .i64 n,.int .i64 f,.int .i64 r,.slice B d.length m,.slice g A.length i,.int .i64 t] 91));have X9:=gW (ah V6 (.cells #[.int .i64 n,.int .i64 f,.int .i64 r,.slice B d.length m,.slice g A.length i,.int .i64 t] 91));have G9:=gW (GG.o.keep (bt aj.o W.o));have aC:L.length+1<=maxLen:=by unfold maxLen;omega
     have ar:∀y,a=some y->y.block<wr.heap.size:=λy F=>GG.o.lt F
     have P9:=gW ((PN.o.keep (bt (bt s.o X.o) W.o)));go_wp2_with (at_builtin;refine i5 underlying23 AY rfl (by decide) rfl _ _ rfl a L.length c (nmw L) rfl G9.o ⟨V6.heap.size,0,none⟩ 1 (nmc (n,⟨f,r,B,m,d,g,i,A,t⟩)) rfl rfl (EJ X9.o) DZ aC (by omega) ?_)
     intro g5 c5 H O hN J;rw[Dc] at O;have G5:=gW O;have P5:=gW ((P9.o.old J (λk hk=>by obtain⟨y,F,e⟩:=hk;have:=ar y F;omega)))
     have aA:=B2.o.size;have nA:∀j,wr.heap.size<=j->¬Q.InA a j:=λj hj ⟨y,F,e⟩=>by have:=ar y F;omega
     have X5:=gW (J.same ((W.o.block E.heap.size (ae.1 X6.o).1).trans X6.o) (nA _ aA))
     have N5:Hid (∀y,(some ⟨g5,0,none⟩:Option Addr)=some y->w.heap.size<=y.block):=gW (λy F=>by
      rcases hN y F with⟨z,hz,e⟩|h2
      . rw[<-e];exact NA.o z hz
      . have:=M.o.size;have:=aj.o.size;have:=W.o.size;have:=aA;omega)
     have B5:Hid (Below w.heap.size w H):=gW (((But.ofBelow (S:=Q.InA a) (bt M.o (bt aj.o W.o))).trans J (λ_ _ e=>e)).below (λj hj ⟨y,F,e⟩=>by have:=NA.o y F;omega))
     have an:=gW (P5.o.pi (show d.length<=2199023255520 by
      have h8:d.length<=8\/f=3:=by
       rcases V.o.kind with h|h|h
       . left;have:=(V.o.node (.inl h)).2.2.1;simpa[Pv.pg] using this
       . left;have:=(V.o.node (.inr h)).2.2.1;simpa[Pv.pg] using this
       . exact .inr h
      have:=h8.resolve_right (λh=>(jb.1 am.o).1 h)
      omega))
     have ap:L.length+1=(L++[(n,(⟨f,r,B,m,d,g,i,A,t⟩:Pv))]).length:=by simp
     rw[ap] at G5;have aa:=gW ap;clear ap
     have az:Hid (∀x,(L++[(n,(⟨f,r,B,m,d,g,i,A,t⟩:Pv))]).getLast?=some x->Pi H x.2):=gW (λx P=>by
      rw[gU] at P;cases P;exact an.o)
     clear O hN J P9 P5 m0 m1 m2 m3 m4 nA ar;obtain⟨m0,m1,m2,m3,m4⟩:=iI X5.o;cases C with
     |zero=>
      have K:Hid ((iJ rd k 0 n).map (λag=>nmg (L++[(n,(⟨f,r,B,m,d,g,i,A,t⟩:Pv))])++ag)=R):=Z
      clear Z;go_wp2;go_roundw
      case rel=>exact⟨0,n,some ⟨g5,0,none⟩,c5,L++[(n,⟨f,r,B,m,d,g,i,A,t⟩)],by rw[<-aa.o],rfl,by first|rfl|go_num,by rw[<-aa.o];omega,B5.o,G5.o,N5.o,az.o,K.o⟩
      case measure=>simp[intOf]
     |succ C=>
      have aH:(0:Int)<((C+1:Nat):Int):=by omega
      have ay:f=2:=by
       rcases V.o.kind with h|h|h
       . have h1:=(V.o.leaf0 h).1;have h2:=(jb.1 am.o).2;simp only[Pv.pg] at h1 h2;omega
       . exact h
       . exact absurd h (jb.1 am.o).1
      have hI:=(V.o.idx ay).2.2;obtain⟨D,ab⟩:∃D,iQ k (Pv.pg ⟨f,r,B,m,d,g,i,A,t⟩).items=D:=⟨_,rfl⟩
      have aE:D<d.length:=by
       have h1:2<=(Pv.pg ⟨f,r,B,m,d,g,i,A,t⟩).items.length:=hI;have:=sM (k:=k) (L:=(Pv.pg ⟨f,r,B,m,d,g,i,A,t⟩).items) (by omega)
       rw[ab] at this;simpa[Pv.pg] using this
      have aJ:(D:Int)<(d.length:Int):=by omega
      have aI:(0:Int)<=(D:Int):=by omega
      rw[ab] at Z;obtain⟨N,T,ea,cA⟩:=an.o.it.at aE;have ea:B=some ⟨N,T,none⟩:=ea;have AT:(Pv.pg ⟨f,r,B,m,d,g,i,A,t⟩).at D=(d.getD D Iv.zero).it:=iY d D;rw[AT] at Z;have cA:H.rangeAt N (T+D*4) (d.getD D Iv.zero).cs.toList:=cA;have Y:=gW (λ(U:World)(hb:Below H.heap.size H U)=>zO U ⟨f,r,B,m,d,g,i,A,t⟩ ak ck k (an.o.keep hb) (HB.o.keep (bt B5.o hb)))
      simp only[ab] at Y;generalize d.getD D Iv.zero=it at *;obtain⟨_,_,_,_,_,_,ch,_⟩:=it;have d2:=(iX cA).2.2.1;simp only at d2;subst ea;unfold Pv.vl at Y;simp only[Pv.cs] at Y;have SS:Hid (∀U:World,Below H.heap.size H U->((U.cell? ⟨E.heap.size,0,none⟩=some (.int .i64 f)/\U.cell? ⟨E.heap.size,1,none⟩=some (.int .i64 r)/\U.cell? ⟨E.heap.size,2,none⟩=some (.slice (some ⟨N,T,none⟩) d.length m)/\U.cell? ⟨E.heap.size,3,none⟩=some (.slice g A.length i)/\U.cell? ⟨E.heap.size,4,none⟩=some (.int .i64 t))/\U.cell? ⟨N,T+D*4+2,none⟩=some (.int .i64 ch))):=gW (λU hb=>⟨iI ((hb.block E.heap.size (ae.1 X5.o).1).trans X5.o),(hb.cell (p:=⟨N,T+D*4+2,none⟩) (block_lt_of_cell d2)).trans d2⟩)
      clear cA AT ab hI ay;go_upto_region 11 with fail
      have DR:=gW (dr2 H);refine wrd SS DR.o λhHeld=>?_
      refine tkd 0 1 2 3 ?_;refine tw 4 λKx hK=>?_
      go_simp;refine(Y.o _ DR.o).mono ?_;rintro _ W2 ⟨rfl,ax⟩;have l:=gW (bt DR.o ax);clear ax Y;go_wp2_with fail
      refine hK.o _ _ (SS.o _ l.o) (λhHeld=>?_)
      refine tkd 5 6 7 8 ?_;refine td ?_;clear hHeld SS;have aB:=gW (bt B5.o l.o);have G7:=gW (G5.o.keep l.o);have L7:=gW (λx P=>(az.o x P).keep l.o)
      go_wp2;go_roundw
      case rel=>exact⟨C+1,ch,some ⟨g5,0,none⟩,c5,L++[(n,⟨f,r,some ⟨N,T,none⟩,m,d,g,i,A,t⟩)],by rw[<-aa.o],rfl,by first|rfl|go_num,by rw[<-aa.o];omega,aB.o,G7.o,N5.o,L7.o,Z.o⟩
      case measure=>simp[intOf];omega
def ldv(rd:Int->Option Pg)(x:Iv):Nat×List Nat:=if x.size<0\/3840<x.size then (8,[]) else if 32<x.size then iW rd x.size.toNat x.size.toNat [] x.child else if (x.val.length:Int)≠x.size then (8,[]) else (0,x.val)
theorem wv(h:x.size<0\/3840<x.size):ldv rd x=(8,[]):=by unfold ldv;rw[if_pos h]
theorem uo{s:Nat}(a:32<s)(b:s<=3840)(h:x.size=(s:Int)):ldv rd x=iW rd s s [] x.child:=by
 unfold ldv;rw[if_neg (by omega),if_pos (by omega),h]
 rfl
theorem xd(a:0<=x.size)(b:x.size<=32)(h:(x.val.length:Int)≠x.size):ldv rd x=(8,[]):=by unfold ldv;rw[if_neg (by omega),if_neg (by omega),if_pos h]
theorem s9(a:x.size<=32)(h:(x.val.length:Int)=x.size):ldv rd x=(0,x.val):=by unfold ldv;rw[if_neg (by omega),if_neg (by omega),if_neg (λe=>e h)]
theorem jL.keep{f:FuncId}(h:jL f v rd w)(hb:Below w.heap.size w w'):jL f v rd w':=λW a z=>h W (bt hb a) z
theorem sY(w:World)(v:Value)(rd:Int->Option Pg)(l:jL 52 v rd w)(x:Iv)(i:Ii w x):Calls prog 44 #[v,x.vl] w λe w'=>Gvn w w' e (ldv rd x):=by
 by_cases d:0<=x.size/\x.size<=32/\(x.val.length:Int)=x.size
 . rw[s9 d.2.1 d.2.2];refine(xC w v x i.bv (by omega) d.2.2.symm).mono ?_
   rintro _ w' ⟨a,c,rfl,W⟩;exact .inr ⟨rfl,a,c,rfl,W,i.bv.1⟩
 have b:=gW (al w (.cells x.cs 89));have g:=gW (aZ w (.cells x.cs 89));by_cases hb:x.size<0\/3840<x.size
 . rw[wv hb];clear l i d;obtain⟨K,M,R,L,N,y,O,f⟩:=x;simp only at hb;unfold Iv.vl;simp only[Iv.cs] at b g ⊢;obtain⟨G,H,I,J⟩:=kz g.o;by_cases B:f<0
   . have q:decide (f<0)=true:=au B;go_enter func44,ntmps44;go_wp2_with fail
     refine aF (dg rfl _ _ _) rfl ?_;exact .inl ⟨by decide,rfl,b.o⟩
   . have q:decide (f<0)=false:=ar B;have A:decide ((3840:Int)<f)=true:=au (by omega)
     go_enter func44,ntmps44;go_wp2_with fail
     refine aF (dg rfl _ _ _) rfl ?_;exact .inl ⟨by decide,rfl,b.o⟩
 by_cases E:32<x.size
 . obtain⟨s,r⟩:∃s:Nat,x.size=(s:Int):=⟨x.size.toNat,by omega⟩
   have C:32<s:=by omega
   have D:s<=3840:=by omega
   rw[uo C D r];have n:=gW (xq (w.alloc (.cells x.cs 89)) v rd (l.keep b.o) s C D x.child);obtain⟨t,P⟩:∃t,iW rd s s [] x.child=t:=⟨_,rfl⟩;rw[P] at n ⊢;clear l i d hb E P;obtain⟨K,M,R,L,N,y,O,f⟩:=x;simp only at r;subst r;unfold Iv.vl;simp only[Iv.cs] at b g n ⊢;have q:decide ((s:Int)<0)=false:=ar (by omega)
   have A:decide ((3840:Int)<(s:Int))=false:=ar (by omega)
   have V:decide ((32:Int)<(s:Int))=true:=au (by omega)
   obtain⟨G,H,I,J⟩:=kz g.o;go_enter func44,ntmps44;go_wp2_with fail
   refine n.o.mono ?_;rintro _ w3 (⟨j,rfl,h⟩|⟨j,a,c,rfl,h,F⟩)
   . have S:=gW (bt b.o h);have p:=gW j;clear h j;go_wp2_with fail
     refine aF (dg rfl _ _ _) rfl ?_;exact .inl ⟨p.o,rfl,S.o⟩
   . have T:Hid (Own w w3 a c t.2):=⟨h.r,h.n.mono b.o.size,bt b.o h.b⟩;have U:=gW F;have p:=gW j;clear h F j;go_wp2_with fail
     refine aF (dg rfl _ _ _) rfl ?_;exact .inr ⟨p.o,a,c,rfl,T.o,U.o⟩
 . have m:(x.val.length:Int)≠x.size:=λe=>d ⟨by omega,by omega,e⟩
   rw[xd (by omega) (by omega) m]
   clear l i d;obtain⟨K,M,R,L,N,y,O,f⟩:=x;simp only at hb E m;unfold Iv.vl;simp only[Iv.cs] at b g ⊢;obtain⟨s,d⟩:∃s,y.length=s:=⟨_,rfl⟩;rw[d] at m b g ⊢;clear d;obtain⟨G,H,I,J⟩:=kz g.o;have q:decide (f<0)=false:=ar (by omega)
   have A:decide ((3840:Int)<f)=false:=ar (by omega)
   have V:decide ((32:Int)<f)=false:=ar (by omega)
   have X:((s:Int) != f)=true:=by simpa using m
   go_enter func44,ntmps44;go_wp2_with fail
   refine aF (dg rfl _ _ _) rfl ?_;exact .inl ⟨by decide,rfl,b.o⟩
theorem xB(w:World)(v:Value)(rd:Int->Option Pg)(r:jL 53 v rd w)(x:Iv)(hx:Ii w x):Calls prog 85 #[v,x.vl] w λe w'=>Gvn w w' e (ldv rd x):=by
 have l:=gW (al w (.cells x.cs 89));have D:=gW (aZ w (.cells x.cs 89));by_cases hb:x.size<0\/3840<x.size
 . rw[wv hb];clear r hx;obtain⟨U,Y,W,V,Z,G,R,F⟩:=x;simp only at hb;unfold Iv.vl;simp only[Iv.cs] at l D ⊢;obtain⟨M,N,O,P⟩:=kz D.o;by_cases H:F<0
   . have d1:decide (F<0)=true:=au H;go_enter func85,ntmps85;go_wp2_with fail
     refine aF (dg rfl _ _ _) rfl ?_;exact .inl ⟨by decide,rfl,l.o⟩
   . have d1:decide (F<0)=false:=ar H;have d2:decide ((3840:Int)<F)=true:=au (by omega)
     go_enter func85,ntmps85;go_wp2_with fail
     refine aF (dg rfl _ _ _) rfl ?_;exact .inl ⟨by decide,rfl,l.o⟩
 by_cases L:32<x.size
 . obtain⟨s,hz⟩:∃s:Nat,x.size=(s:Int):=⟨x.size.toNat,by omega⟩
   have h1:32<s:=by omega
   have h2:s<=3840:=by omega
   rw[uo h1 h2 hz];have RD:=gW r;obtain⟨ap,hn⟩:∃ap,x.child=ap:=⟨_,rfl⟩;obtain⟨f,aB⟩:∃f,iW rd s s [] ap=f:=⟨_,rfl⟩;have aU:=gW aB;rw[hn,aB];clear r hx hb L aB;obtain⟨U,Y,W,V,Z,G,R,F⟩:=x;simp only at hz hn;subst hz;subst hn;unfold Iv.vl;simp only[Iv.cs] at l D ⊢;have d1:decide ((s:Int)<0)=false:=ar (by omega)
   have d2:decide ((3840:Int)<(s:Int))=false:=ar (by omega)
   have d3:decide ((s:Int)<=32)=false:=ar (by omega)
   obtain⟨M,N,O,P⟩:=kz D.o;go_enter func85,ntmps85;go_wp2_with fail
   have A1:=gW (al (w.alloc (.cells #[.slice U W.length Y,.slice V G.length Z,.int .i64 R,.int .i64 (s:Int)] 89)) (.cells #[] 5));have X1:=gW (aZ (w.alloc (.cells #[.slice U W.length Y,.slice V G.length Z,.int .i64 R,.int .i64 (s:Int)] 89)) (.cells #[] 5));rw[size_alloc] at X1;have R1:Hid (Rw ((w.alloc (.cells #[.slice U W.length Y,.slice V G.length Z,.int .i64 R,.int .i64 (s:Int)] 89)).alloc (.cells #[] 5)) (some ⟨w.heap.size+1,0,none⟩) 0 []):=Rw.mk (cur:=#[]) X1.o (an _) (an _) rfl rfl;have XB:=gW (iy D.o A1.o);have BA:=gW (bt l.o A1.o);generalize ((w.alloc (.cells #[.slice U W.length Y,.slice V G.length Z,.int .i64 R,.int .i64 (s:Int)] 89)).alloc (.cells #[] 5))=w1 at *;clear l A1 D X1 M N O P;obtain⟨J,ay⟩:∃J,w.heap.size=J:=⟨_,rfl⟩;have aO:=gW ay;rw[ay] at XB R1 ⊢;clear ay;go_loopw [6,7] (λvv nv wx=>∃(j:List Nat)(n':Int)(a:Option Addr)(c m:Nat),vv=.slice a m c/\nv=.int .i64 n'/\m=j.length/\m<=s/\Rw wx a c j/\New w none a/\Below w.heap.size w wx/\B8 j/\wx.heap[J]?=some (.cells #[.slice U W.length Y,.slice V G.length Z,.int .i64 R,.int .i64 (s:Int)] 89 (0,0))/\iW rd s (s-m) j n'=f) (λvv _ _=>s-(lN vv))
   case atStart=>exact⟨[],R,some ⟨J+1,0,none⟩,0,0,rfl,rfl,rfl,an _,R1.o,λx hx=>.inr (by cases hx;rw[aO.o];exact eV _),BA.o,(λx hx=>absurd hx (bX)),XB.o,by rw[Nat.sub_zero];exact aU.o⟩
   case round=>
    clear R1 BA XB;obtain⟨j,n',a,c,m,rfl,rfl,hm,aY,r,T,hb,h8,aD,d⟩:=hrel;have C:=gW hm;have RW:=gW r;have NW:=gW T;have BB:=gW hb;have n:=gW h8;have EE:=gW d;have XB:=gW aD;clear hm r T hb h8 d aD;obtain⟨M,N,O,P⟩:=kz XB.o;have aj:J<wr.heap.size:=(ae.1 XB.o).1;by_cases aT:m<s
    . have a2:(m:Int)<(s:Int):=by omega
      have RR:=gW (RD.o wr BB.o n');obtain⟨t,ht⟩:∃t,s-m=t+1:=⟨s-m-1,by omega⟩
      have d:=EE.o;rw[ht] at d;unfold iW at d;rw[if_pos (by rw[<-C.o];exact aT)] at d
      obtain⟨o,ho⟩:∃o,rd n'=o:=⟨_,rfl⟩;rw[ho] at RR d;clear ho EE;cases o with
      |none=>
       simp only at d;have g:Hid ((15,[])=f):=d;clear d;go_wp2_with fail
       refine RR.o.mono ?_;rintro _ w3 ⟨q,rfl,ab,ak,I⟩;have A3:=gW (al w3 (.cells #[.int .i64 q.kind,.int .i64 q.level,.slice q.aI q.items.length q.cI,.slice q.aD q.data.length q.cD,.int .i64 q.next] 77));have p:=gW (bt BB.o (bt I A3.o));clear ab ak I RR;obtain⟨ai,aN,aK,aL,aM,am,ao,y,E⟩:=q;unfold Pv.vl;simp only[Pv.cs] at p ⊢;go_wp2_with fail
       refine aF (dg rfl _ _ _) rfl ?_;rw[<-g.o];exact .inl ⟨by decide,rfl,p.o⟩
      |some pg=>
       simp only at d
       have av:Hid ((pg.kind≠3->(15,[])=f)/\(pg.kind=3->pg.data.length≠min (s-m) 480->(5,[])=f)/\(pg.kind=3->pg.data.length=min (s-m) 480->decide (pg.next=0)≠decide (s-m<=480)->(5,[])=f)/\(pg.kind=3->pg.data.length=min (s-m) 480->decide (pg.next=0)=decide (s-m<=480)->iW rd s (s-(m+pg.data.length)) (j++pg.data) pg.next=f)):=by
        rw[<-C.o] at d;refine⟨λk1=>?_,λk1 k2=>?_,λk1 k2 k3=>?_,λk1 k2 k3=>?_⟩
        . rw[if_pos k1] at d;exact d
        . rw[if_neg (λe=>e k1),if_pos k2] at d;exact d
        . rw[if_neg (λe=>e k1),if_neg (λe=>e k2),if_pos k3] at d;exact d
        . rw[if_neg (λe=>e k1),if_neg (λe=>e k2),if_neg (λe=>e k3)] at d
          rw[<-d];exact ot _ _ _ _ (by rw[af,<-C.o];omega) (by rw[af,<-C.o];omega)
       clear d;rw[if_pos (show(some pg).isSome=true from rfl)] at RR
       go_wp2_with fail
       refine RR.o.mono ?_;rintro _ w3 ⟨q,rfl,ab,ak,I⟩;have aE:q.pg=pg:=ak;have A3:=gW (al w3 (.cells q.cs 77));have X3:=gW (aZ w3 (.cells q.cs 77));have aa:=gW (iy XB.o (bt I A3.o));have p:=gW (bt BB.o (bt I A3.o));have PN:=gW (ab.keep A3.o);have R3:=gW ((RW.o.keep I).keep A3.o);rw[<-aE] at av;clear ab ak I RR aE M N O P aj;have BD:=gW (PN.o.d.bs PN.o.d8 PN.o.d.len_le);have D8:Hid (B8 q.data):=PN.o.d8;have i:Hid ((q.kind≠3->(15,[])=f)/\(q.kind=3->q.data.length≠min (s-m) 480->(5,[])=f)/\(q.kind=3->q.data.length=min (s-m) 480->decide (q.next=0)≠decide (s-m<=480)->(5,[])=f)/\(q.kind=3->q.data.length=min (s-m) 480->decide (q.next=0)=decide (s-m<=480)->iW rd s (s-(m+q.data.length)) (j++q.data) q.next=f)):=av.o;clear av PN;obtain⟨ai,aN,aK,aL,aM,am,ao,y,E⟩:=q;unfold Pv.vl;simp only[Pv.cs] at X3 p R3 i BD D8 aa ⊢;obtain⟨b,A⟩:∃b,y.length=b:=⟨_,rfl⟩;have ac:=gW A;simp only[A] at X3 p R3 BD i aa ⊢;clear A;have aI:Hid (∀x,a=some x->x.block≠w3.heap.size):=λx hx=>R3.o.nty13 (t:=77) X3.o (by decide) hx
       have aJ:Hid (∀x,a=some x->x.block≠J):=λx hx=>R3.o.nty13 (t:=89) aa.o (by decide) hx
       go_upto_region 9 with fail
       generalize (w3.alloc (.cells #[.int .i64 ai,.int .i64 aN,.slice aK aM.length aL,.slice am b ao,.int .i64 E] 77))=w4 at *;have aH:w3.heap.size<w4.heap.size:=(ae.1 X3.o).1;have aj:J<w4.heap.size:=(ae.1 aa.o).1;generalize w3.heap.size=gp at *;obtain⟨y0,y1,y2,y3,y4⟩:=iT X3.o;obtain⟨M,N,O,P⟩:=kz aa.o;by_cases ag:ai=3
       . have ad:=gW ag;have dk:(ai != 3)=false:=by simpa using ag
         clear ag;have a0:(s:Int)-(m:Int)<=3840:=by omega
         have a1:1<=(s:Int)-(m:Int):=by omega
         by_cases L:s-m<=480
         . have aV:decide ((480:Int)<(s:Int)-(m:Int))=false:=ar (by omega)
           have aQ:((m:Int)+((s:Int)-(m:Int))==(s:Int))=true:=by simp;omega
           by_cases A:b=min (s-m) 480
           . have ah:=gW A;have aS:m+b<=s:=by omega
             have aW:1<=b:=by omega
             have ax:((b:Int) != (s:Int)-(m:Int))=false:=by simp;omega
             have aA:j.length+b<=140737488355328:=by rw[<-C.o];omega
             clear A;by_cases B:E=0
             . have d0:(E==0)=true:=by simpa using B
               have g:Hid (iW rd s (s-(m+b)) (j++y) E=f):=i.o.2.2.2 ad.o ah.o (by rw[au B,au L])
               clear B i;go_wp2_with (at_builtin;refine jO rfl _ _ rfl a m c j rfl C.o R3.o am b ao y rfl ac.o.symm BD.o (by rw[ac.o];exact aA) ?_)
               intro a' c' w5 r T K _;have R5:=gW r
               have X5:=gW ((K.block gp aH (λe=>by
                cases ha:a with
                |none=>rw[ha] at e;cases e
                |some x=>rw[ha] at e;exact aI.o x ha (by simpa using e.symm))).trans X3.o)
               have aw:=gW ((K.block J aj (λe=>by
                cases ha:a with
                |none=>rw[ha] at e;cases e
                |some x=>rw[ha] at e;exact aJ.o x ha (by simpa using e.symm))).trans aa.o)
               have N5:Hid (New w none a'):=λaq hy=>by
                rcases T aq hy with⟨z,hz,e⟩|h
                . rcases NW.o z hz with⟨_,H,_⟩|h1
                  . cases H
                  . exact .inr (by rw[<-e];exact h1)
                . exact .inr (az p.o.size h)
               have B5:Hid (Below w.heap.size w w5):=(But.grown (S:=λk=>∃x,a=some x/\x.block=k) (But.ofBelow p.o) K (by
                intro k e _;cases ha:a with
                |none=>rw[ha] at e;simp at e
                |some x=>rw[ha] at e;exact⟨x,rfl,by first|(simpa using e)|(simpa using e.symm)⟩)).below (λk hk ⟨x,hx,e⟩=>by
                 rcases NW.o x hx with⟨_,H,_⟩|h1
                 . cases H
                 . omega)
               clear r T K y0 y1 y2 y3 y4 M N O P;obtain⟨y0,y1,y2,y3,y4⟩:=iT X5.o;go_wp2_with fail
               go_roundw
               case rel=>exact⟨j++y,E,a',c',m+b,by first|rfl|trivial,by first|rfl|trivial,by rw[af,<-C.o,ac.o],by omega,R5.o,N5.o,B5.o,(λx hx=>by
                rcases bG.1 hx with hx|hx
                . exact n.o x hx
                . exact D8.o x hx),aw.o,g.o⟩
               case measure=>simp[lN];omega
             . have d0:(E==0)=false:=by simpa using B
               have g:Hid ((5,[])=f):=i.o.2.2.1 ad.o ah.o (by rw[ar B,au L];decide)
               clear B i;go_wp2_with fail
               refine aF (dg rfl _ _ _) rfl ?_;rw[<-g.o];exact .inl ⟨by decide,rfl,p.o⟩
           . have ax:((b:Int) != (s:Int)-(m:Int))=true:=by
              have:¬((b:Int)=(s:Int)-(m:Int)):=by omega
              simpa using this
             have g:Hid ((5,[])=f):=i.o.2.1 ad.o A;clear A i;go_wp2_with fail
             refine aF (dg rfl _ _ _) rfl ?_;rw[<-g.o];exact .inl ⟨by decide,rfl,p.o⟩
         . have aV:decide ((480:Int)<(s:Int)-(m:Int))=true:=au (by omega)
           have aQ:((m:Int)+480==(s:Int))=false:=by
            have:¬((m:Int)+480=(s:Int)):=by omega
            simpa using this
           by_cases A:b=min (s-m) 480
           . have ah:=gW A;have aX:b=480:=by omega
             have aS:m+b<=s:=by omega
             have aW:1<=b:=by omega
             have ax:((b:Int) != 480)=false:=by simp;omega
             have aA:j.length+b<=140737488355328:=by rw[<-C.o];omega
             clear A aX;by_cases B:E=0
             . have d0:(E==0)=true:=by simpa using B
               have g:Hid ((5,[])=f):=i.o.2.2.1 ad.o ah.o (by rw[au B,ar L];decide)
               clear B i;go_wp2_with fail
               refine aF (dg rfl _ _ _) rfl ?_;rw[<-g.o];exact .inl ⟨by decide,rfl,p.o⟩
             . have d0:(E==0)=false:=by simpa using B
               have g:Hid (iW rd s (s-(m+b)) (j++y) E=f):=i.o.2.2.2 ad.o ah.o (by rw[ar B,ar L])
               clear B i;go_wp2_with (at_builtin;refine jO rfl _ _ rfl a m c j rfl C.o R3.o am b ao y rfl ac.o.symm BD.o (by rw[ac.o];exact aA) ?_)
               intro a' c' w5 r T K _;have R5:=gW r
               have X5:=gW ((K.block gp aH (λe=>by
                cases ha:a with
                |none=>rw[ha] at e;cases e
                |some x=>rw[ha] at e;exact aI.o x ha (by simpa using e.symm))).trans X3.o)
               have aw:=gW ((K.block J aj (λe=>by
                cases ha:a with
                |none=>rw[ha] at e;cases e
                |some x=>rw[ha] at e;exact aJ.o x ha (by simpa using e.symm))).trans aa.o)
               have N5:Hid (New w none a'):=λaq hy=>by
                rcases T aq hy with⟨z,hz,e⟩|h
                . rcases NW.o z hz with⟨_,H,_⟩|h1
                  . cases H
                  . exact .inr (by rw[<-e];exact h1)
                . exact .inr (az p.o.size h)
               have B5:Hid (Below w.heap.size w w5):=(But.grown (S:=λk=>∃x,a=some x/\x.block=k) (But.ofBelow p.o) K (by
                intro k e _;cases ha:a with
                |none=>rw[ha] at e;simp at e
                |some x=>rw[ha] at e;exact⟨x,rfl,by first|(simpa using e)|(simpa using e.symm)⟩)).below (λk hk ⟨x,hx,e⟩=>by
                 rcases NW.o x hx with⟨_,H,_⟩|h1
                 . cases H
                 . omega)
               clear r T K y0 y1 y2 y3 y4 M N O P;obtain⟨y0,y1,y2,y3,y4⟩:=iT X5.o;go_wp2_with fail
               go_roundw
               case rel=>exact⟨j++y,E,a',c',m+b,by first|rfl|trivial,by first|rfl|trivial,by rw[af,<-C.o,ac.o],by omega,R5.o,N5.o,B5.o,(λx hx=>by
                rcases bG.1 hx with hx|hx
                . exact n.o x hx
                . exact D8.o x hx),aw.o,g.o⟩
               case measure=>simp[lN];omega
           . have ax:((b:Int) != 480)=true:=by
              have:¬((b:Int)=480):=by omega
              simpa using this
             have g:Hid ((5,[])=f):=i.o.2.1 ad.o A;clear A i;go_wp2_with fail
             refine aF (dg rfl _ _ _) rfl ?_;rw[<-g.o];exact .inl ⟨by decide,rfl,p.o⟩
       . have dk:(ai != 3)=true:=by simpa using ag
         have g:Hid ((15,[])=f):=i.o.1 ag;clear ag i;go_wp2_with fail
         refine aF (dg rfl _ _ _) rfl ?_;rw[<-g.o];exact .inl ⟨by decide,rfl,p.o⟩
    . have e1:m=s:=by omega
      have g:Hid ((0,j)=f):=by
       show _=_;rw[<-EE.o];exact(lg (by rw[<-C.o];omega) _).symm
      subst e1;go_wp2_with fail
      refine aF (dg rfl _ _ _) rfl ?_;rw[<-g.o];exact .inr ⟨rfl,a,c,(by show Ending.returned (.tuple #[.slice a m c,.int .i64 0])=_;rw[C.o]),⟨RW.o,NW.o,BB.o⟩,n.o⟩
 . have CB:=gW λ(aC:World)(hb:Below w.heap.size w aC)(L:x.val.length<=32)=>i8 aC x.aV x.val.length x.cV x.val (hx.bv.keep hb) rfl (by omega)
   have n:Hid (B8 x.val):=hx.bv.1;by_cases X:(x.val.length:Int)=x.size
   . rw[s9 (by omega) X]
     have CC:=gW (CB.o _ l.o (by omega))
     clear r hx CB;obtain⟨U,Y,W,V,Z,G,R,F⟩:=x;simp only at hb L X n;unfold Iv.vl;simp only[Iv.cs] at l D CC ⊢;obtain⟨s,hs⟩:∃s,G.length=s:=⟨_,rfl⟩;have aP:=gW hs;rw[hs] at X l D CC ⊢;clear hs;subst X;obtain⟨M,N,O,P⟩:=kz D.o;have d1:decide ((s:Int)<0)=false:=ar (by omega)
     have d2:decide ((3840:Int)<(s:Int))=false:=ar (by omega)
     have d3:decide ((s:Int)<=32)=true:=au (by omega)
     have d4:((s:Int) != (s:Int))=false:=by simp
     go_enter func85,ntmps85;go_wp2_with fail
     refine CC.o.mono ?_;rintro _ w3 aR;obtain⟨a3,c3,rfl,aG,ab,I⟩:=aR;have OO:Hid (Own w w3 a3 c3 G):=⟨aG,ab.mono l.o.size,bt l.o I⟩;clear aG ab I;go_wp2_with fail
     refine aF (dg rfl _ _ _) rfl ?_;exact .inr ⟨rfl,a3,c3,(by show Ending.returned (.tuple #[.slice a3 s c3,.int .i64 0])=_;rw[<-aP.o]),OO.o,n.o⟩
   . rw[xd (by omega) (by omega) X]
     clear r hx CB n;obtain⟨U,Y,W,V,Z,G,R,F⟩:=x;simp only at hb L X;unfold Iv.vl;simp only[Iv.cs] at l D ⊢;obtain⟨s,hs⟩:∃s,G.length=s:=⟨_,rfl⟩;rw[hs] at X l D ⊢;clear hs;obtain⟨M,N,O,P⟩:=kz D.o;have d1:decide (F<0)=false:=ar (by omega)
     have d2:decide ((3840:Int)<F)=false:=ar (by omega)
     have d3:decide (F<=32)=true:=au (by omega)
     have d4:((s:Int) != F)=true:=by simpa using X
     go_enter func85,ntmps85;go_wp2_with fail
     refine aF (dg rfl _ _ _) rfl ?_;exact .inl ⟨by decide,rfl,l.o⟩
theorem wY{e:Ending}{r:Nat×List Nat}(h:Gvn w w' e r):∃(a:Option Addr)(c:Nat),e=.returned (.tuple #[.slice a (if r.1=0 then r.2 else []).length c,.int .i64 ((r.1:Nat):Int)])/\Own w w' a c (if r.1=0 then r.2 else [])/\B8 (if r.1=0 then r.2 else []):=by
 rcases h with⟨h1,h2,h3⟩|⟨h1,a,c,h2,h3,h4⟩
 . rw[if_neg h1];exact⟨none,0,h2,Own.nil w h3,λx b=>absurd b (bX)⟩
 . rw[if_pos h1];refine⟨a,c,?_,h3,h4⟩;rw[h2,h1];rfl
theorem iZ.reads{f:FuncId}{X:Nat->Prop}(h:iZ f v rd X w):jL f v rd w:=λW hb z=>h W (But.ofBelow hb) z
def rP(rd:Int->Option Pg)(k:List Nat)(p:Pg):List Nat×Bool×Nat:=if kT k p.items=false then ([],false,0) else (if (ldI rd (p.at (i9 k p.items))).1=0 then (ldI rd (p.at (i9 k p.items))).2 else [],decide ((ldI rd (p.at (i9 k p.items))).1=0),(ldI rd (p.at (i9 k p.items))).1)
def ng(rd:Int->Option Pg)(k:List Nat)(h:Nat)(root:Int):List Nat×Bool×Nat:=if k.length<1\/24<k.length then ([],false,7) else match iJ rd k h root with
 |none=>([],false,15)
 |some l=>match l.getLast? with
  |none=>([],false,0)
  |some x=>rP rd k x.2
def uO(w w':World)(e:Ending)(R:List Nat×Bool×Nat):Prop:=∃(a:Option Addr)(c:Nat),e=.returned (.tuple #[.slice a R.1.length c,.bool R.2.1,.int .i64 ((R.2.2:Nat):Int)])/\Own w w' a c R.1/\B8 R.1
theorem wR(w:World)(b:Nat)(rd:Int->Option Pg)(hA:ix rd)(XV:Nat->Prop)(hR:iZ 52 (.pointer (some ⟨b,0,none⟩)) rd XV w)(root X:Int)(h:Nat)(K:h<=12)(a:Option Addr)(ck:Nat)(k:List Nat)(hB:Bs w a k):
 Calls prog 11 #[.pointer (some ⟨b,0,none⟩),.agg #[.int .i64 root,.int .i64 (h:Int),.int .i64 X],.slice a k.length ck] w λe w'=>uO w w' e (ng rd k h root):=by
 have I:=gW (al w (.cells #[.int .i64 root,.int .i64 (h:Int),.int .i64 X] 34));have X0:=ah w (.cells #[.int .i64 root,.int .i64 (h:Int),.int .i64 X] 34);obtain⟨t0,t1,t2⟩:=ia X0;obtain⟨R,af⟩:∃R,ng rd k h root=R:=⟨_,rfl⟩;rw[af];have n:=gW af;have HR:=gW (hR.keep I.o);have HA:=gW hA;have HB:=gW (hB.keep I.o);have WT:=gW (s7 _ b rd hA XV HR.o root X h K a ck k HB.o);clear af hR hA hB X0;by_cases r:k.length<1\/24<k.length
 . have i:Hid (R=([],false,7)):=gW (by rw[<-n.o];unfold ng;exact if_pos r)
   by_cases h1:k.length=0
   . have aA:(k.length:Int)=0:=by omega
     rw[h1];go_enter func11,ntmps11;go_wp2;go_ret3
     rw[i.o];exact⟨none,0,rfl,Own.nil w I.o,B8.nil⟩
   . have h2:(24:Int)<(k.length:Int):=by omega
     have av:((k.length:Int)==0)=false:=by simp[h1]
     go_enter func11,ntmps11;go_wp2;go_ret3
     rw[i.o];exact⟨none,0,rfl,Own.nil w I.o,B8.nil⟩
 . have h1:¬(k.length:Int)=0:=by omega
   have av:((k.length:Int)==0)=false:=by simp[show ¬k=[] from λe=>r (.inl (by rw[e];decide))]
   have h2:¬(24:Int)<(k.length:Int):=by omega
   replace n:Hid ((match iJ rd k h root with
    |none=>([],false,15)
    |some l=>match l.getLast? with
     |none=>([],false,0)
     |some x=>rP rd k x.2)=R):=gW (by rw[<-n.o];unfold ng;exact(if_neg r).symm)
   clear r;go_enter func11,ntmps11;go_upto_region 3 with fail
   generalize w.alloc (.cells #[.int .i64 root,.int .i64 (h:Int),.int .i64 X] 34)=w1 at *;go_wp2_with fail
   refine WT.o.mono ?_;rintro e W (⟨V,rfl,N⟩|⟨ao,ay,az,V,rfl,hG,aw,hP,N⟩)
   . have i:Hid (R=([],false,15)):=gW (by rw[<-n.o,V])
     have P:=gW (bt I.o N);clear V N WT n t0 t1 t2;go_wp2;go_ret3
     rw[i.o];exact⟨none,0,rfl,Own.nil w P.o,B8.nil⟩
   . have P:=gW (bt I.o N);have K2:=gW N;rw[V] at n;have J:=gW hG;have Z:=gW hP;clear V N WT t0 t1 t2 hG hP aw;rcases gN ao with rfl|⟨M,x,rfl⟩
     . have i:Hid (R=([],false,0)):=gW (by rw[<-n.o];rfl)
       clear n J Z;simp only[bg];go_wp2;go_ret3
       rw[i.o];exact⟨none,0,rfl,Own.nil w P.o,B8.nil⟩
     . have t:Hid (rP rd k x.2.pg=R):=gW (by
        have h:=n.o;simp only[nmg,dd,bO,dW,fE,gU] at h;exact h)
       rw[fE] at J Z ⊢;have PX:=gW (Z.o x (by rw[gU]))
       have aa:(M++[x]).length=M.length+1:=by simp
       obtain⟨ap,ax⟩:=J.o.addr (by rw[aa];omega)
       subst ax
       have H:∀j u,j<5->x.2.cs.toList[j]?=some u->W.cell? ⟨ap,M.length*6+1+j,none⟩=some u:=λj u hj hu=>by
        have h6:(nmw (M++[x]))[M.length*6+(j+1)]?=some u:=by
         rw[rC (M++[x]) M.length (j+1) (by simp) (by omega)]
         have e:(M++[x]).getD M.length (0,Pv.zero)=x:=by simp
         rw[e];exact hu
        have h7:=J.o.cell h6;rw[show M.length*6+(j+1)=M.length*6+1+j by omega] at h7
        exact h7
       obtain⟨no,ar⟩:=x;obtain⟨C,D,s,B,d,y,A,G,E⟩:=ar;simp only at H PX t;have y0:=H 0 _ (by decide) rfl
       have y1:=H 1 _ (by decide) rfl
       have y2:=H 2 _ (by decide) rfl
       have y3:=H 3 _ (by decide) rfl
       have y4:=H 4 _ (by decide) rfl
       rw[dr] at y0;obtain⟨m,g⟩:∃m,M.length=m:=⟨_,rfl⟩
       have am:m+1<=maxLen:=by
        have:=J.o.capLe;rw[aa,g] at this;omega
       have aD:m+1<=9223372036854775807:=by unfold maxLen at am;omega
       rw[aa,g];rw[g] at y0 y1 y2 y3 y4;clear H J Z n aa g am;have au:¬(m:Int)+1=0:=by omega
       have h0:((m:Int)+1==0)=false:=by simp[au]
       have aC:IntKind.i64.wrap ((m:Int)+1-1)=(m:Int):=by rw[show(m:Int)+1-1=(m:Int) by omega];exact iz (by omega) (by omega)
       have aI:(m:Int)+1-1=(m:Int):=by omega
       have aB:(m:Int)<(m:Int)+1:=by omega
       go_upto_region 7 with fail
       have Y:=gW (al W (.cells #[.int .i64 C,.int .i64 D,.slice s d.length B,.slice y G.length A,.int .i64 E] 77));have X3:=gW (ah W (.cells #[.int .i64 C,.int .i64 D,.slice s d.length B,.slice y G.length A,.int .i64 E] 77));clear y0 y1 y2 y3 y4;generalize W.alloc (.cells #[.int .i64 C,.int .i64 D,.slice s d.length B,.slice y G.length A,.int .i64 E] 77)=w3 at *;have p:=gW (lF w3 ⟨C,D,s,B,d,y,A,G,E⟩ a ck k (PX.o.keep Y.o) (HB.o.keep (bt K2.o Y.o)));unfold rP at t;obtain⟨f,ai⟩:∃f,i9 k (Pv.pg ⟨C,D,s,B,d,y,A,G,E⟩).items=f:=⟨_,rfl⟩
       have ag:kT k (Pv.pg ⟨C,D,s,B,d,y,A,G,E⟩).items=true->f<d.length:=λK=>by
        unfold kT at K;rw[ai] at K;simp[Pv.pg] at K;exact K.1
       rw[ai] at t p;clear ai;obtain⟨q,m1,m2,m3,m4⟩:=iI X3.o;unfold Pv.vl at p;simp only[Pv.cs] at p;cases hk:kT k (Pv.pg ⟨C,D,s,B,d,y,A,G,E⟩).items with
       |false=>
        rw[hk] at t p;have i:Hid (R=([],false,0)):=gW (t.o.symm.trans (if_pos rfl));clear t ag;go_wp2_with fail
        refine p.o.mono ?_;rintro _ w4 ⟨rfl,O⟩;have B4:=gW (bt P.o (bt Y.o O));clear O p q m1 m2 m3 m4;go_wp2;go_ret3
        rw[i.o];exact⟨none,0,rfl,Own.nil w B4.o,B8.nil⟩
       |true=>
        have an:=ag hk;rw[hk] at t p;have F:=gW ((if_neg (by decide)).symm.trans t.o)
        clear t ag hk;have aJ:(f:Int)<(d.length:Int):=by omega
        have aE:(0:Int)<=(f:Int):=by omega
        go_wp2_with fail
        refine p.o.mono ?_;rintro _ w4 ⟨rfl,O⟩;have ac:=gW (bt Y.o O);have B4:=gW (bt P.o ac.o);have X4:=gW ((O.block W.heap.size (ae.1 X3.o).1).trans X3.o);clear O p q m1 m2 m3 m4;obtain⟨q,m1,m2,m3,m4⟩:=iI X4.o;have P4:=gW (PX.o.keep ac.o);obtain⟨b1,o1,ea,c⟩:=P4.o.it.at an;have ea:s=some ⟨b1,o1,none⟩:=ea;have AT:(Pv.pg ⟨C,D,s,B,d,y,A,G,E⟩).at f=(d.getD f Iv.zero).it:=iY d f;have c:w4.rangeAt b1 (o1+f*4) (d.getD f Iv.zero).cs.toList:=c;have T:=gW (sY w4 (.pointer (some ⟨b,0,none⟩)) rd ((HR.o.keep K2.o).keep ac.o).reads (d.getD f Iv.zero) (P4.o.it.1 _ (ie an)));rw[AT] at F;generalize d.getD f Iv.zero=it at *;have LE:ldI rd it.it=ldv rd it:=rfl;rw[LE] at F;obtain⟨ab,hr⟩:∃ab,ldv rd it=ab:=⟨_,rfl⟩;rw[hr] at F T;clear hr LE AT;obtain⟨aK,cK,aH,aV,cV,val,child,aL⟩:=it;unfold Iv.vl at T;simp only[Iv.cs] at T;obtain⟨d0,d1,d2,d3⟩:=iX c;simp only at d0 d1 d2 d3;subst ea;clear c;obtain⟨r1,r2⟩:=ab;simp only at F;go_wp2_with fail
        refine T.o.mono ?_;rintro e w5 aj;obtain⟨a5,c5,rfl,hO,h8⟩:=wY aj;have U:=gW (Own.pre B4.o hO);have S:=gW h8;clear aj hO h8 T d0 d1 d2 d3 q m1 m2 m3 m4;simp only at U S;by_cases L:r1=0
        . subst L;simp only[if_true] at U S;have i:Hid (R=(r2,true,0)):=gW (by rw[<-F.o];simp)
          clear F;go_wp2;go_ret3
          rw[i.o];exact⟨a5,c5,rfl,U.o,S.o⟩
        . simp only[if_neg L] at U S;have i:Hid (R=([],false,r1)):=gW (by rw[<-F.o];simp[L])
          have aF:((r1:Int)==0)=false:=by simp[L]
          have aG:¬(r1:Int)=0:=by omega
          clear F;go_wp2;go_ret3
          rw[i.o];exact⟨a5,c5,by simp,U.o,S.o⟩
theorem il:(prog.info? 45).map (·.size)=some 2:=by kernel_rfl
def Gh(w w':World)(e:Ending)(x:Iv)(r:Nat×List Nat):Prop:=(r.1≠0/\e=.returned (.tuple #[.agg #[.slice none 0 0,.slice none 0 0],.int .i64 ((r.1:Nat):Int)])/\Below w.heap.size w w')\/(r.1=0/\∃(a:Option Addr)(c:Nat),e=.returned (.tuple #[.agg #[.slice x.aK x.key.length x.cK,.slice a r.2.length c],.int .i64 0])/\Own w w' a c r.2/\B8 r.2)
theorem xI(w:World)(b:Nat)(rd:Int->Option Pg)(G:jL 52 (.pointer (some ⟨b,0,none⟩)) rd w)(x:Iv)(H:Ii w x):
 Calls prog 92 #[.pointer (some ⟨b,0,none⟩),x.vl] w λe w'=>Gh w w' e x (ldI rd x.it):=by
 obtain⟨I,J,j,U⟩:=iN w (.cells x.cs 89) (.cells #[.slice none 0 0,.slice none 0 0] 45) (Below.refl _ _);have r:=gW j;have m:=gW I;have t:=gW J;have l:=gW (sY _ (.pointer (some ⟨b,0,none⟩)) rd (G.keep j) x (H.keep j));have s:ldI rd x.it=ldv rd x:=rfl;obtain⟨R,q⟩:∃R,ldv rd x=R:=⟨_,rfl⟩;rw[s,q];rw[q] at l;clear I J j G q s H;obtain⟨N,P,X,O,T,val,child,Y⟩:=x;obtain⟨p,r2⟩:=R;unfold Iv.vl at *;simp only[Iv.cs] at *;obtain⟨A,B,C,D⟩:=jp m.o;go_enter func92,ntmps92;go_upto_region 1 with fail
 generalize (w.alloc (.cells #[.slice N X.length P,.slice O val.length T,.int .i64 child,.int .i64 Y] 89)).alloc (.cells #[.slice none 0 0,.slice none 0 0] 45)=V at *;go_wp2_with fail
 refine l.o.mono ?_;rintro e W F;obtain⟨a,c,rfl,d,E⟩:=wY F;have g:=gW (Own.pre r.o d);have f:=gW E;have M:=gW ((d.b.block w.heap.size (ae.1 m.o).1).trans m.o);have h:=gW ((d.b.block (w.heap.size+1) (ae.1 t.o).1).trans t.o);have K:=gW (bt r.o d.b);have L:=gW (λy (n:a=some y)=>d.fresh n)
 have aa:w.heap.size+2<=V.heap.size:=U;clear F d E l A B C D;simp only at g f;have Z:=λcs:Array Value=>Q.gZ W (w.heap.size+1) cs
 by_cases i:p=0
 . subst i;simp only[if_true] at g f;obtain⟨A,B,C,D⟩:=jp M.o;go_wp2_with (first|(refine bz rfl 45 _ _ rfl (w.heap.size+1) _ rfl rfl 45 _ h.o il rfl (by simp[Value.oneCell']) ?_)|fail)
   refine aF (v:=.tuple #[.agg _,_]) (jw results92 _ _ (w.heap.size+1) 45 _ (0,0) _ rfl (br _ _ _ _ _ _ h.o) underlying45 rfl il) rfl ?_;refine Or.inr ⟨rfl,a,c,by simp,g.o.setRow (by omega) (λy n e=>by have:=L.o y n;omega) _,f.o⟩
 . simp only[if_neg i] at g f;have ab:((p:Int)==0)=false:=by simp[i]
   have ac:¬(p:Int)=0:=by omega
   go_wp2_with (first|(refine bz rfl 45 _ _ rfl (w.heap.size+1) _ rfl rfl 45 _ h.o il rfl (by simp[Value.oneCell']) ?_)|fail)
   refine aF (v:=.tuple #[.agg _,_]) (jw results92 _ _ (w.heap.size+1) 45 _ (0,0) _ rfl (br _ _ _ _ _ _ h.o) underlying45 rfl il) rfl ?_;exact Or.inl ⟨i,rfl,((But.ofBelow (S:=λk=>k=w.heap.size+1) K.o).trans (Q.gZ _ _ _) (λ_ _ e=>e)).below (λk hk e=>by have e:k=w.heap.size+1:=e;omega)⟩
end Go.Proofs.YteaogidofpfmmaaGreat
namespace Go.Proofs.YteaogidofpfmmaaGreat
open Go.Proofs.Tryz
open Go.RowKit Go.Shelf
attribute [local go_sem] Oper.semAt_some
variable {rd:Int->Option Pg}{y:Iv}{G:List Int}{L:List Iv}{m:Nat}{Fc:Nat->Prop}{V:World}
def pst{τ:Type}(Y:Yc τ)(rd:Int->Option Pg)(r:Rg)(c:τ)(x:It):τ:=if has r x.key=false then c else if (ldI rd x).1≠0 then Y.ybad c (ldI rd x).1 else Y.yl c (jv rd x)
theorem rB{τ:Type}{Y:Yc τ}(a:∀c e,e≠0->Y.ystp (Y.ybad c e)=true){rd:Int->Option Pg}{r:Rg}:∀(L:List It)(c:τ),Y.ystp c=false->pit Y rd r L c=flw (pst Y rd r) Y.ystp L c
 | [],c,_=>rfl
 |x::L,c,h=>by
  unfold pit;rw[jj];unfold pst;by_cases h1:has r x.key=false
  . rw[if_pos h1,if_pos h1,if_neg (by rw[h];decide)]
    exact rB a L c h
  . rw[if_neg h1,if_neg h1];by_cases h2:(ldI rd x).1≠0
    . rw[if_pos h2,if_pos h2,if_pos (a _ _ h2)]
    . rw[if_neg h2,if_neg h2];by_cases h3:Y.ystp (Y.yl c (jv rd x))=true
      . rw[if_pos h3,if_pos h3]
      . rw[if_neg h3,if_neg h3];exact rB a L _ (by simpa using h3)
structure Unt(Fc:Nat->Prop)(V:World)(y:Iv):Prop where
 rw:∀t∈y.rows,Rw V t.a t.c t.l/\B8 t.l/\∀x,t.a=some x->¬Fc x.block
 ns:N64 y.child/\N64 y.size
theorem Unt.ii(h:Unt Fc V y):Ii V y:=by
 have hk:=h.rw ⟨y.aK,y.cK,y.key⟩ (by simp[Iv.rows])
 have a:=h.rw ⟨y.aV,y.cV,y.val⟩ (by simp[Iv.rows])
 exact⟨hk.1.bs hk.2.1 hk.1.len_le,hk.1.cap,a.1.bs a.2.1 a.1.len_le,a.1.cap,h.ns.1,h.ns.2⟩
theorem Unt.but{S Fc':Nat->Prop}{b:World}(h:Unt Fc V y)(hb:But S V b)(d:∀t∈y.rows,∀x,t.a=some x->¬S x.block)(c:∀t∈y.rows,∀x,t.a=some x->¬Fc' x.block):Unt Fc' b y:=⟨λt a=>⟨(h.rw t a).1.but hb (d t a),(h.rw t a).2.1,c t a⟩,h.ns⟩
def j6(L:List Iv)(k:Nat):Prop:=∃t∈iR L,∃x,t.a=some x/\x.block=k
theorem lO(b:y∈L){t:Br}(a:t∈y.rows):t∈iR L:=eS.2 ⟨y.rows,bM.2 ⟨y,b,rfl⟩,a⟩
def apI(x y:Iv):Prop:=∀s∈x.rows,∀t∈y.rows,ji s t
theorem apI.symm{x:Iv}(h:apI x y):apI y x:=λs a t b=>(h t b s a).symm
theorem xv{L:List Iv}(h:(iR L).Pairwise ji):L.Pairwise apI:=by
 induction L with
 |nil=>exact .nil
 |cons x L ih=>
  rw[pu,dA] at h;exact .cons (λy c s a t b=>h.2.2 s a t (lO c b)) (ih h.2.1)
theorem xZ{o:Bool}(h:L.Pairwise apI):(iH o L).Pairwise apI:=by
 unfold iH;split
 . exact h
 . exact List.pairwise_reverse.2 (h.imp λh=>h.symm)
def EnR{τ:Type}(Y:Yc τ)(cn:τ->Nat)(B:Nat)(s:τ)(W0 W1:World)(vals:Array Value)(s':τ)(er:Bool)(Gv:Nat->Prop):Prop:=
 (∃K V:Br,vals=#[.agg #[.slice K.a K.l.length K.c,.slice V.a V.l.length V.c],.int .i64 0]/\Rw W1 K.a K.c K.l/\B8 K.l/\Rw W1 V.a V.c V.l/\B8 V.l/\ji K V/\s'=Y.yl s (K.l,V.l)/\er=false/\cn s<B/\∀k,Gv k↔((∃x,K.a=some x/\x.block=k)\/∃x,V.a=some x/\x.block=k))\/
 (∃e:Nat,vals=#[.agg #[.slice none 0 0,.slice none 0 0],.int .i64 (e:Int)]/\e≠0/\s'=Y.ybad s e/\er=true/\∀k,¬Gv k)
theorem Bf(w:World)(f q l:Array Value):∃U:World,(((w.alloc (.cells f 165)).alloc (.map #[] 0)).alloc (.cells q 143)).setRow (w.heap.size+1+1) l=U/\U.heap[w.heap.size]?=some (.cells f 165 (0,0))/\Mp U (w.heap.size+1) (gnf [])/\U.heap[w.heap.size+2]?=some (.cells l 143 (0,0))/\Below w.heap.size w U/\U.heap.size=w.heap.size+3:=by
 obtain⟨a,g⟩:∃U,w.alloc (.cells f 165)=U:=⟨_,rfl⟩;obtain⟨b,h⟩:∃U,a.alloc (.map #[] 0)=U:=⟨_,rfl⟩;obtain⟨c,i⟩:∃U,b.alloc (.cells q 143)=U:=⟨_,rfl⟩;obtain⟨d,j⟩:∃U,c.setRow (w.heap.size+1+1) l=U:=⟨_,rfl⟩;have s:a.heap.size=w.heap.size+1:=by rw[<-g,size_alloc]
 have t:b.heap.size=w.heap.size+2:=by rw[<-h,size_alloc,s]
 have x:c.heap.size=w.heap.size+3:=by rw[<-i,size_alloc,t]
 have A:d.heap.size=w.heap.size+3:=by rw[<-j,<-x];simp
 have v:Below w.heap.size w a:=by rw[<-g];exact al _ _
 have r:Below a.heap.size a b:=by rw[<-h];exact al _ _
 have n:Below b.heap.size b c:=by rw[<-i];exact al _ _
 have p:But (λk=>k=w.heap.size+2) c d:=by rw[<-j];exact Q.gZ _ _ _
 have B:a.heap[w.heap.size]?=some (.cells f 165 (0,0)):=by rw[<-g];exact ah _ _
 have C:Mp b (w.heap.size+1) (gnf []):=by rw[<-s,<-h];exact(Mp.made _).congr (λk=>by simp[gnf])
 have D:c.heap[w.heap.size+2]?=some (.cells q 143 (0,0)):=by rw[<-t,<-i];exact ah _ _
 have E:d.heap[w.heap.size+2]?=some (.cells l 143 (0,0)):=by rw[<-j];exact br _ _ _ _ _ _ D
 refine⟨d,by rw[g,h,i,j],?_,?_,E,?_,A⟩
 . exact p.same ((bt r n).block _ (by omega) |>.trans B) (λe=>by omega)
 . exact(C.keep n).but p (λe=>by omega)
 . exact(((But.ofBelow (S:=λk=>k=w.heap.size+2) (bt (bt v r) n)).trans p (λ_ _ e=>e)).below (λk hk e=>by omega))
def StP{τ:Type}(Y:Yc τ)(rd:Int->Option Pg)(cn:τ->Nat)(s:Pst τ):Prop:=Y.ystp s.c=false/\Gok rd s.G/\cn s.c<=8*s.G.length
def StI{τ:Type}(Y:Yc τ)(rd:Int->Option Pg)(cn:τ->Nat)(G:List Int)(m:Nat)(c:τ):Prop:=Y.ystp c=false/\Gok rd G/\cn c+m<=8*G.length
theorem StI.skip{τ:Type}{Y:Yc τ}{a:τ->Nat}{c:τ}(h:StI Y rd a G (m+1) c):StI Y rd a G m c:=⟨h.1,h.2.1,by have:=h.2.2;omega⟩
theorem StI.less{τ:Type}{Y:Yc τ}{a:τ->Nat}{c:τ}(h:StI Y rd a G (m+1) c){N:Nat}(b:j5 rd N):a c<8*N:=by
 have d:=h.2.1.len b;have e:=h.2.2;omega
theorem StI.yl{τ:Type}{Y:Yc τ}{a:τ->Nat}(d:∀c p,a (Y.yl c p)<=a c+1){c:τ}(h:StI Y rd a G (m+1) c){p:List Nat×List Nat}(b:Y.ystp (Y.yl c p)=false):StI Y rd a G m (Y.yl c p):=⟨b,h.2.1,by have:=h.2.2;have:=d c p;omega⟩
theorem StP.inn{τ:Type}{Y:Yc τ}{a:τ->Nat}{s:Pst τ}(h:StP Y rd a s){n:Int}{p:Pg}(c:rd n=some p)(b:n∉s.G)(d:m<=8):StI Y rd a (n::s.G) m s.c:=⟨h.1,h.2.1.cons c b,by have:=h.2.2;rw[a7];omega⟩
theorem StI.o{τ:Type}{Y:Yc τ}{a:τ->Nat}{c:τ}(h:StI Y rd a G m c){s:Pst τ}(b:s.G=G)(d:s.c=c):StP Y rd a s:=⟨by rw[d];exact h.1,by rw[b];exact h.2.1,by rw[d,b];have:=h.2.2;omega⟩
end Go.Proofs.YteaogidofpfmmaaGreat
