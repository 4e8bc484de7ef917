import Derived.Test.YteaogidofpfmmaaGreatWaB2
import Derived.Lib.AppendZerosOnto
import Derived.Lib.Overlaps
import Derived.Deep.DeepAppendWide
set_option linter.all false
set_option maxHeartbeats 4000000
set_option maxRecDepth 10000
namespace Go.Proofs.YteaogidofpfmmaaGreat.Q
open Tryz
open Go.RowKit
variable {a:Option Addr}{w:World}
def InA(a:Option Addr)(k:Nat):Prop:=∃x,a=some x/\x.block=k
theorem D9{w:World}{o:Oper}{a:Act}{K:Act->World->Prop}{Q:Exit->Act->World->Prop}(d s:Operand)
 (A:o.op=.call {callee:=.builtin .copy,args:=#[d,s],argTypes:=#[218,218]}) (g l i m:Nat) (t:a.eval d=.slice (some ⟨g,l,none⟩) i m) (f:Option Addr) (j p:Nat) (C:a.eval s=.slice f j p)
 (P X Y:List Value) (D:l=P.length) (x:jC w g (P++Y)) (y:X.length=Nat.min j i*2) (r:X=[]\/∃b o,f=some ⟨b,o,none⟩/\Cs w b o X) (E:X.length<=Y.length) (e:∀v∈X,v.oneCell'=true)
 (h:∀n c,jC c g (P++X++Y.drop X.length)->But (λk=>k=g) w c->K (a.put o.dst (.int .i64 n)) c):o.wp prog a w K Q:=by
 subst D;obtain⟨c,B,e,q⟩:=jH w o.type g i m f j p P X Y x y r E e;unfold Oper.wp execOp;simp only[A,resolve,invoke,builtin,eu,ey,dP,eB,bT,eG,t,C,B];exact h _ c e q
theorem zj{w:World}{l:Array Oper}{o:Oper}{a:Act}{K:Act->World->Prop}{Q:Exit->Act->World->Prop}{E:Prop}(D:o.guard=none)(d s:Operand)
 (A:o.op=.call {callee:=.builtin .copy,args:=#[d,s],argTypes:=#[218,218]}) (g f i m:Nat) (t:a.eval d=.slice (some ⟨g,f,none⟩) i m) (c:Option Addr) (j p:Nat) (B:a.eval s=.slice c j p)
 (P X Y:List Value) (F:f=P.length) (x:jC w g (P++Y)) (y:X.length=Nat.min j i*2) (r:X=[]\/∃b o,c=some ⟨b,o,none⟩/\Cs w b o X) (G:X.length<=Y.length) (q:∀v∈X,v.oneCell'=true)
 (h:∀n e,jC e g (P++X++Y.drop X.length)->But (λk=>k=g) w e->K (a.put o.dst (.int .i64 n)) e):
 if Region.wanted o (yielded l a.tmps)=true then Oper.wp prog o a w K Q else E:=by
 have C:Region.wanted o (yielded l a.tmps)=true:=by simp[Region.wanted,D]
 rw[if_pos C];exact D9 d s A g f i m t c j p B P X Y F x y r G q h
theorem qn{P:Program}(w:World)(t l:TypeId)(s:Nat)(e:TypeId)(i:TypeInfo)(z:Value)(d bytes:Nat)(r:P.underlying t=some (.slice e))(hi:P.info? e=some i)(A:i.zero=some z)
 (J:i.size=d) (G:i.bytes=bytes) (O:z.cells.size=d) (N:0<d) (v:Value) (n:Nat) (xs:List Value) (x:w.ownsRow s e d v n xs)
 (f:Addr) (m c:Nat) (b:List Value) (k:b.length=m*d) (y:∀j u,b[j]?=some u->w.cell? (f.add j)=some u) (C:∀u∈b,u.oneCell'=true)
 (L:0<m) (F:n+m<=maxLen) (B:((n+m)+(n+m)/4+192)*bytes<=281474976710656) (S:s<=w.heap.size) (H:Nat) (E:w.heap.size=H):
 ∃g cap h,(Builtin.append_ #[t,t] l #[v,.slice (some f) m c]).run P w=.ok (.slice (some ⟨g,0,none⟩) (n+m) cap) h/\
  h.ownsRow s e d (.slice (some ⟨g,0,none⟩) (n+m) cap) (n+m) (xs++b)/\w.grownBy h v.ownBlock/\(v.ownBlock=some g\/g=H)/\g<h.heap.size:=by
 obtain⟨T,h,p,D,K,_⟩:=run_append_own_wide (P:=P) w s t l e i z d bytes r hi A J G O N v n xs x f m c b k y C F B S;obtain⟨g,cap,rfl,_,M⟩:=D.form (by omega)
 refine⟨g,cap,h,p,D,K,?_,M⟩;subst J G;have U:n+m<=9223372036854775807:=by simp only[maxLen] at F;omega
 rcases x.2 with⟨rfl,rfl⟩|⟨g0,cap0,cur,rfl,_,hg,hnc,_,hcs,htake⟩
 . have q:=run_append_nil (P:=P) w t l e i z r hi A f m c b k y L (by omega) (ay (fd _ (by omega)) B)
   rw[p] at q;simp only[Result.ok.injEq,di,au,Addr.mk.injEq] at q;exact .inr (q.1.1.1.trans E)
 . by_cases I:n+m<=cap0
   . have R:n*i.size+b.length<=cur.size:=by rw[k,hcs,<-gU];exact fd _ I
     have q:=run_append_room (P:=P) w t l e i r hi g0 n cap0 cur hg f m c b k y C I R;rw[p] at q;simp only[Result.ok.injEq,di,au,Addr.mk.injEq] at q;exact .inl (bf some q.1.1.1.symm)
   . have q:=run_append_grow (P:=P) w t l e i z r hi A ⟨g0,0,none⟩ n cap0 xs x.1 (x.cells (g:=g0) rfl) f m c b k y (by omega) (by omega) (growslice_fits_wide (by omega) B)
     rw[p] at q;simp only[Result.ok.injEq,di,au,Addr.mk.injEq] at q;exact .inr (q.1.1.1.trans E)
theorem sF(w:World)(q:TypeId)(a:Option Addr)(n cap:Nat)(L:List Rn)(A:n=L.length)(s:Vw w a cap L)(i:Option Addr)(m c:Nat)(V:List Rn)(x:m=V.length)(h:Vs w i V)(k:V≠[])(J:L.length+V.length<=14000000000000):
 ∃g f d,(Builtin.append_ #[218,218] q #[.slice a n cap,.slice i m c]).run prog w=.ok (.slice (some ⟨g,0,none⟩) (n+m) f) d/\
  Vw d (some ⟨g,0,none⟩) f (L++V)/\New w a (some ⟨g,0,none⟩)/\w.grownBy d (a.map Addr.block):=by
 subst A x;obtain⟨E,v,F,G,H⟩:=eo pF;rcases h with h|⟨b,o,rfl,t⟩
 . exact absurd h k
 obtain⟨g,f,d,B,r,l,h3,I⟩:=qn (P:=prog) w 218 q 0 221 E (.agg (rcs Rn.zero)) 2 16 underlying218 v F G H rfl (by decide) (.slice a L.length cap) L.length (rc L) s ⟨b,o,none⟩ V.length c (rc V) (iA V)
  (λj u C=>by rw[Addr.add_mid];exact t j u C) (kj V) (bY.2 k) (by unfold maxLen;omega) (by omega) (an _) w.heap.size rfl
 rw[pD] at l h3;refine⟨g,f,d,B,?_,?_,l⟩
 . unfold Vw;rw[iI,af];exact r
 . intro y p;simp only[au] at p;subst p;rcases h3 with h3|h3
   . obtain⟨z,D,e⟩:=map_some h3;exact .inl ⟨z,D,e⟩
   . exact .inr (by show _<=g;omega)
theorem Gj{w:World}{o:Oper}{a:Act}{K:Act->World->Prop}{Q:Exit->Act->World->Prop}(s x:Operand)
 (v:o.op=.call {callee:=.builtin .append,args:=#[s,x],argTypes:=#[218,218]}) (b:Option Addr) (n cap:Nat) (L:List Rn) (A:a.eval s=.slice b n cap) (t:n=L.length) (p:Vw w b cap L)
 (f:Option Addr) (m c:Nat) (V:List Rn) (B:a.eval x=.slice f m c) (r:m=V.length) (q:Vs w f V) (i:V≠[]) (C:L.length+V.length<=14000000000000)
 (h:∀g e d,Vw d (some ⟨g,0,none⟩) e (L++V)->New w b (some ⟨g,0,none⟩)->w.grownBy d (b.map Addr.block)->K (a.put o.dst (.slice (some ⟨g,0,none⟩) (n+m) e)) d):o.wp prog a w K Q:=by
 obtain⟨g,e,d,y,j,k,l⟩:=sF w o.type b n cap L t p f m c V r q i C;unfold Oper.wp execOp;simp only[v,resolve,invoke,builtin,eu,ey,dP,eB,bT,eG,A,B,y];exact h g e d j k l
theorem zq{w:World}{i:Array Oper}{j:List Oper}{o:Oper}{a:Act}{Q:Exit->Act->World->Prop}(E:o.guard=none)(s x:Operand)
 (B:o.op=.call {callee:=.builtin .append,args:=#[s,x],argTypes:=#[218,218]}) (b:Option Addr) (n cap:Nat) (L:List Rn) (C:a.eval s=.slice b n cap) (A:n=L.length) (t:Vw w b cap L)
 (f:Option Addr) (m c:Nat) (V:List Rn) (D:a.eval x=.slice f m c) (y:m=V.length) (v:Vs w f V) (k:V≠[]) (F:L.length+V.length<=14000000000000)
 (h:∀g e d,Vw d (some ⟨g,0,none⟩) e (L++V)->New w b (some ⟨g,0,none⟩)->w.grownBy d (b.map Addr.block)->wpList prog i Q j (a.put o.dst (.slice (some ⟨g,0,none⟩) (n+m) e)) d):wpList prog i Q (o::j) a w:=
 fP E λ_ r=>Gj s x B b n cap L C A t f m c V D y v k F λg e d l p q=>r _ _ (h g e d l p q)
theorem uv(w:World)(C:TypeId)(g cap n:Nat)(P X Y:List Value)(d:Option Addr)(m c:Nat)(s:P.length=n*2)(f:jC w g (P++Y))(h:X.length=m*2)(t:X=[]\/∃b o,d=some ⟨b,o,none⟩/\Cs w b o X)(I:X.length<=Y.length)(r:∀v∈X,v.oneCell'=true)(E:n+m<=cap):
 ∃e,(Builtin.append_ #[218,218] C #[.slice (some ⟨g,0,none⟩) n cap,.slice d m c]).run prog w=.ok (.slice (some ⟨g,0,none⟩) (n+m) cap) e/\jC e g (P++X++Y.drop X.length)/\But (λk=>k=g) w e:=by
 have i:=run_storeCells_at prog g P.length 221 X 0 (P++Y).toArray w f (by simp;omega) r
 have l:((P++Y).toArray.toList.take (P.length+0)++X++(P++Y).toArray.toList.drop (P.length+0+X.length))=P++X++Y.drop X.length:=by
  rw[gj,dp,ik rfl,List.drop_append,dw (by omega),eN]
  simp
 rw[l,s] at i;refine⟨_,?_,bu w g _ _ _ _ f,iD w g _⟩;obtain⟨F,y,G,D,H⟩:=eo pF
 have A:(Builtin.firstCells 2 m (.slice d m c)).run prog w=.ok X.toArray w:=by
  rcases t with rfl|⟨b,o,rfl,x⟩
  . have q:m=0:=by simp at h;omega
    cases d with
    |none=>rfl
    |some z=>simp[Builtin.firstCells,q,loadCells,loadCellsFrom]
  . have:=run_loadCells_list (P:=prog) w ⟨b,o,none⟩ X (λj v B=>by rw[Addr.add_mid];exact x j v B)
    show(loadCells ⟨b,o,none⟩ (m*2)).run prog w=_;rw[<-h];exact this
 have p:(⟨g,0,none⟩:Addr).add (n*2)=⟨g,n*2,none⟩:=by rw[Addr.add_mid,de]
 simp[Builtin.append_,dU underlying218,sizeOf,typeInfo,y,D,Builtin.lenOf,A,E,p,i]
theorem xL(w:World)(h:TypeId)(a:Option Addr)(n cap:Nat)(L:List Rn)(y:n=L.length)(r:Vs w a L)(m:Nat)(q:0<m)(t:cap<L.length+m)(F:L.length+m<=14000000000000):
 ∃p d,(Builtin.append_ #[218,3] h #[.slice a n cap,.int .i64 (m:Int)]).run prog w=.ok (.slice (some ⟨w.heap.size,0,none⟩) (n+m) p) d/\
  Vw d (some ⟨w.heap.size,0,none⟩) p (L++List.replicate m Rn.zero)/\Below w.heap.size w d:=by
 subst y;obtain⟨g,v,B,C,l⟩:=eo pF
 have D:(Builtin.firstCells g.size L.length (.slice a L.length cap)).run prog w.drew=.ok (rc L).toArray w.drew:=by
  rw[C];rcases r with rfl|⟨b,o,rfl,s⟩
  . cases a with
    |none=>rfl
    |some z=>simp[Builtin.firstCells,loadCells,loadCellsFrom,rc]
  . exact run_firstCells_some w.drew 2 L.length _ L.length cap (rc L) (iA L) (λj u x=>by rw[Addr.add_mid];exact s j u x)
 have i:∀k,Builtin.zeroCells (Value.agg (rcs Rn.zero)).cells k=(rc (List.replicate k Rn.zero)).toArray:=λk=>by
  rw[<-oV k,Array.toArray_toList];rfl
 have f:=Lib.run_append_grow_zeros (P:=prog) w 218 3 h 221 g (.agg (rcs Rn.zero)) .i64 .i64 underlying218 underlying3 v B a L.length cap (rc L) D m q (by omega) t (by omega) (by rw[l];omega) (growslice_fits_wide (by omega) (by rw[l];omega))
 rw[i,i] at f;have E:=grownCap_ge w (L.length+m) cap 221;have A:=grownCap_le_maxLen w (L.length+m) cap 221 (by unfold maxLen;omega)
 generalize grownCap w (L.length+m) cap 221=c at *;refine⟨c,_,f,Vw.mk (Y:=rc (List.replicate (c-(L.length+m)) Rn.zero)) ?_ (by simp;omega) A (by rw[iA];simp;omega),⟨rfl,rfl,rfl,by simp,λk hk=>heap_alloc_old w.drew _ hk⟩⟩
 have e:(rc (L++List.replicate m Rn.zero)++rc (List.replicate (c-(L.length+m)) Rn.zero)).toArray=(rc L).toArray++(rc (List.replicate m Rn.zero)).toArray++(rc (List.replicate (c-(L.length+m)) Rn.zero)).toArray:=by
  rw[iI];simp
 unfold jC;rw[e];exact bj w.drew _
theorem ph(w:World)(g h i j f c lb d:Nat)(P Q:List Value)(b:jC w g P)(l:jC w h Q)(m:g≠h)(k:Q≠[]):
 (callFunc 204 #[.slice (some ⟨g,i,none⟩) f c,.slice (some ⟨h,j,none⟩) lb d]).run prog w=.ok (.value (.bool false)) w:=by
 rw[run_callFunc_extern func204 (by kernel_rfl) (by kernel_rfl) (by kernel_rfl) (e:=Extern.SlicesOverlaps.overlaps #[218,218] #[4]) (by kernel_rfl)]
 have:=Lib.run_overlaps_apart (P:=prog) w 218 4 221 underlying218 2 sizeOf221 ⟨g,i,none⟩ ⟨h,j,none⟩ f c lb d m 221 221 P.length Q.length
  (by simp[World.shape?,show w.heap[g]?=_ from b]) (by simp[World.shape?,show w.heap[h]?=_ from l]) (λe=>k (dz.1 e)) (bq _ _ _ _ _ b) (bq _ _ _ _ _ b)
 rw[this];rfl
theorem iQ{x:Int}(h: -9223372036854775808<=x)(b:x<=9223372036854775807):IntKind.i64.wrap x=x:=by rw[IntKind.wrap_i64];omega
theorem Vw.front{cap:Nat}{L M:List Rn}(h:Vw w a cap (L++M)):Vw w a cap L\/a=none:=by
 rcases h.cases with⟨rfl,rfl,hn⟩|⟨g,Y,rfl,hg,h1,h2,h3⟩
 . exact .inr rfl
 . rw[iI,aR] at hg;rw[af] at h1 h3;exact .inl (Vw.mk hg (by omega) h2 (by rw[af,iA];omega))
theorem _root_.Go.Proofs.YteaogidofpfmmaaGreat.But.inA{b:World}(c:w.grownBy b (a.map Addr.block)):But (InA a) w b:=(But.refl _ _).grown c λ_ hk _=>map_some hk
theorem yN(w:World)(a:Option Addr)(cap:Nat)(A B:List Rn)(t:Vw w a cap (A++B))(T:Option Addr)(E:Nat)(V:List Rn)(hV:Vw w T E V)(aC:∀x al,a=some x->T=some al->x.block≠al.block)(hl:A.length+B.length+V.length<=14000000000000):
 Calls prog 203 #[.slice a ((A.length+B.length:Nat)) cap,.int .i64 ((A.length:Nat):Int),.slice T V.length E] w λe w'=>
  ∃a' q,e=.returned (.slice a' ((A.length+V.length+B.length:Nat)) q)/\Vw w' a' q (A++V++B)/\New w a a'/\But (InA a) w w':=by
 have ai:=t.len;rw[af] at ai;unfold maxLen at ai;obtain⟨aa,aN⟩:=ai;have ae:=ix t;have ao:=ix hV;by_cases ab:V=[]
 . subst ab;have ay:=ix t;clear t hV;rw[bg];obtain⟨b,j⟩:∃b:Nat,b=A.length:=⟨_,rfl⟩;obtain⟨n,hn⟩:∃n:Nat,n=A.length+B.length:=⟨_,rfl⟩;have aM:b<=n:=by omega
   rw[<-hn,<-j,show b+0+B.length=n by omega]
   rw[<-hn] at aa;clear j hn;by_cases ap:cap=b
   all_goals
    go_enter func203,ntmps203;go_wp2;go_ret;exact⟨a,cap,rfl,by rw[dr];exact ay.o,New.refl _ _,But.refl _ _⟩
 . have ak:0<V.length:=bY.2 ab;obtain⟨c,C⟩:∃c:Nat,c=V.length:=⟨_,rfl⟩;by_cases ag:B=[]
   . subst ag;rw[dr] at t;rw[bg,dp,dp] at *;obtain⟨b,j⟩:∃b:Nat,b=A.length:=⟨_,rfl⟩;rw[<-j,<-C];rw[<-j] at aa;have hp:0<c:=by omega
     have aO:b+c<=14000000000000:=by omega
     have f:=ix j;have D:=ix C;have aW:=ix ak;have aB:=ix hl;clear j C ak hl t hV;by_cases ap:cap=b
     all_goals
      go_enter func203,ntmps203;go_wp2_with (at_builtin;refine zq rfl _ _ rfl a b cap A (by simp[Act.eval]) f.o (by have:=ae.o;rwa [dr] at this) T c E V (by simp[Act.eval]) D.o ao.o.vs ab aB.o ?_;intro g q w' Z y F)
      go_ret;exact⟨_,q,rfl,by rw[dr];exact Z,y,But.inA F⟩
   . have az:0<B.length:=bY.2 ag;obtain⟨b,j⟩:∃b:Nat,b=A.length:=⟨_,rfl⟩;obtain⟨d,L⟩:∃d:Nat,d=B.length:=⟨_,rfl⟩;rw[<-j,<-L,<-C];rw[<-j,<-L] at aa hl;rw[<-C] at hl ak;rw[<-L] at az;have f:=ix j;have J:=ix L;have D:=ix C;clear j L C t hV;rcases ae.o.cases with⟨_,_,h0⟩|⟨g,Y,rfl,hg,Z,y,F⟩
     . simp at h0;exact absurd h0.2 ag
     rcases ao.o.cases with⟨_,_,h0⟩|⟨gv,Yv,rfl,hgv,v1,v2,v3⟩
     . exact absurd h0 ab
     have aq:g≠gv:=aC _ _ rfl rfl;have ap:¬cap=b:=by omega
     rw[iI,aR] at hg;rw[af,<-f.o,<-J.o] at F;have U:Cs w g (b*2) (rc B):=by have:=hg.cs (P:=rc A) (X:=rc B) (Y:=Y) (by simp);rwa [iA,<-f.o] at this
     have W:Cs w gv 0 (rc V):=hgv.cs (P:=[]) (X:=rc V) (Y:=Yv) (by simp)
     have N:(rc A).length=b*2:=by rw[iA,<-f.o]
     have G:(rc B).length=d*2:=by rw[iA,<-J.o]
     have lV:(rc V).length=c*2:=by rw[iA,<-D.o]
     obtain⟨I,M⟩:∃m:Nat,m=b+d:=⟨_,rfl⟩;obtain⟨i,hT⟩:∃m:Nat,m=b+d+c:=⟨_,rfl⟩;obtain⟨l,hX⟩:∃m:Nat,m=b+c:=⟨_,rfl⟩;rw[<-M,show b+c+d=i by omega]
     rw[<-M] at aa;have i1:(I:Int)+(c:Int)=(i:Int):=by omega
     have i2:(b:Int)+(c:Int)=(l:Int):=by omega
     have n1:i-l=d:=by omega
     have n2:i-b=d+c:=by omega
     have n3:I-b=d:=by omega
     have l1:b<=I:=by omega
     have l2:l<=i:=by omega
     have l3:b<=i:=by omega
     have l4:¬b=I:=by omega
     have l5:i<=14000000000000:=by omega
     have l6:I<=14000000000000:=by omega
     have l7:¬c=0:=by omega
     have wX:IntKind.i64.wrap (l:Int)=(l:Int):=iQ (by omega) (by omega)
     have x1:(l:Int)<=(i:Int):=by omega
     have x2:(b:Int)<=(i:Int):=by omega
     have x3:(b:Int)<=(I:Int):=by omega
     have q1:=ix M;have q2:=ix hT;have q3:=ix hX;by_cases aH:i<=cap
     . obtain⟨Q,R,hQ,lQ⟩:∃Q R,rc B++Y=Q++R/\Q.length=c*2:=⟨(rc B++Y).take (c*2),(rc B++Y).drop (c*2),(fM _ _).symm,by rw[dm,af,G];omega⟩
       have lR:c*2+R.length=d*2+Y.length:=by have:=bf List.length hQ;rw[af,af,G,lQ] at this;omega
       rw[hQ,<-aR] at hg;have aP:=λoh lb cb=>ph w gv g 0 oh c E lb cb _ _ hgv hg (λe=>aq e.symm) (by intro e;have:=bf List.length e;rw[af,af,N,lQ] at this;simp at this;omega)
       have aA:=ix hg;have ac:=ix U;have ad:=ix W;have aS:¬cap=l:=by omega
       have q4:=ix lR;have q5:=ix lQ;have O:=ix N;have v:=ix G;have r:=ix lV;have q9:=ix F;clear hg U W hQ M hT hX lR lQ N G lV F Z y v1 v2 v3;go_enter func203,ntmps203;go_wp2_with fail
       go_region_law (first|(refine zj rfl _ _ rfl g (l*2) d (cap-l) (by simp[Act.eval,Act.put]) (some ⟨g,b*2,none⟩) (d+c) (cap-b) (by simp[Act.eval,Act.put]) (rc A++Q) (rc B) R (by rw[af,O.o,q5.o,q3.o];omega) aA.o (by rw[v.o,show Nat.min (d+c) d=d from Nat.min_eq_right (by omega)]) (.inr ⟨g,b*2,rfl,ac.o⟩) (by have:=q4.o;have:=q9.o;have:=q2.o;rw[v.o];omega) (kj B) ?_;intro aQ S r1 b0))
       have b1:But (λk=>k=g) w S:=(But.drew (But.refl _ w)).trans b0 (λ_ _ h=>h)
       clear b0;have aD:=ix (show jC S g (rc A++(Q++rc B++R.drop (rc B).length)) by rw[<-aR,<-aR];exact r1)
       have ax:=ix (ad.o.but b1 (show ¬gv=g from λe=>aq e.symm))
       clear r1;obtain⟨w2,aG,s,K⟩:=jH S 3 g (d+c) (cap-b) (some ⟨gv,0,none⟩) c E (rc A) (rc V) (Q++rc B++R.drop (rc B).length) aD.o (by rw[r.o,show Nat.min c (d+c)=c from ee (by omega)]) (.inr ⟨gv,0,rfl,ax.o⟩) (by rw[af,af,q5.o,r.o];omega) (kj V)
       rw[O.o] at aG;have aE:=ix s;clear s;go_wp2;go_ret;have s:=aE.o;refine⟨_,cap,rfl,Vw.mk (Y:=R.drop (rc B).length) ?_ ?_ (by unfold maxLen;omega) ?_,New.refl _ _,?_⟩
       . rw[iI,iI]
         have e:(Q++rc B++R.drop (rc B).length).drop (rc V).length=rc B++R.drop (rc B).length:=by
          rw[r.o,<-q5.o,aR,List.drop_left' rfl]
         rw[e,<-aR] at s;exact s
       . rw[af,af,<-f.o,<-J.o,<-D.o];have:=q2.o;omega
       . rw[af,af,<-f.o,<-J.o,<-D.o,dv,v.o];have:=q2.o;have:=q4.o;have:=q9.o;omega
       . exact(b1.trans K (λ_ _ h=>h)).mono (λk _ h=>⟨_,rfl,h.symm⟩)
     . have hA0:=ix (show Vs w (some ⟨g,0,none⟩) A by
        rcases ae.o.front with h|h
        . exact h.vs
        . cases h)
       have ac:=ix U;have ad:=ix W;have O:=ix N;have v:=ix G;have r:=ix lV;have gl:=hg.lt;have aL:=hgv.lt;have i3:(i:Int)-(b:Int)=((d+c:Nat):Int):=by omega
       obtain⟨p,hZ⟩:∃m:Nat,m=d+c:=⟨_,rfl⟩;rw[<-hZ] at i3 n2;have zA:b+p=i:=by omega
       have zp:0<p:=by omega
       have z9:p<=14000000000000:=by omega
       have qZ:=ix hZ;have aK:cap<i:=by omega
       clear U W M hT hX N G lV F Z y v1 v2 v3 hg hgv hZ aH;obtain⟨q,S,aw,aj,ah⟩:=xL w 218 (some ⟨g,0,none⟩) b cap A f.o hA0.o p zp (by rw[<-f.o,zA];exact aK) (by rw[<-f.o,zA];exact l5)
       rw[zA] at aw;have ar:=aj.len;rw[af,dt,<-f.o,zA] at ar;obtain⟨aV,aF⟩:=ar;unfold maxLen at aF;have aT:¬q=b:=by omega
       have aU:¬q=l:=by omega
       rcases aj.cases with⟨h0,_⟩|⟨H,Y1,h0,hg1,y1,y2,y3⟩
       . cases h0
       simp only[au,Addr.mk.injEq,d9] at h0;subst h0;rw[iI,aR] at hg1;have lZ:(rc (List.replicate p Rn.zero)).length=p*2:=by rw[iA,dt]
       obtain⟨w2,aI,s,K⟩:=jH S 3 w.heap.size p (q-b) (some ⟨gv,0,none⟩) c E (rc A) (rc V) (rc (List.replicate p Rn.zero)++Y1) hg1 (by rw[r.o,show Nat.min c p=c from ee (by have:=qZ.o;omega)]) (.inr ⟨gv,0,rfl,ad.o.keep ah⟩) (by have:=qZ.o;rw[af,lZ,r.o];omega) (kj V)
       rw[O.o] at aI;have an:Cs w2 g (b*2) (rc B):=(ac.o.keep ah).but K (show ¬g=w.heap.size by omega)
       have ly:((rc (List.replicate p Rn.zero)++Y1).drop (rc V).length).length=d*2+Y1.length:=by have:=qZ.o;rw[dv,af,lZ,r.o];omega
       generalize (rc (List.replicate p Rn.zero)++Y1).drop (rc V).length=Y2 at *;obtain⟨w3,aJ,r3,b3⟩:=jH w2.drew 3 w.heap.size d (q-l) (some ⟨g,b*2,none⟩) d (cap-b) (rc A++rc V) (rc B) Y2 s (by rw[v.o,show Nat.min d d=d from Nat.min_self _]) (.inr ⟨g,b*2,rfl,an⟩) (by rw[ly,v.o];omega) (kj B)
       rw[af,O.o,r.o,show b*2+c*2=l*2 by have:=q3.o;omega] at aJ
       have R3:=ix r3;have B3:=ix b3;have B2:=ix K;have LY:=ix ly;have Y3:=ix y3;clear r3 b3 K ly y3 s an aj hg1 lZ;go_enter func203,ntmps203;go_wp2_with (at_builtin;refine Lib.wpList_append_run _ rfl _ _ _ _ rfl _ _ rfl rfl _ _ aw ?_)
       go_region
       all_goals
        go_wp2;go_ret;refine⟨_,q,rfl,Vw.mk (Y:=Y2.drop (rc B).length) (by rw[iI,iI];exact R3.o) ?_ (by unfold maxLen;omega) ?_,λz hz=>.inr (by cases hz;exact am _),?_⟩
        . rw[af,af,<-f.o,<-J.o,<-D.o];have:=q2.o;omega
        . rw[af,af,<-f.o,<-J.o,<-D.o,dv,v.o,LY.o];have:=Y3.o;rw[af,dt,<-f.o] at this;have:=qZ.o;omega
        . exact((But.ofBelow ah).trans B2.o (λk hk e=>by omega)).trans ((But.drew (But.refl (λk=>k=w.heap.size) w2)).trans B3.o (λ_ _ h=>h)) (λk hk e=>by omega)
set_option maxRecDepth 20000 in
theorem wi(w:World)(a:Option Addr)(cap:Nat)(A B:List Rn)(j:Vw w a cap (A++B))(d:Option Addr)(f:Nat)(V:List Rn)(n:Vw w d f V)(r:∀x y,a=some x->d=some y->x.block≠y.block)(p:A.length+B.length+V.length<=14000000000000):
 Calls prog 190 #[.slice a ((A.length+B.length:Nat)) cap,.int .i64 ((A.length:Nat):Int),.int .i64 ((A.length:Nat):Int),.slice d V.length f] w λe q=>
  ∃b c,e=.returned (.slice b ((A.length+V.length+B.length:Nat)) c)/\Vw q b c (A++V++B)/\New w a b/\But (InA a) w q:=by
 have k:=j.len;rw[af] at k;unfold maxLen at k;obtain⟨D,J⟩:=k;have C:=ix (yN w a cap A B j d f V n r p);obtain⟨t,l⟩:∃m:Nat,m=A.length+B.length:=⟨_,rfl⟩;have F:A.length<=t:=by omega
 have G:A.length<=cap:=by omega
 rw[<-l] at C ⊢;generalize A.length+V.length+B.length=H at *;generalize A.length=s at *;generalize V.length=I at *;clear l p j n D r;by_cases E:cap=s
 . subst E;go_enter func190,ntmps190;go_wp2_with fail
   refine C.o.mono ?_;rintro e v ⟨b,c,rfl,g,h,i⟩;go_wp2;go_ret;exact⟨b,c,rfl,g,h,i⟩
 . skip
   go_enter func190,ntmps190;go_wp2_with fail
   refine C.o.mono ?_;rintro e v ⟨b,c,rfl,g,h,i⟩;go_wp2;go_ret;exact⟨b,c,rfl,g,h,i⟩
set_option maxRecDepth 20000 in
theorem uG(w:World)(a:Option Addr)(cap:Nat)(A M B:List Rn)(r:Vw w a cap (A++M++B))(l:Option Addr)(K:Nat)(V:List Rn)(hV:Vw w l K V)(ae:∀x y,a=some x->l=some y->x.block≠y.block)(s:A.length+M.length+B.length+V.length<=14000000000000)(ad:M≠[])(ai:B.length=0)(ak:V.length<M.length):
 Calls prog 190 #[.slice a ((A.length+M.length+B.length:Nat)) cap,.int .i64 ((A.length:Nat):Int),.int .i64 ((A.length+M.length:Nat):Int),.slice l V.length K] w λe w'=>
  ∃i D,e=.returned (.slice i ((A.length+V.length+B.length:Nat)) D)/\Vw w' i D (A++V++B)/\New w a i/\But (InA a) w w':=by
 have S:=r.len;rw[af,af] at S;unfold maxLen at S;obtain⟨J,ao⟩:=S;have aj:0<M.length:=bY.2 ad;rcases r.cases with⟨_,_,h0⟩|⟨g,Y,rfl,hg,h1,h2,h3⟩
 . simp at h0;exact absurd h0.2.1 ad
 rw[af,af] at h3;rw[iI,iI,aR,aR] at hg;have t:=iA A;have v:=iA M;have O:=iA B;have n:=iA V;have ac:=hV.vs;have ab:rc V=[]\/∃b o,l=some ⟨b,o,none⟩/\Cs w b o (rc V):=ac.imp (λh=>by rw[h];rfl) id
 have al:∀b o,l=some ⟨b,o,none⟩->b≠g:=λb o e e2=>ae ⟨g,0,none⟩ ⟨b,o,none⟩ rfl e e2.symm
 have RA:Vw w (some ⟨g,0,none⟩) cap A:=by
  rw[aR] at r;rcases r.front with h|h
  . exact h
  . cases h
 have E:Cs w g ((A.length+M.length)*2) (rc B):=by
  have:=hg.cs (P:=rc A++rc M) (X:=rc B) (Y:=Y) (by simp)
  rwa [af,t,v,<-gU] at this
 obtain⟨c,F⟩:∃m:Nat,m=A.length:=⟨_,rfl⟩;obtain⟨H,N⟩:∃m:Nat,m=M.length:=⟨_,rfl⟩;obtain⟨nB,q⟩:∃m:Nat,m=B.length:=⟨_,rfl⟩;obtain⟨j,C⟩:∃m:Nat,m=V.length:=⟨_,rfl⟩;rw[<-F] at t s J h3 E ⊢;rw[<-N] at v s J h3 aj E ⊢;rw[<-q] at O s J h3 ⊢;rw[<-C] at n s ⊢;obtain⟨p,k⟩:∃m:Nat,m=c+H+nB:=⟨_,rfl⟩;obtain⟨f,L⟩:∃m:Nat,m=c+H:=⟨_,rfl⟩;obtain⟨d,hT⟩:∃m:Nat,m=c+j+nB:=⟨_,rfl⟩;obtain⟨I,hX⟩:∃m:Nat,m=c+j:=⟨_,rfl⟩;rw[<-L] at E;rw[<-k,<-L,<-hT];have l1:c<=f:=by omega
 have l2:f<=p:=by omega
 have l3:p<=cap:=by omega
 have l4:¬c=f:=by omega
 have l5:d<=14000000000000:=by omega
 have l6:p<=14000000000000:=by omega
 have l7:I<=d:=by omega
 have l8:¬cap=c:=by omega
 have x1:(c:Int)<=(f:Int):=by omega
 have x2:(f:Int)<=(p:Int):=by omega
 have x3:(c:Int)<=(p:Int):=by omega
 have wX:IntKind.i64.wrap (I:Int)=(I:Int):=iQ (by omega) (by omega)
 have gl:=hg.lt;rw[<-q] at ai;rw[<-N,<-C] at ak;obtain rfl:f=p:=by omega
 obtain rfl:d=I:=by omega
 obtain⟨w1,ah,r1,U⟩:=uv w 218 g cap c (rc A) (rc V) (rc M++(rc B++Y)) l j K t hg n ab (by rw[af,n,v];omega) (kj V) (by omega)
 have Z:c+j=d:=by omega
 rw[Z] at ah;have R:((rc M++(rc B++Y)).drop (rc V).length).length=(H-j)*2+Y.length:=by rw[dv,af,af,n,v,O];omega
 generalize (rc M++(rc B++Y)).drop (rc V).length=T at *;obtain⟨G,hD⟩:∃m:Nat,m=H-j:=⟨_,rfl⟩;obtain⟨w2,am,r2,W⟩:=rL w1 0 g G (cap-d) (rc A++rc V) T r1 (by rw[R];omega)
 rw[af,t,n,show c*2+j*2=d*2 by omega] at am
 have n1:f-d=G:=by omega
 have l9:d<f:=by omega
 have ap:¬cap=d:=by omega
 have x4:(d:Int)<=(f:Int):=by omega
 have aa:B=[]:=dz.1 (by omega)
 have ag:∃i D,Ending.returned (.slice (some ⟨g,0,none⟩) d cap)=.returned (.slice i d D)/\Vw w2 i D (A++V++B)/\New w (some ⟨g,0,none⟩) i/\But (InA (some ⟨g,0,none⟩)) w w2:=by
  refine⟨_,cap,rfl,Vw.mk (Y:=rc (List.replicate G Rn.zero)++T.drop (G*2)) ?_ ?_ (by unfold maxLen;omega) ?_,New.refl _ _,(U.trans W (λ_ _ h=>h)).mono (λan _ h=>⟨_,rfl,h.symm⟩)⟩
  . rw[aa,dr,iI,<-aR];exact r2
  . rw[af,af,<-F,<-q,<-C];omega
  . rw[af,af,<-F,<-q,<-C,af,iA,dt,dv,R];omega
 have GG:=ix ag;clear ag r1 r2 U W R hD Z aa F N q C;clear k L hT hX t v O n h3 ac ab hg r hV RA ae al s J h1 h2 E;go_enter func190,ntmps190;go_wp2_with (at_builtin;refine Lib.wpList_append_run _ rfl _ _ _ _ rfl _ _ rfl rfl _ _ ah ?_)
 go_ret;exact GG.o
set_option maxRecDepth 20000 in
theorem vY(w:World)(a:Option Addr)(cap:Nat)(A M B:List Rn)(n:Vw w a cap (A++M++B))(j:Option Addr)(C:Nat)(V:List Rn)(T:Vw w j C V)(ac:∀x y,a=some x->j=some y->x.block≠y.block)(p:A.length+M.length+B.length+V.length<=14000000000000)(ab:M≠[])(aj:B.length=0)(al:M.length<=V.length):
 Calls prog 190 #[.slice a ((A.length+M.length+B.length:Nat)) cap,.int .i64 ((A.length:Nat):Int),.int .i64 ((A.length+M.length:Nat):Int),.slice j V.length C] w λe w'=>
  ∃d q,e=.returned (.slice d ((A.length+V.length+B.length:Nat)) q)/\Vw w' d q (A++V++B)/\New w a d/\But (InA a) w w':=by
 have K:=n.len;rw[af,af] at K;unfold maxLen at K;obtain⟨v,an⟩:=K;have ak:0<M.length:=bY.2 ab;rcases n.cases with⟨_,_,h0⟩|⟨g,Y,rfl,hg,h1,h2,h3⟩
 . simp at h0;exact absurd h0.2.1 ab
 rw[af,af] at h3;rw[iI,iI,aR,aR] at hg;have H:=iA A;have I:=iA M;have U:=iA B;have W:=iA V;have J:=T.vs;have ai:rc V=[]\/∃b o,j=some ⟨b,o,none⟩/\Cs w b o (rc V):=J.imp (λh=>by rw[h];rfl) id
 have am:∀b o,j=some ⟨b,o,none⟩->b≠g:=λb o e e2=>ac ⟨g,0,none⟩ ⟨b,o,none⟩ rfl e e2.symm
 have L:Vw w (some ⟨g,0,none⟩) cap A:=by
  rw[aR] at n;rcases n.front with h|h
  . exact h
  . cases h
 have r:Cs w g ((A.length+M.length)*2) (rc B):=by
  have:=hg.cs (P:=rc A++rc M) (X:=rc B) (Y:=Y) (by simp)
  rwa [af,H,I,<-gU] at this
 obtain⟨c,D⟩:∃m:Nat,m=A.length:=⟨_,rfl⟩;obtain⟨nM,G⟩:∃m:Nat,m=M.length:=⟨_,rfl⟩;obtain⟨nB,E⟩:∃m:Nat,m=B.length:=⟨_,rfl⟩;obtain⟨s,l⟩:∃m:Nat,m=V.length:=⟨_,rfl⟩;rw[<-D] at H p v h3 r ⊢;rw[<-G] at I p v h3 ak r ⊢;rw[<-E] at U p v h3 ⊢;rw[<-l] at W p ⊢;obtain⟨k,R⟩:∃m:Nat,m=c+nM+nB:=⟨_,rfl⟩;obtain⟨f,F⟩:∃m:Nat,m=c+nM:=⟨_,rfl⟩;obtain⟨i,S⟩:∃m:Nat,m=c+s+nB:=⟨_,rfl⟩;obtain⟨t,hX⟩:∃m:Nat,m=c+s:=⟨_,rfl⟩;rw[<-F] at r;rw[<-R,<-F,<-S];have l1:c<=f:=by omega
 have l2:f<=k:=by omega
 have l3:k<=cap:=by omega
 have l4:¬c=f:=by omega
 have l5:i<=14000000000000:=by omega
 have l6:k<=14000000000000:=by omega
 have l7:t<=i:=by omega
 have l8:¬cap=c:=by omega
 have x1:(c:Int)<=(f:Int):=by omega
 have x2:(f:Int)<=(k:Int):=by omega
 have x3:(c:Int)<=(k:Int):=by omega
 have wX:IntKind.i64.wrap (t:Int)=(t:Int):=iQ (by omega) (by omega)
 have gl:=hg.lt;rw[<-E] at aj;rw[<-G,<-l] at al;obtain rfl:f=k:=by omega
 obtain rfl:i=t:=by omega
 have ad:V≠[]:=λe=>by rw[e] at l;simp at l;omega
 obtain⟨g',q,w1,ah,r1,Z,N⟩:=sF w 218 (some ⟨g,0,none⟩) c cap A D L j s C V l J ad (by omega)
 have O:c+s=i:=by omega
 rw[O] at ah;have l9:¬i<f:=by omega
 have aa:B=[]:=dz.1 (by omega)
 have ae:∃d ag,Ending.returned (.slice (some ⟨g',0,none⟩) i q)=.returned (.slice d i ag)/\Vw w1 d ag (A++V++B)/\New w (some ⟨g,0,none⟩) d/\But (InA (some ⟨g,0,none⟩)) w w1:=
  ⟨_,q,rfl,by rw[aa,dr];exact r1,Z,But.inA N⟩
 have GG:=ix ae;clear ae r1 Z N O aa D G E l ad;clear R F S hX H I U W h3 J ai hg n T L ac am p v h1 h2 r;go_enter func190,ntmps190;go_wp2_with (at_builtin;refine Lib.wpList_append_run _ rfl _ _ _ _ rfl _ _ rfl rfl _ _ ah ?_)
 go_ret;exact GG.o
set_option maxRecDepth 20000 in
theorem vd(w:World)(a:Option Addr)(cap:Nat)(A M B:List Rn)(k:Vw w a cap (A++M++B))(U:Option Addr)(cv:Nat)(V:List Rn)(O:Vw w U cv V)(S:∀x ah,a=some x->U=some ah->x.block≠ah.block)(D:A.length+M.length+B.length+V.length<=14000000000000)(al:M≠[])(aw:0<B.length)(ap:cap<A.length+V.length+B.length):
 Calls prog 190 #[.slice a ((A.length+M.length+B.length:Nat)) cap,.int .i64 ((A.length:Nat):Int),.int .i64 ((A.length+M.length:Nat):Int),.slice U V.length cv] w λe w'=>
  ∃I t,e=.returned (.slice I ((A.length+V.length+B.length:Nat)) t)/\Vw w' I t (A++V++B)/\New w a I/\But (InA a) w w':=by
 have ae:=k.len;rw[af,af] at ae;unfold maxLen at ae;obtain⟨ac,aC⟩:=ae;have ax:0<M.length:=bY.2 al;rcases k.cases with⟨_,_,h0⟩|⟨g,Y,rfl,J,h1,h2,C⟩
 . simp at h0;exact absurd h0.2.1 al
 rw[af,af] at C;rw[iI,iI,aR,aR] at J;have E:=iA A;have R:=iA M;have F:=iA B;have s:=iA V;have aj:=O.vs;have ar:rc V=[]\/∃b o,U=some ⟨b,o,none⟩/\Cs w b o (rc V):=aj.imp (λh=>by rw[h];rfl) id
 have ay:∀b o,U=some ⟨b,o,none⟩->b≠g:=λb o e e2=>S ⟨g,0,none⟩ ⟨b,o,none⟩ rfl e e2.symm
 have T:Vw w (some ⟨g,0,none⟩) cap A:=by
  rw[aR] at k;rcases k.front with h|h
  . exact h
  . cases h
 have v:Cs w g ((A.length+M.length)*2) (rc B):=by
  have:=J.cs (P:=rc A++rc M) (X:=rc B) (Y:=Y) (by simp)
  rwa [af,E,R,<-gU] at this
 obtain⟨c,d⟩:∃m:Nat,m=A.length:=⟨_,rfl⟩;obtain⟨nM,Z⟩:∃m:Nat,m=M.length:=⟨_,rfl⟩;obtain⟨i,r⟩:∃m:Nat,m=B.length:=⟨_,rfl⟩;obtain⟨G,q⟩:∃m:Nat,m=V.length:=⟨_,rfl⟩;rw[<-d] at E D ac C v ⊢;rw[<-Z] at R D ac C ax v ⊢;rw[<-r] at F D ac C ⊢;rw[<-q] at s D ⊢;obtain⟨K,y⟩:∃m:Nat,m=c+nM+i:=⟨_,rfl⟩;obtain⟨j,L⟩:∃m:Nat,m=c+nM:=⟨_,rfl⟩;obtain⟨f,N⟩:∃m:Nat,m=c+G+i:=⟨_,rfl⟩;obtain⟨p,hX⟩:∃m:Nat,m=c+G:=⟨_,rfl⟩;rw[<-L] at v;rw[<-y,<-L,<-N];have l1:c<=j:=by omega
 have l2:j<=K:=by omega
 have l3:K<=cap:=by omega
 have l4:¬c=j:=by omega
 have l5:f<=14000000000000:=by omega
 have l6:K<=14000000000000:=by omega
 have l7:p<=f:=by omega
 have l8:¬cap=c:=by omega
 have x1:(c:Int)<=(j:Int):=by omega
 have x2:(j:Int)<=(K:Int):=by omega
 have x3:(c:Int)<=(K:Int):=by omega
 have wX:IntKind.i64.wrap (p:Int)=(p:Int):=iQ (by omega) (by omega)
 have gl:=J.lt;rw[<-r] at aw;have l9:¬j=K:=by omega
 have aE:¬cap=j:=by omega
 have n5:K-j=i:=by omega
 have i1:(c:Int)+(G:Int)=(p:Int):=by omega
 have i2:(p:Int)+(i:Int)=(f:Int):=by omega
 have x5:(p:Int)<=(f:Int):=by omega
 have x6:(c:Int)<=(f:Int):=by omega
 have n6:f-p=i:=by omega
 have wT:IntKind.i64.wrap (f:Int)=(f:Int):=iQ (by omega) (by omega)
 rw[<-d,<-r,<-q,<-N] at ap;have FF:=ix (And.intro y (And.intro L (And.intro N (And.intro hX (And.intro d (And.intro Z (And.intro r q)))))));have F2:=ix (And.intro E (And.intro R (And.intro F s)));have F3:=ix C;have F4:=ix J;have F5:=ix T;have F6:=ix O;have F7:=ix S;have F8:=ix v;have F9:=ix D;clear y L N hX d Z r q E R F s C J T O S v D aj ar ay k ac h1 h2;go_enter func190,ntmps190;go_wp2_with fail
 go_quiet (fail)
 obtain⟨l,aa⟩:∃l,w.drewN nq=l:=⟨_,rfl⟩;have W:Below w.heap.size w l:=by rw[<-aa];exact ra _ _
 have s0:l.heap.size=w.heap.size:=by rw[<-aa];rfl
 rw[aa];obtain⟨y,L,N,hX,d,Z,r,q⟩:=FF.o;obtain⟨E,R,F,s⟩:=F2.o;have C:=F3.o;have J:=F4.o.keep W;have T:=F5.o.keep W;have O:=F6.o.keep W;have S:=F7.o;have v:=F8.o.keep W;have D:=F9.o;have am:V≠[]:=λe=>by rw[e] at q;simp at q;omega
 obtain⟨n,hZ⟩:∃m:Nat,m=G+i:=⟨_,rfl⟩;have i3:(f:Int)-(c:Int)=(n:Int):=by omega
 have n2:f-c=n:=by omega
 have zA:c+n=f:=by omega
 rcases O.cases with⟨_,_,h0⟩|⟨gv,Yv,rfl,hgv,v1,v2,v3⟩
 . exact absurd h0 am
 have aD:g≠gv:=S _ _ rfl rfl;have cV:Cs l gv 0 (rc V):=hgv.cs (P:=[]) (X:=rc V) (Y:=Yv) (by simp)
 obtain⟨t,w1,aq,ag,ab⟩:=xL l 218 (some ⟨g,0,none⟩) c cap A d T.vs n (by omega) (by rw[<-d,zA];exact ap) (by rw[<-d,zA];exact l5)
 rw[zA] at aq;have ak:=ag.len;rw[af,dt,<-d,zA] at ak;obtain⟨aH,az⟩:=ak;unfold maxLen at az;have aF:¬t=c:=by omega
 have aG:¬t=p:=by omega
 rcases ag.cases with⟨h0,_⟩|⟨H,Y1,h0,hg1,y1,y2,y3⟩
 . cases h0
 simp only[au,Addr.mk.injEq,d9] at h0;subst h0;rw[iI,aR] at hg1;rw[af,dt,<-d] at y3;have lZ:(rc (List.replicate n Rn.zero)).length=n*2:=by rw[iA,dt]
 obtain⟨w2,aA,r2,b2⟩:=jH w1 3 l.heap.size n (t-c) (some ⟨gv,0,none⟩) G cv (rc A) (rc V) (rc (List.replicate n Rn.zero)++Y1) hg1 (by rw[s,show Nat.min G n=G from ee (by omega)]) (.inr ⟨gv,0,rfl,cV.keep ab⟩) (by rw[af,lZ,s];omega) (kj V)
 rw[E] at aA;have ai:Cs w2 g (j*2) (rc B):=(v.keep ab).but b2 (show ¬g=l.heap.size by omega)
 have ly:((rc (List.replicate n Rn.zero)++Y1).drop (rc V).length).length=i*2+Y1.length:=by rw[dv,af,lZ,s];omega
 generalize (rc (List.replicate n Rn.zero)++Y1).drop (rc V).length=Y2 at *;obtain⟨w3,aB,r3,b3⟩:=jH w2.drew 3 l.heap.size i (t-p) (some ⟨g,j*2,none⟩) i (cap-j) (rc A++rc V) (rc B) Y2 r2 (by rw[F,show Nat.min i i=i from Nat.min_self _]) (.inr ⟨g,j*2,rfl,ai⟩) (by rw[ly,F];omega) (kj B)
 rw[af,E,s,show c*2+G*2=p*2 by omega] at aB
 have an:∀w4,w4=w3->∃I ao,Ending.returned (.slice (some ⟨l.heap.size,0,none⟩) f t)=.returned (.slice I f ao)/\Vw w4 I ao (A++V++B)/\New w (some ⟨g,0,none⟩) I/\But (InA (some ⟨g,0,none⟩)) w w4:=by
  rintro w4 rfl;refine⟨_,t,rfl,Vw.mk (Y:=Y2.drop (rc B).length) (by rw[iI,iI];exact r3) ?_ (by unfold maxLen;omega) ?_,λz hz=>.inr (by cases hz;exact Nat.le_of_eq s0.symm),?_⟩
  . rw[af,af,<-d,<-r,<-q];omega
  . rw[af,af,<-d,<-r,<-q,dv,F,ly];omega
  . exact((But.ofBelow (bt W ab)).trans b2 (λad hk e=>by omega)).trans ((But.drew (But.refl (λad=>ad=l.heap.size) w2)).trans b3 (λ_ _ h=>h)) (λad hk e=>by omega)
 have GG:=ix an;clear an r3 b3 b2 ly y3 r2 ai ag hg1 lZ hZ zA d Z r q am cV hgv v1 v2 v3 y1 y2 ab s0;clear y L N hX E R F s C J O T S D v aa FF F2 F3 F4 F5 F6 F7 F8 F9;go_wp2_with (at_builtin;refine Lib.wpList_append_run _ rfl _ _ _ _ rfl _ _ rfl rfl _ _ aq ?_)
 go_region
 all_goals
  go_wp2;go_ret;exact GG.o _ rfl
set_option maxRecDepth 20000 in
theorem vk(w:World)(a:Option Addr)(cap:Nat)(A M B:List Rn)(Z:Vw w a cap (A++M++B))(J:Option Addr)(cv:Nat)(V:List Rn)(T:Vw w J cv V)(aa:∀x al,a=some x->J=some al->x.block≠al.block)(H:A.length+M.length+B.length+V.length<=14000000000000)(ap:M≠[])(az:0<B.length)(aD:A.length+V.length+B.length<=cap)(aB:V.length<=M.length):
 Calls prog 190 #[.slice a ((A.length+M.length+B.length:Nat)) cap,.int .i64 ((A.length:Nat):Int),.int .i64 ((A.length+M.length:Nat):Int),.slice J V.length cv] w λe w'=>
  ∃I aq,e=.returned (.slice I ((A.length+V.length+B.length:Nat)) aq)/\Vw w' I aq (A++V++B)/\New w a I/\But (InA a) w w':=by
 have aj:=Z.len;rw[af,af] at aj;unfold maxLen at aj;obtain⟨ad,aE⟩:=aj;have aA:0<M.length:=bY.2 ap;rcases Z.cases with⟨_,_,h0⟩|⟨g,Y,rfl,G,h1,h2,F⟩
 . simp at h0;exact absurd h0.2.1 ap
 rw[af,af] at F;rw[iI,iI,aR,aR] at G;have s:=iA A;have C:=iA M;have v:=iA B;have p:=iA V;have an:=T.vs;have ab:rc V=[]\/∃b o,J=some ⟨b,o,none⟩/\Cs w b o (rc V):=an.imp (λh=>by rw[h];rfl) id
 have aC:∀b o,J=some ⟨b,o,none⟩->b≠g:=λb o e e2=>aa ⟨g,0,none⟩ ⟨b,o,none⟩ rfl e e2.symm
 have RA:Vw w (some ⟨g,0,none⟩) cap A:=by
  rw[aR] at Z;rcases Z.front with h|h
  . exact h
  . cases h
 have K:Cs w g ((A.length+M.length)*2) (rc B):=by
  have:=G.cs (P:=rc A++rc M) (X:=rc B) (Y:=Y) (by simp)
  rwa [af,s,C,<-gU] at this
 obtain⟨d,r⟩:∃m:Nat,m=A.length:=⟨_,rfl⟩;obtain⟨nM,O⟩:∃m:Nat,m=M.length:=⟨_,rfl⟩;obtain⟨j,n⟩:∃m:Nat,m=B.length:=⟨_,rfl⟩;obtain⟨i,q⟩:∃m:Nat,m=V.length:=⟨_,rfl⟩;rw[<-r] at s H ad F K ⊢;rw[<-O] at C H ad F aA K ⊢;rw[<-n] at v H ad F ⊢;rw[<-q] at p H ⊢;obtain⟨t,y⟩:∃m:Nat,m=d+nM+j:=⟨_,rfl⟩;obtain⟨f,N⟩:∃m:Nat,m=d+nM:=⟨_,rfl⟩;obtain⟨c,R⟩:∃m:Nat,m=d+i+j:=⟨_,rfl⟩;obtain⟨l,hX⟩:∃m:Nat,m=d+i:=⟨_,rfl⟩;rw[<-N] at K;rw[<-y,<-N,<-R];have l1:d<=f:=by omega
 have l2:f<=t:=by omega
 have l3:t<=cap:=by omega
 have l4:¬d=f:=by omega
 have l5:c<=14000000000000:=by omega
 have l6:t<=14000000000000:=by omega
 have l7:l<=c:=by omega
 have l8:¬cap=d:=by omega
 have x1:(d:Int)<=(f:Int):=by omega
 have x2:(f:Int)<=(t:Int):=by omega
 have x3:(d:Int)<=(t:Int):=by omega
 have wX:IntKind.i64.wrap (l:Int)=(l:Int):=iQ (by omega) (by omega)
 have gl:=G.lt;rw[<-n] at az;have l9:¬f=t:=by omega
 have aF:¬cap=f:=by omega
 have n5:t-f=j:=by omega
 have i1:(d:Int)+(i:Int)=(l:Int):=by omega
 have i2:(l:Int)+(j:Int)=(c:Int):=by omega
 have x5:(l:Int)<=(c:Int):=by omega
 have x6:(d:Int)<=(c:Int):=by omega
 have n6:c-l=j:=by omega
 have wT:IntKind.i64.wrap (c:Int)=(c:Int):=iQ (by omega) (by omega)
 rw[<-r,<-n,<-q,<-R] at aD;rw[<-O,<-q] at aB;have lX:l<=f:=by omega
 have xX:(l:Int)<=(f:Int):=by omega
 have aG:c<=t:=by omega
 have aI:(c:Int)<=(t:Int):=by omega
 have aH:¬cap=l:=by omega
 have n7:c-d=i+j:=by omega
 obtain⟨nZ,hZ⟩:∃m:Nat,m=i+j:=⟨_,rfl⟩;rw[<-hZ] at n7;obtain⟨D,hD⟩:∃m:Nat,m=nM-i:=⟨_,rfl⟩;have n8:t-c=D:=by omega
 have HZ:=ix hZ;have HD:=ix hD;clear hZ hD;have FF:=ix (And.intro y (And.intro N (And.intro R (And.intro hX (And.intro r (And.intro O (And.intro n q)))))));have F2:=ix (And.intro s (And.intro C (And.intro v p)));have F3:=ix F;have F4:=ix G;have F5:=ix RA;have F6:=ix T;have F7:=ix aa;have F8:=ix K;have F9:=ix H;clear y N R hX r O n q s C v p F G RA T aa K H an ab aC Z ad h1 h2;go_enter func190,ntmps190;go_wp2_with fail
 go_quiet (fail)
 obtain⟨L,ac⟩:∃L,w.drewN nq=L:=⟨_,rfl⟩;have W:Below w.heap.size w L:=by rw[<-ac];exact ra _ _
 have s0:L.heap.size=w.heap.size:=by rw[<-ac];rfl
 rw[ac];obtain⟨y,N,R,hX,r,O,n,q⟩:=FF.o;obtain⟨s,C,v,p⟩:=F2.o;have F:=F3.o;have G:=F4.o.keep W;have RA:=F5.o.keep W;have T:=F6.o.keep W;have aa:=F7.o;have K:=F8.o.keep W;have H:=F9.o;have hZ:=HZ.o;have hD:=HD.o;have ab:rc V=[]\/∃b o,J=some ⟨b,o,none⟩/\Cs L b o (rc V):=T.vs.imp (λh=>by rw[h];rfl) id
 obtain⟨w1,aw,r1,b1⟩:=jH L 3 g nZ (cap-d) J i cv (rc A) (rc V) (rc M++(rc B++Y)) G (by rw[p,show Nat.min i nZ=i from ee (by omega)]) ab (by rw[af,C,p];omega) (kj V)
 rw[s] at aw;obtain⟨M1,E,ai,ak⟩:∃M1 E,rc M=M1++E/\M1.length=i*2:=⟨(rc M).take (i*2),(rc M).drop (i*2),(fM _ _).symm,by rw[dm,C];omega⟩
 have ae:E.length=D*2:=by have:=bf List.length ai;rw[af,C,ak] at this;omega
 have e1:(rc M++(rc B++Y)).drop (rc V).length=E++rc B++Y:=by rw[ai,p,<-ak,aR,List.drop_left' rfl,aR]
 rw[e1] at r1
 have am:Cs w1 g (f*2) (rc B):=by
  have:=r1.cs (P:=rc A++rc V++E) (X:=rc B) (Y:=Y) (by simp)
  rwa [af,af,s,p,ae,show d*2+i*2+D*2=f*2 by omega] at this
 obtain⟨U,ax,r2,b2⟩:=jH w1.drew 3 g j (cap-l) (some ⟨g,f*2,none⟩) j (cap-f) (rc A++rc V) (rc B) (E++rc B++Y) r1 (by rw[v,show Nat.min j j=j from Nat.min_self _]) (.inr ⟨g,f*2,rfl,am⟩) (by rw[af,af,ae,v];omega) (kj B)
 rw[af,s,p,show d*2+i*2=l*2 by omega] at ax
 have ly:((E++rc B++Y).drop (rc B).length).length=D*2+Y.length:=by rw[dv,af,af,ae,v];omega
 generalize (E++rc B++Y).drop (rc B).length=Y2 at *;obtain⟨w3,ay,r3,b3⟩:=rL U 0 g D (cap-c) (rc A++rc V++rc B) Y2 r2 (by rw[ly];omega)
 rw[af,af,s,p,v,show d*2+i*2+j*2=c*2 by omega] at ay
 have ag:But (λk=>k=g) w U:=((But.ofBelow (S:=λk=>k=g) W).trans b1 (λ_ _ h=>h)).trans ((But.drew (But.refl (λk=>k=g) w1)).trans b2 (λ_ _ h=>h)) (λ_ _ h=>h)
 have ar:∀w4,(w4=w3\/(w4=U/\D=0))->∃I au,Ending.returned (.slice (some ⟨g,0,none⟩) c cap)=.returned (.slice I c au)/\Vw w4 I au (A++V++B)/\New w (some ⟨g,0,none⟩) I/\But (InA (some ⟨g,0,none⟩)) w w4:=by
  rintro w4 (rfl|⟨rfl,ah⟩)
  . refine⟨_,cap,rfl,Vw.mk (Y:=rc (List.replicate D Rn.zero)++Y2.drop (D*2)) (by rw[iI,iI,<-aR];exact r3) ?_ (by unfold maxLen;omega) ?_,New.refl _ _,(ag.trans b3 (λ_ _ h=>h)).mono (λk _ h=>⟨_,rfl,h.symm⟩)⟩
    . rw[af,af,<-r,<-n,<-q];omega
    . rw[af,af,<-r,<-n,<-q,af,iA,dt,dv,ly];omega
  . refine⟨_,cap,rfl,Vw.mk (Y:=Y2) (by rw[iI,iI];exact r2) ?_ (by unfold maxLen;omega) ?_,New.refl _ _,ag.mono (λk _ h=>⟨_,rfl,h.symm⟩)⟩
    . rw[af,af,<-r,<-n,<-q];omega
    . rw[af,af,<-r,<-n,<-q,ly];omega
 have GG:=ix ar;have z0:cap=c->D=0:=λe=>by omega
 clear ar r3 b3 b2 b1 ly r2 r1 am ai ak ae e1 hZ hD HZ HD r O n q ab ag;clear y N R hX s C v p F G T RA aa H K ac FF F2 F3 F4 F5 F6 F7 F8 F9;by_cases ao:cap=c
 . have ah:=z0 ao;have G2:=ix (GG.o U (.inr ⟨rfl,ah⟩));clear z0 GG;subst ao;subst ah;rw[n7] at aw;rw[n6] at ax;have aJ:(Builtin.clear_ #[218] 0 #[.slice (some ⟨g,0,none⟩) 0 0]).run prog U=.ok (.tuple #[]) U:=by simp[Builtin.clear_,dU underlying218]
   clear ay;go_wp2;go_region
   all_goals
    go_wp2;go_ret;exact G2.o
 . have G2:=ix (GG.o w3 (.inl rfl));clear z0 GG;go_wp2;go_region
   all_goals
    go_wp2;go_ret;exact G2.o
set_option maxRecDepth 20000 in
theorem vH(w:World)(a:Option Addr)(cap:Nat)(A M B:List Rn)(W:Vw w a cap (A++M++B))(T:Option Addr)(cv:Nat)(V:List Rn)(N:Vw w T cv V)(O:∀x ag,a=some x->T=some ag->x.block≠ag.block)(E:A.length+M.length+B.length+V.length<=14000000000000)(aj:M≠[])(ap:0<B.length)(aw:A.length+V.length+B.length<=cap)(ar:M.length<V.length):
 Calls prog 190 #[.slice a ((A.length+M.length+B.length:Nat)) cap,.int .i64 ((A.length:Nat):Int),.int .i64 ((A.length+M.length:Nat):Int),.slice T V.length cv] w λe w'=>
  ∃H al,e=.returned (.slice H ((A.length+V.length+B.length:Nat)) al)/\Vw w' H al (A++V++B)/\New w a H/\But (InA a) w w':=by
 have ae:=W.len;rw[af,af] at ae;unfold maxLen at ae;obtain⟨ac,az⟩:=ae;have aq:0<M.length:=bY.2 aj;rcases W.cases with⟨_,_,h0⟩|⟨g,Y,rfl,p,h1,h2,C⟩
 . simp at h0;exact absurd h0.2.1 aj
 rw[af,af] at C;rw[iI,iI,aR,aR] at p;have F:=iA A;have G:=iA M;have q:=iA B;have t:=iA V;have ah:=N.vs;have ao:rc V=[]\/∃b o,T=some ⟨b,o,none⟩/\Cs w b o (rc V):=ah.imp (λh=>by rw[h];rfl) id
 have au:∀b o,T=some ⟨b,o,none⟩->b≠g:=λb o e e2=>O ⟨g,0,none⟩ ⟨b,o,none⟩ rfl e e2.symm
 have RA:Vw w (some ⟨g,0,none⟩) cap A:=by
  rw[aR] at W;rcases W.front with h|h
  . exact h
  . cases h
 have v:Cs w g ((A.length+M.length)*2) (rc B):=by
  have:=p.cs (P:=rc A++rc M) (X:=rc B) (Y:=Y) (by simp)
  rwa [af,F,G,<-gU] at this
 obtain⟨c,D⟩:∃m:Nat,m=A.length:=⟨_,rfl⟩;obtain⟨nM,K⟩:∃m:Nat,m=M.length:=⟨_,rfl⟩;obtain⟨f,s⟩:∃m:Nat,m=B.length:=⟨_,rfl⟩;obtain⟨d,n⟩:∃m:Nat,m=V.length:=⟨_,rfl⟩;rw[<-D] at F E ac C v ⊢;rw[<-K] at G E ac C aq v ⊢;rw[<-s] at q E ac C ⊢;rw[<-n] at t E ⊢;obtain⟨I,Z⟩:∃m:Nat,m=c+nM+f:=⟨_,rfl⟩;obtain⟨i,J⟩:∃m:Nat,m=c+nM:=⟨_,rfl⟩;obtain⟨l,L⟩:∃m:Nat,m=c+d+f:=⟨_,rfl⟩;obtain⟨j,hX⟩:∃m:Nat,m=c+d:=⟨_,rfl⟩;rw[<-J] at v;rw[<-Z,<-J,<-L];have l1:c<=i:=by omega
 have l2:i<=I:=by omega
 have l3:I<=cap:=by omega
 have l4:¬c=i:=by omega
 have l5:l<=14000000000000:=by omega
 have l6:I<=14000000000000:=by omega
 have l7:j<=l:=by omega
 have l8:¬cap=c:=by omega
 have x1:(c:Int)<=(i:Int):=by omega
 have x2:(i:Int)<=(I:Int):=by omega
 have x3:(c:Int)<=(I:Int):=by omega
 have wX:IntKind.i64.wrap (j:Int)=(j:Int):=iQ (by omega) (by omega)
 have gl:=p.lt;rw[<-s] at ap;have l9:¬i=I:=by omega
 have aB:¬cap=i:=by omega
 have n5:I-i=f:=by omega
 have i1:(c:Int)+(d:Int)=(j:Int):=by omega
 have i2:(j:Int)+(f:Int)=(l:Int):=by omega
 have x5:(j:Int)<=(l:Int):=by omega
 have x6:(c:Int)<=(l:Int):=by omega
 have n6:l-j=f:=by omega
 have wT:IntKind.i64.wrap (l:Int)=(l:Int):=iQ (by omega) (by omega)
 rw[<-D,<-s,<-n,<-L] at aw;rw[<-K,<-n] at ar;have lX:¬j<=i:=by omega
 have xX:¬(j:Int)<=(i:Int):=by omega
 have aC:¬cap=j:=by omega
 have n7:l-c=d+f:=by omega
 obtain⟨nZ,k⟩:∃m:Nat,m=d+f:=⟨_,rfl⟩;rw[<-k] at n7;have HZ:=ix k;clear k;have FF:=ix (And.intro Z (And.intro J (And.intro L (And.intro hX (And.intro D (And.intro K (And.intro s n)))))));have F2:=ix (And.intro F (And.intro G (And.intro q t)));have F3:=ix C;have F4:=ix p;have F5:=ix RA;have F6:=ix N;have F7:=ix O;have F8:=ix v;have F9:=ix E;clear Z J L hX D K s n F G q t C p RA N O v E ah ao au W ac h1 h2;go_enter func190,ntmps190;go_wp2_with fail
 go_quiet (fail)
 obtain⟨r,ab⟩:∃r,w.drewN nq=r:=⟨_,rfl⟩;have U:Below w.heap.size w r:=by rw[<-ab];exact ra _ _
 have s0:r.heap.size=w.heap.size:=by rw[<-ab];rfl
 rw[ab];obtain⟨Z,J,L,hX,D,K,s,n⟩:=FF.o;obtain⟨F,G,q,t⟩:=F2.o;have C:=F3.o;have p:=F4.o.keep U;have RA:=F5.o.keep U;have N:=F6.o.keep U;have O:=F7.o;have v:=F8.o.keep U;have E:=F9.o;have k:=HZ.o;have ak:V≠[]:=λe=>by rw[e] at n;simp at n;omega
 rcases N.cases with⟨_,_,h0⟩|⟨gv,Yv,rfl,hgv,v1,v2,v3⟩
 . exact absurd h0 ak
 have ai:g≠gv:=O _ _ rfl rfl;have cV:Cs r gv 0 (rc V):=hgv.cs (P:=[]) (X:=rc V) (Y:=Yv) (by simp)
 have aA:=λoh lb cb=>ph r g gv oh 0 lb cb d cv _ _ p hgv ai (by intro e;have:=bf List.length e;rw[af,t] at this;simp at this;omega)
 obtain⟨Q,R,hQ,y⟩:∃Q R,rc M++(rc B++Y)=Q++R/\Q.length=d*2:=⟨(rc M++(rc B++Y)).take (d*2),(rc M++(rc B++Y)).drop (d*2),(fM _ _).symm,by rw[dm,af,af,G,q];omega⟩
 have lR:d*2+R.length=nM*2+f*2+Y.length:=by have:=bf List.length hQ;rw[af,af,af,G,q,y] at this;omega
 rw[hQ,<-aR] at p;obtain⟨w1,ax,r1,b1⟩:=jH r.drew 3 g f (cap-j) (some ⟨g,i*2,none⟩) f (cap-i) (rc A++Q) (rc B) R p (by rw[q,show Nat.min f f=f from Nat.min_self _]) (.inr ⟨g,i*2,rfl,v⟩) (by rw[q];omega) (kj B)
 rw[af,F,y,show c*2+d*2=j*2 by omega] at ax
 have ad:But (λaa=>aa=g) r w1:=(But.drew (But.refl _ r)).trans b1 (λ_ _ h=>h)
 obtain⟨w2,ay,r2,b2⟩:=jH w1 3 g nZ (cap-c) (some ⟨gv,0,none⟩) d cv (rc A) (rc V) (Q++rc B++R.drop (rc B).length) (by rw[<-aR,<-aR];exact r1) (by rw[t,show Nat.min d nZ=d from ee (by omega)]) (.inr ⟨gv,0,rfl,cV.but ad (show ¬gv=g from λe=>ai e.symm)⟩) (by rw[af,af,y,t];omega) (kj V)
 rw[F] at ay
 have am:∀w4,w4=w2->∃H an,Ending.returned (.slice (some ⟨g,0,none⟩) l cap)=.returned (.slice H l an)/\Vw w4 H an (A++V++B)/\New w (some ⟨g,0,none⟩) H/\But (InA (some ⟨g,0,none⟩)) w w4:=by
  rintro w4 rfl;refine⟨_,cap,rfl,Vw.mk (Y:=R.drop (rc B).length) ?_ ?_ (by unfold maxLen;omega) ?_,New.refl _ _,(((But.ofBelow (S:=λaa=>aa=g) U).trans ad (λ_ _ h=>h)).trans b2 (λ_ _ h=>h)).mono (λaa _ h=>⟨_,rfl,h.symm⟩)⟩
  . have e:(Q++rc B++R.drop (rc B).length).drop (rc V).length=rc B++R.drop (rc B).length:=by
     rw[t,<-y,aR,List.drop_left' rfl]
    rw[e,<-aR] at r2;rw[iI,iI];exact r2
  . rw[af,af,<-D,<-s,<-n];omega
  . rw[af,af,<-D,<-s,<-n,dv,q];omega
 have GG:=ix (am w2 rfl);clear am b1 ad b2 r2 r1 hQ y lR cV hgv v1 v2 v3 ak k HZ D K s n;clear Z J L hX F G q t C p N RA O E v ab FF F2 F3 F4 F5 F6 F7 F8 F9;go_wp2_with fail
 go_region
 all_goals
  go_wp2;go_ret;exact GG.o
theorem wO(w:World)(a:Option Addr)(cap:Nat)(A M B:List Rn)(d:Vw w a cap (A++M++B))(b:Option Addr)(c:Nat)(V:List Rn)(f:Vw w b c V)(i:∀x y,a=some x->b=some y->x.block≠y.block)(g:A.length+M.length+B.length+V.length<=14000000000000):
 Calls prog 190 #[.slice a ((A.length+M.length+B.length:Nat)) cap,.int .i64 ((A.length:Nat):Int),.int .i64 ((A.length+M.length:Nat):Int),.slice b V.length c] w λe l=>
  ∃j n,e=.returned (.slice j ((A.length+V.length+B.length:Nat)) n)/\Vw l j n (A++V++B)/\New w a j/\But (InA a) w l:=by
 by_cases h:M=[]
 . subst h;rw[dr] at d;have:=wi w a cap A B d b c V f i (by simpa using g)
   rw[bg,dp];exact this
 . by_cases m:B.length=0
   . by_cases k:V.length<M.length
     . exact uG w a cap A M B d b c V f i g h m k
     . exact vY w a cap A M B d b c V f i g h m (by omega)
   . by_cases p:cap<A.length+V.length+B.length
     . exact vd w a cap A M B d b c V f i g h (by omega) p
     . by_cases k:V.length<=M.length
       . exact vk w a cap A M B d b c V f i g h (by omega) (by omega) k
       . exact vH w a cap A M B d b c V f i g h (by omega) (by omega) (by omega)
end Go.Proofs.YteaogidofpfmmaaGreat.Q
