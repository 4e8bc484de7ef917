import Derived.Test.YtbdkogimlbnlmaaGreatWlB2
import Derived.Lib.AppendZerosOnto
import Derived.Lib.Overlaps
import Derived.Deep.DeepAppendWide
set_option linter.all false
set_option maxHeartbeats 4000000
set_option maxRecDepth 10000
namespace Go.Proofs.YtbdkogimlbnlmaaGreat.Q
open Tryz
open Go.RowKit
variable {a:Option Addr}{w:World}
def InA(a:Option Addr)(k:Nat):Prop:=∃x,a=some x/\x.block=k
theorem DU{w:World}{o:Oper}{a:Act}{K:Act->World->Prop}{Q:Exit->Act->World->Prop}(d s:Operand)
 (A:o.op=.call {callee:=.builtin .copy,args:=#[d,s],argTypes:=#[169,169]}) (g off j m:Nat) (t:a.eval d=.slice (some ⟨g,off,none⟩) j m) (i:Option Addr) (l p:Nat) (C:a.eval s=.slice i l p)
 (P X Y:List Value) (D:off=P.length) (x:jD w g (P++Y)) (y:X.length=Nat.min l j*2) (r:X=[]\/∃b o,i=some ⟨b,o,none⟩/\Cs w b o X) (E:X.length<=Y.length) (f:∀v∈X,v.oneCell'=true)
 (h:∀n e,jD e g (P++X++Y.drop X.length)->But (λk=>k=g) w e->K (a.put o.dst (.int .i64 n)) e):o.wp prog a w K Q:=by
 subst D;obtain⟨e,B,f,q⟩:=jH w o.type g j m i l p P X Y x y r E f;unfold Oper.wp execOp;simp only[A,resolve,invoke,builtin,dE,dF,bT,cR,bL,dM,t,C,B];exact h _ e f q
theorem zo{w:World}{l:Array Oper}{o:Oper}{a:Act}{K:Act->World->Prop}{Q:Exit->Act->World->Prop}{E:Prop}(D:o.guard=none)(d s:Operand)
 (A:o.op=.call {callee:=.builtin .copy,args:=#[d,s],argTypes:=#[169,169]}) (g off i m:Nat) (t:a.eval d=.slice (some ⟨g,off,none⟩) i m) (e:Option Addr) (j p:Nat) (B:a.eval s=.slice e j p)
 (P X Y:List Value) (G:off=P.length) (x:jD w g (P++Y)) (y:X.length=Nat.min j i*2) (r:X=[]\/∃b o,e=some ⟨b,o,none⟩/\Cs w b o X) (H:X.length<=Y.length) (q:∀v∈X,v.oneCell'=true)
 (h:∀n f,jD f g (P++X++Y.drop X.length)->But (λk=>k=g) w f->K (a.put o.dst (.int .i64 n)) f):
 if Region.wanted o (yielded l a.tmps)=true then Oper.wp prog o a w K Q else E:=by
 have C:Region.wanted o (yielded l a.tmps)=true:=by simp[Region.wanted,D]
 rw[if_pos C];exact DU d s A g off i m t e j p B P X Y G x y r H q h
theorem qY{P:Program}(w:World)(t k:TypeId)(r:Nat)(e:TypeId)(i:TypeInfo)(z:Value)(size bytes:Nat)(p:P.underlying t=some (.slice e))(hi:P.info? e=some i)(y:i.zero=some z)
 (J:i.size=size) (G:i.bytes=bytes) (O:z.cells.size=size) (N:0<size) (v:Value) (n:Nat) (xs:List Value) (s:w.ownsRow r e size v n xs)
 (d:Addr) (m c:Nat) (b:List Value) (h:b.length=m*size) (x:∀j u,b[j]?=some u->w.cell? (d.add j)=some u) (B:∀u∈b,u.oneCell'=true)
 (L:0<m) (E:n+m<=maxLen) (A:((n+m)+(n+m)/4+192)*bytes<=281474976710656) (S:r<=w.heap.size) (H:Nat) (D:w.heap.size=H):
 ∃g cap f,(Builtin.append_ #[t,t] k #[v,.slice (some d) m c]).run P w=.ok (.slice (some ⟨g,0,none⟩) (n+m) cap) f/\
  f.ownsRow r e size (.slice (some ⟨g,0,none⟩) (n+m) cap) (n+m) (xs++b)/\w.grownBy f v.ownBlock/\(v.ownBlock=some g\/g=H)/\g<f.heap.size:=by
 obtain⟨T,f,l,C,K,_⟩:=run_append_own_wide (P:=P) w r t k e i z size bytes p hi y J G O N v n xs s d m c b h x B E A S;obtain⟨g,cap,rfl,_,M⟩:=C.form (by omega)
 refine⟨g,cap,f,l,C,K,?_,M⟩;subst J G;have U:n+m<=9223372036854775807:=by simp only[maxLen] at E;omega
 rcases s.2 with⟨rfl,rfl⟩|⟨g0,cap0,cur,rfl,_,hg,hnc,_,hcs,htake⟩
 . have q:=run_append_nil (P:=P) w t k e i z p hi y d m c b h x L (by omega) (aO (dT _ (by omega)) A)
   rw[l] at q;simp only[gh,bM,aE,Addr.mk.injEq] at q;exact .inr (q.1.1.1.trans D)
 . by_cases I:n+m<=cap0
   . have R:n*i.size+b.length<=cur.size:=by rw[h,hcs,<-ip];exact dT _ I
     have q:=run_append_room (P:=P) w t k e i p hi g0 n cap0 cur hg d m c b h x B I R;rw[l] at q;simp only[gh,bM,aE,Addr.mk.injEq] at q;exact .inl (a7 some q.1.1.1.symm)
   . have q:=run_append_grow (P:=P) w t k e i z p hi y ⟨g0,0,none⟩ n cap0 xs s.1 (s.cells (g:=g0) rfl) d m c b h x (by omega) (by omega) (growslice_fits_wide (by omega) A)
     rw[l] at q;simp only[gh,bM,aE,Addr.mk.injEq] at q;exact .inr (q.1.1.1.trans D)
theorem mw(w:World)(q:TypeId)(a:Option Addr)(n cap:Nat)(L:List Rn)(A:n=L.length)(s:Vw w a cap L)(i:Option Addr)(m c:Nat)(V:List Rn)(x:m=V.length)(h:Vs w i V)(k:V≠[])(K:L.length+V.length<=14000000000000):
 ∃g f d,(Builtin.append_ #[169,169] q #[.slice a n cap,.slice i m c]).run prog w=.ok (.slice (some ⟨g,0,none⟩) (n+m) f) d/\
  Vw d (some ⟨g,0,none⟩) f (L++V)/\New w a (some ⟨g,0,none⟩)/\w.grownBy d (a.map Addr.block):=by
 subst A x;obtain⟨E,v,G,H,I⟩:=dr nG;rcases h with h|⟨b,o,rfl,t⟩
 . exact absurd h k
 obtain⟨g,f,d,B,r,l,h3,J⟩:=qY (P:=prog) w 169 q 0 171 E (.agg (rcs Rn.zero)) 2 16 underlying169 v G H I rfl (by decide) (.slice a L.length cap) L.length (rc L) s ⟨b,o,none⟩ V.length c (rc V) (iN V)
  (λj u C=>by rw[Addr.add_mid];exact t j u C) (jW V) (bR.2 k) (by unfold maxLen;omega) (by omega) (az _) w.heap.size rfl
 rw[kA] at l h3;refine⟨g,f,d,B,?_,?_,l⟩
 . unfold Vw;rw[iV,ae];exact r
 . intro y p;simp only[aE] at p;subst p;rcases h3 with h3|h3
   . obtain⟨z,D,e⟩:=map_some h3;exact .inl ⟨z,D,e⟩
   . exact .inr (by show _<=g;omega)
theorem Gv{w:World}{o:Oper}{a:Act}{K:Act->World->Prop}{Q:Exit->Act->World->Prop}(s x:Operand)
 (v:o.op=.call {callee:=.builtin .append,args:=#[s,x],argTypes:=#[169,169]}) (b:Option Addr) (n cap:Nat) (L:List Rn) (A:a.eval s=.slice b n cap) (t:n=L.length) (p:Vw w b cap L)
 (f:Option Addr) (m c:Nat) (V:List Rn) (B:a.eval x=.slice f m c) (r:m=V.length) (q:Vs w f V) (i:V≠[]) (C:L.length+V.length<=14000000000000)
 (h:∀g e d,Vw d (some ⟨g,0,none⟩) e (L++V)->New w b (some ⟨g,0,none⟩)->w.grownBy d (b.map Addr.block)->K (a.put o.dst (.slice (some ⟨g,0,none⟩) (n+m) e)) d):o.wp prog a w K Q:=by
 obtain⟨g,e,d,y,j,k,l⟩:=mw w o.type b n cap L t p f m c V r q i C;unfold Oper.wp execOp;simp only[v,resolve,invoke,builtin,dE,dF,bT,cR,bL,dM,A,B,y];exact h g e d j k l
theorem zC{w:World}{i:Array Oper}{j:List Oper}{o:Oper}{a:Act}{Q:Exit->Act->World->Prop}(E:o.guard=none)(s x:Operand)
 (B:o.op=.call {callee:=.builtin .append,args:=#[s,x],argTypes:=#[169,169]}) (b:Option Addr) (n cap:Nat) (L:List Rn) (C:a.eval s=.slice b n cap) (A:n=L.length) (t:Vw w b cap L)
 (f:Option Addr) (m c:Nat) (V:List Rn) (D:a.eval x=.slice f m c) (y:m=V.length) (v:Vs w f V) (k:V≠[]) (G:L.length+V.length<=14000000000000)
 (h:∀g e d,Vw d (some ⟨g,0,none⟩) e (L++V)->New w b (some ⟨g,0,none⟩)->w.grownBy d (b.map Addr.block)->wpList prog i Q j (a.put o.dst (.slice (some ⟨g,0,none⟩) (n+m) e)) d):wpList prog i Q (o::j) a w:=
 e7 E λ_ r=>Gv s x B b n cap L C A t f m c V D y v k G λg e d l p q=>r _ _ (h g e d l p q)
theorem uJ(w:World)(C:TypeId)(g cap n:Nat)(P X Y:List Value)(d:Option Addr)(m c:Nat)(s:P.length=n*2)(f:jD w g (P++Y))(h:X.length=m*2)(t:X=[]\/∃b o,d=some ⟨b,o,none⟩/\Cs w b o X)(J:X.length<=Y.length)(r:∀v∈X,v.oneCell'=true)(E:n+m<=cap):
 ∃e,(Builtin.append_ #[169,169] C #[.slice (some ⟨g,0,none⟩) n cap,.slice d m c]).run prog w=.ok (.slice (some ⟨g,0,none⟩) (n+m) cap) e/\jD e g (P++X++Y.drop X.length)/\But (λk=>k=g) w e:=by
 have i:=il prog g P.length 171 X 0 (P++Y).toArray w f (by simp;omega) r
 have l:((P++Y).toArray.toList.take (P.length+0)++X++(P++Y).toArray.toList.drop (P.length+0+X.length))=P++X++Y.drop X.length:=by
  rw[fW,bY,ft rfl,List.drop_append,du (by omega),fE]
  simp
 rw[l,s] at i;refine⟨_,?_,dc w g _ _ _ _ f,jg w g _⟩;obtain⟨G,y,H,D,I⟩:=dr nG
 have A:(Builtin.firstCells 2 m (.slice d m c)).run prog w=.ok X.toArray w:=by
  rcases t with rfl|⟨b,o,rfl,x⟩
  . have q:m=0:=by simp at h;omega
    cases d with
    |none=>rfl
    |some z=>simp[Builtin.firstCells,q,loadCells,loadCellsFrom]
  . have:=run_loadCells_list (P:=prog) w ⟨b,o,none⟩ X (λj v B=>by rw[Addr.add_mid];exact x j v B)
    show(loadCells ⟨b,o,none⟩ (m*2)).run prog w=_;rw[<-h];exact this
 have p:(⟨g,0,none⟩:Addr).add (n*2)=⟨g,n*2,none⟩:=by rw[Addr.add_mid,bN]
 simp[Builtin.append_,dt underlying169,sizeOf,typeInfo,y,D,Builtin.lenOf,A,E,p,i]
theorem s7(w:World)(i:TypeId)(a:Option Addr)(n cap:Nat)(L:List Rn)(B:n=L.length)(s:Vs w a L)(m:Nat)(r:0<m)(v:cap<L.length+m)(I:L.length+m<=14000000000000):
 ∃q f,(Builtin.append_ #[169,3] i #[.slice a n cap,.int .i64 (m:Int)]).run prog w=.ok (.slice (some ⟨w.heap.size,0,none⟩) (n+m) q) f/\
  Vw f (some ⟨w.heap.size,0,none⟩) q (L++List.replicate m Rn.zero)/\Below w.heap.size w f:=by
 subst B;obtain⟨h,x,D,E,p⟩:=dr nG
 have G:(Builtin.firstCells h.size L.length (.slice a L.length cap)).run prog w.drew=.ok (rc L).toArray w.drew:=by
  rw[E];rcases s with rfl|⟨b,o,rfl,t⟩
  . cases a with
    |none=>rfl
    |some z=>simp[Builtin.firstCells,loadCells,loadCellsFrom,rc]
  . exact run_firstCells_some w.drew 2 L.length _ L.length cap (rc L) (iN L) (λj u y=>by rw[Addr.add_mid];exact t j u y)
 have l:∀k,Builtin.zeroCells (Value.agg (rcs Rn.zero)).cells k=(rc (List.replicate k Rn.zero)).toArray:=λk=>by
  rw[<-pm k,iz];rfl
 have g:=Lib.run_append_grow_zeros (P:=prog) w 169 3 i 171 h (.agg (rcs Rn.zero)) .i64 .i64 underlying169 underlying3 x D a L.length cap (rc L) G m r (by omega) v (by omega) (by rw[p];omega) (growslice_fits_wide (by omega) (by rw[p];omega))
 rw[l,l] at g;have H:=grownCap_ge w (L.length+m) cap 171;have C:=grownCap_le_maxLen w (L.length+m) cap 171 (by unfold maxLen;omega)
 generalize grownCap w (L.length+m) cap 171=d at *;refine⟨d,_,g,Vw.mk (Y:=rc (List.replicate (d-(L.length+m)) Rn.zero)) ?_ (by simp;omega) C (by rw[iN];simp;omega),⟨rfl,rfl,rfl,by simp,λk A=>ie w.drew _ A⟩⟩
 have e:(rc (L++List.replicate m Rn.zero)++rc (List.replicate (d-(L.length+m)) Rn.zero)).toArray=(rc L).toArray++(rc (List.replicate m Rn.zero)).toArray++(rc (List.replicate (d-(L.length+m)) Rn.zero)).toArray:=by
  rw[iV];simp
 unfold jD;rw[e];exact aH w.drew _
theorem zv{w:World}{f:Array Oper}{g:List Oper}{o:Oper}{a:Act}{Q:Exit->Act->World->Prop}(B:o.guard=none)(s x:Operand)
 (t:o.op=.call {callee:=.builtin .append,args:=#[s,x],argTypes:=#[169,3]}) (e:Option Addr) (n cap:Nat) (y:a.eval s=.slice e n cap) (m:Nat) (A:a.eval x=.int .i64 (m:Int))
 (L:List Rn) (r:n=L.length) (p:Vs w e L) (i:0<m) (q:cap<L.length+m) (C:L.length+m<=14000000000000)
 (h:∀d b,Vw b (some ⟨w.heap.size,0,none⟩) d (L++List.replicate m Rn.zero)->Below w.heap.size w b->wpList prog f Q g (a.put o.dst (.slice (some ⟨w.heap.size,0,none⟩) (n+m) d)) b):wpList prog f Q (o::g) a w:=by
 obtain⟨d,b,v,j,k⟩:=s7 w o.type e n cap L r p m i q C;refine e7 B λ_ l=>?_
 unfold Oper.wp execOp;simp only[t,resolve,invoke,builtin,dE,dF,bT,cR,bL,dM,y,A,v];exact l _ _ (h d b j k)
theorem pQ(w:World)(g h i j f ca lb d:Nat)(P Q:List Value)(b:jD w g P)(l:jD w h Q)(m:g≠h)(k:Q≠[]):
 (callFunc 196 #[.slice (some ⟨g,i,none⟩) f ca,.slice (some ⟨h,j,none⟩) lb d]).run prog w=.ok (.value (.bool false)) w:=by
 rw[run_callFunc_extern func196 (by kernel_rfl) (by kernel_rfl) (by kernel_rfl) (e:=Extern.SlicesOverlaps.overlaps #[169,169] #[4]) (by kernel_rfl)]
 have:=Lib.run_overlaps_apart (P:=prog) w 169 4 171 underlying169 2 sizeOf171 ⟨g,i,none⟩ ⟨h,j,none⟩ f ca lb d m 171 171 P.length Q.length
  (by simp[World.shape?,show w.heap[g]?=_ from b]) (by simp[World.shape?,show w.heap[h]?=_ from l]) (λe=>k (co.1 e)) (bG _ _ _ _ _ b) (bG _ _ _ _ _ b)
 rw[this];rfl
theorem iT{x:Int}(h: -9223372036854775808<=x)(b:x<=9223372036854775807):IntKind.i64.wrap x=x:=by rw[IntKind.wrap_i64];omega
theorem Vw.front{cap:Nat}{L M:List Rn}(h:Vw w a cap (L++M)):Vw w a cap L\/a=none:=by
 rcases h.cases with⟨rfl,rfl,hn⟩|⟨g,Y,rfl,hg,h1,h2,h3⟩
 . exact .inr rfl
 . rw[iV,aU] at hg;rw[ae] at h1 h3;exact .inl (Vw.mk hg (by omega) h2 (by rw[ae,iN];omega))
theorem _root_.Go.Proofs.YtbdkogimlbnlmaaGreat.But.inA{b:World}(d:w.grownBy b (a.map Addr.block)):But (InA a) w b:=(But.refl _ _).grown d λ_ e _=>map_some e
theorem yH(w:World)(a:Option Addr)(cap:Nat)(A B:List Rn)(v:Vw w a cap (A++B))(W:Option Addr)(G:Nat)(V:List Rn)(hV:Vw w W G V)(aB:∀x am,a=some x->W=some am->x.block≠am.block)(hl:A.length+B.length+V.length<=14000000000000):
 Calls prog 195 #[.slice a ((A.length+B.length:Nat)) cap,.int .i64 ((A.length:Nat):Int),.slice W V.length G] w λe w'=>
  ∃a' r,e=.returned (.slice a' ((A.length+V.length+B.length:Nat)) r)/\Vw w' a' r (A++V++B)/\New w a a'/\But (InA a) w w':=by
 have aj:=v.len;rw[ae] at aj;unfold maxLen at aj;obtain⟨aa,aN⟩:=aj;have af:=iJ v;have ao:=iJ hV;by_cases ab:V=[]
 . subst ab;have ax:=iJ v;clear v hV;rw[bj];obtain⟨b,l⟩:∃b:Nat,b=A.length:=⟨_,rfl⟩;obtain⟨n,hn⟩:∃n:Nat,n=A.length+B.length:=⟨_,rfl⟩;have aM:b<=n:=by omega
   rw[<-hn,<-l,show b+0+B.length=n by omega]
   rw[<-hn] at aa;clear l hn;by_cases ap:cap=b
   all_goals
    go_enter func195,ntmps195;go_wp2;go_ret;exact⟨a,cap,rfl,by rw[cU];exact ax.o,New.refl _ _,But.refl _ _⟩
 . have al:0<V.length:=bR.2 ab;obtain⟨d,D⟩:∃d:Nat,d=V.length:=⟨_,rfl⟩;by_cases ag:B=[]
   . subst ag;rw[cU] at v;rw[bj,bY,bY] at *;obtain⟨b,l⟩:∃b:Nat,b=A.length:=⟨_,rfl⟩;rw[<-l,<-D];rw[<-l] at aa;have hp:0<d:=by omega
     have aO:b+d<=14000000000000:=by omega
     have i:=iJ l;have E:=iJ D;have aW:=iJ al;have aA:=iJ hl;clear l D al hl v hV;by_cases ap:cap=b
     all_goals
      go_enter func195,ntmps195;go_wp2_with (at_builtin;refine zC rfl _ _ rfl a b cap A (by simp[Act.eval]) i.o (by have:=af.o;rwa [cU] at this) W d G V (by simp[Act.eval]) E.o ao.o.vs ab aA.o ?_;intro g r w' h1 h2 I)
      go_ret;exact⟨_,r,rfl,by rw[cU];exact h1,h2,But.inA I⟩
   . have ay:0<B.length:=bR.2 ag;obtain⟨b,l⟩:∃b:Nat,b=A.length:=⟨_,rfl⟩;obtain⟨f,N⟩:∃f:Nat,f=B.length:=⟨_,rfl⟩;rw[<-l,<-N,<-D];rw[<-l,<-N] at aa hl;rw[<-D] at hl al;rw[<-N] at ay;have i:=iJ l;have L:=iJ N;have E:=iJ D;clear l N D v hV;rcases af.o.cases with⟨_,_,h0⟩|⟨g,Y,rfl,hg,h1,h2,I⟩
     . simp at h0;exact absurd h0.2 ag
     rcases ao.o.cases with⟨_,_,h0⟩|⟨gv,Yv,rfl,hgv,v1,v2,v3⟩
     . exact absurd h0 ab
     have aq:g≠gv:=aB _ _ rfl rfl;have ap:¬cap=b:=by omega
     rw[iV,aU] at hg;rw[ae,<-i.o,<-L.o] at I;have Z:Cs w g (b*2) (rc B):=by have:=hg.cs (P:=rc A) (X:=rc B) (Y:=Y) (by simp);rwa [iN,<-i.o] at this
     have y:Cs w gv 0 (rc V):=hgv.cs (P:=[]) (X:=rc V) (Y:=Yv) (by simp)
     have S:(rc A).length=b*2:=by rw[iN,<-i.o]
     have J:(rc B).length=f*2:=by rw[iN,<-L.o]
     have lV:(rc V).length=d*2:=by rw[iN,<-E.o]
     obtain⟨K,O⟩:∃m:Nat,m=b+f:=⟨_,rfl⟩;obtain⟨j,hT⟩:∃m:Nat,m=b+f+d:=⟨_,rfl⟩;obtain⟨p,hX⟩:∃m:Nat,m=b+d:=⟨_,rfl⟩;rw[<-O,show b+d+f=j by omega]
     rw[<-O] at aa;have i1:(K:Int)+(d:Int)=(j:Int):=by omega
     have i2:(b:Int)+(d:Int)=(p:Int):=by omega
     have n1:j-p=f:=by omega
     have n2:j-b=f+d:=by omega
     have n3:K-b=f:=by omega
     have l1:b<=K:=by omega
     have l2:p<=j:=by omega
     have l3:b<=j:=by omega
     have l4:¬b=K:=by omega
     have l5:j<=14000000000000:=by omega
     have l6:K<=14000000000000:=by omega
     have l7:¬d=0:=by omega
     have wX:IntKind.i64.wrap (p:Int)=(p:Int):=iT (by omega) (by omega)
     have x1:(p:Int)<=(j:Int):=by omega
     have x2:(b:Int)<=(j:Int):=by omega
     have x3:(b:Int)<=(K:Int):=by omega
     have q1:=iJ O;have q2:=iJ hT;have q3:=iJ hX;by_cases aH:j<=cap
     . obtain⟨Q,R,hQ,lQ⟩:∃Q R,rc B++Y=Q++R/\Q.length=d*2:=⟨(rc B++Y).take (d*2),(rc B++Y).drop (d*2),(cZ _ _).symm,by rw[bi,ae,J];omega⟩
       have lR:d*2+R.length=f*2+Y.length:=by have:=a7 List.length hQ;rw[ae,ae,J,lQ] at this;omega
       rw[hQ,<-aU] at hg;have aP:=λoh lb cb=>pQ w gv g 0 oh d G lb cb _ _ hgv hg (λe=>aq e.symm) (by intro e;have:=a7 List.length e;rw[ae,ae,S,lQ] at this;simp at this;omega)
       have az:=iJ hg;have ac:=iJ Z;have ad:=iJ y;have aR:¬cap=p:=by omega
       have q4:=iJ lR;have q5:=iJ lQ;have T:=iJ S;have C:=iJ J;have s:=iJ lV;have q9:=iJ I;clear hg Z y hQ O hT hX lR lQ S J lV I h1 h2 v1 v2 v3;go_enter func195,ntmps195;go_wp2_with fail
       go_region_law (first|(refine zo rfl _ _ rfl g (p*2) f (cap-p) (by simp[Act.eval,Act.put]) (some ⟨g,b*2,none⟩) (f+d) (cap-b) (by simp[Act.eval,Act.put]) (rc A++Q) (rc B) R (by rw[ae,T.o,q5.o,q3.o];omega) az.o (by rw[C.o,show Nat.min (f+d) f=f from Nat.min_eq_right (by omega)]) (.inr ⟨g,b*2,rfl,ac.o⟩) (by have:=q4.o;have:=q9.o;have:=q2.o;rw[C.o];omega) (jW B) ?_;intro aQ U r1 b0))
       have b1:But (λk=>k=g) w U:=(But.drew (But.refl _ w)).trans b0 (λ_ _ h=>h)
       clear b0;have aC:=iJ (show jD U g (rc A++(Q++rc B++R.drop (rc B).length)) by rw[<-aU,<-aU];exact r1)
       have aw:=iJ (ad.o.but b1 (show ¬gv=g from λe=>aq e.symm))
       clear r1;obtain⟨w2,aG,t,M⟩:=jH U 3 g (f+d) (cap-b) (some ⟨gv,0,none⟩) d G (rc A) (rc V) (Q++rc B++R.drop (rc B).length) aC.o (by rw[s.o,show Nat.min d (f+d)=d from dq (by omega)]) (.inr ⟨gv,0,rfl,aw.o⟩) (by rw[ae,ae,q5.o,s.o];omega) (jW V)
       rw[T.o] at aG;have aD:=iJ t;clear t;go_wp2;go_ret;have t:=aD.o;refine⟨_,cap,rfl,Vw.mk (Y:=R.drop (rc B).length) ?_ ?_ (by unfold maxLen;omega) ?_,New.refl _ _,?_⟩
       . rw[iV,iV]
         have e:(Q++rc B++R.drop (rc B).length).drop (rc V).length=rc B++R.drop (rc B).length:=by
          rw[s.o,<-q5.o,aU,iD rfl]
         rw[e,<-aU] at t;exact t
       . rw[ae,ae,<-i.o,<-L.o,<-E.o];have:=q2.o;omega
       . rw[ae,ae,<-i.o,<-L.o,<-E.o,dv,C.o];have:=q2.o;have:=q4.o;have:=q9.o;omega
       . exact(b1.trans M (λ_ _ h=>h)).mono (λk _ h=>⟨_,rfl,h.symm⟩)
     . have hA0:=iJ (show Vs w (some ⟨g,0,none⟩) A by
        rcases af.o.front with h|h
        . exact h.vs
        . cases h)
       have ac:=iJ Z;have ad:=iJ y;have T:=iJ S;have C:=iJ J;have s:=iJ lV;have gl:=hg.lt;have aL:=hgv.lt;have i3:(j:Int)-(b:Int)=((f+d:Nat):Int):=by omega
       obtain⟨q,hZ⟩:∃m:Nat,m=f+d:=⟨_,rfl⟩;rw[<-hZ] at i3 n2;have zA:b+q=j:=by omega
       have zp:0<q:=by omega
       have z9:q<=14000000000000:=by omega
       have qZ:=iJ hZ;have aK:cap<j:=by omega
       clear Z y O hT hX S J lV I h1 h2 v1 v2 v3 hg hgv hZ aH;obtain⟨r,U,au,ak,ah⟩:=s7 w 169 (some ⟨g,0,none⟩) b cap A i.o hA0.o q zp (by rw[<-i.o,zA];exact aK) (by rw[<-i.o,zA];exact l5)
       rw[zA] at au;have ar:=ak.len;rw[ae,bh,<-i.o,zA] at ar;obtain⟨aV,aF⟩:=ar;unfold maxLen at aF;have aS:¬r=b:=by omega
       have aT:¬r=p:=by omega
       rcases ak.cases with⟨h0,_⟩|⟨H,Y1,h0,hg1,y1,y2,y3⟩
       . cases h0
       simp only[aE,Addr.mk.injEq,eH] at h0;subst h0;rw[iV,aU] at hg1;have lZ:(rc (List.replicate q Rn.zero)).length=q*2:=by rw[iN,bh]
       obtain⟨w2,aI,t,M⟩:=jH U 3 w.heap.size q (r-b) (some ⟨gv,0,none⟩) d G (rc A) (rc V) (rc (List.replicate q Rn.zero)++Y1) hg1 (by rw[s.o,show Nat.min d q=d from dq (by have:=qZ.o;omega)]) (.inr ⟨gv,0,rfl,ad.o.keep ah⟩) (by have:=qZ.o;rw[ae,lZ,s.o];omega) (jW V)
       rw[T.o] at aI;have an:Cs w2 g (b*2) (rc B):=(ac.o.keep ah).but M (show ¬g=w.heap.size by omega)
       have ly:((rc (List.replicate q Rn.zero)++Y1).drop (rc V).length).length=f*2+Y1.length:=by have:=qZ.o;rw[dv,ae,lZ,s.o];omega
       generalize (rc (List.replicate q Rn.zero)++Y1).drop (rc V).length=Y2 at *;obtain⟨w3,aJ,r3,b3⟩:=jH w2.drew 3 w.heap.size f (r-p) (some ⟨g,b*2,none⟩) f (cap-b) (rc A++rc V) (rc B) Y2 t (by rw[C.o,show Nat.min f f=f from iE _]) (.inr ⟨g,b*2,rfl,an⟩) (by rw[ly,C.o];omega) (jW B)
       rw[ae,T.o,s.o,show b*2+d*2=p*2 by have:=q3.o;omega] at aJ
       have R3:=iJ r3;have B3:=iJ b3;have B2:=iJ M;have LY:=iJ ly;have Y3:=iJ y3;clear r3 b3 M ly y3 t an ak hg1 lZ;go_enter func195,ntmps195;go_wp2_with (at_builtin;refine Lib.wpList_append_run _ rfl _ _ _ _ rfl _ _ rfl rfl _ _ au ?_)
       go_region
       all_goals
        go_wp2;go_ret;refine⟨_,r,rfl,Vw.mk (Y:=Y2.drop (rc B).length) (by rw[iV,iV];exact R3.o) ?_ (by unfold maxLen;omega) ?_,λz hz=>.inr (by cases hz;exact ai _),?_⟩
        . rw[ae,ae,<-i.o,<-L.o,<-E.o];have:=q2.o;omega
        . rw[ae,ae,<-i.o,<-L.o,<-E.o,dv,C.o,LY.o];have:=Y3.o;rw[ae,bh,<-i.o] at this;have:=qZ.o;omega
        . exact((But.ofBelow ah).trans B2.o (λk hk e=>by omega)).trans ((But.drew (But.refl (λk=>k=w.heap.size) w2)).trans B3.o (λ_ _ h=>h)) (λk hk e=>by omega)
set_option maxRecDepth 20000 in
theorem wv(w:World)(a:Option Addr)(cap:Nat)(A B:List Rn)(k:Vw w a cap (A++B))(f:Option Addr)(g:Nat)(V:List Rn)(p:Vw w f g V)(s:∀x y,a=some x->f=some y->x.block≠y.block)(q:A.length+B.length+V.length<=14000000000000):
 Calls prog 178 #[.slice a ((A.length+B.length:Nat)) cap,.int .i64 ((A.length:Nat):Int),.int .i64 ((A.length:Nat):Int),.slice f V.length g] w λe r=>
  ∃b d,e=.returned (.slice b ((A.length+V.length+B.length:Nat)) d)/\Vw r b d (A++V++B)/\New w a b/\But (InA a) w r:=by
 have l:=k.len;rw[ae] at l;unfold maxLen at l;obtain⟨E,L⟩:=l;have C:=iJ (yH w a cap A B k f g V p s q);obtain⟨v,n⟩:∃m:Nat,m=A.length+B.length:=⟨_,rfl⟩;have H:A.length<=v:=by omega
 have I:A.length<=cap:=by omega
 rw[<-n] at C ⊢;generalize A.length+V.length+B.length=J at *;generalize A.length=t at *;generalize V.length=K at *;clear n q k p E s;by_cases G:cap=t
 . subst G;go_enter func178,ntmps178;go_wp2_with fail
   refine C.o.mono ?_;rintro e D ⟨b,d,rfl,h,i,j⟩;go_wp2;go_ret;exact⟨b,d,rfl,h,i,j⟩
 . skip
   go_enter func178,ntmps178;go_wp2_with fail
   refine C.o.mono ?_;rintro e D ⟨b,d,rfl,h,i,j⟩;go_wp2;go_ret;exact⟨b,d,rfl,h,i,j⟩
set_option maxRecDepth 20000 in
theorem uW(w:World)(a:Option Addr)(cap:Nat)(A M B:List Rn)(s:Vw w a cap (A++M++B))(n:Option Addr)(N:Nat)(V:List Rn)(hV:Vw w n N V)(af:∀x y,a=some x->n=some y->x.block≠y.block)(t:A.length+M.length+B.length+V.length<=14000000000000)(ad:M≠[])(ai:B.length=0)(ak:V.length<M.length):
 Calls prog 178 #[.slice a ((A.length+M.length+B.length:Nat)) cap,.int .i64 ((A.length:Nat):Int),.int .i64 ((A.length+M.length:Nat):Int),.slice n V.length N] w λe w'=>
  ∃j E,e=.returned (.slice j ((A.length+V.length+B.length:Nat)) E)/\Vw w' j E (A++V++B)/\New w a j/\But (InA a) w w':=by
 have U:=s.len;rw[ae,ae] at U;unfold maxLen at U;obtain⟨L,ao⟩:=U;have aj:0<M.length:=bR.2 ad;rcases s.cases with⟨_,_,h0⟩|⟨g,Y,rfl,hg,h1,h2,h3⟩
 . simp at h0;exact absurd h0.2.1 ad
 rw[ae,ae] at h3;rw[iV,iV,aU,aU] at hg;have v:=iN A;have C:=iN M;have S:=iN B;have p:=iN V;have ac:=hV.vs;have ab:rc V=[]\/∃b o,n=some ⟨b,o,none⟩/\Cs w b o (rc V):=ac.imp (λh=>by rw[h];rfl) id
 have al:∀b o,n=some ⟨b,o,none⟩->b≠g:=λb o e e2=>af ⟨g,0,none⟩ ⟨b,o,none⟩ rfl e e2.symm
 have RA:Vw w (some ⟨g,0,none⟩) cap A:=by
  rw[aU] at s;rcases s.front with h|h
  . exact h
  . cases h
 have G:Cs w g ((A.length+M.length)*2) (rc B):=by
  have:=hg.cs (P:=rc A++rc M) (X:=rc B) (Y:=Y) (by simp)
  rwa [ae,v,C,<-ip] at this
 obtain⟨d,H⟩:∃m:Nat,m=A.length:=⟨_,rfl⟩;obtain⟨J,R⟩:∃m:Nat,m=M.length:=⟨_,rfl⟩;obtain⟨nB,r⟩:∃m:Nat,m=B.length:=⟨_,rfl⟩;obtain⟨l,D⟩:∃m:Nat,m=V.length:=⟨_,rfl⟩;rw[<-H] at v t L h3 G ⊢;rw[<-R] at C t L h3 aj G ⊢;rw[<-r] at S t L h3 ⊢;rw[<-D] at p t ⊢;obtain⟨q,hS⟩:∃m:Nat,m=d+J+nB:=⟨_,rfl⟩;obtain⟨i,O⟩:∃m:Nat,m=d+J:=⟨_,rfl⟩;obtain⟨f,hT⟩:∃m:Nat,m=d+l+nB:=⟨_,rfl⟩;obtain⟨K,hX⟩:∃m:Nat,m=d+l:=⟨_,rfl⟩;rw[<-O] at G;rw[<-hS,<-O,<-hT];have l1:d<=i:=by omega
 have l2:i<=q:=by omega
 have l3:q<=cap:=by omega
 have l4:¬d=i:=by omega
 have l5:f<=14000000000000:=by omega
 have l6:q<=14000000000000:=by omega
 have l7:K<=f:=by omega
 have l8:¬cap=d:=by omega
 have x1:(d:Int)<=(i:Int):=by omega
 have x2:(i:Int)<=(q:Int):=by omega
 have x3:(d:Int)<=(q:Int):=by omega
 have wX:IntKind.i64.wrap (K:Int)=(K:Int):=iT (by omega) (by omega)
 have gl:=hg.lt;rw[<-r] at ai;rw[<-R,<-D] at ak;obtain rfl:i=q:=by omega
 obtain rfl:f=K:=by omega
 obtain⟨w1,ah,r1,Z⟩:=uJ w 169 g cap d (rc A) (rc V) (rc M++(rc B++Y)) n l N v hg p ab (by rw[ae,p,C];omega) (jW V) (by omega)
 have e0:d+l=f:=by omega
 rw[e0] at ah;have T:((rc M++(rc B++Y)).drop (rc V).length).length=(J-l)*2+Y.length:=by rw[dv,ae,ae,p,C,S];omega
 generalize (rc M++(rc B++Y)).drop (rc V).length=W at *;obtain⟨I,hD⟩:∃m:Nat,m=J-l:=⟨_,rfl⟩;obtain⟨w2,am,r2,k⟩:=r9 w1 0 g I (cap-f) (rc A++rc V) W r1 (by rw[T];omega)
 rw[ae,v,p,show d*2+l*2=f*2 by omega] at am
 have n1:i-f=I:=by omega
 have l9:f<i:=by omega
 have ap:¬cap=f:=by omega
 have x4:(f:Int)<=(i:Int):=by omega
 have aa:B=[]:=co.1 (by omega)
 have ag:∃j E,Ending.returned (.slice (some ⟨g,0,none⟩) f cap)=.returned (.slice j f E)/\Vw w2 j E (A++V++B)/\New w (some ⟨g,0,none⟩) j/\But (InA (some ⟨g,0,none⟩)) w w2:=by
  refine⟨_,cap,rfl,Vw.mk (Y:=rc (List.replicate I Rn.zero)++W.drop (I*2)) ?_ ?_ (by unfold maxLen;omega) ?_,New.refl _ _,(Z.trans k (λ_ _ h=>h)).mono (λan _ h=>⟨_,rfl,h.symm⟩)⟩
  . rw[aa,cU,iV,<-aU];exact r2
  . rw[ae,ae,<-H,<-r,<-D];omega
  . rw[ae,ae,<-H,<-r,<-D,ae,iN,bh,dv,T];omega
 have GG:=iJ ag;clear ag r1 r2 Z k T hD e0 aa H R r D;clear hS O hT hX v C S p h3 ac ab hg s hV RA af al t L h1 h2 G;go_enter func178,ntmps178;go_wp2_with (at_builtin;refine Lib.wpList_append_run _ rfl _ _ _ _ rfl _ _ rfl rfl _ _ ah ?_)
 go_ret;exact GG.o
set_option maxRecDepth 20000 in
theorem wm(w:World)(a:Option Addr)(cap:Nat)(A M B:List Rn)(p:Vw w a cap (A++M++B))(k:Option Addr)(D:Nat)(V:List Rn)(W:Vw w k D V)(ac:∀x y,a=some x->k=some y->x.block≠y.block)(q:A.length+M.length+B.length+V.length<=14000000000000)(ab:M≠[])(aj:B.length=0)(al:M.length<=V.length):
 Calls prog 178 #[.slice a ((A.length+M.length+B.length:Nat)) cap,.int .i64 ((A.length:Nat):Int),.int .i64 ((A.length+M.length:Nat):Int),.slice k V.length D] w λe w'=>
  ∃f r,e=.returned (.slice f ((A.length+V.length+B.length:Nat)) r)/\Vw w' f r (A++V++B)/\New w a f/\But (InA a) w w':=by
 have N:=p.len;rw[ae,ae] at N;unfold maxLen at N;obtain⟨C,an⟩:=N;have ak:0<M.length:=bR.2 ab;rcases p.cases with⟨_,_,h0⟩|⟨g,Y,rfl,hg,h1,h2,h3⟩
 . simp at h0;exact absurd h0.2.1 ab
 rw[ae,ae] at h3;rw[iV,iV,aU,aU] at hg;have J:=iN A;have K:=iN M;have Z:=iN B;have lV:=iN V;have L:=W.vs;have ai:rc V=[]\/∃b o,k=some ⟨b,o,none⟩/\Cs w b o (rc V):=L.imp (λh=>by rw[h];rfl) id
 have am:∀b o,k=some ⟨b,o,none⟩->b≠g:=λb o e e2=>ac ⟨g,0,none⟩ ⟨b,o,none⟩ rfl e e2.symm
 have O:Vw w (some ⟨g,0,none⟩) cap A:=by
  rw[aU] at p;rcases p.front with h|h
  . exact h
  . cases h
 have s:Cs w g ((A.length+M.length)*2) (rc B):=by
  have:=hg.cs (P:=rc A++rc M) (X:=rc B) (Y:=Y) (by simp)
  rwa [ae,J,K,<-ip] at this
 obtain⟨d,E⟩:∃m:Nat,m=A.length:=⟨_,rfl⟩;obtain⟨nM,I⟩:∃m:Nat,m=M.length:=⟨_,rfl⟩;obtain⟨nB,G⟩:∃m:Nat,m=B.length:=⟨_,rfl⟩;obtain⟨t,n⟩:∃m:Nat,m=V.length:=⟨_,rfl⟩;rw[<-E] at J q C h3 s ⊢;rw[<-I] at K q C h3 ak s ⊢;rw[<-G] at Z q C h3 ⊢;rw[<-n] at lV q ⊢;obtain⟨l,T⟩:∃m:Nat,m=d+nM+nB:=⟨_,rfl⟩;obtain⟨i,H⟩:∃m:Nat,m=d+nM:=⟨_,rfl⟩;obtain⟨j,U⟩:∃m:Nat,m=d+t+nB:=⟨_,rfl⟩;obtain⟨v,hX⟩:∃m:Nat,m=d+t:=⟨_,rfl⟩;rw[<-H] at s;rw[<-T,<-H,<-U];have l1:d<=i:=by omega
 have l2:i<=l:=by omega
 have l3:l<=cap:=by omega
 have l4:¬d=i:=by omega
 have l5:j<=14000000000000:=by omega
 have l6:l<=14000000000000:=by omega
 have l7:v<=j:=by omega
 have l8:¬cap=d:=by omega
 have x1:(d:Int)<=(i:Int):=by omega
 have x2:(i:Int)<=(l:Int):=by omega
 have x3:(d:Int)<=(l:Int):=by omega
 have wX:IntKind.i64.wrap (v:Int)=(v:Int):=iT (by omega) (by omega)
 have gl:=hg.lt;rw[<-G] at aj;rw[<-I,<-n] at al;obtain rfl:i=l:=by omega
 obtain rfl:j=v:=by omega
 have ad:V≠[]:=λe=>by rw[e] at n;simp at n;omega
 obtain⟨g',r,w1,ah,r1,n1,R⟩:=mw w 169 (some ⟨g,0,none⟩) d cap A E O k t D V n L ad (by omega)
 have S:d+t=j:=by omega
 rw[S] at ah;have l9:¬j<i:=by omega
 have aa:B=[]:=co.1 (by omega)
 have af:∃f ag,Ending.returned (.slice (some ⟨g',0,none⟩) j r)=.returned (.slice f j ag)/\Vw w1 f ag (A++V++B)/\New w (some ⟨g,0,none⟩) f/\But (InA (some ⟨g,0,none⟩)) w w1:=
  ⟨_,r,rfl,by rw[aa,cU];exact r1,n1,But.inA R⟩
 have GG:=iJ af;clear af r1 n1 R S aa E I G n ad;clear T H U hX J K Z lV h3 L ai hg p W O ac am q C h1 h2 s;go_enter func178,ntmps178;go_wp2_with (at_builtin;refine Lib.wpList_append_run _ rfl _ _ _ _ rfl _ _ rfl rfl _ _ ah ?_)
 go_ret;exact GG.o
set_option maxRecDepth 20000 in
theorem vD(w:World)(a:Option Addr)(cap:Nat)(A M B:List Rn)(hR:Vw w a cap (A++M++B))(Z:Option Addr)(cv:Nat)(V:List Rn)(S:Vw w Z cv V)(U:∀x ah,a=some x->Z=some ah->x.block≠ah.block)(E:A.length+M.length+B.length+V.length<=14000000000000)(al:M≠[])(au:0<B.length)(ap:cap<A.length+V.length+B.length):
 Calls prog 178 #[.slice a ((A.length+M.length+B.length:Nat)) cap,.int .i64 ((A.length:Nat):Int),.int .i64 ((A.length+M.length:Nat):Int),.slice Z V.length cv] w λe w'=>
  ∃K v,e=.returned (.slice K ((A.length+V.length+B.length:Nat)) v)/\Vw w' K v (A++V++B)/\New w a K/\But (InA a) w w':=by
 have af:=hR.len;rw[ae,ae] at af;unfold maxLen at af;obtain⟨ac,aB⟩:=af;have aw:0<M.length:=bR.2 al;rcases hR.cases with⟨_,_,h0⟩|⟨g,Y,rfl,L,h1,h2,D⟩
 . simp at h0;exact absurd h0.2.1 al
 rw[ae,ae] at D;rw[iV,iV,aU,aU] at L;have G:=iN A;have T:=iN M;have I:=iN B;have t:=iN V;have aj:=S.vs;have ar:rc V=[]\/∃b o,Z=some ⟨b,o,none⟩/\Cs w b o (rc V):=aj.imp (λh=>by rw[h];rfl) id
 have ax:∀b o,Z=some ⟨b,o,none⟩->b≠g:=λb o e e2=>U ⟨g,0,none⟩ ⟨b,o,none⟩ rfl e e2.symm
 have W:Vw w (some ⟨g,0,none⟩) cap A:=by
  rw[aU] at hR;rcases hR.front with h|h
  . exact h
  . cases h
 have C:Cs w g ((A.length+M.length)*2) (rc B):=by
  have:=L.cs (P:=rc A++rc M) (X:=rc B) (Y:=Y) (by simp)
  rwa [ae,G,T,<-ip] at this
 obtain⟨d,f⟩:∃m:Nat,m=A.length:=⟨_,rfl⟩;obtain⟨nM,y⟩:∃m:Nat,m=M.length:=⟨_,rfl⟩;obtain⟨j,s⟩:∃m:Nat,m=B.length:=⟨_,rfl⟩;obtain⟨J,r⟩:∃m:Nat,m=V.length:=⟨_,rfl⟩;rw[<-f] at G E ac D C ⊢;rw[<-y] at T E ac D aw C ⊢;rw[<-s] at I E ac D ⊢;rw[<-r] at t E ⊢;obtain⟨N,hS⟩:∃m:Nat,m=d+nM+j:=⟨_,rfl⟩;obtain⟨l,O⟩:∃m:Nat,m=d+nM:=⟨_,rfl⟩;obtain⟨i,R⟩:∃m:Nat,m=d+J+j:=⟨_,rfl⟩;obtain⟨q,hX⟩:∃m:Nat,m=d+J:=⟨_,rfl⟩;rw[<-O] at C;rw[<-hS,<-O,<-R];have l1:d<=l:=by omega
 have l2:l<=N:=by omega
 have l3:N<=cap:=by omega
 have l4:¬d=l:=by omega
 have l5:i<=14000000000000:=by omega
 have l6:N<=14000000000000:=by omega
 have l7:q<=i:=by omega
 have l8:¬cap=d:=by omega
 have x1:(d:Int)<=(l:Int):=by omega
 have x2:(l:Int)<=(N:Int):=by omega
 have x3:(d:Int)<=(N:Int):=by omega
 have wX:IntKind.i64.wrap (q:Int)=(q:Int):=iT (by omega) (by omega)
 have gl:=L.lt;rw[<-s] at au;have l9:¬l=N:=by omega
 have aD:¬cap=l:=by omega
 have n5:N-l=j:=by omega
 have i1:(d:Int)+(J:Int)=(q:Int):=by omega
 have i2:(q:Int)+(j:Int)=(i:Int):=by omega
 have x5:(q:Int)<=(i:Int):=by omega
 have x6:(d:Int)<=(i:Int):=by omega
 have n6:i-q=j:=by omega
 have wT:IntKind.i64.wrap (i:Int)=(i:Int):=iT (by omega) (by omega)
 rw[<-f,<-s,<-r,<-R] at ap;have FF:=iJ (And.intro hS (And.intro O (And.intro R (And.intro hX (And.intro f (And.intro y (And.intro s r)))))));have F2:=iJ (And.intro G (And.intro T (And.intro I t)));have F3:=iJ D;have F4:=iJ L;have F5:=iJ W;have F6:=iJ S;have F7:=iJ U;have F8:=iJ C;have F9:=iJ E;clear hS O R hX f y s r G T I t D L W S U C E aj ar ax hR ac h1 h2;go_enter func178,ntmps178;go_wp2_with fail
 go_quiet (fail)
 obtain⟨n,aa⟩:∃n,w.drewN nq=n:=⟨_,rfl⟩;have k:Below w.heap.size w n:=by rw[<-aa];exact rL _ _
 have s0:n.heap.size=w.heap.size:=by rw[<-aa];rfl
 rw[aa];obtain⟨hS,O,R,hX,f,y,s,r⟩:=FF.o;obtain⟨G,T,I,t⟩:=F2.o;have D:=F3.o;have L:=F4.o.keep k;have W:=F5.o.keep k;have S:=F6.o.keep k;have U:=F7.o;have C:=F8.o.keep k;have E:=F9.o;have am:V≠[]:=λe=>by rw[e] at r;simp at r;omega
 obtain⟨p,hZ⟩:∃m:Nat,m=J+j:=⟨_,rfl⟩;have i3:(i:Int)-(d:Int)=(p:Int):=by omega
 have n2:i-d=p:=by omega
 have zA:d+p=i:=by omega
 rcases S.cases with⟨_,_,h0⟩|⟨gv,Yv,rfl,hgv,v1,v2,v3⟩
 . exact absurd h0 am
 have aC:g≠gv:=U _ _ rfl rfl;have cV:Cs n gv 0 (rc V):=hgv.cs (P:=[]) (X:=rc V) (Y:=Yv) (by simp)
 obtain⟨v,w1,aq,ag,ab⟩:=s7 n 169 (some ⟨g,0,none⟩) d cap A f W.vs p (by omega) (by rw[<-f,zA];exact ap) (by rw[<-f,zA];exact l5)
 rw[zA] at aq;have ak:=ag.len;rw[ae,bh,<-f,zA] at ak;obtain⟨aH,ay⟩:=ak;unfold maxLen at ay;have aF:¬v=d:=by omega
 have aG:¬v=q:=by omega
 rcases ag.cases with⟨h0,_⟩|⟨H,Y1,h0,hg1,y1,y2,y3⟩
 . cases h0
 simp only[aE,Addr.mk.injEq,eH] at h0;subst h0;rw[iV,aU] at hg1;rw[ae,bh,<-f] at y3;have lZ:(rc (List.replicate p Rn.zero)).length=p*2:=by rw[iN,bh]
 obtain⟨w2,az,r2,b2⟩:=jH w1 3 n.heap.size p (v-d) (some ⟨gv,0,none⟩) J cv (rc A) (rc V) (rc (List.replicate p Rn.zero)++Y1) hg1 (by rw[t,show Nat.min J p=J from dq (by omega)]) (.inr ⟨gv,0,rfl,cV.keep ab⟩) (by rw[ae,lZ,t];omega) (jW V)
 rw[G] at az;have ai:Cs w2 g (l*2) (rc B):=(C.keep ab).but b2 (show ¬g=n.heap.size by omega)
 have ly:((rc (List.replicate p Rn.zero)++Y1).drop (rc V).length).length=j*2+Y1.length:=by rw[dv,ae,lZ,t];omega
 generalize (rc (List.replicate p Rn.zero)++Y1).drop (rc V).length=Y2 at *;obtain⟨w3,aA,r3,b3⟩:=jH w2.drew 3 n.heap.size j (v-q) (some ⟨g,l*2,none⟩) j (cap-l) (rc A++rc V) (rc B) Y2 r2 (by rw[I,show Nat.min j j=j from iE _]) (.inr ⟨g,l*2,rfl,ai⟩) (by rw[ly,I];omega) (jW B)
 rw[ae,G,t,show d*2+J*2=q*2 by omega] at aA
 have an:∀w4,w4=w3->∃K ao,Ending.returned (.slice (some ⟨n.heap.size,0,none⟩) i v)=.returned (.slice K i ao)/\Vw w4 K ao (A++V++B)/\New w (some ⟨g,0,none⟩) K/\But (InA (some ⟨g,0,none⟩)) w w4:=by
  rintro w4 rfl;refine⟨_,v,rfl,Vw.mk (Y:=Y2.drop (rc B).length) (by rw[iV,iV];exact r3) ?_ (by unfold maxLen;omega) ?_,λz hz=>.inr (by cases hz;exact iF s0.symm),?_⟩
  . rw[ae,ae,<-f,<-s,<-r];omega
  . rw[ae,ae,<-f,<-s,<-r,dv,I,ly];omega
  . exact((But.ofBelow (bt k ab)).trans b2 (λad hk e=>by omega)).trans ((But.drew (But.refl (λad=>ad=n.heap.size) w2)).trans b3 (λ_ _ h=>h)) (λad hk e=>by omega)
 have GG:=iJ an;clear an r3 b3 b2 ly y3 r2 ai ag hg1 lZ hZ zA f y s r am cV hgv v1 v2 v3 y1 y2 ab s0;clear hS O R hX G T I t D L S W U E C aa FF F2 F3 F4 F5 F6 F7 F8 F9;go_wp2_with (at_builtin;refine Lib.wpList_append_run _ rfl _ _ _ _ rfl _ _ rfl rfl _ _ aq ?_)
 go_region
 all_goals
  go_wp2;go_ret;exact GG.o _ rfl
set_option maxRecDepth 20000 in
theorem vG(w:World)(a:Option Addr)(cap:Nat)(A M B:List Rn)(hR:Vw w a cap (A++M++B))(L:Option Addr)(cv:Nat)(V:List Rn)(W:Vw w L cv V)(aa:∀x al,a=some x->L=some al->x.block≠al.block)(J:A.length+M.length+B.length+V.length<=14000000000000)(ap:M≠[])(az:0<B.length)(aD:A.length+V.length+B.length<=cap)(aB:V.length<=M.length):
 Calls prog 178 #[.slice a ((A.length+M.length+B.length:Nat)) cap,.int .i64 ((A.length:Nat):Int),.int .i64 ((A.length+M.length:Nat):Int),.slice L V.length cv] w λe w'=>
  ∃K aq,e=.returned (.slice K ((A.length+V.length+B.length:Nat)) aq)/\Vw w' K aq (A++V++B)/\New w a K/\But (InA a) w w':=by
 have aj:=hR.len;rw[ae,ae] at aj;unfold maxLen at aj;obtain⟨ad,aE⟩:=aj;have aA:0<M.length:=bR.2 ap;rcases hR.cases with⟨_,_,h0⟩|⟨g,Y,rfl,I,h1,h2,H⟩
 . simp at h0;exact absurd h0.2.1 ap
 rw[ae,ae] at H;rw[iV,iV,aU,aU] at I;have t:=iN A;have D:=iN M;have C:=iN B;have q:=iN V;have an:=W.vs;have ab:rc V=[]\/∃b o,L=some ⟨b,o,none⟩/\Cs w b o (rc V):=an.imp (λh=>by rw[h];rfl) id
 have aC:∀b o,L=some ⟨b,o,none⟩->b≠g:=λb o e e2=>aa ⟨g,0,none⟩ ⟨b,o,none⟩ rfl e e2.symm
 have RA:Vw w (some ⟨g,0,none⟩) cap A:=by
  rw[aU] at hR;rcases hR.front with h|h
  . exact h
  . cases h
 have N:Cs w g ((A.length+M.length)*2) (rc B):=by
  have:=I.cs (P:=rc A++rc M) (X:=rc B) (Y:=Y) (by simp)
  rwa [ae,t,D,<-ip] at this
 obtain⟨f,s⟩:∃m:Nat,m=A.length:=⟨_,rfl⟩;obtain⟨nM,T⟩:∃m:Nat,m=M.length:=⟨_,rfl⟩;obtain⟨l,p⟩:∃m:Nat,m=B.length:=⟨_,rfl⟩;obtain⟨j,r⟩:∃m:Nat,m=V.length:=⟨_,rfl⟩;rw[<-s] at t J ad H N ⊢;rw[<-T] at D J ad H aA N ⊢;rw[<-p] at C J ad H ⊢;rw[<-r] at q J ⊢;obtain⟨v,hS⟩:∃m:Nat,m=f+nM+l:=⟨_,rfl⟩;obtain⟨i,R⟩:∃m:Nat,m=f+nM:=⟨_,rfl⟩;obtain⟨d,U⟩:∃m:Nat,m=f+j+l:=⟨_,rfl⟩;obtain⟨n,hX⟩:∃m:Nat,m=f+j:=⟨_,rfl⟩;rw[<-R] at N;rw[<-hS,<-R,<-U];have l1:f<=i:=by omega
 have l2:i<=v:=by omega
 have l3:v<=cap:=by omega
 have l4:¬f=i:=by omega
 have l5:d<=14000000000000:=by omega
 have l6:v<=14000000000000:=by omega
 have l7:n<=d:=by omega
 have l8:¬cap=f:=by omega
 have x1:(f:Int)<=(i:Int):=by omega
 have x2:(i:Int)<=(v:Int):=by omega
 have x3:(f:Int)<=(v:Int):=by omega
 have wX:IntKind.i64.wrap (n:Int)=(n:Int):=iT (by omega) (by omega)
 have gl:=I.lt;rw[<-p] at az;have l9:¬i=v:=by omega
 have aF:¬cap=i:=by omega
 have n5:v-i=l:=by omega
 have i1:(f:Int)+(j:Int)=(n:Int):=by omega
 have i2:(n:Int)+(l:Int)=(d:Int):=by omega
 have x5:(n:Int)<=(d:Int):=by omega
 have x6:(f:Int)<=(d:Int):=by omega
 have n6:d-n=l:=by omega
 have wT:IntKind.i64.wrap (d:Int)=(d:Int):=iT (by omega) (by omega)
 rw[<-s,<-p,<-r,<-U] at aD;rw[<-T,<-r] at aB;have lX:n<=i:=by omega
 have xX:(n:Int)<=(i:Int):=by omega
 have aG:d<=v:=by omega
 have aI:(d:Int)<=(v:Int):=by omega
 have aH:¬cap=n:=by omega
 have n7:d-f=j+l:=by omega
 obtain⟨nZ,hZ⟩:∃m:Nat,m=j+l:=⟨_,rfl⟩;rw[<-hZ] at n7;obtain⟨E,hD⟩:∃m:Nat,m=nM-j:=⟨_,rfl⟩;have n8:v-d=E:=by omega
 have HZ:=iJ hZ;have HD:=iJ hD;clear hZ hD;have FF:=iJ (And.intro hS (And.intro R (And.intro U (And.intro hX (And.intro s (And.intro T (And.intro p r)))))));have F2:=iJ (And.intro t (And.intro D (And.intro C q)));have F3:=iJ H;have F4:=iJ I;have F5:=iJ RA;have F6:=iJ W;have F7:=iJ aa;have F8:=iJ N;have F9:=iJ J;clear hS R U hX s T p r t D C q H I RA W aa N J an ab aC hR ad h1 h2;go_enter func178,ntmps178;go_wp2_with fail
 go_quiet (fail)
 obtain⟨O,ac⟩:∃O,w.drewN nq=O:=⟨_,rfl⟩;have y:Below w.heap.size w O:=by rw[<-ac];exact rL _ _
 have s0:O.heap.size=w.heap.size:=by rw[<-ac];rfl
 rw[ac];obtain⟨hS,R,U,hX,s,T,p,r⟩:=FF.o;obtain⟨t,D,C,q⟩:=F2.o;have H:=F3.o;have I:=F4.o.keep y;have RA:=F5.o.keep y;have W:=F6.o.keep y;have aa:=F7.o;have N:=F8.o.keep y;have J:=F9.o;have hZ:=HZ.o;have hD:=HD.o;have ab:rc V=[]\/∃b o,L=some ⟨b,o,none⟩/\Cs O b o (rc V):=W.vs.imp (λh=>by rw[h];rfl) id
 obtain⟨w1,aw,r1,b1⟩:=jH O 3 g nZ (cap-f) L j cv (rc A) (rc V) (rc M++(rc B++Y)) I (by rw[q,show Nat.min j nZ=j from dq (by omega)]) ab (by rw[ae,D,q];omega) (jW V)
 rw[t] at aw;obtain⟨M1,G,ai,ak⟩:∃M1 G,rc M=M1++G/\M1.length=j*2:=⟨(rc M).take (j*2),(rc M).drop (j*2),(cZ _ _).symm,by rw[bi,D];omega⟩
 have af:G.length=E*2:=by have:=a7 List.length ai;rw[ae,D,ak] at this;omega
 have e1:(rc M++(rc B++Y)).drop (rc V).length=G++rc B++Y:=by rw[ai,q,<-ak,aU,iD rfl,aU]
 rw[e1] at r1
 have am:Cs w1 g (i*2) (rc B):=by
  have:=r1.cs (P:=rc A++rc V++G) (X:=rc B) (Y:=Y) (by simp)
  rwa [ae,ae,t,q,af,show f*2+j*2+E*2=i*2 by omega] at this
 obtain⟨Z,ax,r2,b2⟩:=jH w1.drew 3 g l (cap-n) (some ⟨g,i*2,none⟩) l (cap-i) (rc A++rc V) (rc B) (G++rc B++Y) r1 (by rw[C,show Nat.min l l=l from iE _]) (.inr ⟨g,i*2,rfl,am⟩) (by rw[ae,ae,af,C];omega) (jW B)
 rw[ae,t,q,show f*2+j*2=n*2 by omega] at ax
 have ly:((G++rc B++Y).drop (rc B).length).length=E*2+Y.length:=by rw[dv,ae,ae,af,C];omega
 generalize (G++rc B++Y).drop (rc B).length=Y2 at *;obtain⟨w3,ay,r3,b3⟩:=r9 Z 0 g E (cap-d) (rc A++rc V++rc B) Y2 r2 (by rw[ly];omega)
 rw[ae,ae,t,q,C,show f*2+j*2+l*2=d*2 by omega] at ay
 have ag:But (λk=>k=g) w Z:=((But.ofBelow (S:=λk=>k=g) y).trans b1 (λ_ _ h=>h)).trans ((But.drew (But.refl (λk=>k=g) w1)).trans b2 (λ_ _ h=>h)) (λ_ _ h=>h)
 have ar:∀w4,(w4=w3\/(w4=Z/\E=0))->∃K au,Ending.returned (.slice (some ⟨g,0,none⟩) d cap)=.returned (.slice K d au)/\Vw w4 K au (A++V++B)/\New w (some ⟨g,0,none⟩) K/\But (InA (some ⟨g,0,none⟩)) w w4:=by
  rintro w4 (rfl|⟨rfl,ah⟩)
  . refine⟨_,cap,rfl,Vw.mk (Y:=rc (List.replicate E Rn.zero)++Y2.drop (E*2)) (by rw[iV,iV,<-aU];exact r3) ?_ (by unfold maxLen;omega) ?_,New.refl _ _,(ag.trans b3 (λ_ _ h=>h)).mono (λk _ h=>⟨_,rfl,h.symm⟩)⟩
    . rw[ae,ae,<-s,<-p,<-r];omega
    . rw[ae,ae,<-s,<-p,<-r,ae,iN,bh,dv,ly];omega
  . refine⟨_,cap,rfl,Vw.mk (Y:=Y2) (by rw[iV,iV];exact r2) ?_ (by unfold maxLen;omega) ?_,New.refl _ _,ag.mono (λk _ h=>⟨_,rfl,h.symm⟩)⟩
    . rw[ae,ae,<-s,<-p,<-r];omega
    . rw[ae,ae,<-s,<-p,<-r,ly];omega
 have GG:=iJ ar;have z0:cap=d->E=0:=λe=>by omega
 clear ar r3 b3 b2 b1 ly r2 r1 am ai ak af e1 hZ hD HZ HD s T p r ab ag;clear hS R U hX t D C q H I W RA aa J N ac FF F2 F3 F4 F5 F6 F7 F8 F9;by_cases ao:cap=d
 . have ah:=z0 ao;have G2:=iJ (GG.o Z (.inr ⟨rfl,ah⟩));clear z0 GG;subst ao;subst ah;rw[n7] at aw;rw[n6] at ax;have aJ:(Builtin.clear_ #[169] 0 #[.slice (some ⟨g,0,none⟩) 0 0]).run prog Z=.ok (.tuple #[]) Z:=by simp[Builtin.clear_,dt underlying169]
   clear ay;go_wp2;go_region
   all_goals
    go_wp2;go_ret;exact G2.o
 . have G2:=iJ (GG.o w3 (.inl rfl));clear z0 GG;go_wp2;go_region
   all_goals
    go_wp2;go_ret;exact G2.o
set_option maxRecDepth 20000 in
theorem vS(w:World)(a:Option Addr)(cap:Nat)(A M B:List Rn)(k:Vw w a cap (A++M++B))(W:Option Addr)(cv:Nat)(V:List Rn)(T:Vw w W cv V)(U:∀x ag,a=some x->W=some ag->x.block≠ag.block)(G:A.length+M.length+B.length+V.length<=14000000000000)(aj:M≠[])(ap:0<B.length)(aw:A.length+V.length+B.length<=cap)(ar:M.length<V.length):
 Calls prog 178 #[.slice a ((A.length+M.length+B.length:Nat)) cap,.int .i64 ((A.length:Nat):Int),.int .i64 ((A.length+M.length:Nat):Int),.slice W V.length cv] w λe w'=>
  ∃J al,e=.returned (.slice J ((A.length+V.length+B.length:Nat)) al)/\Vw w' J al (A++V++B)/\New w a J/\But (InA a) w w':=by
 have af:=k.len;rw[ae,ae] at af;unfold maxLen at af;obtain⟨ac,az⟩:=af;have aq:0<M.length:=bR.2 aj;rcases k.cases with⟨_,_,h0⟩|⟨g,Y,rfl,q,h1,h2,D⟩
 . simp at h0;exact absurd h0.2.1 aj
 rw[ae,ae] at D;rw[iV,iV,aU,aU] at q;have H:=iN A;have I:=iN M;have r:=iN B;have v:=iN V;have ah:=T.vs;have ao:rc V=[]\/∃b o,W=some ⟨b,o,none⟩/\Cs w b o (rc V):=ah.imp (λh=>by rw[h];rfl) id
 have au:∀b o,W=some ⟨b,o,none⟩->b≠g:=λb o e e2=>U ⟨g,0,none⟩ ⟨b,o,none⟩ rfl e e2.symm
 have RA:Vw w (some ⟨g,0,none⟩) cap A:=by
  rw[aU] at k;rcases k.front with h|h
  . exact h
  . cases h
 have C:Cs w g ((A.length+M.length)*2) (rc B):=by
  have:=q.cs (P:=rc A++rc M) (X:=rc B) (Y:=Y) (by simp)
  rwa [ae,H,I,<-ip] at this
 obtain⟨d,E⟩:∃m:Nat,m=A.length:=⟨_,rfl⟩;obtain⟨nM,N⟩:∃m:Nat,m=M.length:=⟨_,rfl⟩;obtain⟨i,t⟩:∃m:Nat,m=B.length:=⟨_,rfl⟩;obtain⟨f,p⟩:∃m:Nat,m=V.length:=⟨_,rfl⟩;rw[<-E] at H G ac D C ⊢;rw[<-N] at I G ac D aq C ⊢;rw[<-t] at r G ac D ⊢;rw[<-p] at v G ⊢;obtain⟨K,y⟩:∃m:Nat,m=d+nM+i:=⟨_,rfl⟩;obtain⟨j,L⟩:∃m:Nat,m=d+nM:=⟨_,rfl⟩;obtain⟨n,O⟩:∃m:Nat,m=d+f+i:=⟨_,rfl⟩;obtain⟨l,hX⟩:∃m:Nat,m=d+f:=⟨_,rfl⟩;rw[<-L] at C;rw[<-y,<-L,<-O];have l1:d<=j:=by omega
 have l2:j<=K:=by omega
 have l3:K<=cap:=by omega
 have l4:¬d=j:=by omega
 have l5:n<=14000000000000:=by omega
 have l6:K<=14000000000000:=by omega
 have l7:l<=n:=by omega
 have l8:¬cap=d:=by omega
 have x1:(d:Int)<=(j:Int):=by omega
 have x2:(j:Int)<=(K:Int):=by omega
 have x3:(d:Int)<=(K:Int):=by omega
 have wX:IntKind.i64.wrap (l:Int)=(l:Int):=iT (by omega) (by omega)
 have gl:=q.lt;rw[<-t] at ap;have l9:¬j=K:=by omega
 have aB:¬cap=j:=by omega
 have n5:K-j=i:=by omega
 have i1:(d:Int)+(f:Int)=(l:Int):=by omega
 have i2:(l:Int)+(i:Int)=(n:Int):=by omega
 have x5:(l:Int)<=(n:Int):=by omega
 have x6:(d:Int)<=(n:Int):=by omega
 have n6:n-l=i:=by omega
 have wT:IntKind.i64.wrap (n:Int)=(n:Int):=iT (by omega) (by omega)
 rw[<-E,<-t,<-p,<-O] at aw;rw[<-N,<-p] at ar;have lX:¬l<=j:=by omega
 have xX:¬(l:Int)<=(j:Int):=by omega
 have aC:¬cap=l:=by omega
 have n7:n-d=f+i:=by omega
 obtain⟨nZ,hZ⟩:∃m:Nat,m=f+i:=⟨_,rfl⟩;rw[<-hZ] at n7;have HZ:=iJ hZ;clear hZ;have FF:=iJ (And.intro y (And.intro L (And.intro O (And.intro hX (And.intro E (And.intro N (And.intro t p)))))));have F2:=iJ (And.intro H (And.intro I (And.intro r v)));have F3:=iJ D;have F4:=iJ q;have F5:=iJ RA;have F6:=iJ T;have F7:=iJ U;have F8:=iJ C;have F9:=iJ G;clear y L O hX E N t p H I r v D q RA T U C G ah ao au k ac h1 h2;go_enter func178,ntmps178;go_wp2_with fail
 go_quiet (fail)
 obtain⟨s,ab⟩:∃s,w.drewN nq=s:=⟨_,rfl⟩;have Z:Below w.heap.size w s:=by rw[<-ab];exact rL _ _
 have s0:s.heap.size=w.heap.size:=by rw[<-ab];rfl
 rw[ab];obtain⟨y,L,O,hX,E,N,t,p⟩:=FF.o;obtain⟨H,I,r,v⟩:=F2.o;have D:=F3.o;have q:=F4.o.keep Z;have RA:=F5.o.keep Z;have T:=F6.o.keep Z;have U:=F7.o;have C:=F8.o.keep Z;have G:=F9.o;have hZ:=HZ.o;have ak:V≠[]:=λe=>by rw[e] at p;simp at p;omega
 rcases T.cases with⟨_,_,h0⟩|⟨gv,Yv,rfl,hgv,v1,v2,v3⟩
 . exact absurd h0 ak
 have ai:g≠gv:=U _ _ rfl rfl;have cV:Cs s gv 0 (rc V):=hgv.cs (P:=[]) (X:=rc V) (Y:=Yv) (by simp)
 have aA:=λoh lb cb=>pQ s g gv oh 0 lb cb f cv _ _ q hgv ai (by intro e;have:=a7 List.length e;rw[ae,v] at this;simp at this;omega)
 obtain⟨Q,R,hQ,lQ⟩:∃Q R,rc M++(rc B++Y)=Q++R/\Q.length=f*2:=⟨(rc M++(rc B++Y)).take (f*2),(rc M++(rc B++Y)).drop (f*2),(cZ _ _).symm,by rw[bi,ae,ae,I,r];omega⟩
 have lR:f*2+R.length=nM*2+i*2+Y.length:=by have:=a7 List.length hQ;rw[ae,ae,ae,I,r,lQ] at this;omega
 rw[hQ,<-aU] at q;obtain⟨w1,ax,r1,b1⟩:=jH s.drew 3 g i (cap-l) (some ⟨g,j*2,none⟩) i (cap-j) (rc A++Q) (rc B) R q (by rw[r,show Nat.min i i=i from iE _]) (.inr ⟨g,j*2,rfl,C⟩) (by rw[r];omega) (jW B)
 rw[ae,H,lQ,show d*2+f*2=l*2 by omega] at ax
 have ad:But (λaa=>aa=g) s w1:=(But.drew (But.refl _ s)).trans b1 (λ_ _ h=>h)
 obtain⟨w2,ay,r2,b2⟩:=jH w1 3 g nZ (cap-d) (some ⟨gv,0,none⟩) f cv (rc A) (rc V) (Q++rc B++R.drop (rc B).length) (by rw[<-aU,<-aU];exact r1) (by rw[v,show Nat.min f nZ=f from dq (by omega)]) (.inr ⟨gv,0,rfl,cV.but ad (show ¬gv=g from λe=>ai e.symm)⟩) (by rw[ae,ae,lQ,v];omega) (jW V)
 rw[H] at ay
 have am:∀w4,w4=w2->∃J an,Ending.returned (.slice (some ⟨g,0,none⟩) n cap)=.returned (.slice J n an)/\Vw w4 J an (A++V++B)/\New w (some ⟨g,0,none⟩) J/\But (InA (some ⟨g,0,none⟩)) w w4:=by
  rintro w4 rfl;refine⟨_,cap,rfl,Vw.mk (Y:=R.drop (rc B).length) ?_ ?_ (by unfold maxLen;omega) ?_,New.refl _ _,(((But.ofBelow (S:=λaa=>aa=g) Z).trans ad (λ_ _ h=>h)).trans b2 (λ_ _ h=>h)).mono (λaa _ h=>⟨_,rfl,h.symm⟩)⟩
  . have e:(Q++rc B++R.drop (rc B).length).drop (rc V).length=rc B++R.drop (rc B).length:=by
     rw[v,<-lQ,aU,iD rfl]
    rw[e,<-aU] at r2;rw[iV,iV];exact r2
  . rw[ae,ae,<-E,<-t,<-p];omega
  . rw[ae,ae,<-E,<-t,<-p,dv,r];omega
 have GG:=iJ (am w2 rfl);clear am b1 ad b2 r2 r1 hQ lQ lR cV hgv v1 v2 v3 ak hZ HZ E N t p;clear y L O hX H I r v D q T RA U G C ab FF F2 F3 F4 F5 F6 F7 F8 F9;go_wp2_with fail
 go_region
 all_goals
  go_wp2;go_ret;exact GG.o
theorem lN(w:World)(a:Option Addr)(cap:Nat)(A M B:List Rn)(f:Vw w a cap (A++M++B))(b:Option Addr)(d:Nat)(V:List Rn)(g:Vw w b d V)(j:∀x y,a=some x->b=some y->x.block≠y.block)(h:A.length+M.length+B.length+V.length<=14000000000000):
 Calls prog 178 #[.slice a ((A.length+M.length+B.length:Nat)) cap,.int .i64 ((A.length:Nat):Int),.int .i64 ((A.length+M.length:Nat):Int),.slice b V.length d] w λe m=>
  ∃k p,e=.returned (.slice k ((A.length+V.length+B.length:Nat)) p)/\Vw m k p (A++V++B)/\New w a k/\But (InA a) w m:=by
 by_cases i:M=[]
 . subst i;rw[cU] at f;have:=wv w a cap A B f b d V g j (by simpa using h)
   rw[bj,bY];exact this
 . by_cases n:B.length=0
   . by_cases l:V.length<M.length
     . exact uW w a cap A M B f b d V g j h i n l
     . exact wm w a cap A M B f b d V g j h i n (by omega)
   . by_cases q:cap<A.length+V.length+B.length
     . exact vD w a cap A M B f b d V g j h i (by omega) q
     . by_cases l:V.length<=M.length
       . exact vG w a cap A M B f b d V g j h i (by omega) (by omega) l
       . exact vS w a cap A M B f b d V g j h i (by omega) (by omega) (by omega)
end Go.Proofs.YtbdkogimlbnlmaaGreat.Q
