import Derived.Test.YtbdkogimlbnlmaaGreatWlB0
import Derived.Deep.MidRow
import Derived.Laws.ResultCell
import Derived.Maps.RangeRun
import Derived.MapKept
set_option linter.all false
namespace Go.Proofs.YtbdkogimlbnlmaaGreat
open Tryz
open Go.RowKit
variable {x:Addr}{g o:Nat}{S:Nat->Prop}{W W' w w' wx wy:World}
def N64(x:Int):Prop:= -9223372036854775808<=x/\x<=9223372036854775807
structure Iv where
 aK:Option Addr
 cK:Nat
 key:List Nat
 aV:Option Addr
 cV:Nat
 val:List Nat
 child:Int
 size:Int
def Iv.cs(r:Iv):Array Value:=#[.slice r.aK r.key.length r.cK,.slice r.aV r.val.length r.cV,.int .i64 r.child,.int .i64 r.size]
def Iv.vl(r:Iv):Value:=.agg r.cs
def Iv.it(r:Iv):It:=⟨r.key,r.val,r.child,r.size⟩
structure Ii(w:World)(r:Iv):Prop where
 bk:Bs w r.aK r.key
 ck:r.key.length<=r.cK
 bv:Bs w r.aV r.val
 cv:r.val.length<=r.cV
 nc:N64 r.child
 ns:N64 r.size
theorem Ii.keep{r:Iv}(h:Ii w r)(hb:Below w.heap.size w w'):Ii w' r:=⟨h.bk.keep hb,h.ck,h.bv.keep hb,h.cv,h.nc,h.ns⟩
theorem DG:(prog.info? 51).map (·.size)=some 4:=by kernel_rfl
structure Io(w wx:World)(r:Iv):Prop where
 k:Own w wx r.aK r.cK r.key
 v:Own w wx r.aV r.cV r.val
 apart:∀x y,r.aK=some x->r.aV=some y->x.block≠y.block
 k8:B8 r.key
 v8:B8 r.val
theorem Rw.cap{a:Option Addr}{cap:Nat}{l:List Nat}(h:Rw w a cap l):l.length<=cap:=by
 rcases h.cases with⟨_,rfl,rfl⟩|⟨g,cur,_,_,h1,_⟩
 . exact ai _
 . exact h1
theorem Own.bs{a:Option Addr}{cap:Nat}{l:List Nat}(h:Own w wx a cap l)(b:B8 l):Bs wx a l:=h.r.bs b h.r.len_le
theorem Io.ii{r:Iv}(h:Io w wx r)(b:N64 r.child)(d:N64 r.size):Ii wx r:=⟨h.k.bs h.k8,h.k.r.cap,h.v.bs h.v8,h.v.r.cap,b,d⟩
def Iv.zero:Iv:=⟨none,0,[],none,0,[],0,0⟩
theorem mD:(prog.info? 51).map (λi=>(i.zero,i.size,i.bytes))=some (some (.agg Iv.zero.cs),4,64):=by kernel_rfl
theorem Au(v:Iv):v.cs.all (·.oneCell')=true:=by simp[Iv.cs,Value.oneCell']
theorem qN{b:Nat}{cs:List Value}(h:w.rangeAt b o cs)(hb:Below w.heap.size w w'):w'.rangeAt b o cs:=λj v d=>(hb.cell (p:=⟨b,o+j,none⟩) (block_lt_of_cell (h j v d))).trans (h j v d)
def Js(w:World)(a:Option Addr)(L:List Iv):Prop:=
 (∀r∈L,Ii w r)/\L.length<=2199023255489/\(L=[]\/∃b off,a=some ⟨b,off,none⟩/\∀r,r<L.length->w.rangeAt b (off+r*4) (L.getD r Iv.zero).cs.toList)
theorem ja{L:List Iv}{r:Nat}(h:r<L.length):L.getD r Iv.zero∈L:=by simp[h]
theorem Js.keep{a:Option Addr}{L:List Iv}(h:Js w a L)(hb:Below w.heap.size w w'):Js w' a L:=
 ⟨λr d=>(h.1 r d).keep hb,h.2.1,h.2.2.imp id λ⟨b,off,e,d⟩=>⟨b,off,e,λr f=>qN (d r f) hb⟩⟩
theorem Js.at{a:Option Addr}{L:List Iv}(h:Js w a L){r:Nat}(d:r<L.length):∃b off,a=some ⟨b,off,none⟩/\w.rangeAt b (off+r*4) (L.getD r Iv.zero).cs.toList:=by
 rcases h.2.2 with rfl|⟨b,off,e,f⟩
 . simp at d
 . exact⟨b,off,e,f r d⟩
theorem jG{b:Nat}{r:Iv}(h:w.rangeAt b o r.cs.toList):w.cell? ⟨b,o,none⟩=some (.slice r.aK r.key.length r.cK)/\w.cell? ⟨b,o+1,none⟩=some (.slice r.aV r.val.length r.cV)/\w.cell? ⟨b,o+2,none⟩=some (.int .i64 r.child)/\w.cell? ⟨b,o+3,none⟩=some (.int .i64 r.size):=
 ⟨h 0 _ rfl,h 1 _ rfl,h 2 _ rfl,h 3 _ rfl⟩
def Jc(L:List Iv):List Value:=(L.map λv=>v.cs.toList).flatten
theorem Fw(L:List Iv)(v:Iv):Jc (L++[v])=Jc L++v.cs.toList:=by simp[Jc]
theorem kC(L:List Iv):(Jc L).length=L.length*4:=by
 induction L with
 |nil=>rfl
 |cons v L ih=>
  have:Jc (v::L)=v.cs.toList++Jc L:=by simp[Jc]
  rw[this,ae,ih,bf];have:v.cs.toList.length=4:=rfl;omega
theorem mH(L:List Iv)(r j:Nat)(d:r<L.length)(f:j<4):(Jc L)[r*4+j]?=(L.getD r Iv.zero).cs.toList[j]?:=by
 induction L generalizing r with
 |nil=>simp at d
 |cons v L ih=>
  have e:Jc (v::L)=v.cs.toList++Jc L:=by simp[Jc]
  have b:v.cs.toList.length=4:=rfl;rw[e];cases r with
  |zero=>
   rw[eE,bN,br (by omega)]
   simp
  |succ r=>
   rw[bg (by rw[b];omega),b,show(r+1)*4+j-4=r*4+j by omega,ih r (by simpa using d)]
   simp
def Jw(w:World)(a:Option Addr)(cap:Nat)(L:List Iv):Prop:=w.ownsRow 0 51 4 (.slice a L.length cap) L.length (Jc L)
theorem Jw.nil(w:World):Jw w none 0 []:=fB w 0 51 4
theorem Jw.cases{a:Option Addr}{cap:Nat}{L:List Iv}(h:Jw w a cap L):(a=none/\cap=0/\L=[])\/
 ∃g cur,a=some ⟨g,0,none⟩/\w.heap[g]?=some (.cells cur 51 (0,0))/\L.length<=cap/\cap<=maxLen/\cur.size=cap*4/\cur.toList.take (L.length*4)=Jc L:=by
 obtain⟨_,d⟩:=h;rcases d with⟨hv,h0⟩|⟨g,cap',cur,hv,_,hg,hn,hm,hs,ht⟩
 . simp only[bM] at hv;exact .inl ⟨hv.1,hv.2.2,co.1 h0⟩
 . simp only[bM] at hv;obtain⟨b,_,rfl⟩:=hv;exact .inr ⟨g,cur,b,hg,hn,hm,hs,ht⟩
theorem Jw.mk{cap:Nat}{cur:Array Value}{L:List Iv}(b:w.heap[g]?=some (.cells cur 51 (0,0)))(e:L.length<=cap)(d:cap<=maxLen)(f:cur.size=cap*4)(h:cur.toList.take (L.length*4)=Jc L):Jw w (some ⟨g,0,none⟩) cap L:=
 ⟨kC L,.inr ⟨g,cap,cur,rfl,az _,b,e,d,f,h⟩⟩
theorem Jw.lt{a:Option Addr}{cap:Nat}{L:List Iv}(h:Jw w a cap L)(b:a=some x):x.block<w.heap.size:=by
 rcases h.cases with⟨rfl,_⟩|⟨g,cur,rfl,hg,_⟩
 . cases b
 . cases b;exact(af.1 hg).1
theorem Jw.but{a:Option Addr}{cap:Nat}{L:List Iv}(h:Jw w a cap L)(hb:But S w w')(b:∀x,a=some x->¬S x.block):Jw w' a cap L:=by
 rcases h.cases with⟨rfl,rfl,rfl⟩|⟨g,cur,rfl,hg,h1,h2,h3,h4⟩
 . exact Jw.nil w'
 . exact Jw.mk ((hb.block g (af.1 hg).1 (b _ rfl)).trans hg) h1 h2 h3 h4
theorem Jw.keep{a:Option Addr}{cap:Nat}{L:List Iv}(h:Jw w a cap L)(hb:Below w.heap.size w w'):Jw w' a cap L:=
 h.but (S:=λ_=>False) (But.ofBelow hb) (λ_ _ b=>b)
theorem Jw.qs{a:Option Addr}{cap:Nat}{L:List Iv}(h:Jw w a cap L)(f:∀r∈L,Ii w r)(i:L.length<=2199023255489):Js w a L:=by
 refine⟨f,i,?_⟩;rcases h.cases with⟨rfl,rfl,rfl⟩|⟨g,cur,rfl,hg,h1,h2,h3,h4⟩
 . exact .inl rfl
 . refine .inr ⟨g,0,rfl,λr b j u d=>?_⟩
   have e:j<4:=(bz.1 d).1;rw[ay _ _ _ _ _ _ hg,bN,<-d,<-mH L r j b e,<-h4,cH,if_pos (by have:(r+1)*4<=L.length*4:=dT _ b;omega)]
   simp
theorem Fq(w:World)(i:TypeId)(a:Option Addr)(n cap:Nat)(L:List Iv)(q:n=L.length)(l:Jw w a cap L)(d:Addr)(c:Nat)(v:Iv)(m:∀j u,v.cs.toList[j]?=some u->w.cell? (d.add j)=some u)(G:L.length+1<=2199023255489):
 ∃g b w',(Builtin.append_ #[28,28] i #[.slice a n cap,.slice (some d) 1 c]).run prog w=.ok (.slice (some ⟨g,0,none⟩) (n+1) b) w'/\
  Jw w' (some ⟨g,0,none⟩) b (L++[v])/\New w a (some ⟨g,0,none⟩)/\w.grownBy w' (a.map Addr.block):=by
 subst q;obtain⟨A,p,B,C,D⟩:=dr mD
 obtain⟨g,b,w',r,k,f,h3,E⟩:=dW (P:=prog) w 28 i 0 51 A (.agg Iv.zero.cs) 4 64 underlying28 p B C D rfl (by decide) (.slice a L.length cap) L.length (Jc L) l d 1 c v.cs.toList rfl
  m (λu s=>(Array.all_eq_true_iff_forall_mem.1 (Au v)) u (by simpa using s)) (by decide) (by unfold maxLen;omega) (by omega) (az _) w.heap.size rfl
 rw[kA] at f h3;refine⟨g,b,w',r,?_,?_,f⟩
 . unfold Jw;rw[Fw,ae];exact k
 . intro y h;simp only[aE] at h;subst h;rcases h3 with h3|h3
   . obtain⟨z,t,e⟩:=map_some h3;exact .inl ⟨z,t,e⟩
   . exact .inr (by show _<=g;omega)
theorem Hm{w:World}{o:Oper}{a:Act}{K:Act->World->Prop}{Q:Exit->Act->World->Prop}(s x:Operand)
 (q:o.op=.call {callee:=.builtin .append,args:=#[s,x],argTypes:=#[28,28]}) (b:Option Addr) (n cap:Nat) (L:List Iv) (t:a.eval s=.slice b n cap) (p:n=L.length) (l:Jw w b cap L)
 (e:Addr) (c:Nat) (v:Iv) (y:a.eval x=.slice (some e) 1 c) (m:∀j u,v.cs.toList[j]?=some u->w.cell? (e.add j)=some u) (A:L.length+1<=2199023255489)
 (h:∀g d w',Jw w' (some ⟨g,0,none⟩) d (L++[v])->New w b (some ⟨g,0,none⟩)->w.grownBy w' (b.map Addr.block)->K (a.put o.dst (.slice (some ⟨g,0,none⟩) (n+1) d)) w'):o.wp prog a w K Q:=by
 obtain⟨g,d,w',r,f,i,k⟩:=Fq w o.type b n cap L p l e c v m A;unfold Oper.wp execOp;simp only[q,resolve,invoke,builtin,dE,dF,bT,cR,bL,dM,t,y,r];exact h g d w' f i k
theorem yj{w:World}{f:Array Oper}{i:List Oper}{o:Oper}{a:Act}{Q:Exit->Act->World->Prop}(C:o.guard=none)(s x:Operand)
 (y:o.op=.call {callee:=.builtin .append,args:=#[s,x],argTypes:=#[28,28]}) (b:Option Addr) (n cap:Nat) (L:List Iv) (A:a.eval s=.slice b n cap) (t:n=L.length) (q:Jw w b cap L)
 (e:Addr) (c:Nat) (v:Iv) (B:a.eval x=.slice (some e) 1 c) (r:∀j u,v.cs.toList[j]?=some u->w.cell? (e.add j)=some u) (D:L.length+1<=2199023255489)
 (h:∀g d w',Jw w' (some ⟨g,0,none⟩) d (L++[v])->New w b (some ⟨g,0,none⟩)->w.grownBy w' (b.map Addr.block)->wpList prog f Q i (a.put o.dst (.slice (some ⟨g,0,none⟩) (n+1) d)) w'):wpList prog f Q (o::i) a w:=
 e7 C λ_ p=>Hm s x y b n cap L A t q e c v B r D λg d w' k l m=>p _ _ (h g d w' k l m)
structure JOwn(w wx:World)(a:Option Addr)(cap:Nat)(L:List Iv):Prop where
 r:Jw wx a cap L
 n:New w none a
 b:Below w.heap.size w wx
theorem JOwn.nil(w:World)(h:Below w.heap.size w wx):JOwn w wx none 0 []:=⟨Jw.nil _,New.none _ _,h⟩
theorem JOwn.keep{a:Option Addr}{cap:Nat}{L:List Iv}(h:JOwn w wx a cap L)(hb:Below wx.heap.size wx wy):JOwn w wy a cap L:=⟨h.r.keep hb,h.n,bt h.b hb⟩
theorem JOwn.step{d:World}{a b:Option Addr}{cap i:Nat}{L f:List Iv}(h:JOwn w wx a cap L)(hb:Below wx.heap.size wx d)(m:Jw wy b i f)(l:New d a b)(n:d.grownBy wy (a.map Addr.block)):JOwn w wy b i f:=by
 refine⟨m,h.n.trans l (aO h.b.size hb.size),?_⟩;have j:=bt h.b hb
 have p:But (λ_=>False) w wy:=(But.ofBelow j).grown n λk q s=>by
  obtain⟨y,r,e⟩:=map_some q;rcases h.n y r with⟨z,hz,_⟩|h2
  . cases hz
  . omega
 exact p.below λ_ _ h=>h
theorem tQ(L M:List Iv):Jc (L++M)=Jc L++Jc M:=by simp[Jc]
theorem Jw.cells{cap:Nat}{L:List Iv}(h:Jw w (some ⟨g,0,none⟩) cap L):∀j u,(Jc L)[j]?=some u->w.cell? ((⟨g,0,none⟩:Addr).add j)=some u:=by
 rcases h.cases with⟨h0,_⟩|⟨g',cur,h0,hg,h1,h2,h3,h4⟩
 . cases h0
 . simp only[aE,Addr.mk.injEq] at h0;obtain⟨rfl,_⟩:=h0;intro j u b;rw[Addr.add_mid,bN,ay _ _ _ _ _ _ hg];have d:=(bz.1 b).1;rw[kC] at d;rw[<-h4,cH,if_pos d] at b;rw[<-b];simp
theorem ma(g:Nat)(t:TypeId):∀(vs:List Value)(w:World)(o:Nat)(cur:Array Value),w.heap[g]?=some (.cells cur t (0,0))->
 ∃b:Array Value,(w.setCells g o vs).heap[g]?=some (.cells b t (0,0))/\b.size=cur.size/\∀i,i<cur.size->b[i]?=if o<=i/\i<o+vs.length then vs[i-o]? else cur[i]?:=by
 intro vs;induction vs with
 |nil=>exact λw o cur d=>⟨cur,d,rfl,λi _=>by rw[if_neg (by simp)]⟩
 |cons v vs ih=>
  intro w o cur d;obtain⟨b,j,k,l⟩:=ih (w.setCell ⟨g,o,none⟩ v) (o+1) (cur.setIfInBounds o v) (aY w g o _ _ _ d);refine⟨b,j,by rw[k];simp,λi h=>?_⟩
  rw[l i (by simpa using h),bf]
  by_cases e:i=o
  . subst e;rw[if_neg (by omega),if_pos (by omega),df]
    simp[h]
  . by_cases f:o+1<=i/\i<o+1+vs.length
    . rw[if_pos f,if_pos (by omega),show i-o=(i-(o+1))+1 by omega,eu]
    . rw[if_neg f,if_neg (by omega),fs (by omega)]
theorem Jw.setv{cap:Nat}{L:List Iv}(h:Jw w (some ⟨g,0,none⟩) cap L)(k:Nat)(v:Iv):Jw (w.setCells g (k*4) v.cs.toList) (some ⟨g,0,none⟩) cap (L.set k v):=by
 rcases h.cases with⟨h0,_⟩|⟨g',cur,h0,hg,h1,h2,h3,h4⟩
 . cases h0
 . simp only[aE,Addr.mk.injEq] at h0;obtain⟨rfl,_⟩:=h0;obtain⟨A,q,r,s⟩:=ma g 51 v.cs.toList w (k*4) cur hg;have t:v.cs.toList.length=4:=rfl;refine Jw.mk q (by rw[aM];exact h1) h2 (by rw[r];exact h3) ?_
   rw[aM];apply dX;intro i;have y:L.length*4<=cap*4:=dT _ h1;by_cases b:i<L.length*4
   . have p:(Jc L)[i]?=cur[i]?:=by rw[<-h4,cH,if_pos b];simp
     have d:i/4<L.length:=by omega
     have j:i=i/4*4+i%4:=by omega
     have l:i%4<4:=fP _ (by decide)
     rw[cH,if_pos b,fk,s i (by omega),t]
     have n:(Jc (L.set k v))[i]?=((L.set k v).getD (i/4) Iv.zero).cs.toList[i%4]?:=by
      conv=>lhs;rw[j]
      exact mH (L.set k v) (i/4) (i%4) (by rw[aM];exact d) l
     have m:(Jc L)[i]?=(L.getD (i/4) Iv.zero).cs.toList[i%4]?:=by
      conv=>lhs;rw[j]
      exact mH L (i/4) (i%4) d l
     rw[n];by_cases f:k*4<=i/\i<k*4+4
     . have e:i/4=k:=by omega
       rw[if_pos f,e,show i-k*4=i%4 by omega]
       simp[show k<L.length by omega]
     . have e:¬k=i/4:=by omega
       rw[if_neg f,<-p,m];simp[bQ e]
   . rw[cH,if_neg b,cM (by rw[kC,aM];omega)]
theorem Jw.front{a:Option Addr}{cap:Nat}{L M:List Iv}(h:Jw w a cap (L++M)):Jw w a cap L\/a=none:=by
 rcases h.cases with⟨rfl,rfl,hn⟩|⟨g,cur,rfl,hg,h1,h2,h3,h4⟩
 . exact .inr rfl
 . refine .inl (Jw.mk hg (by rw[ae] at h1;omega) h2 h3 ?_)
   have e:=a7 (List.take (L.length*4)) h4;rw[fG,ae,dq (by omega),tQ,ft (kC L)] at e
   exact e
theorem Jw.addr{a:Option Addr}{cap:Nat}{L:List Iv}(h:Jw w a cap L)(b:0<L.length):∃g,a=some ⟨g,0,none⟩/\L.length<=cap/\cap<=maxLen:=by
 rcases h.cases with⟨rfl,rfl,rfl⟩|⟨g,cur,rfl,hg,h1,h2,h3,h4⟩
 . simp at b
 . exact⟨g,rfl,h1,h2⟩
theorem Jw.there{cap:Nat}{L:List Iv}(h:Jw w (some ⟨g,0,none⟩) cap L):w.there g 0 (L.length*4):=by
 rcases h.cases with⟨h0,_⟩|⟨g',cur,h0,hg,h1,h2,h3,h4⟩
 . cases h0
 . simp only[aE,Addr.mk.injEq] at h0;obtain⟨rfl,_⟩:=h0;intro j b;have d:L.length*4<=cap*4:=dT _ h1;rw[bN];constructor
   . rw[ay _ _ _ _ _ _ hg];simp[show j<cur.size by omega]
   . exact bG _ _ _ _ _ hg
structure Br where
 a:Option Addr
 c:Nat
 l:List Nat
def lD(s t:Br):Prop:=∀x y,s.a=some x->t.a=some y->x.block≠y.block
theorem lD.symm{s t:Br}(h:lD s t):lD t s:=λx y b d e=>h y x d b e.symm
structure Fam(w W:World)(T:List Br):Prop where
 own:∀t∈T,Own w W t.a t.c t.l/\B8 t.l
 dist:T.Pairwise lD
theorem Fam.nil(w W:World):Fam w W []:=⟨λ_ h=>(bm h).elim,List.Pairwise.nil⟩
theorem Fam.keep{T:List Br}(h:Fam w W T)(hb:Below W.heap.size W W'):Fam w W' T:=⟨λt b=>⟨(h.own t b).1.keep hb,(h.own t b).2⟩,h.dist⟩
theorem Fam.pre{d:World}{T:List Br}(hb:Below w.heap.size w d)(h:Fam d W T):Fam w W T:=⟨λt b=>⟨Own.pre hb (h.own t b).1,(h.own t b).2⟩,h.dist⟩
theorem Fam.add{T U:List Br}(h:Fam w W T)(k:Fam W W' U)(hb:Below W.heap.size W W')(d:Below w.heap.size w W):Fam w W' (T++U):=by
 refine⟨λt ht=>?_,de.2 ⟨h.dist,k.dist,λs b t ht x y f i e=>?_⟩⟩
 . rcases bq.1 ht with ht|ht
   . exact⟨(h.own t ht).1.keep hb,(h.own t ht).2⟩
   . exact⟨Own.pre d (k.own t ht).1,(k.own t ht).2⟩
 . have j:=(h.own s b).1.r.lt f;have l:=(k.own t ht).1.fresh i;omega
theorem Fam.sub{T U:List Br}(h:Fam w W T)(b:U.Sublist T):Fam w W U:=⟨λt d=>h.own t (b.subset d),h.dist.sublist b⟩
def Iv.rows(r:Iv):List Br:=[⟨r.aK,r.cK,r.key⟩,⟨r.aV,r.cV,r.val⟩]
def i7(L:List Iv):List Br:=(L.map Iv.rows).flatten
theorem jA(L M:List Iv):i7 (L++M)=i7 L++i7 M:=by simp[i7]
theorem lL(r:Iv)(M:List Iv):i7 (r::M)=r.rows++i7 M:=by simp[i7]
theorem mf(r:Iv):i7 [r]=r.rows:=by simp[i7]
theorem Io.fam{r:Iv}(h:Io w W r):Fam w W r.rows:=
 ⟨λt b=>by
   simp only[Iv.rows,cO,bm,gO] at b;rcases b with rfl|rfl
   . exact⟨h.k,h.k8⟩
   . exact⟨h.v,h.v8⟩,cQ.2 ⟨λt b=>by rw[aQ.1 b];exact h.apart,dy _ _⟩⟩
theorem Fam.io{r:Iv}(h:Fam w W r.rows):Io w W r:=
 ⟨(h.own ⟨r.aK,r.cK,r.key⟩ (by simp[Iv.rows])).1,(h.own ⟨r.aV,r.cV,r.val⟩ (by simp[Iv.rows])).1,(cQ.1 h.dist).1 ⟨r.aV,r.cV,r.val⟩ (by simp),(h.own ⟨r.aK,r.cK,r.key⟩ (by simp[Iv.rows])).2,(h.own ⟨r.aV,r.cV,r.val⟩ (by simp[Iv.rows])).2⟩
theorem kT{L:List Iv}{r:Iv}(h:r∈L):r.rows.Sublist (i7 L):=by
 obtain⟨a,b,rfl⟩:=List.append_of_mem h;rw[jA,lL];exact(List.sublist_append_left _ _).trans (List.sublist_append_right _ _)
theorem Fam.ii{L:List Iv}(h:Fam w W (i7 L))(d:∀r∈L,N64 r.child/\N64 r.size):∀r∈L,Ii W r:=λr b=>(Fam.io (h.sub (kT b))).ii (d r b).1 (d r b).2
theorem Jw.ne{a b:Option Addr}{cap c:Nat}{L:List Iv}{l:List Nat}(h:Jw w a cap L)(k:Rw w b c l){y:Addr}(d:a=some x)(f:b=some y):x.block≠y.block:=by
 intro e;rcases h.cases with⟨rfl,_⟩|⟨g,cur,rfl,hg,_⟩
 . cases d
 . rcases k.cases with⟨rfl,_⟩|⟨g',cur',rfl,hg',_⟩
   . cases f
   . cases d;cases f;dsimp only at e;subst e;rw[hg] at hg';simp only[aE,dU] at hg';exact absurd hg'.2.1 (by decide)
theorem Own.but{a:Option Addr}{cap:Nat}{l:List Nat}(h:Own w W a cap l)(hb:But S W W')(d:Below w.heap.size w W')(b:∀x,a=some x->¬S x.block):Own w W' a cap l:=⟨h.r.but hb b,h.n,d⟩
theorem Fam.but{T:List Br}(h:Fam w W T)(hb:But S W W')(e:Below w.heap.size w W')(d:∀t∈T,∀x,t.a=some x->¬S x.block):Fam w W' T:=⟨λt b=>⟨(h.own t b).1.but hb e (d t b),(h.own t b).2⟩,h.dist⟩
structure Pv where
 kind:Int
 level:Int
 aI:Option Addr
 cI:Nat
 items:List Iv
 aD:Option Addr
 cD:Nat
 data:List Nat
 next:Int
def Pv.cs(p:Pv):Array Value:=#[.int .i64 p.kind,.int .i64 p.level,.slice p.aI p.items.length p.cI,.slice p.aD p.data.length p.cD,.int .i64 p.next]
def Pv.vl(p:Pv):Value:=.agg p.cs
def Pv.pg(p:Pv):Pg:=⟨p.kind,p.level,p.items.map Iv.it,p.data,p.next⟩
def Pv.zero:Pv:=⟨0,0,none,0,[],none,0,[],0⟩
structure Pi(w:World)(p:Pv):Prop where
 it:Js w p.aI p.items
 ci:p.items.length<=p.cI
 bd:Bs w p.aD p.data
 cd:p.data.length<=p.cD
 nk:N64 p.kind
 nl:N64 p.level
 nn:N64 p.next
theorem Pi.keep{p:Pv}(h:Pi w p)(hb:Below w.heap.size w w'):Pi w' p:=⟨h.it.keep hb,h.ci,h.bd.keep hb,h.cd,h.nk,h.nl,h.nn⟩
theorem Pi.zero(w:World):Pi w Pv.zero:=⟨⟨λ_ h=>(bm h).elim,by simp[Pv.zero],.inl rfl⟩,ai _,Bs.nil w,ai _,by simp[Pv.zero,N64],by simp[Pv.zero,N64],by simp[Pv.zero,N64]⟩
theorem Pv.at(p:Pv)(i:Nat):p.pg.at i=(p.items.getD i Iv.zero).it:=by
 show(p.items.map Iv.it).getD i It.zero=_;have:It.zero=Iv.zero.it:=rfl;rw[this];simp[aq,c9]
theorem iP:(prog.info? 31).map (·.size)=some 5:=by kernel_rfl
end Go.Proofs.YtbdkogimlbnlmaaGreat
namespace Go.Proofs.YtbdkogimlbnlmaaGreat
open Tryz
open Go.RowKit
open Go.ChangeMaps (setBlock)
open Go.MapKept
variable {f g:Int->Option Value}{b clock i j:Nat}{S:Nat->Prop}{w w':World}
structure Mo(es:Array MapEntry)(clock:Nat)(f:Int->Option Value):Prop where
 st:Stamped es clock
 key:∀e∈es.toList,∃k:Int,e.key=.int .i64 k/\f k=some e.val
 has:∀k v,f k=some v->∃e∈es.toList,e.key=.int .i64 k
theorem Mo.isKey{d:Array MapEntry}(h:Mo d clock f):∀x∈d.toList,IsKey (.int .i64) x.key:=by
 intro x l;obtain⟨k,e,_⟩:=h.key x l;rw[e];rfl
theorem pT(k:Int):IsKey (.int .i64) (.int .i64 k):=rfl
theorem Mo.empty:Mo #[] 0 (λ_=>none):=⟨stamped_empty 0,by simp,by simp⟩
theorem Mo.find{d:Array MapEntry}(h:Mo d clock f)(k:Int):
 (Instr.findNow (.int .i64) (.int .i64 k) d.toList 0=some none/\f k=none/\∀x∈d.toList,x.key≠ .int .i64 k)\/
   ∃j e,Instr.findNow (.int .i64) (.int .i64 k) d.toList 0=some (some (j,e.val))/\d.toList[j]?=some e/\e.key=.int .i64 k/\f k=some e.val:=by
 rcases findNow_spec (pT k) d.toList 0 h.isKey with⟨h1,h2⟩|⟨j,e,h1,h2,h3⟩
 . refine .inl ⟨h1,?_,h2⟩;cases hf:f k with
   |none=>rfl
   |some v=>
    obtain⟨e,m,l⟩:=h.has k v hf;exact absurd l (h2 e m)
 . refine .inr ⟨j,e,by simpa using h1,h2,h3,?_⟩
   obtain⟨p,l,n⟩:=h.key e (bB h2);rw[h3] at l;simp only[Value.int.injEq,true_and] at l;rw[l];exact n
theorem Mo.congr{d:Array MapEntry}(h:Mo d clock f)(e:∀k,g k=f k):Mo d clock g:=by
 obtain rfl:g=f:=funext e;exact h
def lC(f:Int->Option Value)(k:Int)(v:Value):Int->Option Value:=λx=>if x=k then some v else f x
def oO(f:Int->Option Value)(k:Int):Int->Option Value:=λx=>if x=k then none else f x
theorem AM{α:Type}{l:List α}(h:l.Nodup){a:α}(hi:l[i]?=some a)(n:l[j]?=some a):i=j:=by
 obtain⟨d,e⟩:=bz.1 hi;obtain⟨k,m⟩:=bz.1 n;rcases Nat.lt_trichotomy i j with h1|h1|h1
 . exact absurd (e.trans m.symm) (fq.1 h i j d k h1)
 . exact h1
 . exact absurd (m.trans e.symm) (fq.1 h j i k d h1)
theorem tR{d:Array MapEntry}(h:Stamped d clock){a b:MapEntry}(hi:d.toList[i]?=some a)(k:d.toList[j]?=some b)(l:a.key=b.key):i=j:=by
 obtain⟨_,_,e⟩:=h;exact AM e (a:=a.key) (by rw[c9,hi];rfl) (by rw[c9,k,l];rfl)
theorem Mo.push{p:Array MapEntry}(h:Mo p clock f)(k:Int)(v:Value)(q:∀x∈p.toList,x.key≠ .int .i64 k):
 Mo (p.push {key:=.int .i64 k,val:=v,born:=clock}) (clock+1) (lC f k v):=by
 refine⟨stamped_push h.st q,?_,?_⟩
 . intro e d;simp only[Array.toList_push,bq,aQ] at d;rcases d with d|rfl
   . obtain⟨n,m,l⟩:=h.key e d;refine⟨n,m,?_⟩;unfold lC;rw[if_neg (λr=>q e d (by rw[m,r]))]
     exact l
   . exact⟨k,rfl,by simp[lC]⟩
 . intro n t l;by_cases e:n=k
   . subst e;exact⟨_,by simp only[Array.toList_push,bq,aQ];exact .inr rfl,rfl⟩
   . unfold lC at l;rw[if_neg e] at l;obtain⟨x,s,m⟩:=h.has n t l;exact⟨x,by simp[s],m⟩
theorem Mo.modify{m:Array MapEntry}(h:Mo m clock f)(k:Int)(v:Value)(j:Nat)(e:MapEntry)(q:m.toList[j]?=some e)(y:e.key=.int .i64 k):
 Mo (m.modify j λe=>{e with key:=.int .i64 k,val:=v}) clock (lC f k v):=by
 have E:m[j]?=some e:=by simpa using q
 have G:∀l,m[j]?=some l->({l with key:=.int .i64 k,val:=v}:MapEntry).key=l.key:=λl t=>by rw[E] at t;cases t;exact y.symm
 have B:∀i:Nat,(m.modify j λe=>{e with key:=.int .i64 k,val:=v}).toList[i]?=if j=i then (m.toList[i]?).map (λe=>{e with key:=.int .i64 k,val:=v}) else m.toList[i]?:=by
  intro i;simp only[fk,fI]
 refine⟨stamped_modify h.st _ _ (λ_ _=>rfl) (λl _ t=>G l t),?_,?_⟩
 . intro x A;obtain⟨i,d⟩:=e8 A;rw[B] at d;by_cases n:j=i
   . subst n;rw[if_pos rfl,q] at d;simp only[gZ,aE] at d;subst d;exact⟨k,rfl,by simp[lC]⟩
   . rw[if_neg n] at d;obtain⟨s,p,r⟩:=h.key x (bB d);refine⟨s,p,?_⟩;unfold lC;rw[if_neg (λl=>n (tR h.st q d (by rw[y,p,l])))]
     exact r
 . intro s D r;by_cases n:s=k
   . subst n;refine⟨_,bB (i:=j) (by rw[B,if_pos rfl,q];rfl),rfl⟩
   . unfold lC at r;rw[if_neg n] at r;obtain⟨x,A,p⟩:=h.has s D r;obtain⟨i,d⟩:=e8 A;refine⟨x,bB (i:=i) ?_,p⟩;rw[B,if_neg ?_]
     . exact d
     . intro C;subst C;rw[q] at d;cases d;rw[y] at p;simp only[Value.int.injEq,true_and] at p;exact n p.symm
theorem Mo.erase{d:Array MapEntry}(h:Mo d clock f)(k:Int)(j:Nat)(e:MapEntry)(s:d.toList[j]?=some e)(t:e.key=.int .i64 k):
 Mo (d.eraseIdxIfInBounds j) clock (oO f k):=by
 have D:j<d.size:=by
  have:=(bz.1 s).1;simpa using this
 have v:(d.eraseIdxIfInBounds j).toList=d.toList.eraseIdx j:=by
  unfold Array.eraseIdxIfInBounds;rw[dif_pos D,Array.toList_eraseIdx]
 have y:∀x,x∈d.toList.eraseIdx j↔∃i,i≠j/\d.toList[i]?=some x:=by
  intro x;rw[List.mem_eraseIdx_iff_getElem?]
 refine⟨stamped_erase h.st j,?_,?_⟩
 . intro x p;rw[v,y] at p;obtain⟨i,E,n⟩:=p;obtain⟨q,m,l⟩:=h.key x (bB n);refine⟨q,m,?_⟩;unfold oO;rw[if_neg (λA=>E (tR h.st n s (by rw[t,m,A])))]
   exact l
 . intro q C l;unfold oO at l;by_cases r:q=k
   . rw[if_pos r] at l;cases l
   . rw[if_neg r] at l;obtain⟨x,p,m⟩:=h.has q C l;obtain⟨i,n⟩:=e8 p;refine⟨x,?_,m⟩;rw[v,y];refine⟨i,λB=>?_,n⟩
     subst B;rw[s] at n;cases n;rw[t] at m;simp only[Value.int.injEq,true_and] at m;exact r m.symm
def Mp(w:World)(b:Nat)(f:Int->Option Value):Prop:=∃es clock,w.heap[b]?=some (.map es clock)/\Mo es clock f
theorem Mp.lt(h:Mp w b f):b<w.heap.size:=by
 obtain⟨d,clock,hb,_⟩:=h;exact(af.1 hb).1
theorem Mp.of_block(h:Mp w b f)(hb:w'.heap[b]?=w.heap[b]?):Mp w' b f:=by
 obtain⟨d,clock,e,k⟩:=h;exact⟨d,clock,hb.trans e,k⟩
theorem Mp.but(h:Mp w b f)(hb:But S w w')(d:¬S b):Mp w' b f:=h.of_block (hb.block b h.lt d)
theorem Mp.keep(h:Mp w b f)(hb:Below w.heap.size w w'):Mp w' b f:=h.of_block (hb.block b h.lt)
theorem Mp.made(w:World):Mp (w.alloc (.map #[] 0)) w.heap.size (λ_=>none):=⟨#[],0,(heap_alloc w _).1,Mo.empty⟩
theorem Mp.congr(h:Mp w b f)(e:∀k,g k=f k):Mp w b g:=by
 obtain rfl:g=f:=funext e;exact h
theorem But.setBlock(o:Obj)(d:S b):But S w (setBlock w b o):=
 ⟨rfl,rfl,rfl,by simp[Go.ChangeMaps.setBlock],λk _ h=>by
   show(w.heap.setIfInBounds b o)[k]?=_;rw[fs];intro e;subst e;exact h d⟩
section
variable {P:Program} {w:World} {b:Nat} {f:Int->Option Value} {T K E:TypeId}
theorem Mp.look(h:Mp w b f)(l:P.underlying T=some (.map K E))(d:P.underlying K=some (.int .i64))(z:Value)(n:(zeroValue E).run P w=.ok z w)(k:Int)(c:Bool):
 (Instr.lookup T (.map (some b)) (.int .i64 k) c).run P w=.ok (if c then .tuple #[(f k).getD z,.bool (f k).isSome] else (f k).getD z) w:=by
 obtain⟨p,clock,hb,m⟩:=h;rcases m.find k with⟨h1,h2,_⟩|⟨j,e,h1,_,_,h4⟩
 . simp[Instr.lookup,dt l,Go.MapKept.run_getObj_map hb,run_checkKey d (pT k),run_findKey d h1,Result.andThen,n,h2]
 . simp[Instr.lookup,dt l,Go.MapKept.run_getObj_map hb,run_checkKey d (pT k),run_findKey d h1,Result.andThen,h4]
theorem Mp.store(h:Mp w b f)(n:P.underlying T=some (.map K E))(d:P.underlying K=some (.int .i64))(k:Int)(v:Value):
 ∃w',(Instr.mapUpdate T (.map (some b)) (.int .i64 k) v).run P w=.ok () w'/\Mp w' b (lC f k v)/\But (· =b) w w'/\w'.heap.size=w.heap.size:=by
 obtain⟨l,clock,hb,m⟩:=h;rcases m.find k with⟨h1,h2,h3⟩|⟨j,e,h1,h2,h3,h4⟩
 . refine⟨setBlock w b (.map (l.push {key:=.int .i64 k,val:=v,born:=clock}) (clock+1)),?_,⟨_,_,(heap_set hb).1,m.push k v h3⟩,But.setBlock _ rfl,by simp[setBlock]⟩
   simp[Instr.mapUpdate,dt n,Go.MapKept.run_getObj_map hb,run_checkKey d (pT k),run_findKey d h1,Go.MapKept.run_setObj_map _ hb,Result.andThen,setBlock]
 . have p:l[j]?=some e:=by simpa using h2
   refine⟨setBlock w b (.map (l.modify j λe=>{e with key:=.int .i64 k,val:=v}) clock),?_,⟨_,_,(heap_set hb).1,m.modify k v j e h2 h3⟩,But.setBlock _ rfl,by simp[setBlock]⟩
   simp[Instr.mapUpdate,dt n,Go.MapKept.run_getObj_map hb,run_checkKey d (pT k),run_findKey d h1,p,h3,run_keyThatStays (pT k),Go.MapKept.run_setObj_map _ hb,Result.andThen,setBlock]
theorem Mp.drop(h:Mp w b f)(p:P.underlying T=some (.map K E))(d:P.underlying K=some (.int .i64))(k:Int)(q:TypeId):
 ∃w',(∀m,(Builtin.delete_ #[T,q] m #[.map (some b),.int .i64 k]).run P w=.ok (.tuple #[]) w')/\Mp w' b (oO f k)/\But (· =b) w w'/\w'.heap.size=w.heap.size:=by
 obtain⟨n,clock,hb,l⟩:=h;rcases l.find k with⟨h1,h2,h3⟩|⟨j,e,h1,h2,h3,h4⟩
 . refine⟨setBlock w b (.map n clock),?_,⟨_,_,(heap_set hb).1,l.congr λx=>?_⟩,But.setBlock _ rfl,by simp[setBlock]⟩
   . intro m;simp[Builtin.delete_,dt p,Go.MapKept.run_getObj_map hb,run_checkKey d (pT k),run_findKey d h1,Go.MapKept.run_setObj_map _ hb,Result.andThen,setBlock]
   . unfold oO;split
     . rename_i e;rw[e,h2]
     . rfl
 . refine⟨setBlock w b (.map (n.eraseIdxIfInBounds j) clock),?_,⟨_,_,(heap_set hb).1,l.erase k j e h2 h3⟩,But.setBlock _ rfl,by simp[setBlock]⟩
   intro m;simp[Builtin.delete_,dt p,Go.MapKept.run_getObj_map hb,run_checkKey d (pT k),run_findKey d h1,Go.MapKept.run_setObj_map _ hb,Result.andThen,setBlock]
end
section
variable {P:Program} {w:World} {b r:Nat} {f:Int->Option Value} {T K E:TypeId}
end
end Go.Proofs.YtbdkogimlbnlmaaGreat
