import Derived.Test.YteaogidofpfmmaaGreatWaB0
import Derived.Deep.MidRow
import Derived.Laws.ResultCell
import Derived.Maps.RangeRun
import Derived.MapKept
set_option linter.all false
namespace Go.Proofs.YteaogidofpfmmaaGreat
open Tryz
structure It where
 key:List Nat
 val:List Nat
 child:Int
 size:Int
structure Pg where
 kind:Int
 level:Int
 items:List It
 data:List Nat
 next:Int
def It.zero:It:=⟨[],[],0,0⟩
def kN(n:Int):Bool:=decide (1<=n)&&decide (n<=65536)
theorem o9{n:Int}:kN n=true↔1<=n/\n<=65536:=by unfold kN;simp
def Pg.form(p:Pg):Bool:=
 if p.kind=3 then decide (p.level=0)&&decide (p.items.length=0)&&decide (1<=p.data.length)&&decide (p.data.length<=480)
 else decide (p.data.length=0)&&decide (p.next=0)&&decide (p.items.length<=8)&&(if p.kind=1 then decide (p.level=0)&&decide (1<=p.items.length) else decide (1<=p.level)&&decide (p.level<=11)&&decide (2<=p.items.length))
def Pg.at(p:Pg)(i:Nat):It:=p.items.getD i It.zero
def Pg.keyOk(p:Pg)(i:Nat):Bool:=if p.kind=2/\i=0 then decide ((p.at i).key.length=0) else decide (1<=(p.at i).key.length)&&decide ((p.at i).key.length<=24)
def It.valOk(kind:Int)(x:It):Bool:=if kind=2 then decide (x.val.length=0)&&decide (x.size=0) else if x.size<0\/3840<x.size then false else if x.size<=32 then decide ((x.val.length:Int)=x.size) else decide (x.val.length=0)
def It.kidOk(kind:Int)(x:It):Bool:=if kind=1/\x.size<=32 then decide (x.child=0) else kN x.child
def Pg.ordOk(p:Pg)(i:Nat):Bool:=decide (i=0)||decide (0<iy (p.at i).key (p.at (i-1)).key)
def Pg.itemE(p:Pg)(i:Nat):Nat:=if p.keyOk i=false then 7 else if p.ordOk i=false then 11 else if (p.at i).valOk p.kind=false then 8 else if (p.at i).kidOk p.kind=false then 15 else 0
def jc(f:Nat->Nat):Nat->Nat
 |0=>0
 |n+1=>if jc f n≠0 then jc f n else f n
theorem pX{f:Nat->Nat}:∀{n},jc f n=0->∀i,i<n->f i=0
 |0,_,i,hi=>absurd hi (dA _)
 |n+1,h,i,hi=>by
  unfold jc at h;split at h
  . exact absurd h ‹_›
  . rename_i h0;by_cases e:i=n
    . rw[e];exact h
    . exact pX (n:=n) (by simpa using h0) i (by omega)
theorem tA{f:Nat->Nat}:∀{n},(∀i,i<n->f i=0)->jc f n=0
 |0,_=>rfl
 |n+1,h=>by
  have:=tA (n:=n) λi a=>h i (by omega)
  unfold jc;rw[this];exact h n (by omega)
theorem qe{f:Nat->Nat}{k:Nat}(h:jc f k=0)(hk:f k≠0):∀n,k<n->jc f n=f k
 |0,hn=>absurd hn (dA _)
 |n+1,hn=>by
  unfold jc;by_cases e:k=n
  . subst e;rw[h];rfl
  . rw[qe h hk n (by omega),if_pos hk]
def Pg.kindOk(p:Pg):Bool:=decide (p.kind=1)||decide (p.kind=2)||decide (p.kind=3)
theorem Pg.kindOk_iff{p:Pg}:p.kindOk=true↔p.kind=1\/p.kind=2\/p.kind=3:=by unfold Pg.kindOk;simp[or_assoc]
def Pg.nextOk(p:Pg):Bool:= !(decide (p.kind=3)&&decide (p.next≠0)&& !kN p.next)
def Pg.check(p:Pg):Nat:=if p.kindOk=false then 22 else if p.form=false then 5 else if jc p.itemE p.items.length≠0 then jc p.itemE p.items.length else if p.nextOk=false then 15 else 0
structure Sound(p:Pg):Prop where
 k:p.kindOk=true
 f:p.form=true
 i:∀i,i<p.items.length->p.itemE i=0
 n:p.nextOk=true
theorem Pg.check_zero{p:Pg}:p.check=0↔Sound p:=by
 unfold Pg.check;constructor
 . intro h;split at h
   . cases h
   split at h
   . cases h
   split at h
   . rename_i a;exact absurd h a
   split at h
   . cases h
   . rename_i a b c d;exact⟨by simpa using a,by simpa using b,pX (by simpa using c),by simpa using d⟩
 . intro h;rw[if_neg (by rw[h.k];simp),if_neg (by rw[h.f];simp),tA h.i,if_neg (by simp),if_neg (by rw[h.n];simp)]
theorem mK{p:Pg}{i:Nat}:p.itemE i=0↔p.keyOk i=true/\p.ordOk i=true/\(p.at i).valOk p.kind=true/\(p.at i).kidOk p.kind=true:=by
 unfold Pg.itemE;cases p.keyOk i<;>cases p.ordOk i<;>cases (p.at i).valOk p.kind<;>cases (p.at i).kidOk p.kind<;>simp
theorem wh{p:Pg}{i:Nat}(h:i<p.items.length):p.at i∈p.items:=by
 unfold Pg.at;simp[h]
theorem vm{p:Pg}{x:It}(h:x∈p.items):∃i,i<p.items.length/\p.at i=x:=by
 obtain⟨i,a,e⟩:=List.mem_iff_getElem.1 h;exact⟨i,a,by unfold Pg.at;simp[a,e]⟩
structure Fits(kind:Int)(x:It):Prop where
 key:x.key.length<=24
 leaf:kind=1->0<=x.size/\x.size<=3840/\(x.size<=32->(x.val.length:Int)=x.size/\x.child=0)/\(32<x.size->x.val=[]/\1<=x.child/\x.child<=65536)
 index:kind=2->x.val=[]/\x.size=0/\1<=x.child/\x.child<=65536
theorem Sound.fits{p:Pg}(h:Sound p){x:It}(f:x∈p.items):Fits p.kind x:=by
 obtain⟨i,e,rfl⟩:=vm f;obtain⟨c,_,a,b⟩:=mK.1 (h.i i e);refine⟨?_,?_,?_⟩
 . unfold Pg.keyOk at c;split at c
   . simp at c;rw[c];simp
   . simp at c;exact c.2
 . intro g;unfold It.valOk at a;unfold It.kidOk at b;rw[if_neg (by omega)] at a
   split at a
   . cases a
   . rename_i k;refine⟨by omega,by omega,λd=>?_,λd=>?_⟩
     . rw[if_pos d] at a;rw[if_pos ⟨g,d⟩] at b;simp at a b;exact⟨a,b⟩
     . rw[if_neg (by omega)] at a
       rw[if_neg (by omega)] at b
       simp at a;have:=o9.1 b;exact⟨a,this⟩
 . intro j;unfold It.valOk at a;unfold It.kidOk at b;rw[if_pos j] at a;rw[if_neg (by omega)] at b
   simp at a;exact⟨a.1,a.2,o9.1 b⟩
theorem Sound.blob{p:Pg}(h:Sound p)(hk:p.kind=3):p.level=0/\p.items=[]/\1<=p.data.length/\p.data.length<=480/\0<=p.next/\p.next<=65536:=by
 have a:=h.f;have b:=h.n;unfold Pg.form at a;unfold Pg.nextOk at b;rw[if_pos hk] at a;simp at a;simp[hk] at b;obtain⟨⟨⟨d,e⟩,f⟩,g⟩:=a;refine⟨d,e,f,g,?_⟩;by_cases c:p.next=0
 . omega
 . have:=o9.1 (b.resolve_left c);omega
theorem Sound.node{p:Pg}(h:Sound p)(hk:p.kind=1\/p.kind=2):p.data=[]/\p.next=0/\p.items.length<=8/\0<=p.level/\p.level<=11:=by
 have a:=h.f;unfold Pg.form at a;rw[if_neg (by omega)] at a
 simp at a;obtain⟨⟨⟨b,c⟩,d⟩,e⟩:=a;refine⟨b,c,d,?_⟩;split at e
 . have:p.level=0:=by grind
   omega
 . have:1<=p.level/\p.level<=11:=by grind
   omega
def It.b8(x:It):Prop:=B8 x.key/\B8 x.val
def Pg.b8(p:Pg):Prop:=(∀x∈p.items,x.b8)/\B8 p.data
def Pg.kids(p:Pg):List Int:=if p.kind=2 then p.items.map It.child else if p.kind=1 then (p.items.map It.child).filter (λc=>decide (c≠0)) else if p.kind=3/\p.next≠0 then [p.next] else []
end Go.Proofs.YteaogidofpfmmaaGreat
namespace Go.Proofs.YteaogidofpfmmaaGreat
open Tryz
open Go.RowKit
variable {x:Addr}{g o:Nat}{S:Nat->Prop}{W W' w w' wx wy:World}
def N64(x:Int):Prop:= -9223372036854775808<=x/\x<=9223372036854775807
structure Iv where
 aK:Option Addr
 cK:Nat
 key:List Nat
 aV:Option Addr
 cV:Nat
 val:List Nat
 child:Int
 size:Int
def Iv.cs(r:Iv):Array Value:=#[.slice r.aK r.key.length r.cK,.slice r.aV r.val.length r.cV,.int .i64 r.child,.int .i64 r.size]
def Iv.vl(r:Iv):Value:=.agg r.cs
def Iv.it(r:Iv):It:=⟨r.key,r.val,r.child,r.size⟩
structure Ii(w:World)(r:Iv):Prop where
 bk:Bs w r.aK r.key
 ck:r.key.length<=r.cK
 bv:Bs w r.aV r.val
 cv:r.val.length<=r.cV
 nc:N64 r.child
 ns:N64 r.size
theorem Ii.keep{r:Iv}(h:Ii w r)(hb:Below w.heap.size w w'):Ii w' r:=⟨h.bk.keep hb,h.ck,h.bv.keep hb,h.cv,h.nc,h.ns⟩
theorem Ii.b8{r:Iv}(h:Ii w r):r.it.b8:=⟨h.bk.1,h.bv.1⟩
theorem qJ:(prog.info? 89).map (·.size)=some 4:=by kernel_rfl
structure Io(w wx:World)(r:Iv):Prop where
 k:Own w wx r.aK r.cK r.key
 v:Own w wx r.aV r.cV r.val
 apart:∀x y,r.aK=some x->r.aV=some y->x.block≠y.block
 k8:B8 r.key
 v8:B8 r.val
theorem Rw.cap{a:Option Addr}{cap:Nat}{l:List Nat}(h:Rw w a cap l):l.length<=cap:=by
 rcases h.cases with⟨_,rfl,rfl⟩|⟨g,cur,_,_,h1,_⟩
 . exact am _
 . exact h1
theorem Io.keep{r:Iv}(h:Io w wx r)(hb:Below wx.heap.size wx wy):Io w wy r:=⟨h.k.keep hb,h.v.keep hb,h.apart,h.k8,h.v8⟩
theorem Own.bs{a:Option Addr}{cap:Nat}{l:List Nat}(h:Own w wx a cap l)(b:B8 l):Bs wx a l:=h.r.bs b h.r.len_le
def Iv.zero:Iv:=⟨none,0,[],none,0,[],0,0⟩
theorem mS:(prog.info? 89).map (λi=>(i.zero,i.size,i.bytes))=some (some (.agg Iv.zero.cs),4,64):=by kernel_rfl
theorem Aw(v:Iv):v.cs.all (·.oneCell')=true:=by simp[Iv.cs,Value.oneCell']
theorem xg{b:Nat}{cs:List Value}(h:w.rangeAt b o cs)(hb:Below w.heap.size w w'):w'.rangeAt b o cs:=λj v a=>(hb.cell (p:=⟨b,o+j,none⟩) (block_lt_of_cell (h j v a))).trans (h j v a)
def Js(w:World)(a:Option Addr)(L:List Iv):Prop:=
 (∀r∈L,Ii w r)/\L.length<=2199023255520/\(L=[]\/∃b off,a=some ⟨b,off,none⟩/\∀r,r<L.length->w.rangeAt b (off+r*4) (L.getD r Iv.zero).cs.toList)
theorem iH{L:List Iv}{r:Nat}(h:r<L.length):L.getD r Iv.zero∈L:=by simp[h]
theorem Js.keep{a:Option Addr}{L:List Iv}(h:Js w a L)(hb:Below w.heap.size w w'):Js w' a L:=
 ⟨λr c=>(h.1 r c).keep hb,h.2.1,h.2.2.imp id λ⟨b,f,e,c⟩=>⟨b,f,e,λr d=>xg (c r d) hb⟩⟩
theorem Js.at{a:Option Addr}{L:List Iv}(h:Js w a L){r:Nat}(d:r<L.length):∃b c,a=some ⟨b,c,none⟩/\w.rangeAt b (c+r*4) (L.getD r Iv.zero).cs.toList:=by
 rcases h.2.2 with rfl|⟨b,c,e,f⟩
 . simp at d
 . exact⟨b,c,e,f r d⟩
theorem jn{b:Nat}{r:Iv}(h:w.rangeAt b o r.cs.toList):w.cell? ⟨b,o,none⟩=some (.slice r.aK r.key.length r.cK)/\w.cell? ⟨b,o+1,none⟩=some (.slice r.aV r.val.length r.cV)/\w.cell? ⟨b,o+2,none⟩=some (.int .i64 r.child)/\w.cell? ⟨b,o+3,none⟩=some (.int .i64 r.size):=
 ⟨h 0 _ rfl,h 1 _ rfl,h 2 _ rfl,h 3 _ rfl⟩
def Jc(L:List Iv):List Value:=(L.map λv=>v.cs.toList).flatten
theorem xQ(L:List Iv)(v:Iv):Jc (L++[v])=Jc L++v.cs.toList:=by simp[Jc]
theorem ng(L:List Iv):(Jc L).length=L.length*4:=by
 induction L with
 |nil=>rfl
 |cons v L ih=>
  have:Jc (v::L)=v.cs.toList++Jc L:=by simp[Jc]
  rw[this,af,ih,a7];have:v.cs.toList.length=4:=rfl;omega
theorem vr(L:List Iv)(r j:Nat)(b:r<L.length)(c:j<4):(Jc L)[r*4+j]?=(L.getD r Iv.zero).cs.toList[j]?:=by
 induction L generalizing r with
 |nil=>simp at b
 |cons v L ih=>
  have e:Jc (v::L)=v.cs.toList++Jc L:=by simp[Jc]
  have a:v.cs.toList.length=4:=rfl;rw[e];cases r with
  |zero=>
   rw[eV,de,db (by omega)]
   simp
  |succ r=>
   rw[bP (by rw[a];omega),a,show(r+1)*4+j-4=r*4+j by omega,ih r (by simpa using b)]
   simp
def Jw(w:World)(a:Option Addr)(cap:Nat)(L:List Iv):Prop:=w.ownsRow 0 89 4 (.slice a L.length cap) L.length (Jc L)
theorem Jw.nil(w:World):Jw w none 0 []:=fH w 0 89 4
theorem Jw.cases{a:Option Addr}{cap:Nat}{L:List Iv}(h:Jw w a cap L):(a=none/\cap=0/\L=[])\/
 ∃g cur,a=some ⟨g,0,none⟩/\w.heap[g]?=some (.cells cur 89 (0,0))/\L.length<=cap/\cap<=maxLen/\cur.size=cap*4/\cur.toList.take (L.length*4)=Jc L:=by
 obtain⟨_,c⟩:=h;rcases c with⟨hv,h0⟩|⟨g,cap',cur,hv,_,hg,hn,hm,hs,ht⟩
 . simp only[di] at hv;exact .inl ⟨hv.1,hv.2.2,dz.1 h0⟩
 . simp only[di] at hv;obtain⟨b,_,rfl⟩:=hv;exact .inr ⟨g,cur,b,hg,hn,hm,hs,ht⟩
theorem Jw.mk{cap:Nat}{cur:Array Value}{L:List Iv}(a:w.heap[g]?=some (.cells cur 89 (0,0)))(c:L.length<=cap)(b:cap<=maxLen)(d:cur.size=cap*4)(e:cur.toList.take (L.length*4)=Jc L):Jw w (some ⟨g,0,none⟩) cap L:=
 ⟨ng L,.inr ⟨g,cap,cur,rfl,an _,a,c,b,d,e⟩⟩
theorem Jw.lt{a:Option Addr}{cap:Nat}{L:List Iv}(h:Jw w a cap L)(b:a=some x):x.block<w.heap.size:=by
 rcases h.cases with⟨rfl,_⟩|⟨g,cur,rfl,hg,_⟩
 . cases b
 . cases b;exact(ae.1 hg).1
theorem Jw.but{a:Option Addr}{cap:Nat}{L:List Iv}(h:Jw w a cap L)(hb:But S w w')(b:∀x,a=some x->¬S x.block):Jw w' a cap L:=by
 rcases h.cases with⟨rfl,rfl,rfl⟩|⟨g,cur,rfl,hg,h1,h2,h3,h4⟩
 . exact Jw.nil w'
 . exact Jw.mk ((hb.block g (ae.1 hg).1 (b _ rfl)).trans hg) h1 h2 h3 h4
theorem Jw.keep{a:Option Addr}{cap:Nat}{L:List Iv}(h:Jw w a cap L)(hb:Below w.heap.size w w'):Jw w' a cap L:=
 h.but (S:=λ_=>False) (But.ofBelow hb) (λ_ _ b=>b)
theorem Jw.qs{a:Option Addr}{cap:Nat}{L:List Iv}(h:Jw w a cap L)(hk:∀r∈L,Ii w r)(e:L.length<=2199023255520):Js w a L:=by
 refine⟨hk,e,?_⟩;rcases h.cases with⟨rfl,rfl,rfl⟩|⟨g,cur,rfl,hg,h1,h2,h3,h4⟩
 . exact .inl rfl
 . refine .inr ⟨g,0,rfl,λr b j u c=>?_⟩
   have d:j<4:=(bA.1 c).1;rw[ai _ _ _ _ _ _ hg,de,<-c,<-vr L r j b d,<-h4,d5,if_pos (by have:(r+1)*4<=L.length*4:=fd _ b;omega)]
   simp
theorem Fw(w:World)(i:TypeId)(a:Option Addr)(n cap:Nat)(L:List Iv)(q:n=L.length)(l:Jw w a cap L)(d:Addr)(c:Nat)(v:Iv)(m:∀j u,v.cs.toList[j]?=some u->w.cell? (d.add j)=some u)(F:L.length+1<=2199023255520):
 ∃g b w',(Builtin.append_ #[75,75] i #[.slice a n cap,.slice (some d) 1 c]).run prog w=.ok (.slice (some ⟨g,0,none⟩) (n+1) b) w'/\
  Jw w' (some ⟨g,0,none⟩) b (L++[v])/\New w a (some ⟨g,0,none⟩)/\w.grownBy w' (a.map Addr.block):=by
 subst q;obtain⟨A,p,B,C,D⟩:=eo mS
 obtain⟨g,b,w',r,k,f,h3,E⟩:=fD (P:=prog) w 75 i 0 89 A (.agg Iv.zero.cs) 4 64 underlying75 p B C D rfl (by decide) (.slice a L.length cap) L.length (Jc L) l d 1 c v.cs.toList rfl
  m (λu s=>(Array.all_eq_true_iff_forall_mem.1 (Aw v)) u (by simpa using s)) (by decide) (by unfold maxLen;omega) (by omega) (an _) w.heap.size rfl
 rw[pD] at f h3;refine⟨g,b,w',r,?_,?_,f⟩
 . unfold Jw;rw[xQ,af];exact k
 . intro y h;simp only[au] at h;subst h;rcases h3 with h3|h3
   . obtain⟨z,t,e⟩:=map_some h3;exact .inl ⟨z,t,e⟩
   . exact .inr (by show _<=g;omega)
theorem Hb{w:World}{o:Oper}{a:Act}{K:Act->World->Prop}{Q:Exit->Act->World->Prop}(s x:Operand)
 (q:o.op=.call {callee:=.builtin .append,args:=#[s,x],argTypes:=#[75,75]}) (b:Option Addr) (n cap:Nat) (L:List Iv) (t:a.eval s=.slice b n cap) (p:n=L.length) (l:Jw w b cap L)
 (e:Addr) (c:Nat) (v:Iv) (y:a.eval x=.slice (some e) 1 c) (m:∀j u,v.cs.toList[j]?=some u->w.cell? (e.add j)=some u) (A:L.length+1<=2199023255520)
 (h:∀g d w',Jw w' (some ⟨g,0,none⟩) d (L++[v])->New w b (some ⟨g,0,none⟩)->w.grownBy w' (b.map Addr.block)->K (a.put o.dst (.slice (some ⟨g,0,none⟩) (n+1) d)) w'):o.wp prog a w K Q:=by
 obtain⟨g,d,w',r,f,i,k⟩:=Fw w o.type b n cap L p l e c v m A;unfold Oper.wp execOp;simp only[q,resolve,invoke,builtin,eu,ey,dP,eB,bT,eG,t,y,r];exact h g d w' f i k
theorem yq{w:World}{f:Array Oper}{i:List Oper}{o:Oper}{a:Act}{Q:Exit->Act->World->Prop}(C:o.guard=none)(s x:Operand)
 (y:o.op=.call {callee:=.builtin .append,args:=#[s,x],argTypes:=#[75,75]}) (b:Option Addr) (n cap:Nat) (L:List Iv) (A:a.eval s=.slice b n cap) (t:n=L.length) (q:Jw w b cap L)
 (e:Addr) (c:Nat) (v:Iv) (B:a.eval x=.slice (some e) 1 c) (r:∀j u,v.cs.toList[j]?=some u->w.cell? (e.add j)=some u) (D:L.length+1<=2199023255520)
 (h:∀g d w',Jw w' (some ⟨g,0,none⟩) d (L++[v])->New w b (some ⟨g,0,none⟩)->w.grownBy w' (b.map Addr.block)->wpList prog f Q i (a.put o.dst (.slice (some ⟨g,0,none⟩) (n+1) d)) w'):wpList prog f Q (o::i) a w:=
 fP C λ_ p=>Hb s x y b n cap L A t q e c v B r D λg d w' k l m=>p _ _ (h g d w' k l m)
structure JOwn(w wx:World)(a:Option Addr)(cap:Nat)(L:List Iv):Prop where
 r:Jw wx a cap L
 n:New w none a
 b:Below w.heap.size w wx
theorem JOwn.nil(w:World)(h:Below w.heap.size w wx):JOwn w wx none 0 []:=⟨Jw.nil _,New.none _ _,h⟩
theorem JOwn.keep{a:Option Addr}{cap:Nat}{L:List Iv}(h:JOwn w wx a cap L)(hb:Below wx.heap.size wx wy):JOwn w wy a cap L:=⟨h.r.keep hb,h.n,bt h.b hb⟩
theorem JOwn.step{c:World}{a b:Option Addr}{cap f:Nat}{L d:List Iv}(h:JOwn w wx a cap L)(hb:Below wx.heap.size wx c)(l:Jw wy b f d)(j:New c a b)(m:c.grownBy wy (a.map Addr.block)):JOwn w wy b f d:=by
 refine⟨l,h.n.trans j (ay h.b.size hb.size),?_⟩;have i:=bt h.b hb
 have n:But (λ_=>False) w wy:=(But.ofBelow i).grown m λk hk q=>by
  obtain⟨y,p,e⟩:=map_some hk;rcases h.n y p with⟨z,hz,_⟩|h2
  . cases hz
  . omega
 exact n.below λ_ _ h=>h
theorem Jw.cells{cap:Nat}{L:List Iv}(h:Jw w (some ⟨g,0,none⟩) cap L):∀j u,(Jc L)[j]?=some u->w.cell? ((⟨g,0,none⟩:Addr).add j)=some u:=by
 rcases h.cases with⟨h0,_⟩|⟨g',cur,h0,hg,h1,h2,h3,h4⟩
 . cases h0
 . simp only[au,Addr.mk.injEq] at h0;obtain⟨rfl,_⟩:=h0;intro j u a;rw[Addr.add_mid,de,ai _ _ _ _ _ _ hg];have b:=(bA.1 a).1;rw[ng] at b;rw[<-h4,d5,if_pos b] at a;rw[<-a];simp
theorem py(g:Nat)(t:TypeId):∀(vs:List Value)(w:World)(o:Nat)(cur:Array Value),w.heap[g]?=some (.cells cur t (0,0))->
 ∃a:Array Value,(w.setCells g o vs).heap[g]?=some (.cells a t (0,0))/\a.size=cur.size/\∀i,i<cur.size->a[i]?=if o<=i/\i<o+vs.length then vs[i-o]? else cur[i]?:=by
 intro vs;induction vs with
 |nil=>exact λw o cur b=>⟨cur,b,rfl,λi _=>by rw[if_neg (by simp)]⟩
 |cons v vs ih=>
  intro w o cur b;obtain⟨a,f,h,j⟩:=ih (w.setCell ⟨g,o,none⟩ v) (o+1) (cur.setIfInBounds o v) (aE w g o _ _ _ b);refine⟨a,f,by rw[h];simp,λi d=>?_⟩
  rw[j i (by simpa using d),a7]
  by_cases e:i=o
  . subst e;rw[if_neg (by omega),if_pos (by omega),eC]
    simp[d]
  . by_cases c:o+1<=i/\i<o+1+vs.length
    . rw[if_pos c,if_pos (by omega),show i-o=(i-(o+1))+1 by omega,eE]
    . rw[if_neg c,if_neg (by omega),Array.getElem?_setIfInBounds_ne (by omega)]
structure Br where
 a:Option Addr
 c:Nat
 l:List Nat
def jE(s t:Br):Prop:=∀x y,s.a=some x->t.a=some y->x.block≠y.block
theorem jE.symm{s t:Br}(h:jE s t):jE t s:=λx y a b e=>h y x b a e.symm
structure Fam(w W:World)(T:List Br):Prop where
 own:∀t∈T,Own w W t.a t.c t.l/\B8 t.l
 dist:T.Pairwise jE
theorem Fam.nil(w W:World):Fam w W []:=⟨λ_ h=>(cf h).elim,List.Pairwise.nil⟩
theorem Fam.keep{T:List Br}(h:Fam w W T)(hb:Below W.heap.size W W'):Fam w W' T:=⟨λt a=>⟨(h.own t a).1.keep hb,(h.own t a).2⟩,h.dist⟩
theorem Fam.add{T U:List Br}(h:Fam w W T)(k:Fam W W' U)(hb:Below W.heap.size W W')(b:Below w.heap.size w W):Fam w W' (T++U):=by
 refine⟨λt ht=>?_,dE.2 ⟨h.dist,k.dist,λs a t ht x y c d e=>?_⟩⟩
 . rcases bO.1 ht with ht|ht
   . exact⟨(h.own t ht).1.keep hb,(h.own t ht).2⟩
   . exact⟨Own.pre b (k.own t ht).1,(k.own t ht).2⟩
 . have f:=(h.own s a).1.r.lt c;have i:=(k.own t ht).1.fresh d;omega
theorem Fam.sub{T U:List Br}(h:Fam w W T)(a:U.Sublist T):Fam w W U:=⟨λt b=>h.own t (a.subset b),h.dist.sublist a⟩
def Iv.rows(r:Iv):List Br:=[⟨r.aK,r.cK,r.key⟩,⟨r.aV,r.cV,r.val⟩]
def ji(L:List Iv):List Br:=(L.map Iv.rows).flatten
theorem kD(L M:List Iv):ji (L++M)=ji L++ji M:=by simp[ji]
theorem pV(r:Iv)(M:List Iv):ji (r::M)=r.rows++ji M:=by simp[ji]
theorem mI(r:Iv):ji [r]=r.rows:=by simp[ji]
theorem Io.fam{r:Iv}(h:Io w W r):Fam w W r.rows:=
 ⟨λt a=>by
   simp only[Iv.rows,bQ,cf,fY] at a;rcases a with rfl|rfl
   . exact⟨h.k,h.k8⟩
   . exact⟨h.v,h.v8⟩,dd.2 ⟨λt a=>by rw[aZ.1 a];exact h.apart,ft _ _⟩⟩
theorem Fam.io{r:Iv}(h:Fam w W r.rows):Io w W r:=
 ⟨(h.own ⟨r.aK,r.cK,r.key⟩ (by simp[Iv.rows])).1,(h.own ⟨r.aV,r.cV,r.val⟩ (by simp[Iv.rows])).1,(dd.1 h.dist).1 ⟨r.aV,r.cV,r.val⟩ (by simp),(h.own ⟨r.aK,r.cK,r.key⟩ (by simp[Iv.rows])).2,(h.own ⟨r.aV,r.cV,r.val⟩ (by simp[Iv.rows])).2⟩
theorem vJ{L:List Iv}{r:Iv}(h:r∈L):r.rows.Sublist (ji L):=by
 obtain⟨a,b,rfl⟩:=List.append_of_mem h;rw[kD,pV];exact(List.sublist_append_left _ _).trans (List.sublist_append_right _ _)
theorem Jw.ne{a b:Option Addr}{cap c:Nat}{L:List Iv}{l:List Nat}(h:Jw w a cap L)(k:Rw w b c l){y:Addr}(d:a=some x)(f:b=some y):x.block≠y.block:=by
 intro e;rcases h.cases with⟨rfl,_⟩|⟨g,cur,rfl,hg,_⟩
 . cases d
 . rcases k.cases with⟨rfl,_⟩|⟨g',cur',rfl,hg',_⟩
   . cases f
   . cases d;cases f;dsimp only at e;subst e;rw[hg] at hg';simp only[au,eK] at hg';exact absurd hg'.2.1 (by decide)
theorem Own.but{a:Option Addr}{cap:Nat}{l:List Nat}(h:Own w W a cap l)(hb:But S W W')(c:Below w.heap.size w W')(b:∀x,a=some x->¬S x.block):Own w W' a cap l:=⟨h.r.but hb b,h.n,c⟩
theorem Fam.but{T:List Br}(h:Fam w W T)(hb:But S W W')(c:Below w.heap.size w W')(b:∀t∈T,∀x,t.a=some x->¬S x.block):Fam w W' T:=⟨λt a=>⟨(h.own t a).1.but hb c (b t a),(h.own t a).2⟩,h.dist⟩
structure Pv where
 kind:Int
 level:Int
 aI:Option Addr
 cI:Nat
 items:List Iv
 aD:Option Addr
 cD:Nat
 data:List Nat
 next:Int
def Pv.cs(p:Pv):Array Value:=#[.int .i64 p.kind,.int .i64 p.level,.slice p.aI p.items.length p.cI,.slice p.aD p.data.length p.cD,.int .i64 p.next]
def Pv.vl(p:Pv):Value:=.agg p.cs
def Pv.pg(p:Pv):Pg:=⟨p.kind,p.level,p.items.map Iv.it,p.data,p.next⟩
def Pv.zero:Pv:=⟨0,0,none,0,[],none,0,[],0⟩
structure Pi(w:World)(p:Pv):Prop where
 it:Js w p.aI p.items
 ci:p.items.length<=p.cI
 bd:Bs w p.aD p.data
 cd:p.data.length<=p.cD
 nk:N64 p.kind
 nl:N64 p.level
 nn:N64 p.next
theorem Pi.keep{p:Pv}(h:Pi w p)(hb:Below w.heap.size w w'):Pi w' p:=⟨h.it.keep hb,h.ci,h.bd.keep hb,h.cd,h.nk,h.nl,h.nn⟩
theorem Pi.b8{p:Pv}(h:Pi w p):p.pg.b8:=by
 refine⟨λx b=>?_,h.bd.1⟩
 obtain⟨r,a,rfl⟩:=bE.1 b;exact(h.it.1 r a).b8
theorem Pi.zero(w:World):Pi w Pv.zero:=⟨⟨λ_ h=>(cf h).elim,by simp[Pv.zero],.inl rfl⟩,am _,Bs.nil w,am _,by simp[Pv.zero,N64],by simp[Pv.zero,N64],by simp[Pv.zero,N64]⟩
theorem Pv.at(p:Pv)(i:Nat):p.pg.at i=(p.items.getD i Iv.zero).it:=by
 show(p.items.map Iv.it).getD i It.zero=_;have:It.zero=Iv.zero.it:=rfl;rw[this];simp[aM,ed]
theorem iV:(prog.info? 77).map (·.size)=some 5:=by kernel_rfl
end Go.Proofs.YteaogidofpfmmaaGreat
namespace Go.Proofs.YteaogidofpfmmaaGreat
open Tryz
open Go.RowKit
open Go.ChangeMaps (setBlock)
open Go.MapKept
variable {f:Int->Option Value}{b clock i j:Nat}{S:Nat->Prop}{w w':World}
structure Mo(es:Array MapEntry)(clock:Nat)(f:Int->Option Value):Prop where
 st:Stamped es clock
 key:∀e∈es.toList,∃k:Int,e.key=.int .i64 k/\f k=some e.val
 has:∀k v,f k=some v->∃e∈es.toList,e.key=.int .i64 k
theorem Mo.isKey{a:Array MapEntry}(h:Mo a clock f):∀x∈a.toList,IsKey (.int .i64) x.key:=by
 intro x c;obtain⟨k,hk,_⟩:=h.key x c;rw[hk];rfl
theorem sN(k:Int):IsKey (.int .i64) (.int .i64 k):=rfl
theorem Mo.empty:Mo #[] 0 (λ_=>none):=⟨stamped_empty 0,by simp,by simp⟩
theorem Mo.find{a:Array MapEntry}(h:Mo a clock f)(k:Int):
 (Instr.findNow (.int .i64) (.int .i64 k) a.toList 0=some none/\f k=none/\∀x∈a.toList,x.key≠ .int .i64 k)\/
   ∃j e,Instr.findNow (.int .i64) (.int .i64 k) a.toList 0=some (some (j,e.val))/\a.toList[j]?=some e/\e.key=.int .i64 k/\f k=some e.val:=by
 rcases findNow_spec (sN k) a.toList 0 h.isKey with⟨h1,h2⟩|⟨j,e,h1,h2,h3⟩
 . refine .inl ⟨h1,?_,h2⟩;cases hf:f k with
   |none=>rfl
   |some v=>
    obtain⟨e,c,hk⟩:=h.has k v hf;exact absurd hk (h2 e c)
 . refine .inr ⟨j,e,by simpa using h1,h2,h3,?_⟩
   obtain⟨g,hk,d⟩:=h.key e (fg h2);rw[h3] at hk;simp only[Value.int.injEq,true_and] at hk;rw[hk];exact d
def mc(f:Int->Option Value)(k:Int)(v:Value):Int->Option Value:=λx=>if x=k then some v else f x
theorem Ba{α:Type}{l:List α}(h:l.Nodup){a:α}(hi:l[i]?=some a)(k:l[j]?=some a):i=j:=by
 obtain⟨c,d⟩:=bA.1 hi;obtain⟨e,g⟩:=bA.1 k;rcases Nat.lt_trichotomy i j with h1|h1|h1
 . exact absurd (d.trans g.symm) (fh.1 h i j c e h1)
 . exact h1
 . exact absurd (g.trans d.symm) (fh.1 h j i e c h1)
theorem Aa{c:Array MapEntry}(h:Stamped c clock){a b:MapEntry}(hi:c.toList[i]?=some a)(e:c.toList[j]?=some b)(hk:a.key=b.key):i=j:=by
 obtain⟨_,_,d⟩:=h;exact Ba d (a:=a.key) (by rw[ed,hi];rfl) (by rw[ed,e,hk];rfl)
theorem Mo.push{g:Array MapEntry}(h:Mo g clock f)(k:Int)(v:Value)(l:∀x∈g.toList,x.key≠ .int .i64 k):
 Mo (g.push {key:=.int .i64 k,val:=v,born:=clock}) (clock+1) (mc f k v):=by
 refine⟨stamped_push h.st l,?_,?_⟩
 . intro e a;simp only[Array.toList_push,bO,aZ] at a;rcases a with a|rfl
   . obtain⟨d,hk,c⟩:=h.key e a;refine⟨d,hk,?_⟩;unfold mc;rw[if_neg (λm=>l e a (by rw[hk,m]))]
     exact c
   . exact⟨k,rfl,by simp[mc]⟩
 . intro d p c;by_cases e:d=k
   . subst e;exact⟨_,by simp only[Array.toList_push,bO,aZ];exact .inr rfl,rfl⟩
   . unfold mc at c;rw[if_neg e] at c;obtain⟨x,n,hk⟩:=h.has d p c;exact⟨x,by simp[n],hk⟩
theorem Mo.modify{d:Array MapEntry}(h:Mo d clock f)(k:Int)(v:Value)(j:Nat)(e:MapEntry)(m:d.toList[j]?=some e)(hk:e.key=.int .i64 k):
 Mo (d.modify j λe=>{e with key:=.int .i64 k,val:=v}) clock (mc f k v):=by
 have A:d[j]?=some e:=by simpa using m
 have B:∀c,d[j]?=some c->({c with key:=.int .i64 k,val:=v}:MapEntry).key=c.key:=λc q=>by rw[A] at q;cases q;exact hk.symm
 have s:∀i:Nat,(d.modify j λe=>{e with key:=.int .i64 k,val:=v}).toList[i]?=if j=i then (d.toList[i]?).map (λe=>{e with key:=.int .i64 k,val:=v}) else d.toList[i]?:=by
  intro i;simp only[Array.getElem?_toList,eW]
 refine⟨stamped_modify h.st _ _ (λ_ _=>rfl) (λc _ q=>B c q),?_,?_⟩
 . intro x r;obtain⟨i,a⟩:=List.getElem?_of_mem r;rw[s] at a;by_cases g:j=i
   . subst g;rw[if_pos rfl,m] at a;simp only[eX,au] at a;subst a;exact⟨k,rfl,by simp[mc]⟩
   . rw[if_neg g] at a;obtain⟨p,l,n⟩:=h.key x (fg a);refine⟨p,l,?_⟩;unfold mc;rw[if_neg (λc=>g (Aa h.st m a (by rw[hk,l,c])))]
     exact n
 . intro p y n;by_cases g:p=k
   . subst g;refine⟨_,fg (i:=j) (by rw[s,if_pos rfl,m];rfl),rfl⟩
   . unfold mc at n;rw[if_neg g] at n;obtain⟨x,r,l⟩:=h.has p y n;obtain⟨i,a⟩:=List.getElem?_of_mem r;refine⟨x,fg (i:=i) ?_,l⟩;rw[s,if_neg ?_]
     . exact a
     . intro t;subst t;rw[m] at a;cases a;rw[hk] at l;simp only[Value.int.injEq,true_and] at l;exact g l.symm
def Mp(w:World)(b:Nat)(f:Int->Option Value):Prop:=∃es clock,w.heap[b]?=some (.map es clock)/\Mo es clock f
theorem Mp.lt(h:Mp w b f):b<w.heap.size:=by
 obtain⟨a,clock,hb,_⟩:=h;exact(ae.1 hb).1
theorem Mp.of_block(h:Mp w b f)(hb:w'.heap[b]?=w.heap[b]?):Mp w' b f:=by
 obtain⟨a,clock,c,d⟩:=h;exact⟨a,clock,hb.trans c,d⟩
theorem Mp.but(h:Mp w b f)(hb:But S w w')(a:¬S b):Mp w' b f:=h.of_block (hb.block b h.lt a)
theorem Mp.keep(h:Mp w b f)(hb:Below w.heap.size w w'):Mp w' b f:=h.of_block (hb.block b h.lt)
theorem Mp.made(w:World):Mp (w.alloc (.map #[] 0)) w.heap.size (λ_=>none):=⟨#[],0,(heap_alloc w _).1,Mo.empty⟩
theorem Mp.congr{g:Int->Option Value}(h:Mp w b f)(e:∀k,g k=f k):Mp w b g:=by
 obtain rfl:g=f:=funext e;exact h
theorem But.setBlock(o:Obj)(a:S b):But S w (setBlock w b o):=
 ⟨rfl,rfl,rfl,by simp[Go.ChangeMaps.setBlock],λk _ c=>by
   show(w.heap.setIfInBounds b o)[k]?=_;rw[Array.getElem?_setIfInBounds_ne];intro e;subst e;exact c a⟩
section
variable {P:Program} {w:World} {b:Nat} {f:Int->Option Value} {T K E:TypeId}
theorem Mp.look(h:Mp w b f)(d:P.underlying T=some (.map K E))(a:P.underlying K=some (.int .i64))(z:Value)(l:(zeroValue E).run P w=.ok z w)(k:Int)(c:Bool):
 (Instr.lookup T (.map (some b)) (.int .i64 k) c).run P w=.ok (if c then .tuple #[(f k).getD z,.bool (f k).isSome] else (f k).getD z) w:=by
 obtain⟨m,clock,hb,g⟩:=h;rcases g.find k with⟨h1,h2,_⟩|⟨j,e,h1,_,_,h4⟩
 . simp[Instr.lookup,dU d,Go.MapKept.run_getObj_map hb,run_checkKey a (sN k),run_findKey a h1,Result.andThen,l,h2]
 . simp[Instr.lookup,dU d,Go.MapKept.run_getObj_map hb,run_checkKey a (sN k),run_findKey a h1,Result.andThen,h4]
theorem Mp.store(h:Mp w b f)(g:P.underlying T=some (.map K E))(a:P.underlying K=some (.int .i64))(k:Int)(v:Value):
 ∃w',(Instr.mapUpdate T (.map (some b)) (.int .i64 k) v).run P w=.ok () w'/\Mp w' b (mc f k v)/\But (· =b) w w'/\w'.heap.size=w.heap.size:=by
 obtain⟨c,clock,hb,d⟩:=h;rcases d.find k with⟨h1,h2,h3⟩|⟨j,e,h1,h2,h3,h4⟩
 . refine⟨setBlock w b (.map (c.push {key:=.int .i64 k,val:=v,born:=clock}) (clock+1)),?_,⟨_,_,(heap_set hb).1,d.push k v h3⟩,But.setBlock _ rfl,by simp[setBlock]⟩
   simp[Instr.mapUpdate,dU g,Go.MapKept.run_getObj_map hb,run_checkKey a (sN k),run_findKey a h1,Go.MapKept.run_setObj_map _ hb,Result.andThen,setBlock]
 . have l:c[j]?=some e:=by simpa using h2
   refine⟨setBlock w b (.map (c.modify j λe=>{e with key:=.int .i64 k,val:=v}) clock),?_,⟨_,_,(heap_set hb).1,d.modify k v j e h2 h3⟩,But.setBlock _ rfl,by simp[setBlock]⟩
   simp[Instr.mapUpdate,dU g,Go.MapKept.run_getObj_map hb,run_checkKey a (sN k),run_findKey a h1,l,h3,run_keyThatStays (sN k),Go.MapKept.run_setObj_map _ hb,Result.andThen,setBlock]
end
section
variable {P:Program} {w:World} {b r:Nat} {f:Int->Option Value} {T K E:TypeId}
end
end Go.Proofs.YteaogidofpfmmaaGreat
