import Derived.Test.YtbdkogimlbnlmaaGreatWqB0
import Derived.Laws.Externs
import Derived.Laws.CopyOwn
import Derived.Deep.MidRow
import Derived.Laws.ResultCell
import Derived.Maps.RangeRun
import Derived.MapKept
set_option linter.unusedVariables false
set_option linter.unusedSimpArgs false
namespace Go.Proofs.YtbdkogimlbnlmaaGreat
open Go.RowKit
variable {l:List Nat}{cap x y:Nat}{a:Option Addr}{w wx:World}
theorem al(w:World)(o:Obj):Below w.heap.size w (w.alloc o):=(Below.refl _ _).alloc (ai _) _
structure Own(w wx:World)(a:Option Addr)(cap:Nat)(l:List Nat):Prop where
 r:Rw wx a cap l
 n:New w none a
 b:Below w.heap.size w wx
theorem Own.keep{wy:World}(h:Own w wx a cap l)(hb:Below wx.heap.size wx wy):Own w wy a cap l:=⟨h.r.keep hb,h.n,bt h.b hb⟩
theorem Own.pre{w0:World}(hb:Below w.heap.size w w0)(h:Own w0 wx a cap l):Own w wx a cap l:=⟨h.r,h.n.mono hb.size,bt hb h.b⟩
theorem Own.fresh(h:Own w wx a cap l){x:Addr}(hx:a=some x):w.heap.size<=x.block:=by
 rcases h.n x hx with⟨y,hy,_⟩|h
 . cases hy
 . exact h
def ba(l:List Nat):ByteArray:=⟨(l.map λx=>x.toUInt8).toArray⟩
theorem nh(w:World)(b:Nat):∀(l:List Nat)(off:Nat)(acc:ByteArray),(∀i,i<l.length->w.cell? ⟨b,off+i,none⟩=some (.int .u8 ((l.getD i 0:Nat):Int)))->
 (Extern.Bytes.loadBytes ⟨b,off,none⟩ l.length acc).run Tryz.prog w=.ok ⟨acc.data++(l.map λx=>x.toUInt8).toArray⟩ w
 | [],off,acc,_=>by simp[Extern.Bytes.loadBytes]
 |x::l,off,acc,h=>by
  have h0:=h 0 (by simp)
  simp only[List.getD_cons_zero,bY] at h0
  have hl:(load ⟨b,off,none⟩).run Tryz.prog w=.ok (.int .u8 (x:Int)) w:=by
   rw[run_load,h0]
  have ih:=nh w b l (off+1) (acc.push x.toUInt8) (λi hi=>by
   have:=h (i+1) (by simpa using hi)
   rw[List.getD_cons_succ] at this;rw[show off+1+i=off+(i+1) by omega];exact this)
  simp only[bf,Extern.Bytes.loadBytes,dl,hl,bN];rw[show((⟨b,off,none⟩:Addr).add 1)=⟨b,off+1,none⟩ from rfl,show(x:Int).toNat.toUInt8=x.toUInt8 from rfl,ih]
  simp[ByteArray.push]
theorem oZ{w:World}{a:Option Addr}{l:List Nat}{n c:Nat}(hB:Bs w a l)(hn:n=l.length):(Extern.Bytes.bytesOf (.slice a n c)).run Tryz.prog w=.ok (ba l) w:=by
 subst hn;cases a with
 |none=>
  rcases hB.2.2 with rfl|⟨b,off,h,_⟩
  . rfl
  . cases h
 |some x=>
  rcases hB.2.2 with rfl|⟨b,off,h,hc⟩
  . rfl
  . simp only[aE] at h;subst h;simp only[Extern.Bytes.bytesOf];rw[nh w b l off .empty hc];simp only[ba];congr 1
    simp[ByteArray.empty,ByteArray.emptyWithCapacity];try rfl
theorem qY(l:List Nat):(ba l).size=l.length:=by simp[ba,ByteArray.size]
theorem mc(l:List Nat)(i:Nat)(hi:i<l.length):(ba l)[i]! =(l.getD i 0).toUInt8:=by
 have h1:i<(ba l).size:=by rw[qY];exact hi
 rw[gU (ba l) i h1];show(ba l).data[i]=_;simp[ba,hi]
theorem Bk(hx:x<256)(hy:y<256):(x.toUInt8=y.toUInt8)↔x=y:=by
 constructor
 . intro h;have:=aY UInt8.toNat h;simp at this;omega
 . rintro rfl;rfl
theorem Bm(hx:x<256)(hy:y<256):(x.toUInt8<y.toUInt8)↔x<y:=by
 rw[UInt8.lt_iff_toNat_lt];simp;omega
theorem EJ(l k:List Nat)(hl:∀x∈l,x<256)(hk:∀x∈k,x<256):Extern.BytealgCompare.cmp (ba l) (ba k)=iI l k:=by
 have gl:∀i,i<l.length->l.getD i 0<256:=λi hi=>by rw[qN l hi];exact hl _ (dX _)
 have gk:∀i,i<k.length->k.getD i 0<256:=λi hi=>by rw[qN k hi];exact hk _ (dX _)
 have step:∀m,m<=l.length->m<=k.length->(∀i,i<m->l.getD i 0=k.getD i 0)->iI l k=iI (l.drop m) (k.drop m):=by
  intro m;induction m with
  |zero=>intros;rfl
  |succ m ih=>
   intro h1 h2 h3;rw[ih (by omega) (by omega) (λi hi=>h3 i (by omega)),nE l k m (by omega) (by omega),h3 m (by omega),if_neg (by omega),if_neg (by omega)]
 unfold Extern.BytealgCompare.cmp;rw[qY,qY];split
 . rename_i i hf;obtain⟨h1,hm,h3⟩:=List.find?_range_eq_some.1 hf;have hm':=cH.1 hm;have hil:i<l.length:=by omega
   have hik:i<k.length:=by omega
   rw[mc l i hil,mc k i hik] at h1 ⊢;have hne:l.getD i 0≠k.getD i 0:=λe=>by rw[e] at h1;simp at h1
   rw[step i (by omega) (by omega) (λj hj=>by
    have:=h3 j hj;rw[mc l j (by omega),mc k j (by omega)] at this
    simp only[bne_eq_false_iff_eq,Bool.not_eq_eq_eq_not,Bool.not_true] at this;exact(Bk (gl j (by omega)) (gk j (by omega))).1 this),nE l k i hil hik]
   by_cases h:l.getD i 0<k.getD i 0
   . rw[if_pos ((Bm (gl i hil) (gk i hik)).2 h),if_pos h]
   . rw[if_neg (λh4=>h ((Bm (gl i hil) (gk i hik)).1 h4)),if_neg h,if_pos (by omega)]
 . rename_i hf;have hf':=List.find?_eq_none.1 hf
   have heq:∀i,i<min l.length k.length->l.getD i 0=k.getD i 0:=λi hi=>by
    have:=hf' i (cH.2 hi);rw[mc l i (by omega),mc k i (by omega)] at this
    simp only[bne_iff_ne,ne_eq,Decidable.not_not] at this;exact(Bk (gl i (by omega)) (gk i (by omega))).1 this
   rw[step (min l.length k.length) (by omega) (by omega) heq,mM l k _ (by omega) (by omega) (by omega)]
theorem zu{b:Option Addr}{k:List Nat}(n c m d:Nat)(hA:Bs w a l)(hB:Bs w b k)(hn:n=l.length)(hm:m=k.length):(callFunc 199 #[.slice a n c,.slice b m d]).run Tryz.prog w=.ok (.value (.int .i64 (iI l k))) w:=by
 rw[run_callFunc_extern Tryz.func199 (by kernel_rfl) (by kernel_rfl) (by kernel_rfl) (e:=Extern.BytealgCompare.compare) (by kernel_rfl)]
 have e:Extern.BytealgCompare.compare #[.slice a n c,.slice b m d]=(do pure (goInt (Extern.BytealgCompare.cmp (<-Extern.Bytes.bytesOf (.slice a n c)) (<-Extern.Bytes.bytesOf (.slice b m d))))):=rfl
 simp only[e,dl,oZ hA hn,oZ hB hm,bN,dm,EJ l k hA.1 hB.1];rfl
theorem oy(w:World)(a b:Option Addr)(n c m d:Nat)(l k:List Nat)(hA:Bs w a l)(hB:Bs w b k)(hn:n=l.length)(hm:m=k.length):
 Calls Tryz.prog 182 #[.slice a n c,.slice b m d] w λe w'=>e=.returned (.int .i64 (iI l k))/\w'=w:=by
 subst hn hm;have hc:=zu l.length c k.length d hA hB rfl rfl;clear hA hB;go_enter Tryz.func182,Tryz.ntmps182;go_wp2;go_ret;exact⟨rfl,rfl⟩
theorem CW(w:World)(g:Nat)(h:w.heap.size<=g):New w none (some ⟨g,0,none⟩):=λx hx=>.inr (by simp only[aE] at hx;subst hx;exact h)
theorem Rw.set{g:Nat}(h:Rw w (some ⟨g,0,none⟩) cap l)(i x:Nat):Rw (w.setCell ⟨g,i,none⟩ (.int .u8 (x:Int))) (some ⟨g,0,none⟩) cap (l.set i x):=by
 rcases h.cases with⟨h0,_⟩|⟨g',cur,h0,hg,h1,h2,h3,h4⟩
 . cases h0
 . simp only[aE,Addr.mk.injEq] at h0;obtain⟨rfl,_⟩:=h0;refine Rw.mk (cur:=cur.setIfInBounds i (.int .u8 (x:Int))) ?_ (by simpa using h1) h2 (by simpa using h3) ?_
   . show(w.heap.modify g _)[g]?=_;rw[e8,if_pos rfl,hg];simp
   . rw[aO,dQ,fB,h4];simp[vb,List.map_set]
end Go.Proofs.YtbdkogimlbnlmaaGreat
namespace Go.Proofs.YtbdkogimlbnlmaaGreat
structure RS where
 l:List Nat
 e:Nat
namespace M
def F:Nat:=4294967295
end M
end Go.Proofs.YtbdkogimlbnlmaaGreat
namespace Go.Proofs.YtbdkogimlbnlmaaGreat
open Go.RowKit
theorem sY{B:Nat}{a w:World}(h:Below B a w){g:Nat}(hg:B<=g)(cs:Array Value):Below B a (w.setRow g cs):=
 ⟨h.os,h.tape,h.output,by rw[setRow_size];exact h.size,λk hk=>(setRow_other w g k cs (by omega)).trans (h.block k hk)⟩
end Go.Proofs.YtbdkogimlbnlmaaGreat
namespace Go.Proofs.YtbdkogimlbnlmaaGreat
structure It where
 key:List Nat
 val:List Nat
 child:Int
 size:Int
structure Pg where
 kind:Int
 level:Int
 items:List It
 data:List Nat
 next:Int
def It.zero:It:=⟨[],[],0,0⟩
def jT(n:Int):Bool:=decide (1<=n)&&decide (n<=65536)
def Pg.form(p:Pg):Bool:=
 if p.kind=3 then decide (p.level=0)&&decide (p.items.length=0)&&decide (1<=p.data.length)&&decide (p.data.length<=480)
 else decide (p.data.length=0)&&decide (p.next=0)&&decide (p.items.length<=8)&&(if p.kind=1 then decide (p.level=0)&&decide (1<=p.items.length) else decide (1<=p.level)&&decide (p.level<=11)&&decide (2<=p.items.length))
def Pg.at(p:Pg)(i:Nat):It:=p.items.getD i It.zero
def Pg.keyOk(p:Pg)(i:Nat):Bool:=if p.kind=2/\i=0 then decide ((p.at i).key.length=0) else decide (1<=(p.at i).key.length)&&decide ((p.at i).key.length<=24)
def It.valOk(kind:Int)(x:It):Bool:=if kind=2 then decide (x.val.length=0)&&decide (x.size=0) else if x.size<0\/3840<x.size then false else if x.size<=32 then decide ((x.val.length:Int)=x.size) else decide (x.val.length=0)
def It.kidOk(kind:Int)(x:It):Bool:=if kind=1/\x.size<=32 then decide (x.child=0) else jT x.child
def Pg.ordOk(p:Pg)(i:Nat):Bool:=decide (i=0)||decide (0<iI (p.at i).key (p.at (i-1)).key)
def Pg.itemE(p:Pg)(i:Nat):Nat:=if p.keyOk i=false then 7 else if p.ordOk i=false then 11 else if (p.at i).valOk p.kind=false then 8 else if (p.at i).kidOk p.kind=false then 15 else 0
def iN(f:Nat->Nat):Nat->Nat
 |0=>0
 |n+1=>if iN f n≠0 then iN f n else f n
theorem pf{f:Nat->Nat}:∀{n},iN f n=0->∀i,i<n->f i=0
 |0,_,i,hi=>absurd hi (dH _)
 |n+1,h,i,hi=>by
  unfold iN at h;split at h
  . exact absurd h ‹_›
  . rename_i h0;by_cases e:i=n
    . rw[e];exact h
    . exact pf (n:=n) (by simpa using h0) i (by omega)
theorem r9{f:Nat->Nat}:∀{n},(∀i,i<n->f i=0)->iN f n=0
 |0,_=>rfl
 |n+1,h=>by
  have:=r9 (n:=n) λi hi=>h i (by omega)
  unfold iN;rw[this];exact h n (by omega)
theorem oY{f:Nat->Nat}{k:Nat}(h:iN f k=0)(hk:f k≠0):∀n,k<n->iN f n=f k
 |0,hn=>absurd hn (dH _)
 |n+1,hn=>by
  unfold iN;by_cases e:k=n
  . subst e;rw[h];rfl
  . rw[oY h hk n (by omega),if_pos hk]
def Pg.kindOk(p:Pg):Bool:=decide (p.kind=1)||decide (p.kind=2)||decide (p.kind=3)
theorem Pg.kindOk_iff{p:Pg}:p.kindOk=true↔p.kind=1\/p.kind=2\/p.kind=3:=by unfold Pg.kindOk;simp[or_assoc]
def Pg.nextOk(p:Pg):Bool:= !(decide (p.kind=3)&&decide (p.next≠0)&& !jT p.next)
def Pg.check(p:Pg):Nat:=if p.kindOk=false then 22 else if p.form=false then 5 else if iN p.itemE p.items.length≠0 then iN p.itemE p.items.length else if p.nextOk=false then 15 else 0
structure Sound(p:Pg):Prop where
 k:p.kindOk=true
 f:p.form=true
 i:∀i,i<p.items.length->p.itemE i=0
 n:p.nextOk=true
theorem Pg.check_zero{p:Pg}:p.check=0↔Sound p:=by
 unfold Pg.check;constructor
 . intro h;split at h
   . cases h
   split at h
   . cases h
   split at h
   . rename_i h1;exact absurd h h1
   split at h
   . cases h
   . rename_i h1 h2 h3 h4;exact⟨by simpa using h1,by simpa using h2,pf (by simpa using h3),by simpa using h4⟩
 . intro h;rw[if_neg (by rw[h.k];simp),if_neg (by rw[h.f];simp),r9 h.i,if_neg (by simp),if_neg (by rw[h.n];simp)]
def Pg.kids(p:Pg):List Int:=if p.kind=2 then p.items.map It.child else if p.kind=1 then (p.items.map It.child).filter (λc=>decide (c≠0)) else if p.kind=3/\p.next≠0 then [p.next] else []
end Go.Proofs.YtbdkogimlbnlmaaGreat
namespace Go.Proofs.YtbdkogimlbnlmaaGreat
open Go.RowKit
variable {x:Addr}{g o:Nat}{S:Nat->Prop}{W W' w w' wx wy:World}
def N64(x:Int):Prop:= -9223372036854775808<=x/\x<=9223372036854775807
structure Iv where
 aK:Option Addr
 cK:Nat
 key:List Nat
 aV:Option Addr
 cV:Nat
 val:List Nat
 child:Int
 size:Int
def Iv.cs(r:Iv):Array Value:=#[.slice r.aK r.key.length r.cK,.slice r.aV r.val.length r.cV,.int .i64 r.child,.int .i64 r.size]
def Iv.vl(r:Iv):Value:=.agg r.cs
def Iv.it(r:Iv):It:=⟨r.key,r.val,r.child,r.size⟩
structure Ii(w:World)(r:Iv):Prop where
 bk:Bs w r.aK r.key
 ck:r.key.length<=r.cK
 bv:Bs w r.aV r.val
 cv:r.val.length<=r.cV
 nc:N64 r.child
 ns:N64 r.size
theorem Ii.keep{r:Iv}(h:Ii w r)(hb:Below w.heap.size w w'):Ii w' r:=⟨h.bk.keep hb,h.ck,h.bv.keep hb,h.cv,h.nc,h.ns⟩
theorem zj:(Tryz.prog.info? 51).map (·.size)=some 4:=by kernel_rfl
structure Io(w wx:World)(r:Iv):Prop where
 k:Own w wx r.aK r.cK r.key
 v:Own w wx r.aV r.cV r.val
 apart:∀x y,r.aK=some x->r.aV=some y->x.block≠y.block
 k8:B8 r.key
 v8:B8 r.val
theorem Rw.cap{a:Option Addr}{cap:Nat}{l:List Nat}(h:Rw w a cap l):l.length<=cap:=by
 rcases h.cases with⟨_,rfl,rfl⟩|⟨g,cur,_,_,h1,_⟩
 . exact ai _
 . exact h1
theorem Own.bs{a:Option Addr}{cap:Nat}{l:List Nat}(h:Own w wx a cap l)(h8:B8 l):Bs wx a l:=h.r.bs h8 h.r.len_le
theorem Io.ii{r:Iv}(h:Io w wx r)(hc:N64 r.child)(hs:N64 r.size):Ii wx r:=⟨h.k.bs h.k8,h.k.r.cap,h.v.bs h.v8,h.v.r.cap,hc,hs⟩
def Iv.zero:Iv:=⟨none,0,[],none,0,[],0,0⟩
theorem kX:(Tryz.prog.info? 51).map (λi=>(i.zero,i.size,i.bytes))=some (some (.agg Iv.zero.cs),4,64):=by kernel_rfl
theorem yE(v:Iv):v.cs.all (·.oneCell')=true:=by simp[Iv.cs,Value.oneCell']
theorem oV{b:Nat}{cs:List Value}(h:w.rangeAt b o cs)(hb:Below w.heap.size w w'):w'.rangeAt b o cs:=λj v hv=>(hb.cell (p:=⟨b,o+j,none⟩) (block_lt_of_cell (h j v hv))).trans (h j v hv)
def Js(w:World)(a:Option Addr)(L:List Iv):Prop:=
 (∀r∈L,Ii w r)/\L.length<=2199023255489/\(L=[]\/∃b off,a=some ⟨b,off,none⟩/\∀r,r<L.length->w.rangeAt b (off+r*4) (L.getD r Iv.zero).cs.toList)
theorem iy{L:List Iv}{r:Nat}(h:r<L.length):L.getD r Iv.zero∈L:=by simp[h]
theorem Js.keep{a:Option Addr}{L:List Iv}(h:Js w a L)(hb:Below w.heap.size w w'):Js w' a L:=
 ⟨λr hr=>(h.1 r hr).keep hb,h.2.1,h.2.2.imp id λ⟨b,off,e,hr⟩=>⟨b,off,e,λr hr2=>oV (hr r hr2) hb⟩⟩
theorem Js.at{a:Option Addr}{L:List Iv}(h:Js w a L){r:Nat}(hr:r<L.length):∃b off,a=some ⟨b,off,none⟩/\w.rangeAt b (off+r*4) (L.getD r Iv.zero).cs.toList:=by
 rcases h.2.2 with rfl|⟨b,off,e,hc⟩
 . simp at hr
 . exact⟨b,off,e,hc r hr⟩
theorem iY{b:Nat}{r:Iv}(h:w.rangeAt b o r.cs.toList):w.cell? ⟨b,o,none⟩=some (.slice r.aK r.key.length r.cK)/\w.cell? ⟨b,o+1,none⟩=some (.slice r.aV r.val.length r.cV)/\w.cell? ⟨b,o+2,none⟩=some (.int .i64 r.child)/\w.cell? ⟨b,o+3,none⟩=some (.int .i64 r.size):=
 ⟨h 0 _ rfl,h 1 _ rfl,h 2 _ rfl,h 3 _ rfl⟩
def Jc(L:List Iv):List Value:=(L.map λv=>v.cs.toList).flatten
theorem Cn(L:List Iv)(v:Iv):Jc (L++[v])=Jc L++v.cs.toList:=by simp[Jc]
theorem jH(L:List Iv):(Jc L).length=L.length*4:=by
 induction L with
 |nil=>rfl
 |cons v L ih=>
  have:Jc (v::L)=v.cs.toList++Jc L:=by simp[Jc]
  rw[this,ae,ih,bf];have:v.cs.toList.length=4:=rfl;omega
theorem lk(L:List Iv)(r j:Nat)(hr:r<L.length)(hj:j<4):(Jc L)[r*4+j]?=(L.getD r Iv.zero).cs.toList[j]?:=by
 induction L generalizing r with
 |nil=>simp at hr
 |cons v L ih=>
  have e:Jc (v::L)=v.cs.toList++Jc L:=by simp[Jc]
  have hl:v.cs.toList.length=4:=rfl;rw[e];cases r with
  |zero=>
   rw[dR,bG,bm (by omega)]
   simp
  |succ r=>
   rw[bi (by rw[hl];omega),hl,show(r+1)*4+j-4=r*4+j by omega,ih r (by simpa using hr)]
   simp
def Jw(w:World)(a:Option Addr)(cap:Nat)(L:List Iv):Prop:=w.ownsRow 0 51 4 (.slice a L.length cap) L.length (Jc L)
theorem Jw.nil(w:World):Jw w none 0 []:=eQ w 0 51 4
theorem Jw.cases{a:Option Addr}{cap:Nat}{L:List Iv}(h:Jw w a cap L):(a=none/\cap=0/\L=[])\/
 ∃g cur,a=some ⟨g,0,none⟩/\w.heap[g]?=some (.cells cur 51 (0,0))/\L.length<=cap/\cap<=maxLen/\cur.size=cap*4/\cur.toList.take (L.length*4)=Jc L:=by
 obtain⟨_,h2⟩:=h;rcases h2 with⟨hv,h0⟩|⟨g,cap',cur,hv,_,hg,hn,hm,hs,ht⟩
 . simp only[bB] at hv;exact .inl ⟨hv.1,hv.2.2,bR.1 h0⟩
 . simp only[bB] at hv;obtain⟨h1,_,rfl⟩:=hv;exact .inr ⟨g,cur,h1,hg,hn,hm,hs,ht⟩
theorem Jw.mk{cap:Nat}{cur:Array Value}{L:List Iv}(hg:w.heap[g]?=some (.cells cur 51 (0,0)))(hn:L.length<=cap)(hm:cap<=maxLen)(hs:cur.size=cap*4)(ht:cur.toList.take (L.length*4)=Jc L):Jw w (some ⟨g,0,none⟩) cap L:=
 ⟨jH L,.inr ⟨g,cap,cur,rfl,aF _,hg,hn,hm,hs,ht⟩⟩
theorem Jw.lt{a:Option Addr}{cap:Nat}{L:List Iv}(h:Jw w a cap L)(hx:a=some x):x.block<w.heap.size:=by
 rcases h.cases with⟨rfl,_⟩|⟨g,cur,rfl,hg,_⟩
 . cases hx
 . cases hx;exact(af.1 hg).1
theorem Jw.but{a:Option Addr}{cap:Nat}{L:List Iv}(h:Jw w a cap L)(hb:But S w w')(hn:∀x,a=some x->¬S x.block):Jw w' a cap L:=by
 rcases h.cases with⟨rfl,rfl,rfl⟩|⟨g,cur,rfl,hg,h1,h2,h3,h4⟩
 . exact Jw.nil w'
 . exact Jw.mk ((hb.block g (af.1 hg).1 (hn _ rfl)).trans hg) h1 h2 h3 h4
theorem Jw.keep{a:Option Addr}{cap:Nat}{L:List Iv}(h:Jw w a cap L)(hb:Below w.heap.size w w'):Jw w' a cap L:=
 h.but (S:=λ_=>False) (But.ofBelow hb) (λ_ _ hf=>hf)
theorem Jw.qs{a:Option Addr}{cap:Nat}{L:List Iv}(h:Jw w a cap L)(hk:∀r∈L,Ii w r)(hl:L.length<=2199023255489):Js w a L:=by
 refine⟨hk,hl,?_⟩;rcases h.cases with⟨rfl,rfl,rfl⟩|⟨g,cur,rfl,hg,h1,h2,h3,h4⟩
 . exact .inl rfl
 . refine .inr ⟨g,0,rfl,λr hr j u hu=>?_⟩
   have hj:j<4:=(br.1 hu).1;rw[ax _ _ _ _ _ _ hg,bG,<-hu,<-lk L r j hr hj,<-h4,bX,if_pos (by have:(r+1)*4<=L.length*4:=dw _ hr;omega)]
   simp
theorem Cx(w:World)(ty:TypeId)(a:Option Addr)(n cap:Nat)(L:List Iv)(hn:n=L.length)(hR:Jw w a cap L)(ad:Addr)(c:Nat)(v:Iv)(hc:∀j u,v.cs.toList[j]?=some u->w.cell? (ad.add j)=some u)(hlen:L.length+1<=2199023255489):
 ∃g cap' w',(Builtin.append_ #[28,28] ty #[.slice a n cap,.slice (some ad) 1 c]).run Tryz.prog w=.ok (.slice (some ⟨g,0,none⟩) (n+1) cap') w'/\
  Jw w' (some ⟨g,0,none⟩) cap' (L++[v])/\New w a (some ⟨g,0,none⟩)/\w.grownBy w' (a.map Addr.block):=by
 subst hn;obtain⟨i0,hi,hz0,hz1,hz2⟩:=cZ kX
 obtain⟨g,cap',w',hr,h1,h2,h3,h4⟩:=dz (P:=Tryz.prog) w 28 ty 0 51 i0 (.agg Iv.zero.cs) 4 64 Tryz.underlying28 hi hz0 hz1 hz2 rfl (by decide) (.slice a L.length cap) L.length (Jc L) hR ad 1 c v.cs.toList rfl
  hc (λu hu=>(Array.all_eq_true_iff_forall_mem.1 (yE v)) u (by simpa using hu)) (by decide) (by unfold maxLen;omega) (by omega) (aF _) w.heap.size rfl
 rw[jG] at h2 h3;refine⟨g,cap',w',hr,?_,?_,h2⟩
 . unfold Jw;rw[Cn,ae];exact h1
 . intro y hy;simp only[aE] at hy;subst hy;rcases h3 with h3|h3
   . obtain⟨z,hz,e⟩:=map_some h3;exact .inl ⟨z,hz,e⟩
   . exact .inr (by show _<=g;omega)
theorem El{w:World}{o:Oper}{a:Act}{K:Act->World->Prop}{Q:Exit->Act->World->Prop}(s x:Operand)
 (ho:o.op=.call {callee:=.builtin .append,args:=#[s,x],argTypes:=#[28,28]}) (ao:Option Addr) (n cap:Nat) (L:List Iv) (hs:a.eval s=.slice ao n cap) (hn:n=L.length) (hR:Jw w ao cap L)
 (ad:Addr) (c:Nat) (v:Iv) (hx:a.eval x=.slice (some ad) 1 c) (hc:∀j u,v.cs.toList[j]?=some u->w.cell? (ad.add j)=some u) (hlen:L.length+1<=2199023255489)
 (h:∀g cap' w',Jw w' (some ⟨g,0,none⟩) cap' (L++[v])->New w ao (some ⟨g,0,none⟩)->w.grownBy w' (ao.map Addr.block)->K (a.put o.dst (.slice (some ⟨g,0,none⟩) (n+1) cap')) w'):o.wp Tryz.prog a w K Q:=by
 obtain⟨g,cap',w',hr,h1,h2,h3⟩:=Cx w o.type ao n cap L hn hR ad c v hc hlen;unfold Oper.wp execOp;simp only[ho,resolve,invoke,builtin,dl,dm,bN,cu,bz,cQ,hs,hx,hr];exact h g cap' w' h1 h2 h3
theorem xg{w:World}{ops:Array Oper}{rest:List Oper}{o:Oper}{a:Act}{Q:Exit->Act->World->Prop}(hgd:o.guard=none)(s x:Operand)
 (ho:o.op=.call {callee:=.builtin .append,args:=#[s,x],argTypes:=#[28,28]}) (ao:Option Addr) (n cap:Nat) (L:List Iv) (hs:a.eval s=.slice ao n cap) (hn:n=L.length) (hR:Jw w ao cap L)
 (ad:Addr) (c:Nat) (v:Iv) (hx:a.eval x=.slice (some ad) 1 c) (hc:∀j u,v.cs.toList[j]?=some u->w.cell? (ad.add j)=some u) (hlen:L.length+1<=2199023255489)
 (h:∀g cap' w',Jw w' (some ⟨g,0,none⟩) cap' (L++[v])->New w ao (some ⟨g,0,none⟩)->w.grownBy w' (ao.map Addr.block)->wpList Tryz.prog ops Q rest (a.put o.dst (.slice (some ⟨g,0,none⟩) (n+1) cap')) w'):wpList Tryz.prog ops Q (o::rest) a w:=
 ee hgd λ_ hK=>El s x ho ao n cap L hs hn hR ad c v hx hc hlen λg cap' w' h1 h2 h3=>hK _ _ (h g cap' w' h1 h2 h3)
structure JOwn(w wx:World)(a:Option Addr)(cap:Nat)(L:List Iv):Prop where
 r:Jw wx a cap L
 n:New w none a
 b:Below w.heap.size w wx
theorem JOwn.nil(w:World)(h:Below w.heap.size w wx):JOwn w wx none 0 []:=⟨Jw.nil _,New.none _ _,h⟩
theorem JOwn.keep{a:Option Addr}{cap:Nat}{L:List Iv}(h:JOwn w wx a cap L)(hb:Below wx.heap.size wx wy):JOwn w wy a cap L:=⟨h.r.keep hb,h.n,bt h.b hb⟩
theorem JOwn.step{w1:World}{a a':Option Addr}{cap cap':Nat}{L L':List Iv}(h:JOwn w wx a cap L)(hb:Below wx.heap.size wx w1)(hR:Jw wy a' cap' L')(hN:New w1 a a')(hg:w1.grownBy wy (a.map Addr.block)):JOwn w wy a' cap' L':=by
 refine⟨hR,h.n.trans hN (aU h.b.size hb.size),?_⟩;have h1:=bt h.b hb
 have hh:But (λ_=>False) w wy:=(But.ofBelow h1).grown hg λk hk hlt=>by
  obtain⟨y,hy,e⟩:=map_some hk;rcases h.n y hy with⟨z,hz,_⟩|h2
  . cases hz
  . omega
 exact hh.below λ_ _ h=>h
theorem rE(L M:List Iv):Jc (L++M)=Jc L++Jc M:=by simp[Jc]
theorem Jw.cells{w:World}{g cap:Nat}{L:List Iv}(h:Jw w (some ⟨g,0,none⟩) cap L):∀j u,(Jc L)[j]?=some u->w.cell? ((⟨g,0,none⟩:Addr).add j)=some u:=by
 rcases h.cases with⟨h0,_⟩|⟨g',cur,h0,hg,h1,h2,h3,h4⟩
 . cases h0
 . simp only[aE,Addr.mk.injEq] at h0;obtain⟨rfl,_⟩:=h0;intro j u hj;rw[Addr.add_mid,bG,ax _ _ _ _ _ _ hg];have hlt:=(br.1 hj).1;rw[jH] at hlt;rw[<-h4,bX,if_pos hlt] at hj;rw[<-hj];simp
theorem kI(g:Nat)(t:TypeId):∀(vs:List Value)(w:World)(o:Nat)(cur:Array Value),w.heap[g]?=some (.cells cur t (0,0))->
 ∃cur':Array Value,(w.setCells g o vs).heap[g]?=some (.cells cur' t (0,0))/\cur'.size=cur.size/\∀i,i<cur.size->cur'[i]?=if o<=i/\i<o+vs.length then vs[i-o]? else cur[i]?:=by
 intro vs;induction vs with
 |nil=>exact λw o cur hg=>⟨cur,hg,rfl,λi _=>by rw[if_neg (by simp)]⟩
 |cons v vs ih=>
  intro w o cur hg;obtain⟨cur',h1,h2,h3⟩:=ih (w.setCell ⟨g,o,none⟩ v) (o+1) (cur.setIfInBounds o v) (aR w g o _ _ _ hg);refine⟨cur',h1,by rw[h2];simp,λi hi=>?_⟩
  rw[h3 i (by simpa using hi),bf]
  by_cases e:i=o
  . subst e;rw[if_neg (by omega),if_pos (by omega),dq]
    simp[hi]
  . by_cases h4:o+1<=i/\i<o+1+vs.length
    . rw[if_pos h4,if_pos (by omega),show i-o=(i-(o+1))+1 by omega,dP]
    . rw[if_neg h4,if_neg (by omega),fw (by omega)]
theorem Jw.setv{cap:Nat}{L:List Iv}(h:Jw w (some ⟨g,0,none⟩) cap L)(k:Nat)(v:Iv):Jw (w.setCells g (k*4) v.cs.toList) (some ⟨g,0,none⟩) cap (L.set k v):=by
 rcases h.cases with⟨h0,_⟩|⟨g',cur,h0,hg,h1,h2,h3,h4⟩
 . cases h0
 . simp only[aE,Addr.mk.injEq] at h0;obtain⟨rfl,_⟩:=h0;obtain⟨cur',k1,k2,k3⟩:=kI g 51 v.cs.toList w (k*4) cur hg;have hvl:v.cs.toList.length=4:=rfl;refine Jw.mk k1 (by rw[aO];exact h1) h2 (by rw[k2];exact h3) ?_
   rw[aO];apply dN;intro i;have hle:L.length*4<=cap*4:=dw _ h1;by_cases hi:i<L.length*4
   . have ho:(Jc L)[i]?=cur[i]?:=by rw[<-h4,bX,if_pos hi];simp
     have hr:i/4<L.length:=by omega
     have hsp:i=i/4*4+i%4:=by omega
     have hmod:i%4<4:=fj _ (by decide)
     rw[bX,if_pos hi,eG,k3 i (by omega),hvl]
     have hR:(Jc (L.set k v))[i]?=((L.set k v).getD (i/4) Iv.zero).cs.toList[i%4]?:=by
      conv=>lhs;rw[hsp]
      exact lk (L.set k v) (i/4) (i%4) (by rw[aO];exact hr) hmod
     have hO:(Jc L)[i]?=(L.getD (i/4) Iv.zero).cs.toList[i%4]?:=by
      conv=>lhs;rw[hsp]
      exact lk L (i/4) (i%4) hr hmod
     rw[hR];by_cases hin:k*4<=i/\i<k*4+4
     . have e:i/4=k:=by omega
       rw[if_pos hin,e,show i-k*4=i%4 by omega]
       simp[show k<L.length by omega]
     . have e:¬k=i/4:=by omega
       rw[if_neg hin,<-ho,hO];simp[bT e]
   . rw[bX,if_neg hi,du (by rw[jH,aO];omega)]
theorem Jw.front{a:Option Addr}{cap:Nat}{L M:List Iv}(h:Jw w a cap (L++M)):Jw w a cap L\/a=none:=by
 rcases h.cases with⟨rfl,rfl,hn⟩|⟨g,cur,rfl,hg,h1,h2,h3,h4⟩
 . exact .inr rfl
 . refine .inl (Jw.mk hg (by rw[ae] at h1;omega) h2 h3 ?_)
   have e:=aY (List.take (L.length*4)) h4;rw[eZ,ae,cY (by omega),rE,eK (jH L)] at e
   exact e
theorem Jw.addr{a:Option Addr}{cap:Nat}{L:List Iv}(h:Jw w a cap L)(hl:0<L.length):∃g,a=some ⟨g,0,none⟩/\L.length<=cap/\cap<=maxLen:=by
 rcases h.cases with⟨rfl,rfl,rfl⟩|⟨g,cur,rfl,hg,h1,h2,h3,h4⟩
 . simp at hl
 . exact⟨g,rfl,h1,h2⟩
theorem Jw.there{cap:Nat}{L:List Iv}(h:Jw w (some ⟨g,0,none⟩) cap L):w.there g 0 (L.length*4):=by
 rcases h.cases with⟨h0,_⟩|⟨g',cur,h0,hg,h1,h2,h3,h4⟩
 . cases h0
 . simp only[aE,Addr.mk.injEq] at h0;obtain⟨rfl,_⟩:=h0;intro j hj;have hle:L.length*4<=cap*4:=dw _ h1;rw[bG];constructor
   . rw[ax _ _ _ _ _ _ hg];simp[show j<cur.size by omega]
   . exact bq _ _ _ _ _ hg
structure Br where
 a:Option Addr
 c:Nat
 l:List Nat
def kw(s t:Br):Prop:=∀x y,s.a=some x->t.a=some y->x.block≠y.block
theorem kw.symm{s t:Br}(h:kw s t):kw t s:=λx y hx hy e=>h y x hy hx e.symm
structure Fam(w W:World)(T:List Br):Prop where
 own:∀t∈T,Own w W t.a t.c t.l/\B8 t.l
 dist:T.Pairwise kw
theorem Fam.nil(w W:World):Fam w W []:=⟨λ_ h=>(bu h).elim,List.Pairwise.nil⟩
theorem Fam.keep{T:List Br}(h:Fam w W T)(hb:Below W.heap.size W W'):Fam w W' T:=⟨λt ht=>⟨(h.own t ht).1.keep hb,(h.own t ht).2⟩,h.dist⟩
theorem Fam.pre{w0:World}{T:List Br}(hb:Below w.heap.size w w0)(h:Fam w0 W T):Fam w W T:=⟨λt ht=>⟨Own.pre hb (h.own t ht).1,(h.own t ht).2⟩,h.dist⟩
theorem Fam.add{T U:List Br}(h:Fam w W T)(k:Fam W W' U)(hb:Below W.heap.size W W')(hw:Below w.heap.size w W):Fam w W' (T++U):=by
 refine⟨λt ht=>?_,db.2 ⟨h.dist,k.dist,λs hs t ht x y hx hy e=>?_⟩⟩
 . rcases bj.1 ht with ht|ht
   . exact⟨(h.own t ht).1.keep hb,(h.own t ht).2⟩
   . exact⟨Own.pre hw (k.own t ht).1,(k.own t ht).2⟩
 . have h1:=(h.own s hs).1.r.lt hx;have h2:=(k.own t ht).1.fresh hy;omega
theorem Fam.sub{T U:List Br}(h:Fam w W T)(hs:U.Sublist T):Fam w W U:=⟨λt ht=>h.own t (hs.subset ht),h.dist.sublist hs⟩
def Iv.rows(r:Iv):List Br:=[⟨r.aK,r.cK,r.key⟩,⟨r.aV,r.cV,r.val⟩]
def iv(L:List Iv):List Br:=(L.map Iv.rows).flatten
theorem iQ(L M:List Iv):iv (L++M)=iv L++iv M:=by simp[iv]
theorem kD(r:Iv)(M:List Iv):iv (r::M)=r.rows++iv M:=by simp[iv]
theorem kO(r:Iv):iv [r]=r.rows:=by simp[iv]
theorem Io.fam{r:Iv}(h:Io w W r):Fam w W r.rows:=
 ⟨λt ht=>by
   simp only[Iv.rows,bP,bu,fR] at ht;rcases ht with rfl|rfl
   . exact⟨h.k,h.k8⟩
   . exact⟨h.v,h.v8⟩,co.2 ⟨λt ht=>by rw[aQ.1 ht];exact h.apart,dA _ _⟩⟩
theorem Fam.io{r:Iv}(h:Fam w W r.rows):Io w W r:=
 ⟨(h.own ⟨r.aK,r.cK,r.key⟩ (by simp[Iv.rows])).1,(h.own ⟨r.aV,r.cV,r.val⟩ (by simp[Iv.rows])).1,(co.1 h.dist).1 ⟨r.aV,r.cV,r.val⟩ (by simp),(h.own ⟨r.aK,r.cK,r.key⟩ (by simp[Iv.rows])).2,(h.own ⟨r.aV,r.cV,r.val⟩ (by simp[Iv.rows])).2⟩
theorem jV{L:List Iv}{r:Iv}(h:r∈L):r.rows.Sublist (iv L):=by
 obtain⟨a,b,rfl⟩:=List.append_of_mem h;rw[iQ,kD];exact(List.sublist_append_left _ _).trans (List.sublist_append_right _ _)
theorem Fam.ii{L:List Iv}(h:Fam w W (iv L))(hn:∀r∈L,N64 r.child/\N64 r.size):∀r∈L,Ii W r:=λr hr=>(Fam.io (h.sub (jV hr))).ii (hn r hr).1 (hn r hr).2
theorem Jw.ne{a b:Option Addr}{cap c:Nat}{L:List Iv}{l:List Nat}(h:Jw w a cap L)(k:Rw w b c l){y:Addr}(hx:a=some x)(hy:b=some y):x.block≠y.block:=by
 intro e;rcases h.cases with⟨rfl,_⟩|⟨g,cur,rfl,hg,_⟩
 . cases hx
 . rcases k.cases with⟨rfl,_⟩|⟨g',cur',rfl,hg',_⟩
   . cases hy
   . cases hx;cases hy;dsimp only at e;subst e;rw[hg] at hg';simp only[aE,dJ] at hg';exact absurd hg'.2.1 (by decide)
theorem Own.but{a:Option Addr}{cap:Nat}{l:List Nat}(h:Own w W a cap l)(hb:But S W W')(hw:Below w.heap.size w W')(hn:∀x,a=some x->¬S x.block):Own w W' a cap l:=⟨h.r.but hb hn,h.n,hw⟩
theorem Fam.but{T:List Br}(h:Fam w W T)(hb:But S W W')(hw:Below w.heap.size w W')(hn:∀t∈T,∀x,t.a=some x->¬S x.block):Fam w W' T:=⟨λt ht=>⟨(h.own t ht).1.but hb hw (hn t ht),(h.own t ht).2⟩,h.dist⟩
structure Pv where
 kind:Int
 level:Int
 aI:Option Addr
 cI:Nat
 items:List Iv
 aD:Option Addr
 cD:Nat
 data:List Nat
 next:Int
def Pv.cs(p:Pv):Array Value:=#[.int .i64 p.kind,.int .i64 p.level,.slice p.aI p.items.length p.cI,.slice p.aD p.data.length p.cD,.int .i64 p.next]
def Pv.vl(p:Pv):Value:=.agg p.cs
def Pv.pg(p:Pv):Pg:=⟨p.kind,p.level,p.items.map Iv.it,p.data,p.next⟩
def Pv.zero:Pv:=⟨0,0,none,0,[],none,0,[],0⟩
structure Pi(w:World)(p:Pv):Prop where
 it:Js w p.aI p.items
 ci:p.items.length<=p.cI
 bd:Bs w p.aD p.data
 cd:p.data.length<=p.cD
 nk:N64 p.kind
 nl:N64 p.level
 nn:N64 p.next
theorem Pi.keep{p:Pv}(h:Pi w p)(hb:Below w.heap.size w w'):Pi w' p:=⟨h.it.keep hb,h.ci,h.bd.keep hb,h.cd,h.nk,h.nl,h.nn⟩
theorem Pi.zero(w:World):Pi w Pv.zero:=⟨⟨λ_ h=>(bu h).elim,by simp[Pv.zero],.inl rfl⟩,ai _,Bs.nil w,ai _,by simp[Pv.zero,N64],by simp[Pv.zero,N64],by simp[Pv.zero,N64]⟩
theorem Pv.at(p:Pv)(i:Nat):p.pg.at i=(p.items.getD i Iv.zero).it:=by
 show(p.items.map Iv.it).getD i It.zero=_;have:It.zero=Iv.zero.it:=rfl;rw[this];simp[aq,df]
theorem ie:(Tryz.prog.info? 31).map (·.size)=some 5:=by kernel_rfl
end Go.Proofs.YtbdkogimlbnlmaaGreat
namespace Go.Proofs.YtbdkogimlbnlmaaGreat
open Go.RowKit
open Go.ChangeMaps (setBlock)
open Go.MapKept
variable {f g:Int->Option Value}{b clock i j:Nat}{S:Nat->Prop}{w w':World}
structure Mo(es:Array MapEntry)(clock:Nat)(f:Int->Option Value):Prop where
 st:Stamped es clock
 key:∀e∈es.toList,∃k:Int,e.key=.int .i64 k/\f k=some e.val
 has:∀k v,f k=some v->∃e∈es.toList,e.key=.int .i64 k
theorem Mo.isKey{es:Array MapEntry}(h:Mo es clock f):∀x∈es.toList,IsKey (.int .i64) x.key:=by
 intro x hx;obtain⟨k,hk,_⟩:=h.key x hx;rw[hk];rfl
theorem nN(k:Int):IsKey (.int .i64) (.int .i64 k):=rfl
theorem Mo.empty:Mo #[] 0 (λ_=>none):=⟨stamped_empty 0,by simp,by simp⟩
theorem Mo.find{es:Array MapEntry}(h:Mo es clock f)(k:Int):
 (Instr.findNow (.int .i64) (.int .i64 k) es.toList 0=some none/\f k=none/\∀x∈es.toList,x.key≠ .int .i64 k)\/
   ∃j e,Instr.findNow (.int .i64) (.int .i64 k) es.toList 0=some (some (j,e.val))/\es.toList[j]?=some e/\e.key=.int .i64 k/\f k=some e.val:=by
 rcases findNow_spec (nN k) es.toList 0 h.isKey with⟨h1,h2⟩|⟨j,e,h1,h2,h3⟩
 . refine .inl ⟨h1,?_,h2⟩;cases hf:f k with
   |none=>rfl
   |some v=>
    obtain⟨e,he,hk⟩:=h.has k v hf;exact absurd hk (h2 e he)
 . refine .inr ⟨j,e,by simpa using h1,h2,h3,?_⟩
   obtain⟨k',hk,hv⟩:=h.key e (cE h2);rw[h3] at hk;simp only[Value.int.injEq,true_and] at hk;rw[hk];exact hv
theorem Mo.congr{es:Array MapEntry}(h:Mo es clock f)(e:∀k,g k=f k):Mo es clock g:=by
 obtain rfl:g=f:=funext e;exact h
def lh(f:Int->Option Value)(k:Int)(v:Value):Int->Option Value:=λx=>if x=k then some v else f x
def mR(f:Int->Option Value)(k:Int):Int->Option Value:=λx=>if x=k then none else f x
theorem yT{α:Type}{l:List α}(h:l.Nodup){a:α}(hi:l[i]?=some a)(hj:l[j]?=some a):i=j:=by
 obtain⟨hi1,hi2⟩:=br.1 hi;obtain⟨hj1,hj2⟩:=br.1 hj;rcases Nat.lt_trichotomy i j with h1|h1|h1
 . exact absurd (hi2.trans hj2.symm) (fk.1 h i j hi1 hj1 h1)
 . exact h1
 . exact absurd (hj2.trans hi2.symm) (fk.1 h j i hj1 hi1 h1)
theorem rT{es:Array MapEntry}(h:Stamped es clock){a b:MapEntry}(hi:es.toList[i]?=some a)(hj:es.toList[j]?=some b)(hk:a.key=b.key):i=j:=by
 obtain⟨_,_,h3⟩:=h;exact yT h3 (a:=a.key) (by rw[df,hi];rfl) (by rw[df,hj,hk];rfl)
theorem Mo.push{es:Array MapEntry}(h:Mo es clock f)(k:Int)(v:Value)(hn:∀x∈es.toList,x.key≠ .int .i64 k):
 Mo (es.push {key:=.int .i64 k,val:=v,born:=clock}) (clock+1) (lh f k v):=by
 refine⟨stamped_push h.st hn,?_,?_⟩
 . intro e he;simp only[Array.toList_push,bj,aQ] at he;rcases he with he|rfl
   . obtain⟨k',hk,hv⟩:=h.key e he;refine⟨k',hk,?_⟩;unfold lh;rw[if_neg (λe'=>hn e he (by rw[hk,e']))]
     exact hv
   . exact⟨k,rfl,by simp[lh]⟩
 . intro k' v' hv;by_cases e:k'=k
   . subst e;exact⟨_,by simp only[Array.toList_push,bj,aQ];exact .inr rfl,rfl⟩
   . unfold lh at hv;rw[if_neg e] at hv;obtain⟨x,hx,hk⟩:=h.has k' v' hv;exact⟨x,by simp[hx],hk⟩
theorem Mo.modify{es:Array MapEntry}(h:Mo es clock f)(k:Int)(v:Value)(j:Nat)(e:MapEntry)(hj:es.toList[j]?=some e)(hk:e.key=.int .i64 k):
 Mo (es.modify j λe=>{e with key:=.int .i64 k,val:=v}) clock (lh f k v):=by
 have hj':es[j]?=some e:=by simpa using hj
 have hkey:∀e',es[j]?=some e'->({e' with key:=.int .i64 k,val:=v}:MapEntry).key=e'.key:=λe' he'=>by rw[hj'] at he';cases he';exact hk.symm
 have hget:∀i:Nat,(es.modify j λe=>{e with key:=.int .i64 k,val:=v}).toList[i]?=if j=i then (es.toList[i]?).map (λe=>{e with key:=.int .i64 k,val:=v}) else es.toList[i]?:=by
  intro i;simp only[eG,e8]
 refine⟨stamped_modify h.st _ _ (λ_ _=>rfl) (λe' _ he'=>hkey e' he'),?_,?_⟩
 . intro x hx;obtain⟨i,hi⟩:=gJ hx;rw[hget] at hi;by_cases e1:j=i
   . subst e1;rw[if_pos rfl,hj] at hi;simp only[fW,aE] at hi;subst hi;exact⟨k,rfl,by simp[lh]⟩
   . rw[if_neg e1] at hi;obtain⟨k',hk',hv⟩:=h.key x (cE hi);refine⟨k',hk',?_⟩;unfold lh;rw[if_neg (λe'=>e1 (rT h.st hj hi (by rw[hk,hk',e'])))]
     exact hv
 . intro k' v' hv;by_cases e1:k'=k
   . subst e1;refine⟨_,cE (i:=j) (by rw[hget,if_pos rfl,hj];rfl),rfl⟩
   . unfold lh at hv;rw[if_neg e1] at hv;obtain⟨x,hx,hk'⟩:=h.has k' v' hv;obtain⟨i,hi⟩:=gJ hx;refine⟨x,cE (i:=i) ?_,hk'⟩;rw[hget,if_neg ?_]
     . exact hi
     . intro e2;subst e2;rw[hj] at hi;cases hi;rw[hk] at hk';simp only[Value.int.injEq,true_and] at hk';exact e1 hk'.symm
theorem Mo.erase{es:Array MapEntry}(h:Mo es clock f)(k:Int)(j:Nat)(e:MapEntry)(hj:es.toList[j]?=some e)(hk:e.key=.int .i64 k):
 Mo (es.eraseIdxIfInBounds j) clock (mR f k):=by
 have hlt:j<es.size:=by
  have:=(br.1 hj).1;simpa using this
 have hl:(es.eraseIdxIfInBounds j).toList=es.toList.eraseIdx j:=by
  unfold Array.eraseIdxIfInBounds;rw[dif_pos hlt,Array.toList_eraseIdx]
 have hmem:∀x,x∈es.toList.eraseIdx j↔∃i,i≠j/\es.toList[i]?=some x:=by
  intro x;rw[List.mem_eraseIdx_iff_getElem?]
 refine⟨stamped_erase h.st j,?_,?_⟩
 . intro x hx;rw[hl,hmem] at hx;obtain⟨i,hne,hi⟩:=hx;obtain⟨k',hk',hv⟩:=h.key x (cE hi);refine⟨k',hk',?_⟩;unfold mR;rw[if_neg (λe'=>hne (rT h.st hi hj (by rw[hk,hk',e'])))]
   exact hv
 . intro k' v' hv;unfold mR at hv;by_cases e1:k'=k
   . rw[if_pos e1] at hv;cases hv
   . rw[if_neg e1] at hv;obtain⟨x,hx,hk'⟩:=h.has k' v' hv;obtain⟨i,hi⟩:=gJ hx;refine⟨x,?_,hk'⟩;rw[hl,hmem];refine⟨i,λe2=>?_,hi⟩
     subst e2;rw[hj] at hi;cases hi;rw[hk] at hk';simp only[Value.int.injEq,true_and] at hk';exact e1 hk'.symm
def Mp(w:World)(b:Nat)(f:Int->Option Value):Prop:=∃es clock,w.heap[b]?=some (.map es clock)/\Mo es clock f
theorem Mp.lt(h:Mp w b f):b<w.heap.size:=by
 obtain⟨es,clock,hb,_⟩:=h;exact(af.1 hb).1
theorem Mp.of_block(h:Mp w b f)(hb:w'.heap[b]?=w.heap[b]?):Mp w' b f:=by
 obtain⟨es,clock,h1,h2⟩:=h;exact⟨es,clock,hb.trans h1,h2⟩
theorem Mp.but(h:Mp w b f)(hb:But S w w')(hn:¬S b):Mp w' b f:=h.of_block (hb.block b h.lt hn)
theorem Mp.keep(h:Mp w b f)(hb:Below w.heap.size w w'):Mp w' b f:=h.of_block (hb.block b h.lt)
theorem Mp.made(w:World):Mp (w.alloc (.map #[] 0)) w.heap.size (λ_=>none):=⟨#[],0,(heap_alloc w _).1,Mo.empty⟩
theorem Mp.congr(h:Mp w b f)(e:∀k,g k=f k):Mp w b g:=by
 obtain rfl:g=f:=funext e;exact h
theorem But.setBlock(o:Obj)(hS:S b):But S w (setBlock w b o):=
 ⟨rfl,rfl,rfl,by simp[Go.ChangeMaps.setBlock],λk _ hn=>by
   show(w.heap.setIfInBounds b o)[k]?=_;rw[fw];intro e;subst e;exact hn hS⟩
section
variable {P:Program} {w:World} {b:Nat} {f:Int->Option Value} {T K E:TypeId}
theorem Mp.look(h:Mp w b f)(hT:P.underlying T=some (.map K E))(hK:P.underlying K=some (.int .i64))(z:Value)(hz:(zeroValue E).run P w=.ok z w)(k:Int)(c:Bool):
 (Instr.lookup T (.map (some b)) (.int .i64 k) c).run P w=.ok (if c then .tuple #[(f k).getD z,.bool (f k).isSome] else (f k).getD z) w:=by
 obtain⟨es,clock,hb,hm⟩:=h;rcases hm.find k with⟨h1,h2,_⟩|⟨j,e,h1,_,_,h4⟩
 . simp[Instr.lookup,c9 hT,Go.MapKept.run_getObj_map hb,run_checkKey hK (nN k),run_findKey hK h1,Result.andThen,hz,h2]
 . simp[Instr.lookup,c9 hT,Go.MapKept.run_getObj_map hb,run_checkKey hK (nN k),run_findKey hK h1,Result.andThen,h4]
theorem Mp.store(h:Mp w b f)(hT:P.underlying T=some (.map K E))(hK:P.underlying K=some (.int .i64))(k:Int)(v:Value):
 ∃w',(Instr.mapUpdate T (.map (some b)) (.int .i64 k) v).run P w=.ok () w'/\Mp w' b (lh f k v)/\But (· =b) w w'/\w'.heap.size=w.heap.size:=by
 obtain⟨es,clock,hb,hm⟩:=h;rcases hm.find k with⟨h1,h2,h3⟩|⟨j,e,h1,h2,h3,h4⟩
 . refine⟨setBlock w b (.map (es.push {key:=.int .i64 k,val:=v,born:=clock}) (clock+1)),?_,⟨_,_,(heap_set hb).1,hm.push k v h3⟩,But.setBlock _ rfl,by simp[setBlock]⟩
   simp[Instr.mapUpdate,c9 hT,Go.MapKept.run_getObj_map hb,run_checkKey hK (nN k),run_findKey hK h1,Go.MapKept.run_setObj_map _ hb,Result.andThen,setBlock]
 . have hj:es[j]?=some e:=by simpa using h2
   refine⟨setBlock w b (.map (es.modify j λe=>{e with key:=.int .i64 k,val:=v}) clock),?_,⟨_,_,(heap_set hb).1,hm.modify k v j e h2 h3⟩,But.setBlock _ rfl,by simp[setBlock]⟩
   simp[Instr.mapUpdate,c9 hT,Go.MapKept.run_getObj_map hb,run_checkKey hK (nN k),run_findKey hK h1,hj,h3,run_keyThatStays (nN k),Go.MapKept.run_setObj_map _ hb,Result.andThen,setBlock]
theorem Mp.drop(h:Mp w b f)(hT:P.underlying T=some (.map K E))(hK:P.underlying K=some (.int .i64))(k:Int)(kt:TypeId):
 ∃w',(∀ty,(Builtin.delete_ #[T,kt] ty #[.map (some b),.int .i64 k]).run P w=.ok (.tuple #[]) w')/\Mp w' b (mR f k)/\But (· =b) w w'/\w'.heap.size=w.heap.size:=by
 obtain⟨es,clock,hb,hm⟩:=h;rcases hm.find k with⟨h1,h2,h3⟩|⟨j,e,h1,h2,h3,h4⟩
 . refine⟨setBlock w b (.map es clock),?_,⟨_,_,(heap_set hb).1,hm.congr λx=>?_⟩,But.setBlock _ rfl,by simp[setBlock]⟩
   . intro ty;simp[Builtin.delete_,c9 hT,Go.MapKept.run_getObj_map hb,run_checkKey hK (nN k),run_findKey hK h1,Go.MapKept.run_setObj_map _ hb,Result.andThen,setBlock]
   . unfold mR;split
     . rename_i e;rw[e,h2]
     . rfl
 . refine⟨setBlock w b (.map (es.eraseIdxIfInBounds j) clock),?_,⟨_,_,(heap_set hb).1,hm.erase k j e h2 h3⟩,But.setBlock _ rfl,by simp[setBlock]⟩
   intro ty;simp[Builtin.delete_,c9 hT,Go.MapKept.run_getObj_map hb,run_checkKey hK (nN k),run_findKey hK h1,Go.MapKept.run_setObj_map _ hb,Result.andThen,setBlock]
end
section
variable {P:Program} {w:World} {b r:Nat} {f:Int->Option Value} {T K E:TypeId}
end
end Go.Proofs.YtbdkogimlbnlmaaGreat
