import Derived.Test.YtcpkinhneehomaaGreatWqB0
import Derived.Laws.Externs
import Derived.Laws.CopyOwn
import Derived.Deep.MidRow
import Derived.Laws.ResultCell
set_option linter.unusedVariables false
set_option linter.unusedSimpArgs false
namespace Go.Proofs.YtcpkinhneehomaaGreat
open Go.RowKit
variable {l:List Nat}{cap x y:Nat}{a:Option Addr}{w wx:World}
theorem al(w:World)(o:Obj):Below w.heap.size w (w.alloc o):=(Below.refl _ _).alloc (Nat.le_refl _) _
structure Own(w wx:World)(a:Option Addr)(cap:Nat)(l:List Nat):Prop where
 r:Rw wx a cap l
 n:New w none a
 b:Below w.heap.size w wx
theorem Own.nil(w:World)(h:Below w.heap.size w wx):Own w wx none 0 []:=⟨Rw.nil _,New.none _ _,h⟩
theorem Own.keep{wy:World}(h:Own w wx a cap l)(hb:Below wx.heap.size wx wy):Own w wy a cap l:=⟨h.r.keep hb,h.n,bt h.b hb⟩
theorem Own.pre{w0:World}(hb:Below w.heap.size w w0)(h:Own w0 wx a cap l):Own w wx a cap l:=⟨h.r,h.n.mono hb.size,bt hb h.b⟩
theorem Own.fresh(h:Own w wx a cap l){x:Addr}(hx:a=some x):w.heap.size<=x.block:=by
 rcases h.n x hx with⟨y,hy,_⟩|h
 · cases hy
 · exact h
def ba(l:List Nat):ByteArray:=⟨(l.map fun x=>x.toUInt8).toArray⟩
theorem run_loadBytes(w:World)(b:Nat):∀(l:List Nat)(off:Nat)(acc:ByteArray),(∀i,i<l.length->w.cell? ⟨b,off+i,none⟩=some (.int .u8 ((l.getD i 0:Nat):Int)))->
 (Extern.Bytes.loadBytes ⟨b,off,none⟩ l.length acc).run Tryz.prog w=.ok ⟨acc.data++(l.map fun x=>x.toUInt8).toArray⟩ w
 | [],off,acc,_=>by simp[Extern.Bytes.loadBytes]
 |x::l,off,acc,h=>by
  have h0:=h 0 (by simp)
  simp only[List.getD_cons_zero,Nat.add_zero] at h0
  have hl:(load ⟨b,off,none⟩).run Tryz.prog w=.ok (.int .u8 (x:Int)) w:=by
   rw[run_load,h0]
  have ih:=run_loadBytes w b l (off+1) (acc.push x.toUInt8) (fun i hi=>by
   have:=h (i+1) (by simpa using hi)
   rw[List.getD_cons_succ] at this;rw[show off+1+i=off+(i+1) by omega];exact this)
  simp only[List.length_cons,Extern.Bytes.loadBytes,Sem.run_bind,hl,Result.andThen_ok];rw[show((⟨b,off,none⟩:Addr).add 1)=⟨b,off+1,none⟩ from rfl,show(x:Int).toNat.toUInt8=x.toUInt8 from rfl,ih]
  simp[ByteArray.push]
theorem run_bytesOf{w:World}{a:Option Addr}{l:List Nat}{n c:Nat}(hB:Bs w a l)(hn:n=l.length):(Extern.Bytes.bytesOf (.slice a n c)).run Tryz.prog w=.ok (ba l) w:=by
 subst hn;cases a with
 |none=>
  rcases hB.2.2 with rfl|⟨b,off,h,_⟩
  · rfl
  · cases h
 |some x=>
  rcases hB.2.2 with rfl|⟨b,off,h,hc⟩
  · rfl
  · simp only[Option.some.injEq] at h;subst h;simp only[Extern.Bytes.bytesOf];rw[run_loadBytes w b l off .empty hc];simp only[ba];congr 1
    simp[ByteArray.empty,ByteArray.emptyWithCapacity];try rfl
theorem ba_size(l:List Nat):(ba l).size=l.length:=by simp[ba,ByteArray.size]
theorem ba_get(l:List Nat)(i:Nat)(hi:i<l.length):(ba l)[i]! =(l.getD i 0).toUInt8:=by
 have h1:i<(ba l).size:=by rw[ba_size];exact hi
 rw[getElem!_pos (ba l) i h1];show(ba l).data[i]=_;simp[ba,hi]
theorem u8_eq(hx:x<256)(hy:y<256):(x.toUInt8=y.toUInt8)↔x=y:=by
 constructor
 · intro h;have:=congrArg UInt8.toNat h;simp at this;omega
 · rintro rfl;rfl
theorem u8_lt(hx:x<256)(hy:y<256):(x.toUInt8<y.toUInt8)↔x<y:=by
 rw[UInt8.lt_iff_toNat_lt];simp;omega
theorem cmp_ba(l k:List Nat)(hl:∀x∈l,x<256)(hk:∀x∈k,x<256):Extern.BytealgCompare.cmp (ba l) (ba k)=cmpB l k:=by
 have gl:∀i,i<l.length->l.getD i 0<256:=fun i hi=>by rw[getD_at l hi];exact hl _ (List.getElem_mem _)
 have gk:∀i,i<k.length->k.getD i 0<256:=fun i hi=>by rw[getD_at k hi];exact hk _ (List.getElem_mem _)
 have step:∀m,m<=l.length->m<=k.length->(∀i,i<m->l.getD i 0=k.getD i 0)->cmpB l k=cmpB (l.drop m) (k.drop m):=by
  intro m;induction m with
  |zero=>intros;rfl
  |succ m ih=>
   intro h1 h2 h3;rw[ih (by omega) (by omega) (fun i hi=>h3 i (by omega)),cmpB_drop l k m (by omega) (by omega),h3 m (by omega),if_neg (by omega),if_neg (by omega)]
 unfold Extern.BytealgCompare.cmp;rw[ba_size,ba_size];split
 · rename_i i hf;obtain⟨h1,hm,h3⟩:=List.find?_range_eq_some.1 hf;have hm':=List.mem_range.1 hm;have hil:i<l.length:=by omega
   have hik:i<k.length:=by omega
   rw[ba_get l i hil,ba_get k i hik] at h1 ⊢;have hne:l.getD i 0≠k.getD i 0:=fun e=>by rw[e] at h1;simp at h1
   rw[step i (by omega) (by omega) (fun j hj=>by
    have:=h3 j hj;rw[ba_get l j (by omega),ba_get k j (by omega)] at this
    simp only[bne_eq_false_iff_eq,Bool.not_eq_eq_eq_not,Bool.not_true] at this;exact(u8_eq (gl j (by omega)) (gk j (by omega))).1 this),cmpB_drop l k i hil hik]
   by_cases h:l.getD i 0<k.getD i 0
   · rw[if_pos ((u8_lt (gl i hil) (gk i hik)).2 h),if_pos h]
   · rw[if_neg (fun h4=>h ((u8_lt (gl i hil) (gk i hik)).1 h4)),if_neg h,if_pos (by omega)]
 · rename_i hf;have hf':=List.find?_eq_none.1 hf
   have heq:∀i,i<min l.length k.length->l.getD i 0=k.getD i 0:=fun i hi=>by
    have:=hf' i (List.mem_range.2 hi);rw[ba_get l i (by omega),ba_get k i (by omega)] at this
    simp only[bne_iff_ne,ne_eq,Decidable.not_not] at this;exact(u8_eq (gl i (by omega)) (gk i (by omega))).1 this
   rw[step (min l.length k.length) (by omega) (by omega) heq,cmpB_end l k _ (by omega) (by omega) (by omega)]
theorem call_cmp{b:Option Addr}{k:List Nat}(n c m d:Nat)(hA:Bs w a l)(hB:Bs w b k)(hn:n=l.length)(hm:m=k.length):(callFunc 199 #[.slice a n c,.slice b m d]).run Tryz.prog w=.ok (.value (.int .i64 (cmpB l k))) w:=by
 rw[run_callFunc_extern Tryz.func199 (by kernel_rfl) (by kernel_rfl) (by kernel_rfl) (e:=Extern.BytealgCompare.compare) (by kernel_rfl)]
 have e:Extern.BytealgCompare.compare #[.slice a n c,.slice b m d]=(do pure (goInt (Extern.BytealgCompare.cmp (<-Extern.Bytes.bytesOf (.slice a n c)) (<-Extern.Bytes.bytesOf (.slice b m d))))):=rfl
 simp only[e,Sem.run_bind,run_bytesOf hA hn,run_bytesOf hB hm,Result.andThen_ok,Sem.run_pure,cmp_ba l k hA.1 hB.1];rfl
theorem bCompare_any(w:World)(a b:Option Addr)(n c m d:Nat)(l k:List Nat)(hA:Bs w a l)(hB:Bs w b k)(hn:n=l.length)(hm:m=k.length):
 Calls Tryz.prog 182 #[.slice a n c,.slice b m d] w fun e w'=>e=.returned (.int .i64 (cmpB l k))/\w'=w:=by
 subst hn hm;have hc:=call_cmp l.length c k.length d hA hB rfl rfl;clear hA hB;go_enter Tryz.func182,Tryz.ntmps182;go_wp2;go_ret;exact⟨rfl,rfl⟩
theorem Rw.set{g:Nat}(h:Rw w (some ⟨g,0,none⟩) cap l)(i x:Nat):Rw (w.setCell ⟨g,i,none⟩ (.int .u8 (x:Int))) (some ⟨g,0,none⟩) cap (l.set i x):=by
 rcases h.cases with⟨h0,_⟩|⟨g',cur,h0,hg,h1,h2,h3,h4⟩
 · cases h0
 · simp only[Option.some.injEq,Addr.mk.injEq] at h0;obtain⟨rfl,_⟩:=h0;refine Rw.mk (cur:=cur.setIfInBounds i (.int .u8 (x:Int))) ?_ (by simpa using h1) h2 (by simpa using h3) ?_
   · show(w.heap.modify g _)[g]?=_;rw[Array.getElem?_modify,if_pos rfl,hg];simp
   · rw[List.length_set,Array.toList_setIfInBounds,List.take_set,h4];simp[vb,List.map_set]
end Go.Proofs.YtcpkinhneehomaaGreat
namespace Go.Proofs.YtcpkinhneehomaaGreat
structure RS where
 l:List Nat
 e:Nat
namespace M
end M
end Go.Proofs.YtcpkinhneehomaaGreat
namespace Go.Proofs.YtcpkinhneehomaaGreat
open Go.RowKit
theorem below_setRow{B:Nat}{a w:World}(h:Below B a w){g:Nat}(hg:B<=g)(cs:Array Value):Below B a (w.setRow g cs):=
 ⟨h.os,h.tape,h.output,by rw[setRow_size];exact h.size,fun k hk=>(setRow_other w g k cs (by omega)).trans (h.block k hk)⟩
end Go.Proofs.YtcpkinhneehomaaGreat
namespace Go.Proofs.YtcpkinhneehomaaGreat
structure It where
 key:List Nat
 val:List Nat
 child:Int
 size:Int
structure Pg where
 kind:Int
 level:Int
 items:List It
 data:List Nat
 next:Int
def It.zero:It:=⟨[],[],0,0⟩
def isNum(n:Int):Bool:=decide (1<=n)&&decide (n<=65536)
def Pg.form(p:Pg):Bool:=
 if p.kind=3 then decide (p.level=0)&&decide (p.items.length=0)&&decide (1<=p.data.length)&&decide (p.data.length<=480)
 else decide (p.data.length=0)&&decide (p.next=0)&&decide (p.items.length<=8)&&(if p.kind=1 then decide (p.level=0)&&decide (1<=p.items.length) else decide (1<=p.level)&&decide (p.level<=11)&&decide (2<=p.items.length))
def Pg.at(p:Pg)(i:Nat):It:=p.items.getD i It.zero
def Pg.keyOk(p:Pg)(i:Nat):Bool:=if p.kind=2/\i=0 then decide ((p.at i).key.length=0) else decide (1<=(p.at i).key.length)&&decide ((p.at i).key.length<=24)
def It.valOk(kind:Int)(x:It):Bool:=if kind=2 then decide (x.val.length=0)&&decide (x.size=0) else if x.size<0\/3840<x.size then false else if x.size<=32 then decide ((x.val.length:Int)=x.size) else decide (x.val.length=0)
def It.kidOk(kind:Int)(x:It):Bool:=if kind=1/\x.size<=32 then decide (x.child=0) else isNum x.child
def Pg.ordOk(p:Pg)(i:Nat):Bool:=decide (i=0)||decide (0<cmpB (p.at i).key (p.at (i-1)).key)
def Pg.itemE(p:Pg)(i:Nat):Nat:=if p.keyOk i=false then 7 else if p.ordOk i=false then 11 else if (p.at i).valOk p.kind=false then 8 else if (p.at i).kidOk p.kind=false then 15 else 0
def firstE(f:Nat->Nat):Nat->Nat
 |0=>0
 |n+1=>if firstE f n≠0 then firstE f n else f n
theorem firstE_zero{f:Nat->Nat}:∀{n},firstE f n=0->∀i,i<n->f i=0
 |0,_,i,hi=>absurd hi (Nat.not_lt_zero _)
 |n+1,h,i,hi=>by
  unfold firstE at h;split at h
  · exact absurd h ‹_›
  · rename_i h0;by_cases e:i=n
    · rw[e];exact h
    · exact firstE_zero (n:=n) (by simpa using h0) i (by omega)
theorem firstE_of{f:Nat->Nat}:∀{n},(∀i,i<n->f i=0)->firstE f n=0
 |0,_=>rfl
 |n+1,h=>by
  have:=firstE_of (n:=n) fun i hi=>h i (by omega)
  unfold firstE;rw[this];exact h n (by omega)
theorem firstE_stop{f:Nat->Nat}{k:Nat}(h:firstE f k=0)(hk:f k≠0):∀n,k<n->firstE f n=f k
 |0,hn=>absurd hn (Nat.not_lt_zero _)
 |n+1,hn=>by
  unfold firstE;by_cases e:k=n
  · subst e;rw[h];rfl
  · rw[firstE_stop h hk n (by omega),if_pos hk]
def Pg.kindOk(p:Pg):Bool:=decide (p.kind=1)||decide (p.kind=2)||decide (p.kind=3)
theorem Pg.kindOk_iff{p:Pg}:p.kindOk=true↔p.kind=1\/p.kind=2\/p.kind=3:=by unfold Pg.kindOk;simp[or_assoc]
def Pg.nextOk(p:Pg):Bool:= !(decide (p.kind=3)&&decide (p.next≠0)&& !isNum p.next)
def Pg.check(p:Pg):Nat:=if p.kindOk=false then 22 else if p.form=false then 5 else if firstE p.itemE p.items.length≠0 then firstE p.itemE p.items.length else if p.nextOk=false then 15 else 0
structure Sound(p:Pg):Prop where
 k:p.kindOk=true
 f:p.form=true
 i:∀i,i<p.items.length->p.itemE i=0
 n:p.nextOk=true
theorem Pg.check_zero{p:Pg}:p.check=0↔Sound p:=by
 unfold Pg.check;constructor
 · intro h;split at h
   · cases h
   split at h
   · cases h
   split at h
   · rename_i h1;exact absurd h h1
   split at h
   · cases h
   · rename_i h1 h2 h3 h4;exact⟨by simpa using h1,by simpa using h2,firstE_zero (by simpa using h3),by simpa using h4⟩
 · intro h;rw[if_neg (by rw[h.k];simp),if_neg (by rw[h.f];simp),firstE_of h.i,if_neg (by simp),if_neg (by rw[h.n];simp)]
def Pg.kids(p:Pg):List Int:=if p.kind=2 then p.items.map It.child else if p.kind=1 then (p.items.map It.child).filter (fun c=>decide (c≠0)) else if p.kind=3/\p.next≠0 then [p.next] else []
end Go.Proofs.YtcpkinhneehomaaGreat
namespace Go.Proofs.YtcpkinhneehomaaGreat
open Go.RowKit
variable {x:Addr}{g o:Nat}{S:Nat->Prop}{W W' w w' wx wy:World}
def N64(x:Int):Prop:= -9223372036854775808<=x/\x<=9223372036854775807
structure Iv where
 aK:Option Addr
 cK:Nat
 key:List Nat
 aV:Option Addr
 cV:Nat
 val:List Nat
 child:Int
 size:Int
def Iv.cs(r:Iv):Array Value:=#[.slice r.aK r.key.length r.cK,.slice r.aV r.val.length r.cV,.int .i64 r.child,.int .i64 r.size]
def Iv.vl(r:Iv):Value:=.agg r.cs
def Iv.it(r:Iv):It:=⟨r.key,r.val,r.child,r.size⟩
structure Ii(w:World)(r:Iv):Prop where
 bk:Bs w r.aK r.key
 ck:r.key.length<=r.cK
 bv:Bs w r.aV r.val
 cv:r.val.length<=r.cV
 nc:N64 r.child
 ns:N64 r.size
theorem Ii.keep{r:Iv}(h:Ii w r)(hb:Below w.heap.size w w'):Ii w' r:=⟨h.bk.keep hb,h.ck,h.bv.keep hb,h.cv,h.nc,h.ns⟩
theorem sizeItem:(Tryz.prog.info? 51).map (·.size)=some 4:=by kernel_rfl
structure Io(w wx:World)(r:Iv):Prop where
 k:Own w wx r.aK r.cK r.key
 v:Own w wx r.aV r.cV r.val
 apart:∀x y,r.aK=some x->r.aV=some y->x.block≠y.block
 k8:B8 r.key
 v8:B8 r.val
theorem Rw.cap{a:Option Addr}{cap:Nat}{l:List Nat}(h:Rw w a cap l):l.length<=cap:=by
 rcases h.cases with⟨_,rfl,rfl⟩|⟨g,cur,_,_,h1,_⟩
 · exact Nat.le_refl _
 · exact h1
theorem Io.keep{r:Iv}(h:Io w wx r)(hb:Below wx.heap.size wx wy):Io w wy r:=⟨h.k.keep hb,h.v.keep hb,h.apart,h.k8,h.v8⟩
theorem Own.bs{a:Option Addr}{cap:Nat}{l:List Nat}(h:Own w wx a cap l)(h8:B8 l):Bs wx a l:=h.r.bs h8 h.r.len_le
theorem Io.ii{r:Iv}(h:Io w wx r)(hc:N64 r.child)(hs:N64 r.size):Ii wx r:=⟨h.k.bs h.k8,h.k.r.cap,h.v.bs h.v8,h.v.r.cap,hc,hs⟩
def Iv.zero:Iv:=⟨none,0,[],none,0,[],0,0⟩
theorem infoItem:(Tryz.prog.info? 51).map (fun i=>(i.zero,i.size,i.bytes))=some (some (.agg Iv.zero.cs),4,64):=by kernel_rfl
theorem cs_one(v:Iv):v.cs.all (·.oneCell')=true:=by simp[Iv.cs,Value.oneCell']
theorem range_below{b:Nat}{cs:List Value}(h:w.rangeAt b o cs)(hb:Below w.heap.size w w'):w'.rangeAt b o cs:=fun j v hv=>(hb.cell (p:=⟨b,o+j,none⟩) (block_lt_of_cell (h j v hv))).trans (h j v hv)
def Js(w:World)(a:Option Addr)(L:List Iv):Prop:=
 (∀r∈L,Ii w r)/\L.length<=2199023255489/\(L=[]\/∃b off,a=some ⟨b,off,none⟩/\∀r,r<L.length->w.rangeAt b (off+r*4) (L.getD r Iv.zero).cs.toList)
theorem getD_memR{L:List Iv}{r:Nat}(h:r<L.length):L.getD r Iv.zero∈L:=by simp[h]
theorem Js.keep{a:Option Addr}{L:List Iv}(h:Js w a L)(hb:Below w.heap.size w w'):Js w' a L:=
 ⟨fun r hr=>(h.1 r hr).keep hb,h.2.1,h.2.2.imp id fun⟨b,off,e,hr⟩=>⟨b,off,e,fun r hr2=>range_below (hr r hr2) hb⟩⟩
theorem Js.at{a:Option Addr}{L:List Iv}(h:Js w a L){r:Nat}(hr:r<L.length):∃b off,a=some ⟨b,off,none⟩/\w.rangeAt b (off+r*4) (L.getD r Iv.zero).cs.toList:=by
 rcases h.2.2 with rfl|⟨b,off,e,hc⟩
 · simp at hr
 · exact⟨b,off,e,hc r hr⟩
theorem range4{b:Nat}{r:Iv}(h:w.rangeAt b o r.cs.toList):w.cell? ⟨b,o,none⟩=some (.slice r.aK r.key.length r.cK)/\w.cell? ⟨b,o+1,none⟩=some (.slice r.aV r.val.length r.cV)/\w.cell? ⟨b,o+2,none⟩=some (.int .i64 r.child)/\w.cell? ⟨b,o+3,none⟩=some (.int .i64 r.size):=
 ⟨h 0 _ rfl,h 1 _ rfl,h 2 _ rfl,h 3 _ rfl⟩
def Jc(L:List Iv):List Value:=(L.map fun v=>v.cs.toList).flatten
theorem Jc_snoc(L:List Iv)(v:Iv):Jc (L++[v])=Jc L++v.cs.toList:=by simp[Jc]
theorem Jc_length(L:List Iv):(Jc L).length=L.length*4:=by
 induction L with
 |nil=>rfl
 |cons v L ih=>
  have:Jc (v::L)=v.cs.toList++Jc L:=by simp[Jc]
  rw[this,List.length_append,ih,List.length_cons];have:v.cs.toList.length=4:=rfl;omega
theorem Jc_get(L:List Iv)(r j:Nat)(hr:r<L.length)(hj:j<4):(Jc L)[r*4+j]?=(L.getD r Iv.zero).cs.toList[j]?:=by
 induction L generalizing r with
 |nil=>simp at hr
 |cons v L ih=>
  have e:Jc (v::L)=v.cs.toList++Jc L:=by simp[Jc]
  have hl:v.cs.toList.length=4:=rfl;rw[e];cases r with
  |zero=>
   rw[Nat.zero_mul,Nat.zero_add,List.getElem?_append_left (by omega)]
   simp
  |succ r=>
   rw[List.getElem?_append_right (by rw[hl];omega),hl,show(r+1)*4+j-4=r*4+j by omega,ih r (by simpa using hr)]
   simp
def Jw(w:World)(a:Option Addr)(cap:Nat)(L:List Iv):Prop:=w.ownsRow 0 51 4 (.slice a L.length cap) L.length (Jc L)
theorem Jw.nil(w:World):Jw w none 0 []:=World.ownsRow_nil w 0 51 4
theorem Jw.cases{a:Option Addr}{cap:Nat}{L:List Iv}(h:Jw w a cap L):(a=none/\cap=0/\L=[])\/
 ∃g cur,a=some ⟨g,0,none⟩/\w.heap[g]?=some (.cells cur 51 (0,0))/\L.length<=cap/\cap<=maxLen/\cur.size=cap*4/\cur.toList.take (L.length*4)=Jc L:=by
 obtain⟨_,h2⟩:=h;rcases h2 with⟨hv,h0⟩|⟨g,cap',cur,hv,_,hg,hn,hm,hs,ht⟩
 · simp only[Value.slice.injEq] at hv;exact .inl ⟨hv.1,hv.2.2,List.length_eq_zero_iff.1 h0⟩
 · simp only[Value.slice.injEq] at hv;obtain⟨h1,_,rfl⟩:=hv;exact .inr ⟨g,cur,h1,hg,hn,hm,hs,ht⟩
theorem Jw.mk{cap:Nat}{cur:Array Value}{L:List Iv}(hg:w.heap[g]?=some (.cells cur 51 (0,0)))(hn:L.length<=cap)(hm:cap<=maxLen)(hs:cur.size=cap*4)(ht:cur.toList.take (L.length*4)=Jc L):Jw w (some ⟨g,0,none⟩) cap L:=
 ⟨Jc_length L,.inr ⟨g,cap,cur,rfl,Nat.zero_le _,hg,hn,hm,hs,ht⟩⟩
theorem Jw.lt{a:Option Addr}{cap:Nat}{L:List Iv}(h:Jw w a cap L)(hx:a=some x):x.block<w.heap.size:=by
 rcases h.cases with⟨rfl,_⟩|⟨g,cur,rfl,hg,_⟩
 · cases hx
 · cases hx;exact(Array.getElem?_eq_some_iff.1 hg).1
theorem Jw.but{a:Option Addr}{cap:Nat}{L:List Iv}(h:Jw w a cap L)(hb:But S w w')(hn:∀x,a=some x->¬S x.block):Jw w' a cap L:=by
 rcases h.cases with⟨rfl,rfl,rfl⟩|⟨g,cur,rfl,hg,h1,h2,h3,h4⟩
 · exact Jw.nil w'
 · exact Jw.mk ((hb.block g (Array.getElem?_eq_some_iff.1 hg).1 (hn _ rfl)).trans hg) h1 h2 h3 h4
theorem Jw.keep{a:Option Addr}{cap:Nat}{L:List Iv}(h:Jw w a cap L)(hb:Below w.heap.size w w'):Jw w' a cap L:=
 h.but (S:=fun _=>False) (But.ofBelow hb) (fun _ _ hf=>hf)
theorem Jw.qs{a:Option Addr}{cap:Nat}{L:List Iv}(h:Jw w a cap L)(hk:∀r∈L,Ii w r)(hl:L.length<=2199023255489):Js w a L:=by
 refine⟨hk,hl,?_⟩;rcases h.cases with⟨rfl,rfl,rfl⟩|⟨g,cur,rfl,hg,h1,h2,h3,h4⟩
 · exact .inl rfl
 · refine .inr ⟨g,0,rfl,fun r hr j u hu=>?_⟩
   have hj:j<4:=(List.getElem?_eq_some_iff.1 hu).1;rw[cell_of_row _ _ _ _ _ _ hg,Nat.zero_add,<-hu,<-Jc_get L r j hr hj,<-h4,List.getElem?_take,if_pos (by have:(r+1)*4<=L.length*4:=Nat.mul_le_mul_right _ hr;omega)]
   simp
theorem run_apJ(w:World)(ty:TypeId)(a:Option Addr)(n cap:Nat)(L:List Iv)(hn:n=L.length)(hR:Jw w a cap L)(ad:Addr)(c:Nat)(v:Iv)(hc:∀j u,v.cs.toList[j]?=some u->w.cell? (ad.add j)=some u)(hlen:L.length+1<=2199023255489):
 ∃g cap' w',(Builtin.append_ #[28,28] ty #[.slice a n cap,.slice (some ad) 1 c]).run Tryz.prog w=.ok (.slice (some ⟨g,0,none⟩) (n+1) cap') w'/\
  Jw w' (some ⟨g,0,none⟩) cap' (L++[v])/\New w a (some ⟨g,0,none⟩)/\w.grownBy w' (a.map Addr.block):=by
 subst hn;obtain⟨i0,hi,hz0,hz1,hz2⟩:=info_parts infoItem
 obtain⟨g,cap',w',hr,h1,h2,h3,h4⟩:=run_append_lies (P:=Tryz.prog) w 28 ty 0 51 i0 (.agg Iv.zero.cs) 4 64 Tryz.underlying28 hi hz0 hz1 hz2 rfl (by decide) (.slice a L.length cap) L.length (Jc L) hR ad 1 c v.cs.toList rfl
  hc (fun u hu=>(Array.all_eq_true_iff_forall_mem.1 (cs_one v)) u (by simpa using hu)) (by decide) (by unfold maxLen;omega) (by omega) (Nat.zero_le _) w.heap.size rfl
 rw[ob_eq] at h2 h3;refine⟨g,cap',w',hr,?_,?_,h2⟩
 · unfold Jw;rw[Jc_snoc,List.length_append];exact h1
 · intro y hy;simp only[Option.some.injEq] at hy;subst hy;rcases h3 with h3|h3
   · obtain⟨z,hz,e⟩:=map_some h3;exact .inl ⟨z,hz,e⟩
   · exact .inr (by show _<=g;omega)
theorem wp_apJ{w:World}{o:Oper}{a:Act}{K:Act->World->Prop}{Q:Exit->Act->World->Prop}(s x:Operand)
 (ho:o.op=.call {callee:=.builtin .append,args:=#[s,x],argTypes:=#[28,28]}) (ao:Option Addr) (n cap:Nat) (L:List Iv) (hs:a.eval s=.slice ao n cap) (hn:n=L.length) (hR:Jw w ao cap L)
 (ad:Addr) (c:Nat) (v:Iv) (hx:a.eval x=.slice (some ad) 1 c) (hc:∀j u,v.cs.toList[j]?=some u->w.cell? (ad.add j)=some u) (hlen:L.length+1<=2199023255489)
 (h:∀g cap' w',Jw w' (some ⟨g,0,none⟩) cap' (L++[v])->New w ao (some ⟨g,0,none⟩)->w.grownBy w' (ao.map Addr.block)->K (a.put o.dst (.slice (some ⟨g,0,none⟩) (n+1) cap')) w'):o.wp Tryz.prog a w K Q:=by
 obtain⟨g,cap',w',hr,h1,h2,h3⟩:=run_apJ w o.type ao n cap L hn hR ad c v hc hlen;unfold Oper.wp execOp;simp only[ho,resolve,invoke,builtin,Sem.run_bind,Sem.run_pure,Result.andThen_ok,List.map_toArray,List.map_cons,List.map_nil,hs,hx,hr];exact h g cap' w' h1 h2 h3
theorem wpList_apJ{w:World}{ops:Array Oper}{rest:List Oper}{o:Oper}{a:Act}{Q:Exit->Act->World->Prop}(hgd:o.guard=none)(s x:Operand)
 (ho:o.op=.call {callee:=.builtin .append,args:=#[s,x],argTypes:=#[28,28]}) (ao:Option Addr) (n cap:Nat) (L:List Iv) (hs:a.eval s=.slice ao n cap) (hn:n=L.length) (hR:Jw w ao cap L)
 (ad:Addr) (c:Nat) (v:Iv) (hx:a.eval x=.slice (some ad) 1 c) (hc:∀j u,v.cs.toList[j]?=some u->w.cell? (ad.add j)=some u) (hlen:L.length+1<=2199023255489)
 (h:∀g cap' w',Jw w' (some ⟨g,0,none⟩) cap' (L++[v])->New w ao (some ⟨g,0,none⟩)->w.grownBy w' (ao.map Addr.block)->wpList Tryz.prog ops Q rest (a.put o.dst (.slice (some ⟨g,0,none⟩) (n+1) cap')) w'):wpList Tryz.prog ops Q (o::rest) a w:=
 wpList_plain hgd fun _ hK=>wp_apJ s x ho ao n cap L hs hn hR ad c v hx hc hlen fun g cap' w' h1 h2 h3=>hK _ _ (h g cap' w' h1 h2 h3)
structure JOwn(w wx:World)(a:Option Addr)(cap:Nat)(L:List Iv):Prop where
 r:Jw wx a cap L
 n:New w none a
 b:Below w.heap.size w wx
theorem JOwn.nil(w:World)(h:Below w.heap.size w wx):JOwn w wx none 0 []:=⟨Jw.nil _,New.none _ _,h⟩
theorem JOwn.keep{a:Option Addr}{cap:Nat}{L:List Iv}(h:JOwn w wx a cap L)(hb:Below wx.heap.size wx wy):JOwn w wy a cap L:=⟨h.r.keep hb,h.n,bt h.b hb⟩
theorem JOwn.step{w1:World}{a a':Option Addr}{cap cap':Nat}{L L':List Iv}(h:JOwn w wx a cap L)(hb:Below wx.heap.size wx w1)(hR:Jw wy a' cap' L')(hN:New w1 a a')(hg:w1.grownBy wy (a.map Addr.block)):JOwn w wy a' cap' L':=by
 refine⟨hR,h.n.trans hN (Nat.le_trans h.b.size hb.size),?_⟩;have h1:=bt h.b hb
 have hh:But (fun _=>False) w wy:=(But.ofBelow h1).grown hg fun k hk hlt=>by
  obtain⟨y,hy,e⟩:=map_some hk;rcases h.n y hy with⟨z,hz,_⟩|h2
  · cases hz
  · omega
 exact hh.below fun _ _ h=>h
theorem Jw.cells{cap:Nat}{L:List Iv}(h:Jw w (some ⟨g,0,none⟩) cap L):∀j u,(Jc L)[j]?=some u->w.cell? ((⟨g,0,none⟩:Addr).add j)=some u:=by
 rcases h.cases with⟨h0,_⟩|⟨g',cur,h0,hg,h1,h2,h3,h4⟩
 · cases h0
 · simp only[Option.some.injEq,Addr.mk.injEq] at h0;obtain⟨rfl,_⟩:=h0;intro j u hj;rw[Addr.add_mid,Nat.zero_add,cell_of_row _ _ _ _ _ _ hg];have hlt:=(List.getElem?_eq_some_iff.1 hj).1;rw[Jc_length] at hlt;rw[<-h4,List.getElem?_take,if_pos hlt] at hj;rw[<-hj];simp
theorem heap_setCells_same(g:Nat)(t:TypeId):∀(vs:List Value)(w:World)(o:Nat)(cur:Array Value),w.heap[g]?=some (.cells cur t (0,0))->
 ∃cur':Array Value,(w.setCells g o vs).heap[g]?=some (.cells cur' t (0,0))/\cur'.size=cur.size/\∀i,i<cur.size->cur'[i]?=if o<=i/\i<o+vs.length then vs[i-o]? else cur[i]?:=by
 intro vs;induction vs with
 |nil=>exact fun w o cur hg=>⟨cur,hg,rfl,fun i _=>by rw[if_neg (by simp)]⟩
 |cons v vs ih=>
  intro w o cur hg;obtain⟨cur',h1,h2,h3⟩:=ih (w.setCell ⟨g,o,none⟩ v) (o+1) (cur.setIfInBounds o v) (heap_setCell_same w g o _ _ _ hg);refine⟨cur',h1,by rw[h2];simp,fun i hi=>?_⟩
  rw[h3 i (by simpa using hi),List.length_cons]
  by_cases e:i=o
  · subst e;rw[if_neg (by omega),if_pos (by omega),Nat.sub_self]
    simp[hi]
  · by_cases h4:o+1<=i/\i<o+1+vs.length
    · rw[if_pos h4,if_pos (by omega),show i-o=(i-(o+1))+1 by omega,List.getElem?_cons_succ]
    · rw[if_neg h4,if_neg (by omega),Array.getElem?_setIfInBounds_ne (by omega)]
theorem Jw.setv{cap:Nat}{L:List Iv}(h:Jw w (some ⟨g,0,none⟩) cap L)(k:Nat)(v:Iv):Jw (w.setCells g (k*4) v.cs.toList) (some ⟨g,0,none⟩) cap (L.set k v):=by
 rcases h.cases with⟨h0,_⟩|⟨g',cur,h0,hg,h1,h2,h3,h4⟩
 · cases h0
 · simp only[Option.some.injEq,Addr.mk.injEq] at h0;obtain⟨rfl,_⟩:=h0;obtain⟨cur',k1,k2,k3⟩:=heap_setCells_same g 51 v.cs.toList w (k*4) cur hg;have hvl:v.cs.toList.length=4:=rfl;refine Jw.mk k1 (by rw[List.length_set];exact h1) h2 (by rw[k2];exact h3) ?_
   rw[List.length_set];apply List.ext_getElem?;intro i;have hle:L.length*4<=cap*4:=Nat.mul_le_mul_right _ h1;by_cases hi:i<L.length*4
   · have ho:(Jc L)[i]?=cur[i]?:=by rw[<-h4,List.getElem?_take,if_pos hi];simp
     have hr:i/4<L.length:=by omega
     have hsp:i=i/4*4+i%4:=by omega
     have hmod:i%4<4:=Nat.mod_lt _ (by decide)
     rw[List.getElem?_take,if_pos hi,Array.getElem?_toList,k3 i (by omega),hvl]
     have hR:(Jc (L.set k v))[i]?=((L.set k v).getD (i/4) Iv.zero).cs.toList[i%4]?:=by
      conv=>lhs;rw[hsp]
      exact Jc_get (L.set k v) (i/4) (i%4) (by rw[List.length_set];exact hr) hmod
     have hO:(Jc L)[i]?=(L.getD (i/4) Iv.zero).cs.toList[i%4]?:=by
      conv=>lhs;rw[hsp]
      exact Jc_get L (i/4) (i%4) hr hmod
     rw[hR];by_cases hin:k*4<=i/\i<k*4+4
     · have e:i/4=k:=by omega
       rw[if_pos hin,e,show i-k*4=i%4 by omega]
       simp[show k<L.length by omega]
     · have e:¬k=i/4:=by omega
       rw[if_neg hin,<-ho,hO];simp[List.getElem?_set_ne e]
   · rw[List.getElem?_take,if_neg hi,List.getElem?_eq_none (by rw[Jc_length,List.length_set];omega)]
theorem Jw.there{cap:Nat}{L:List Iv}(h:Jw w (some ⟨g,0,none⟩) cap L):w.there g 0 (L.length*4):=by
 rcases h.cases with⟨h0,_⟩|⟨g',cur,h0,hg,h1,h2,h3,h4⟩
 · cases h0
 · simp only[Option.some.injEq,Addr.mk.injEq] at h0;obtain⟨rfl,_⟩:=h0;intro j hj;have hle:L.length*4<=cap*4:=Nat.mul_le_mul_right _ h1;rw[Nat.zero_add];constructor
   · rw[cell_of_row _ _ _ _ _ _ hg];simp[show j<cur.size by omega]
   · exact frozen_of_row _ _ _ _ _ hg
structure Br where
 a:Option Addr
 c:Nat
 l:List Nat
def brApart(s t:Br):Prop:=∀x y,s.a=some x->t.a=some y->x.block≠y.block
theorem brApart.symm{s t:Br}(h:brApart s t):brApart t s:=fun x y hx hy e=>h y x hy hx e.symm
structure Fam(w W:World)(T:List Br):Prop where
 own:∀t∈T,Own w W t.a t.c t.l/\B8 t.l
 dist:T.Pairwise brApart
theorem Fam.nil(w W:World):Fam w W []:=⟨fun _ h=>(List.not_mem_nil h).elim,List.Pairwise.nil⟩
theorem Fam.keep{T:List Br}(h:Fam w W T)(hb:Below W.heap.size W W'):Fam w W' T:=⟨fun t ht=>⟨(h.own t ht).1.keep hb,(h.own t ht).2⟩,h.dist⟩
theorem Fam.add{T U:List Br}(h:Fam w W T)(k:Fam W W' U)(hb:Below W.heap.size W W')(hw:Below w.heap.size w W):Fam w W' (T++U):=by
 refine⟨fun t ht=>?_,List.pairwise_append.2 ⟨h.dist,k.dist,fun s hs t ht x y hx hy e=>?_⟩⟩
 · rcases List.mem_append.1 ht with ht|ht
   · exact⟨(h.own t ht).1.keep hb,(h.own t ht).2⟩
   · exact⟨Own.pre hw (k.own t ht).1,(k.own t ht).2⟩
 · have h1:=(h.own s hs).1.r.lt hx;have h2:=(k.own t ht).1.fresh hy;omega
theorem Fam.sub{T U:List Br}(h:Fam w W T)(hs:U.Sublist T):Fam w W U:=⟨fun t ht=>h.own t (hs.subset ht),h.dist.sublist hs⟩
def Iv.rows(r:Iv):List Br:=[⟨r.aK,r.cK,r.key⟩,⟨r.aV,r.cV,r.val⟩]
def rowsOf(L:List Iv):List Br:=(L.map Iv.rows).flatten
theorem rowsOf_append(L M:List Iv):rowsOf (L++M)=rowsOf L++rowsOf M:=by simp[rowsOf]
theorem rowsOf_cons(r:Iv)(M:List Iv):rowsOf (r::M)=r.rows++rowsOf M:=by simp[rowsOf]
theorem rowsOf_one(r:Iv):rowsOf [r]=r.rows:=by simp[rowsOf]
theorem Io.fam{r:Iv}(h:Io w W r):Fam w W r.rows:=
 ⟨fun t ht=>by
   simp only[Iv.rows,List.mem_cons,List.not_mem_nil,or_false] at ht;rcases ht with rfl|rfl
   · exact⟨h.k,h.k8⟩
   · exact⟨h.v,h.v8⟩,List.pairwise_cons.2 ⟨fun t ht=>by rw[List.mem_singleton.1 ht];exact h.apart,List.pairwise_singleton _ _⟩⟩
theorem Fam.io{r:Iv}(h:Fam w W r.rows):Io w W r:=
 ⟨(h.own ⟨r.aK,r.cK,r.key⟩ (by simp[Iv.rows])).1,(h.own ⟨r.aV,r.cV,r.val⟩ (by simp[Iv.rows])).1,(List.pairwise_cons.1 h.dist).1 ⟨r.aV,r.cV,r.val⟩ (by simp),(h.own ⟨r.aK,r.cK,r.key⟩ (by simp[Iv.rows])).2,(h.own ⟨r.aV,r.cV,r.val⟩ (by simp[Iv.rows])).2⟩
theorem rows_sub{L:List Iv}{r:Iv}(h:r∈L):r.rows.Sublist (rowsOf L):=by
 obtain⟨a,b,rfl⟩:=List.append_of_mem h;rw[rowsOf_append,rowsOf_cons];exact(List.sublist_append_left _ _).trans (List.sublist_append_right _ _)
theorem Jw.ne{a b:Option Addr}{cap c:Nat}{L:List Iv}{l:List Nat}(h:Jw w a cap L)(k:Rw w b c l){y:Addr}(hx:a=some x)(hy:b=some y):x.block≠y.block:=by
 intro e;rcases h.cases with⟨rfl,_⟩|⟨g,cur,rfl,hg,_⟩
 · cases hx
 · rcases k.cases with⟨rfl,_⟩|⟨g',cur',rfl,hg',_⟩
   · cases hy
   · cases hx;cases hy;dsimp only at e;subst e;rw[hg] at hg';simp only[Option.some.injEq,Obj.cells.injEq] at hg';exact absurd hg'.2.1 (by decide)
theorem Own.but{a:Option Addr}{cap:Nat}{l:List Nat}(h:Own w W a cap l)(hb:But S W W')(hw:Below w.heap.size w W')(hn:∀x,a=some x->¬S x.block):Own w W' a cap l:=⟨h.r.but hb hn,h.n,hw⟩
theorem Fam.but{T:List Br}(h:Fam w W T)(hb:But S W W')(hw:Below w.heap.size w W')(hn:∀t∈T,∀x,t.a=some x->¬S x.block):Fam w W' T:=⟨fun t ht=>⟨(h.own t ht).1.but hb hw (hn t ht),(h.own t ht).2⟩,h.dist⟩
structure Pv where
 kind:Int
 level:Int
 aI:Option Addr
 cI:Nat
 items:List Iv
 aD:Option Addr
 cD:Nat
 data:List Nat
 next:Int
def Pv.cs(p:Pv):Array Value:=#[.int .i64 p.kind,.int .i64 p.level,.slice p.aI p.items.length p.cI,.slice p.aD p.data.length p.cD,.int .i64 p.next]
def Pv.vl(p:Pv):Value:=.agg p.cs
def Pv.pg(p:Pv):Pg:=⟨p.kind,p.level,p.items.map Iv.it,p.data,p.next⟩
def Pv.zero:Pv:=⟨0,0,none,0,[],none,0,[],0⟩
structure Pi(w:World)(p:Pv):Prop where
 it:Js w p.aI p.items
 ci:p.items.length<=p.cI
 bd:Bs w p.aD p.data
 cd:p.data.length<=p.cD
 nk:N64 p.kind
 nl:N64 p.level
 nn:N64 p.next
theorem Pi.keep{p:Pv}(h:Pi w p)(hb:Below w.heap.size w w'):Pi w' p:=⟨h.it.keep hb,h.ci,h.bd.keep hb,h.cd,h.nk,h.nl,h.nn⟩
theorem Pi.zero(w:World):Pi w Pv.zero:=⟨⟨fun _ h=>(List.not_mem_nil h).elim,by simp[Pv.zero],.inl rfl⟩,Nat.le_refl _,Bs.nil w,Nat.le_refl _,by simp[Pv.zero,N64],by simp[Pv.zero,N64],by simp[Pv.zero,N64]⟩
theorem Pv.at(p:Pv)(i:Nat):p.pg.at i=(p.items.getD i Iv.zero).it:=by
 show(p.items.map Iv.it).getD i It.zero=_;have:It.zero=Iv.zero.it:=rfl;rw[this];simp[List.getD_eq_getElem?_getD,List.getElem?_map]
theorem sizePage:(Tryz.prog.info? 31).map (·.size)=some 5:=by kernel_rfl
end Go.Proofs.YtcpkinhneehomaaGreat
