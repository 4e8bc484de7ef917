import Derived.Test.YtbdkogimlbnlmaaGreatWlB0
import Derived.RangeFuncNested
import Derived.RangeFuncBound
import Derived.RangeFuncCalls
import Derived.Shelf.Abstract
import Derived.Shelf.RegionOpen
import Derived.OwnWalkIn
import Derived.TacticsInMore
import Derived.LoopNIn
import Derived.LoopIn
import Derived.Deep.MidRow
import Derived.Laws.IdiomCopy
import Derived.Lib.SliceRun
set_option linter.all false
set_option maxHeartbeats 4000000
set_option maxRecDepth 10000
namespace Go.Proofs.YtbdkogimlbnlmaaGreat.Q
open Tryz
open Go.RowKit Go.Shelf
variable {S:Nat->Prop}{a w:World}
theorem _root_.Go.Proofs.YtbdkogimlbnlmaaGreat.But.putObj(h:But S a w){l:Nat}(b:l<a.heap.size->S l)(o:Obj):But S a (w.putObj l o):=
 h.trans (T:=λk=>k=l) ⟨rfl,rfl,rfl,by simp,λk _ d=>dz (λe=>d e)⟩ (λx f e=>by subst e;exact b f)
theorem _root_.Go.Proofs.YtbdkogimlbnlmaaGreat.But.same(h:But S a w){k:Nat}{o:Obj}(b:a.heap[k]?=some o)(d:¬S k):w.heap[k]?=some o:=
 (h.block k (af.1 b).1 d).trans b
def yZ{β:Type}(n:Nat)(J:β->World->Prop):Prop:=∀s A B,J s A->n<=A.heap.size->But (λk=>n<=k) A B->J s B
def Yes{α:Type}(S:Nat->Prop)(J Jx:List α->World->Prop)(pre:List α)(W:World)(e:Ending)(W':World):Prop:=
 But S W W'/\((e=.returned (.bool true)/\J pre W')\/(e=.returned (.bool false)/\Jx pre W'))
def uA{α:Type}(P:Program)(g:Nat)(lb:Array Value)(encs:α->Array Value)(xs:List α)(w:World)(X:Nat->Prop):Prop:=
 ∀(l:Nat)(S:Nat->Prop)(J Jx:List α->World->Prop)(W:World),But (λk=>¬X k) w W->(∀k,S k->¬X k/\k<W.heap.size)->yZ W.heap.size J->yZ W.heap.size Jx->
  (∀pre x rest W1,xs=pre++x::rest->J pre W1->W.heap.size<=W1.heap.size->YieldAt Fence.wide 0 P l (encs x) W1 (Yes S J Jx (pre++[x]) W1))->
  J [] W->CallsIn Fence.wide 0 P g (#[.func (.yield l) #[] #[]]++lb) W λe W'=>(∃v,e=.returned v)/\But S W W'/\(J xs W'\/∃pre rest,xs=pre++rest/\Jx pre W')
def Eg{α:Type}(S:Nat->Prop)(I:List α->World->Prop)(Ix:Code->List α->World->Prop)(pre:List α)(W:World):Exit->Act->World->Prop
 | .normal,_,W'=>But S W W'/\I pre W'
 | .ret,_,W'=>But S W W'/\Ix .ret pre W'
 | .exit id,_,W'=>But S W W'/\Ix (.exit id) pre W'
 | .goto t,_,W'=>But S W W'/\Ix (.goto t) pre W'
 | .panic _,_,_=>False
 | .outgrown,_,_=>False
theorem wg{P:Program}{α:Type}{g:Operand}{U:Array Tmp}{assign body:Code}{Q:Exit->Act->World->Prop}{a:Act}{w:World}
 {gf:Nat} {lb:Array Value} (hg:a.eval g=.func (.func gf) #[] lb) (eg:∀args w,(callFunc gf args).run P w=.ok (.enter gf args) w)
 {ab:α->Array Value} {xs:List α} {w0:World} {X:Nat->Prop} (ax:uA P gf lb ab xs w0 X) (ao:But (λk=>¬X k) w0 w) (ap:∀k,X k->k<w.heap.size/\k<w0.heap.size) (aw:∀x,(ab x).size=U.size)
 (S:Nat->Prop) (hS:∀k,S k->¬X k/\k<w.heap.size) (I:List α->World->Prop) (s:Code->List α->World->Prop) (hI:yZ w.heap.size I) (A:∀c,yZ w.heap.size (s c)) (h0:I [] w)
 (aB:∀(l:Nat)(pre:List α)(x:α)(K:List α)(W:World),xs=pre++x::K->I pre W->w.heap.size<=l->l<W.heap.size->
   assign.wpIn (Fence.wide.inRound l) 0 P (Exit.then (λa₁ M=>Below W.heap.size W M/\∀W₂,But (λk=>k=l) M W₂->body.wpIn (Fence.wide.inRound l) 0 P (Eg S I s (pre++[x]) W₂) a₁ W₂) (λ_ _ _=>False))
    {tmps:=(U.zip (ab x)).foldl (λt (p,v)=>t.setIfInBounds p v) a.tmps,defers:=[]} W)
 (az:∀(D:Nat)(W:World),w.heap.size<=D->I xs W->But S w W->W.heap[D]?=some (.deferred (some []))->Q .normal {a with defers:={target:=.collected D,args:=#[]}::a.defers} W)
 (aA:∀(D:Nat)(c:Code)(pre K:List α)(W:World),w.heap.size<=D->xs=pre++K->s c pre W->But S w W->W.heap[D]?=some (.deferred (some []))->c.wpIn Fence.wide 0 P Q {a with defers:={target:=.collected D,args:=#[]}::a.defers} W):
 (Code.rangeFunc g U assign body).wpIn Fence.wide 0 P Q a w:=by
 refine wpIn_rangeFunc λfn av=>?_
 obtain⟨d,y⟩:∃d:LoopState->Option Code->Loop,d=λst pe=>{state:=st,pending:=pe,fn,tmps:=a.tmps,params:=U,assign,body,defers:=w.heap.size}:=⟨_,rfl⟩
 have au:=run_enterLoop_outer (P:=P) (w:=w) fn a.tmps U assign body;obtain⟨V,N⟩:∃V,(w.alloc (.deferred (some []))).alloc (.loop (d .ready none))=V:=⟨_,rfl⟩;have sV:V.heap.size=w.heap.size+2:=by rw[<-N,size_alloc,size_alloc]
 have rV:V.heap[w.heap.size+1]?=some (.loop (d .ready none)):=by
  rw[<-N];have:=aF (w.alloc (.deferred (some []))) (.loop (d .ready none));rwa [World.size_alloc] at this
 have dV:V.heap[w.heap.size]?=some (.deferred (some [])):=by
  rw[<-N];exact(Below.heap_alloc _ _ _ (by simp)).trans (aF w _)
 have bV:Below w.heap.size w V:=by rw[<-N];exact bt ((Below.refl _ _).alloc (ai _) _) ((Below.refl _ _).alloc (ai _) _)
 have IV:I [] V:=hI _ _ _ h0 (ai _) (But.ofBelow bV);refine⟨w.heap.size+1,[{target:=.collected w.heap.size,args:=#[]}],V,{target:=.fn (.func gf) lb,args:=#[.func (.yield (w.heap.size+1)) #[] #[]]},V,gf,#[.func (.yield (w.heap.size+1)) #[] #[]]++lb,V,?_,?_,?_,?_,?_,?_⟩
 . rw[<-N,y];exact au
 . simp only[resolve,hg];simp[go_sem]
 . intro f' _;trivial
 . simp[invoke,go_sem,eg]
 . intro h;cases h
 have step:=ax (w.heap.size+1) (λk=>S k\/k=w.heap.size+1)
  (λpre W=>I pre W/\W.heap[w.heap.size+1]?=some (.loop (d .ready none))/\W.heap[w.heap.size]?=some (.deferred (some [])))
  (λpre W=>∃c,s c pre W/\W.heap[w.heap.size+1]?=some (.loop (d .done (some c)))/\W.heap[w.heap.size]?=some (.deferred (some [])))
  V (ao.andBelow bV)
  (λk hk=>by
    rcases hk with hk|rfl
    . exact⟨(hS k hk).1,by have:=(hS k hk).2;omega⟩
    . exact⟨λn=>by have:=(ap _ n).1;omega,by omega⟩)
  (λae ac ad T hn hb=>⟨hI ae ac ad T.1 (by omega) (hb.mono λx _ n=>by omega),hb.same T.2.1 (by omega),hb.same T.2.2 (by omega)⟩)
  (λae ac ad T hn hb=>by
    obtain⟨c,hc,h1,h2⟩:=T;exact⟨c,A c ae ac ad hc (by omega) (hb.mono λx _ n=>by omega),hb.same h1 (by omega),hb.same h2 (by omega)⟩)
  ?_ ⟨IV,rV,dV⟩
 . refine CallsIn.mono step ?_;rintro e W ⟨⟨v,rfl⟩,hB,⟨R,L,O⟩|⟨pre,K,n,c,R,L,O⟩⟩
   . have Z:But S w W:=((But.ofBelow (S:=S) bV).trans hB (λx n h=>h.elim id (λe=>by omega)))
     have ak:=λo=>(But.refl (λk=>w.heap.size<=k) W).putObj (l:=w.heap.size+1) (λ_=>by omega) o
     have B:=run_endLoop (P:=P) L (by rw[y];simp)
     rw[show(d .ready none).pending=none by rw[y]] at B
     refine⟨none,_,B,?_⟩;have:=Z.size;refine az w.heap.size _ (ai _) (hI _ _ _ R this (ak _)) (Z.putObj (λh=>by omega) _) ?_
     exact(dz (by omega)).trans O
   . have Z:But S w W:=((But.ofBelow (S:=S) bV).trans hB (λx n h=>h.elim id (λe=>by omega)))
     have ak:=λo=>(But.refl (λk=>w.heap.size<=k) W).putObj (l:=w.heap.size+1) (λ_=>by omega) o
     have B:=run_endLoop (P:=P) L (by rw[y];simp)
     rw[show(d .done (some c)).pending=some c by rw[y]] at B
     refine⟨some c,_,B,?_⟩;have:=Z.size;refine aA w.heap.size c pre K _ (ai _) n (A c _ _ _ R this (ak _)) (Z.putObj (λh=>by omega) _) ?_
     exact(dz (by omega)).trans O
 . rintro pre x K W n ⟨R,L,O⟩ hW;have hy:=run_yield (P:=P) (args:=ab x) L (by rw[y];exact aw x)
   rw[y] at hy;refine⟨fn,_,assign,body,hy,roundIn_of_wpIn av (wpIn_mono (aB _ pre x K W n R (by omega) (by omega)) ?_)⟩
   rintro e a₁ M i;cases e with
   |normal=>
    obtain⟨aj,ay⟩:=i;have al:=(aj.block (w.heap.size+1) (by omega)).trans L
    have aq:=(aj.block w.heap.size (by omega)).trans O
    refine⟨_,run_beginRound al (by rw[y]),?_⟩
    obtain⟨C,ah⟩:∃C,M.putObj (w.heap.size+1) (.loop {d .ready none with state:=.busy})=C:=⟨_,rfl⟩;have l1:=(af.1 al).1;have ag:But (λk=>k=w.heap.size+1) M C:=by rw[<-ah];exact(But.refl (λk=>k=w.heap.size+1) _).putObj (λ_=>rfl) _
    have am:C.heap[w.heap.size+1]?=some (.loop {d .ready none with state:=.busy}):=by rw[<-ah];exact gu l1
    have ar:C.heap[w.heap.size]?=some (.deferred (some [])):=ag.same aq (by omega)
    rw[ah];refine wpIn_mono (ay C ag) ?_
    have aa:∀(q:Option Code)(b:World),But S C b->
     ∃f,(Instr.endRound (w.heap.size+1) q).run P b=.ok (.bool q.isNone) f/\But (λk=>k=w.heap.size+1) b f/\But (λk=>S k\/k=w.heap.size+1) W f/\
     f.heap[w.heap.size+1]?=some (.loop (d (if q.isNone then .ready else .done) q))/\f.heap[w.heap.size]?=some (.deferred (some [])):=λq b Y=>by
     have nl:¬S (w.heap.size+1):=λh=>by have:=(hS _ h).2;omega
     have nd:¬S w.heap.size:=λh=>by have:=(hS _ h).2;omega
     have an:=Y.same am nl;have l3:=(af.1 an).1;have m:=run_endRound (P:=P) q an;have e1:({ ({d .ready none with state:=.busy}:Loop) with state:=if q.isNone then .ready else .done,pending:=q}:Loop)=d (if q.isNone then .ready else .done) q:=by rw[y]
     rw[e1] at m;refine⟨_,m,(But.refl (λk=>k=w.heap.size+1) _).putObj (λ_=>rfl) _,?_,gu l3,(dz (by omega)).trans (Y.same ar nd)⟩
     refine But.putObj ?_ (λ_=>.inr rfl) _
     refine(((But.ofBelow (S:=λk=>S k\/k=w.heap.size+1) aj).trans ag (λx _ h=>.inr h)).trans Y (λx _ h=>.inl h))
    have up:∀{b f:World},But S C b->But (λk=>k=w.heap.size+1) b f->w.heap.size<=b.heap.size/\But (λk=>w.heap.size<=k) b f:=λ{b f} Y r=>by
     refine⟨?_,r.mono λx _ n=>by omega⟩
     have h1:=Y.size;have h2:=(af.1 am).1;omega
    rintro e a3 b i;cases e with
    |normal=>
     obtain⟨j,H⟩:=i;obtain⟨f,m,r,E,J,G⟩:=aa none b j;obtain⟨u1,u2⟩:=up j r;exact⟨_,_,m,E,.inl ⟨rfl,hI _ _ _ H u1 u2,J,G⟩⟩
    |ret=>
     obtain⟨j,H⟩:=i;obtain⟨f,m,r,E,J,G⟩:=aa (some .ret) b j;obtain⟨u1,u2⟩:=up j r;exact⟨_,_,m,E,.inr ⟨rfl,.ret,A _ _ _ _ H u1 u2,J,G⟩⟩
    |exit id=>
     obtain⟨j,H⟩:=i;obtain⟨f,m,r,E,J,G⟩:=aa (some (.exit id)) b j;obtain⟨u1,u2⟩:=up j r;exact⟨_,_,m,E,.inr ⟨rfl,.exit id,A _ _ _ _ H u1 u2,J,G⟩⟩
    |goto t=>
     obtain⟨j,H⟩:=i;obtain⟨f,m,r,E,J,G⟩:=aa (some (.goto t)) b j;obtain⟨u1,u2⟩:=up j r;exact⟨_,_,m,E,.inr ⟨rfl,.goto t,A _ _ _ _ H u1 u2,J,G⟩⟩
    |panic ch=>exact i.elim
    |outgrown=>exact i.elim
   |ret=>exact i.elim
   |exit id=>exact i.elim
   |goto t=>exact i.elim
   |panic ch=>exact i.elim
   |outgrown=>exact i.elim
end Go.Proofs.YtbdkogimlbnlmaaGreat.Q
namespace Go.Proofs.YtbdkogimlbnlmaaGreat.Q
open Tryz
variable {hi lo mn mx:Int}
abbrev Rn:=Int×Int
def has(L:List Rn)(x:Int):Bool:=L.any λr=>decide (r.1<=x)&&decide (x<=r.2)
theorem has_iff(L:List Rn)(x:Int):has L x=true↔∃r∈L,r.1<=x/\x<=r.2:=by
 unfold has;rw[fT];simp
theorem mP(L:List Rn)(x:Int):has L x=false↔∀r∈L,r.1<=x->r.2<x:=by
 rw[<-Bool.not_eq_true,has_iff];constructor
 . intro h r d b;by_cases e:x<=r.2
   . exact(h ⟨r,d,b,e⟩).elim
   . omega
 . rintro h ⟨r,d,b,e⟩;have:=h r d b;omega
theorem ld(x:Int):has [] x=false:=rfl
theorem ki(r:Rn)(L:List Rn)(x:Int):has (r::L) x=((decide (r.1<=x)&&decide (x<=r.2))||has L x):=rfl
theorem jk(L M:List Rn)(x:Int):has (L++M) x=(has L x||has M x):=by
 unfold has;rw[List.any_append]
def Ris(L:List Rn):Prop:=(∀r∈L,r.1<=r.2)/\L.Pairwise λa b=>a.2<b.1
def Can(L:List Rn):Prop:=(∀r∈L,r.1<=r.2)/\L.Pairwise λa b=>a.2+1<b.1
theorem Can.ris{L:List Rn}(h:Can L):Ris L:=⟨h.1,h.2.imp (λh=>by omega)⟩
theorem Can.nil:Can []:=⟨by simp,by simp⟩
theorem Can.tail{r:Rn}{L:List Rn}(h:Can (r::L)):Can L:=⟨λx b=>h.1 x (by simp[b]),(cQ.1 h.2).2⟩
theorem Ris.tail{r:Rn}{L:List Rn}(h:Ris (r::L)):Ris L:=⟨λx b=>h.1 x (by simp[b]),(cQ.1 h.2).2⟩
def nb(p:Int->Bool)(a:Int):Nat->Nat
 |0=>0
 |k+1=>nb p a k+(if p (a+k) then 1 else 0)
theorem xw(p:Int->Bool)(a:Int)(k:Nat):nb p a (k+1)=nb p a k+(if p (a+k) then 1 else 0):=rfl
theorem vE(p:Int->Bool)(a:Int)(j:Nat):∀k,nb p a (j+k)=nb p a j+nb p (a+j) k
 |0=>rfl
 |k+1=>by
  rw[<-fC,xw,xw,vE p a j k,show a+((j+k:Nat):Int)=a+j+k by omega]
  omega
theorem oz{p q:Int->Bool}{a:Int}:∀{k:Nat},(∀x,a<=x->x<a+k->p x=q x)->nb p a k=nb q a k
 |0,_=>rfl
 |k+1,h=>by
  show nb p a k+_=nb q a k+_;rw[oz (k:=k) (λx b d=>h x b (by omega)),h (a+k) (by omega) (by omega)]
theorem sY{p:Int->Bool}{a:Int}:∀{k:Nat},(∀x,a<=x->x<a+k->p x=false)->nb p a k=0
 |0,_=>rfl
 |k+1,h=>by
  show nb p a k+_=0;rw[sY (k:=k) (λx b d=>h x b (by omega)),h (a+k) (by omega) (by omega)]
  rfl
theorem Az{p:Int->Bool}{a:Int}:∀{k:Nat},(∀x,a<=x->x<a+k->p x=true)->nb p a k=k
 |0,_=>rfl
 |k+1,h=>by
  show nb p a k+_=k+1;rw[Az (k:=k) (λx b d=>h x b (by omega)),h (a+k) (by omega) (by omega)]
  rfl
def sz:List Rn->Nat
 | []=>0
 |r::L=>(r.2-r.1+1).toNat+sz L
theorem qd:∀(L M:List Rn),sz (L++M)=sz L+sz M
 | [],M=>by simp[sz]
 |r::L,M=>by
  show(r.2-r.1+1).toNat+sz (L++M)=(r.2-r.1+1).toNat+sz L+sz M;rw[qd L M];omega
theorem zq:∀{L:List Rn}{a:Int}{k:Nat},Ris L->(∀r∈L,a<=r.1/\r.2<a+k)->sz L=nb (has L) a k
 | [],a,k,_,_=>(sY (λx _ _=>rfl)).symm
 |r::L,a,k,hL,hb=>by
  have hr:=hL.1 r (by simp)
  obtain⟨f,g⟩:=hb r (by simp)
  have e:=(cQ.1 hL.2).1;obtain⟨i,hi⟩:∃i:Nat,(i:Int)=r.1-a:=⟨(r.1-a).toNat,by omega⟩
  obtain⟨j,l⟩:∃j:Nat,(j:Int)=r.2-r.1+1:=⟨(r.2-r.1+1).toNat,by omega⟩
  obtain⟨m,n⟩:∃m:Nat,(m:Int)=a+k-r.2-1:=⟨(a+k-r.2-1).toNat,by omega⟩
  rw[show k=i+j+m by omega,vE,vE]
  rw[sY (p:=has (r::L)) (a:=a) (k:=i) (λx b d=>(mP _ _).2 λy hy h=>by
   rcases cO.1 hy with rfl|hy
   . omega
   . have:=e y hy;omega)]
  rw[Az (p:=has (r::L)) (k:=j) (λx b d=>(has_iff _ _).2 ⟨r,by simp,by omega,by omega⟩)]
  rw[oz (p:=has (r::L)) (q:=has L) (k:=m) (λx b d=>by
   rw[ki,au (show ¬x<=r.2 by omega)]
   simp)]
  rw[<-zq (L:=L) hL.tail (λy hy=>by
   have b:=e y hy;have d:=hb y (by simp[hy])
   omega)]
  show(r.2-r.1+1).toNat+sz L=_;omega
structure Spl(L:List Rn)(x y:Int)(A M B:List Rn):Prop where
 eq:L=A++M++B
 a:∀r∈A,r.2<x
 m:∀r∈M,x<=r.2/\r.1<=y
 b:∀r∈B,y<r.1
theorem spl:∀{L:List Rn}(x y:Int),Ris L->x<=y->∃A M B,Spl L x y A M B
 | [],x,y,_,_=>⟨[],[],[],rfl,by simp,by simp,by simp⟩
 |r::L,x,y,hL,hxy=>by
  obtain⟨A,M,B,h⟩:=spl (L:=L) x y hL.tail hxy;have m:=hL.1 r (by simp)
  have e:=(cQ.1 hL.2).1;have f:∀z∈L,z.1<=z.2:=λz hz=>hL.1 z (by simp[hz])
  have b:=h.eq;by_cases c1:r.2<x
  . exact⟨r::A,M,B,by rw[b];rfl,λz hz=>by
     rcases cO.1 hz with rfl|hz
     . exact c1
     . exact h.a z hz,h.m,h.b⟩
  . have g:A=[]:=gd.2 λz hz=>by
     have d:z∈L:=by rw[b];simp[hz]
     have j:=h.a z hz;have k:=e z d;have l:=f z d;omega
    subst g;by_cases c2:r.1<=y
    . exact⟨[],r::M,B,by rw[b];rfl,by simp,λz hz=>by
       rcases cO.1 hz with rfl|hz
       . exact⟨by omega,c2⟩
       . exact h.m z hz,h.b⟩
    . have i:M=[]:=gd.2 λz hz=>by
       have d:z∈L:=by rw[b];simp[hz]
       have j:=h.m z hz;have k:=e z d;have l:=f z d;omega
      subst i
      exact⟨[],[],r::B,by rw[b];rfl,by simp,by simp,λz hz=>by
       rcases cO.1 hz with rfl|hz
       . omega
       . exact h.b z hz⟩
theorem jT{A M B:List Rn}{r:Rn}:r∈A++M++B↔r∈A\/r∈M\/r∈B:=by simp
theorem kD{R:Rn->Rn->Prop}{A M B:List Rn}:(A++M++B).Pairwise R↔A.Pairwise R/\M.Pairwise R/\B.Pairwise R/\(∀a∈A,∀m∈M,R a m)/\(∀a∈A,∀b∈B,R a b)/\(∀m∈M,∀b∈B,R m b):=by
 rw[de,de];constructor
 . rintro⟨⟨h1,h2,h3⟩,h4,h5⟩;exact⟨h1,h2,h4,h3,λa d b hb=>h5 a (by simp[d]) b hb,λm e b hb=>h5 m (by simp[e]) b hb⟩
 . rintro⟨h1,h2,h4,h3,h5,h6⟩;exact⟨⟨h1,h2,h3⟩,h4,λa d b hb=>(bq.1 d).elim (λh=>h5 a h b hb) (λh=>h6 a h b hb)⟩
theorem ends{M:List Rn}(d:Ris M)(b:M≠[]):∀m∈M,(M.head b).1<=m.1/\m.2<=(M.getLast b).2:=by
 intro m hm;constructor
 . cases M with
   |nil=>exact absurd rfl b
   |cons r M=>
    rcases cO.1 hm with rfl|hm
    . exact fd _
    . have g:=(cQ.1 d.2).1 m hm;have h:=d.1 r (by simp)
      show r.1<=m.1;omega
 . have e:=List.dropLast_concat_getLast b;rw[<-e] at hm;rcases bq.1 hm with hm|hm
   . have f:=d.2;rw[<-e,de] at f;have g:=f.2.2 m hm _ (aQ.2 rfl);have h:=d.1 _ (List.getLast_mem b);omega
   . rw[aQ] at hm;rw[hm];exact fd _
def ko(M:List Rn)(lo:Int):Int:=match M with| []=>lo|r::_=>min lo r.1
def kj(M:List Rn)(hi:Int):Int:=match M.getLast? with|none=>hi|some r=>max hi r.2
theorem tM{M:List Rn}(b:M≠[])(lo:Int):ko M lo=min lo (M.head b).1:=by
 cases M with
 |nil=>exact absurd rfl b
 |cons r M=>rfl
theorem tL{M:List Rn}(b:M≠[])(hi:Int):kj M hi=max hi (M.getLast b).2:=by
 unfold kj;rw[List.getLast?_eq_some_getLast b]
theorem E5{L A M B:List Rn}{x y:Int}(k:Can L)(hb:∀r∈L,mn<=r.1/\r.2<=mx)(Y:lo<=hi)(U:mn<=lo)(V:hi<=mx)(hx:x=max mn (lo-1))(hy:y=min mx (hi+1))(S:Spl L x y A M B):
 Can (A++[(ko M lo,kj M hi)]++B)/\(∀z,has (A++[(ko M lo,kj M hi)]++B) z=(has L z||(decide (lo<=z)&&decide (z<=hi))))/\
  mn<=ko M lo/\kj M hi<=mx/\ko M lo<=lo/\hi<=kj M hi/\(∀r∈A,r.2+1<ko M lo):=by
 have e:=S.eq;have G:=k.2;rw[e,kD] at G;obtain⟨H,W,I,J,K,X⟩:=G;have i:∀r,r∈A\/r∈M\/r∈B->r∈L:=λr hr=>by rw[e];exact jT.2 hr
 have C:Ris M:=⟨λr hr=>k.1 r (i r (.inr (.inl hr))),W.imp (λh=>by omega)⟩
 have s:∀r∈A,r.2+1<lo:=λr hr=>by
  have p:=S.a r hr;have q:=hb r (i r (.inl hr));have N:=k.1 r (i r (.inl hr));omega
 have D:∀r∈B,hi+1<r.1:=λr hr=>by
  have p:=S.b r hr;have q:=hb r (i r (.inr (.inr hr)));have N:=k.1 r (i r (.inr (.inr hr)));omega
 by_cases j:M=[]
 . subst j;have R:ko [] lo=lo:=rfl;have T:kj [] hi=hi:=rfl;rw[R,T];refine⟨⟨?_,?_⟩,?_,U,V,fd _,fd _,s⟩
   . intro r hr;rcases jT.1 hr with hr|hr|hr
     . exact k.1 r (i r (.inl hr))
     . rw[aQ] at hr;rw[hr];exact Y
     . exact k.1 r (i r (.inr (.inr hr)))
   . rw[kD];refine⟨H,by simp,I,?_,K,?_⟩
     . intro a t m d;rw[aQ] at d;rw[d];exact s a t
     . intro m d b v;rw[aQ] at d;rw[d];exact D b v
   . intro z;rw[e,jk,jk,jk,jk,ki];show(has A z||(_&&_||has [] z)||has B z)=_;rw[ld];cases has A z<;>cases has B z<;>simp
 . have E:=ends C j;rw[tM j,tL j];have l:=List.head_mem j;have n:=List.getLast_mem j;obtain⟨m1,m2⟩:=S.m _ l;obtain⟨m3,m4⟩:=S.m _ n;have b1:=hb _ (i _ (.inr (.inl l)));have b2:=hb _ (i _ (.inr (.inl n)));have c1:=C.1 _ l;have c2:=C.1 _ n;have E1:=(E _ n).1;generalize hf:M.head j=f at *;generalize hg:M.getLast j=g at *;refine⟨⟨?_,?_⟩,?_,by omega,by omega,by omega,by omega,?_⟩
   . intro r hr;rcases jT.1 hr with hr|hr|hr
     . exact k.1 r (i r (.inl hr))
     . rw[aQ] at hr;rw[hr];show min lo f.1<=max hi g.2;omega
     . exact k.1 r (i r (.inr (.inr hr)))
   . rw[kD];refine⟨H,by simp,I,?_,K,?_⟩
     . intro a t m d;rw[aQ] at d;rw[d];have p:=s a t;have q:=J a t f l;show a.2+1<min lo f.1;omega
     . intro m d b v;rw[aQ] at d;rw[d];have p:=D b v;have q:=X g n b v;show max hi g.2+1<b.1;omega
   . intro z;rw[e,jk,jk,jk,jk,ki];show(has A z||(decide (min lo f.1<=z)&&decide (z<=max hi g.2)||has [] z)||has B z)=_;rw[ld,fD]
     have Z:(decide (min lo f.1<=z)&&decide (z<=max hi g.2))=(has M z||(decide (lo<=z)&&decide (z<=hi))):=by
      rw[fJ];simp only[bO,fw,bE,has_iff];constructor
      . rintro⟨z1,z2⟩;by_cases O:lo<=z
        . by_cases P:z<=hi
          . exact .inr ⟨O,P⟩
          . exact .inl ⟨g,n,by omega,by omega⟩
        . exact .inl ⟨f,l,by omega,by omega⟩
      . rintro(⟨r,hr,z1,z2⟩|⟨z1,z2⟩)
        . have:=E r hr;omega
        . omega
     rw[Z];cases has A z<;>cases has B z<;>cases has M z<;>simp
   . intro r hr;have p:=s r hr;have q:=J r hr f l;omega
def left(M:List Rn)(lo hi:Int):List Rn:=
 (match M with| []=>[]|r::_=>if r.1<lo then [(r.1,lo-1)] else [])++(match M.getLast? with|none=>[]|some r=>if hi<r.2 then [(hi+1,r.2)] else [])
theorem nW(lo hi:Int):left [] lo hi=[]:=rfl
theorem nv{M:List Rn}(b:M≠[])(lo hi:Int):left M lo hi=(if (M.head b).1<lo then [((M.head b).1,lo-1)] else [])++(if hi<(M.getLast b).2 then [(hi+1,(M.getLast b).2)] else []):=by
 unfold left;rw[List.getLast?_eq_some_getLast b];cases M with
 |nil=>exact absurd rfl b
 |cons r M=>rfl
theorem DF{M:List Rn}{lo hi:Int}(b:M≠[]){r:Rn}(hr:r∈left M lo hi):(r=((M.head b).1,lo-1)/\(M.head b).1<lo)\/(r=(hi+1,(M.getLast b).2)/\hi<(M.getLast b).2):=by
 rw[nv b,bq] at hr;rcases hr with hr|hr
 . by_cases c:(M.head b).1<lo
   . rw[if_pos c,aQ] at hr;exact .inl ⟨hr,c⟩
   . rw[if_neg c] at hr;cases hr
 . by_cases c:hi<(M.getLast b).2
   . rw[if_pos c,aQ] at hr;exact .inr ⟨hr,c⟩
   . rw[if_neg c] at hr;cases hr
theorem yM{L A M B:List Rn}(k:Can L)(hb:∀r∈L,mn<=r.1/\r.2<=mx)(aa:lo<=hi)(S:Spl L lo hi A M B):
 Can (A++left M lo hi++B)/\(∀z,has (A++left M lo hi++B) z=(has L z&& !(decide (lo<=z)&&decide (z<=hi))))/\(∀r∈A++left M lo hi++B,mn<=r.1/\r.2<=mx):=by
 have e:=S.eq;have q:=k.2;rw[e,kD] at q;obtain⟨D,G,H,I,J,K⟩:=q;have i:∀r,r∈A\/r∈M\/r∈B->r∈L:=λr hr=>by rw[e];exact jT.2 hr
 have y:Ris M:=⟨λr hr=>k.1 r (i r (.inr (.inl hr))),G.imp (λh=>by omega)⟩
 have v:∀z,lo<=z->has A z=false:=λz C=>(mP _ _).2 λr hr _=>by have:=S.a r hr;omega
 have x:∀z,z<=hi->has B z=false:=λz C=>(mP _ _).2 λr hr V=>by have:=S.b r hr;omega
 by_cases d:M=[]
 . subst d;rw[nW,<-e];refine⟨k,λz=>?_,hb⟩
   by_cases c:lo<=z/\z<=hi
   . rw[e,jk,jk,ld,v z c.1,x z c.2];simp
   . have:(decide (lo<=z)&&decide (z<=hi))=false:=by
      rw[eY,dB,dB];omega
     rw[this];simp
 . have E:=ends y d;have l:=List.head_mem d;have n:=List.getLast_mem d;obtain⟨W,X⟩:=S.m _ l;obtain⟨Y,Z⟩:=S.m _ n;have j:= @DF M lo hi d;have P:=hb _ (i _ (.inr (.inl l)));have R:=hb _ (i _ (.inr (.inl n)));refine⟨⟨?_,?_⟩,?_,?_⟩
   . intro r hr;rcases jT.1 hr with hr|hr|hr
     . exact k.1 r (i r (.inl hr))
     . rcases j hr with⟨rfl,c⟩|⟨rfl,c⟩
       . show(M.head d).1<=lo-1;omega
       . show hi+1<=(M.getLast d).2;omega
     . exact k.1 r (i r (.inr (.inr hr)))
   . rw[kD];refine⟨D,?_,H,?_,J,?_⟩
     . rw[nv d,de];refine⟨by split<;>simp,by split<;>simp,?_⟩
       intro a f b g;by_cases c1:(M.head d).1<lo
       . rw[if_pos c1,aQ] at f;by_cases c2:hi<(M.getLast d).2
         . rw[if_pos c2,aQ] at g;rw[f,g];show lo-1+1<hi+1;omega
         . rw[if_neg c2] at g;cases g
       . rw[if_neg c1] at f;cases f
     . intro a f m p;rcases j p with⟨rfl,c⟩|⟨rfl,c⟩
       . exact(I a f (M.head d) l:a.2+1<(M.head d).1)
       . have:=S.a a f;show a.2+1<hi+1;omega
     . intro m p b g;rcases j p with⟨rfl,c⟩|⟨rfl,c⟩
       . have:=S.b b g;show lo-1+1<b.1;omega
       . exact(K (M.getLast d) n b g:(M.getLast d).2+1<b.1)
   . intro z;rw[e,jk,jk,jk,jk]
     have N:has (left M lo hi) z=(has M z&& !(decide (lo<=z)&&decide (z<=hi))):=by
      rw[fJ];simp only[bO,Bool.not_eq_true',eY,dB,has_iff];constructor
      . rintro⟨r,hr,z1,z2⟩;rcases j hr with⟨rfl,c⟩|⟨rfl,c⟩
        . have s:(M.head d).1<=z:=z1;have t:z<=lo-1:=z2;exact⟨⟨_,l,s,by omega⟩,by omega⟩
        . have s:hi+1<=z:=z1;have t:z<=(M.getLast d).2:=z2;exact⟨⟨_,n,by omega,t⟩,by omega⟩
      . rintro⟨⟨r,hr,z1,z2⟩,c⟩;have O:=E r hr;have nz:(lo<=z->hi<z):=by omega
        rw[nv d];by_cases c1:z<lo
        . exact⟨((M.head d).1,lo-1),by simp[show(M.head d).1<lo by omega],by show _<=z;omega,by show z<=lo-1;omega⟩
        . exact⟨(hi+1,(M.getLast d).2),by simp[show hi<(M.getLast d).2 by omega],by show hi+1<=z;omega,by show z<=_;omega⟩
     rw[N];by_cases c1:lo<=z
     . rw[v z c1];by_cases c2:z<=hi
       . rw[x z c2];simp[c1,c2]
       . simp[c1,c2]
     . simp[c1]
   . intro r hr;rcases jT.1 hr with hr|hr|hr
     . exact hb r (i r (.inl hr))
     . have T:=E _ l;have U:=E _ n;rcases j hr with⟨rfl,c⟩|⟨rfl,c⟩
       . show mn<=(M.head d).1/\lo-1<=mx;omega
       . show mn<=hi+1/\(M.getLast d).2<=mx;omega
     . exact hb r (i r (.inr (.inr hr)))
def jR(M:List Rn)(lo hi:Int):List Rn:=M.map λr=>(max lo r.1,min hi r.2)
theorem rD{M:List Rn}(k:lo<=hi)(f:Ris M)(g:∀r∈M,lo<=r.2/\r.1<=hi):Ris (jR M lo hi)/\(∀r∈jR M lo hi,lo<=r.1/\r.2<=hi):=by
 refine⟨⟨?_,?_⟩,?_⟩
 . intro r d;obtain⟨s,e,rfl⟩:=bH.1 d;have i:=g s e;have j:=f.1 s e;show max lo s.1<=min hi s.2;omega
 . unfold jR;rw[fO];exact f.2.imp (λ{a b} h=>by show min hi a.2<max lo b.1;omega)
 . intro r d;obtain⟨s,e,rfl⟩:=bH.1 d;show lo<=max lo s.1/\min hi s.2<=hi;omega
theorem uS{L A M B:List Rn}(S:Spl L lo hi A M B)(z:Int):has (jR M lo hi) z=(has L z&&(decide (lo<=z)&&decide (z<=hi))):=by
 rw[fJ];simp only[bO,bE,has_iff];constructor
 . rintro⟨r,hr,h1,h2⟩;obtain⟨s,b,rfl⟩:=bH.1 hr;have d:max lo s.1<=z:=h1;have e:z<=min hi s.2:=h2;exact⟨⟨s,by rw[S.eq];exact jT.2 (.inr (.inl b)),by omega,by omega⟩,by omega,by omega⟩
 . rintro⟨⟨r,hr,h1,h2⟩,h3,h4⟩;rw[S.eq] at hr;rcases jT.1 hr with hr|hr|hr
   . have:=S.a r hr;omega
   . exact⟨_,bH.2 ⟨r,hr,rfl⟩,by show max lo r.1<=z;omega,by show z<=min hi r.2;omega⟩
   . have:=S.b r hr;omega
def gap(f:Int)(hi:Int):List Rn->List Rn
 | []=>[(f,hi)]
 |p::P=>(if f<p.1 then [(f,p.1-1)] else [])++(if p.2=hi then [] else gap (p.2+1) hi P)
theorem vd:∀{P:List Rn}{f hi:Int},f<=hi->Ris P->(∀r∈P,f<=r.1/\r.2<=hi)->
 Ris (gap f hi P)/\(∀r∈gap f hi P,f<=r.1/\r.2<=hi)/\(∀z,has (gap f hi P) z=((decide (f<=z)&&decide (z<=hi))&& !has P z))
 | [],f,hi,hle,_,_=>by
   refine⟨⟨?_,by simp[gap]⟩,?_,λz=>?_⟩
   . intro r hr;rw[gap,aQ] at hr;rw[hr];exact hle
   . intro r hr;rw[gap,aQ] at hr;rw[hr];exact⟨fd _,fd _⟩
   . rw[gap,ki,ld];simp
 |p::P,f,hi,hle,hP,hb=>by
  have hp:=hP.1 p (by simp)
  have bp:=hb p (by simp)
  have g:=(cQ.1 hP.2).1
  have d:∀r∈(if f<p.1 then [(f,p.1-1)] else []),f<p.1/\r=(f,p.1-1):=λr hr=>by
   by_cases c:f<p.1
   . rw[if_pos c,aQ] at hr;exact⟨c,hr⟩
   . rw[if_neg c] at hr;cases hr
  have i:∀z,has (if f<p.1 then [(f,p.1-1)] else []) z=(decide (f<=z)&&decide (z<p.1)):=λz=>by
   by_cases c:f<p.1
   . rw[if_pos c,ki,ld,fD];show(decide (f<=z)&&decide (z<=p.1-1))=_;rw[decide_eq_decide.2 (show z<=p.1-1↔z<p.1 by omega)]
   . rw[if_neg c,ld,fJ];simp only[bO,bE];constructor
     . intro h;cases h
     . omega
  by_cases c:p.2=hi
  . have n:P=[]:=gd.2 λz e=>by
     have j:=g z e;have q:=hb z (by simp[e])
     have y:=hP.1 z (by simp[e])
     omega
    subst n;rw[gap,if_pos c,cU];refine⟨⟨?_,by split<;>simp⟩,?_,λz=>?_⟩
    . intro r hr;obtain⟨c1,rfl⟩:=d r hr;show f<=p.1-1;omega
    . intro r hr;obtain⟨c1,rfl⟩:=d r hr;show f<=f/\p.1-1<=hi;omega
    . rw[i,ki,ld,fD,fJ];simp only[bO,Bool.not_eq_true',eY,bE,dB];omega
  . obtain⟨k,l,t⟩:=vd (P:=P) (f:=p.2+1) (hi:=hi) (by omega) hP.tail (λr hr=>by
     have j:=g r hr;have q:=hb r (by simp[hr])
     omega)
    rw[gap,if_neg c];refine⟨⟨?_,?_⟩,?_,λz=>?_⟩
    . intro r hr;rcases bq.1 hr with hr|hr
      . obtain⟨c1,rfl⟩:=d r hr;show f<=p.1-1;omega
      . exact k.1 r hr
    . rw[de];refine⟨by split<;>simp,k.2,?_⟩
      intro a s b x;obtain⟨c1,rfl⟩:=d a s;have:=l b x;show p.1-1<b.1;omega
    . intro r hr;rcases bq.1 hr with hr|hr
      . obtain⟨c1,rfl⟩:=d r hr;show f<=f/\p.1-1<=hi;omega
      . have:=l r hr;omega
    . rw[jk,i,t,ki];have v:z<=p.2->has P z=false:=λh=>(mP _ _).2 λr hr j=>by have:=g r hr;omega
      by_cases c1:z<=p.2
      . rw[v c1,fJ];simp only[fD,Bool.not_false,Bool.and_true,fw,bO,Bool.not_eq_true',eY,bE,dB];omega
      . have m:decide (z<=p.2)=false:=au c1;rw[m,show decide (z<p.1)=false from au (by omega),show decide (p.2+1<=z)=true from ax (by omega),show decide (f<=z)=true from ax (by omega)]
        simp
end Go.Proofs.YtbdkogimlbnlmaaGreat.Q
namespace Go.Proofs.YtbdkogimlbnlmaaGreat.Q
open Tryz
open Go.RowKit
variable {x:Addr}{L:List Rn}{Y:List Value}{b cap g i o:Nat}{S:Nat->Prop}{a:Option Addr}{w w':World}
def Nm(x:Int):Prop:=(-9223372036854775808)<=x/\x<=9223372036854775807
def rcs(r:Rn):Array Value:=#[.int .i64 r.1,.int .i64 r.2]
def Rn.zero:Rn:=(0,0)
theorem nG:(prog.info? 171).map (λi=>(i.zero,i.size,i.bytes))=some (some (.agg (rcs Rn.zero)),2,16):=by kernel_rfl
theorem x7(r:Rn):∀u∈(rcs r).toList,u.oneCell'=true:=by
 intro u d;simp[rcs] at d;rcases d with rfl|rfl<;>rfl
def rc(L:List Rn):List Value:=(L.map λr=>(rcs r).toList).flatten
theorem Hh:rc []=[]:=rfl
theorem xT(r:Rn)(L:List Rn):rc (r::L)=.int .i64 r.1:: .int .i64 r.2::rc L:=by simp[rc,rcs]
theorem iV(L M:List Rn):rc (L++M)=rc L++rc M:=by simp[rc]
theorem iN(L:List Rn):(rc L).length=L.length*2:=by
 induction L with
 |nil=>rfl
 |cons r L ih=>rw[xT,bf,bf,ih,bf];omega
theorem jW(L:List Rn):∀u∈rc L,u.oneCell'=true:=by
 intro u e;obtain⟨l,d,h⟩:=gJ.1 e;obtain⟨r,_,rfl⟩:=bH.1 d;exact x7 r u h
theorem vB(L:List Rn):∀(i:Nat),i<L.length->(rc L)[i*2]?=some (.int .i64 (L.getD i Rn.zero).1)/\(rc L)[i*2+1]?=some (.int .i64 (L.getD i Rn.zero).2):=by
 induction L with
 |nil=>intro i d;simp at d
 |cons r L ih=>
  intro i d;rw[xT];cases i with
  |zero=>exact⟨rfl,rfl⟩
  |succ i=>
   have h:=ih i (by simpa using d)
   rw[show(i+1)*2=i*2+1+1 by omega,eu,eu,show i*2+1+1+1=i*2+1+1+1 by rfl,eu,eu]
   exact h
def Cs(w:World)(b o:Nat)(C:List Value):Prop:=∀j u,C[j]?=some u->w.cell? ⟨b,o+j,none⟩=some u
theorem Cs.keep{C:List Value}(h:Cs w b o C)(hb:Below w.heap.size w w'):Cs w' b o C:=λj u d=>(hb.cell (p:=⟨b,o+j,none⟩) (block_lt_of_cell (h j u d))).trans (h j u d)
theorem Cs.but{C:List Value}(h:Cs w b o C)(hb:But S w w')(e:¬S b):Cs w' b o C:=λj u d=>(hb.cell (p:=⟨b,o+j,none⟩) (block_lt_of_cell (h j u d)) e).trans (h j u d)
def Vs(w:World)(a:Option Addr)(L:List Rn):Prop:=L=[]\/∃b o,a=some ⟨b,o,none⟩/\Cs w b o (rc L)
theorem Vs.keep(h:Vs w a L)(hb:Below w.heap.size w w'):Vs w' a L:=h.imp id λ⟨b,o,e,d⟩=>⟨b,o,e,d.keep hb⟩
theorem Vs.but(h:Vs w a L)(hb:But S w w')(f:∀x,a=some x->¬S x.block):Vs w' a L:=h.imp id λ⟨b,o,e,d⟩=>⟨b,o,e,d.but hb (f _ e)⟩
theorem Vs.nil(w:World)(a:Option Addr):Vs w a []:=.inl rfl
theorem Vs.at(h:Vs w a L)(hi:i<L.length):∃b o,a=some ⟨b,o,none⟩/\w.cell? ⟨b,o+i*2,none⟩=some (.int .i64 (L.getD i Rn.zero).1)/\w.cell? ⟨b,o+i*2+1,none⟩=some (.int .i64 (L.getD i Rn.zero).2):=by
 rcases h with rfl|⟨b,o,e,d⟩
 . simp at hi
 . obtain⟨f,j⟩:=vB L i hi;exact⟨b,o,e,d _ _ f,d _ _ j⟩
def jD(w:World)(g:Nat)(C:List Value):Prop:=w.heap[g]?=some (.cells C.toArray 171 (0,0))
theorem jD.but{C:List Value}(h:jD w g C)(hb:But S w w')(d:¬S g):jD w' g C:=hb.same h d
theorem jD.keep{C:List Value}(h:jD w g C)(hb:Below w.heap.size w w'):jD w' g C:=(hb.block g (af.1 h).1).trans h
theorem jD.lt{C:List Value}(h:jD w g C):g<w.heap.size:=(af.1 h).1
theorem jD.cs{C:List Value}(h:jD w g C){P X:List Value}(e:C=P++X++Y):Cs w g P.length X:=by
 intro j u d;rw[ay _ _ _ _ _ _ h,e];have f:=(bz.1 d).1;simp only[fo];rw[aU,bg (by omega),fE,br f]
 exact d
def Vw(w:World)(a:Option Addr)(cap:Nat)(L:List Rn):Prop:=w.ownsRow 0 171 2 (.slice a L.length cap) L.length (rc L)
theorem Vw.nil(w:World):Vw w none 0 []:=fB w 0 171 2
theorem Vw.cases(h:Vw w a cap L):(a=none/\cap=0/\L=[])\/
 ∃g Y,a=some ⟨g,0,none⟩/\jD w g (rc L++Y)/\L.length<=cap/\cap<=maxLen/\L.length*2+Y.length=cap*2:=by
 obtain⟨_,e⟩:=h;rcases e with⟨hv,h0⟩|⟨g,cap',cur,hv,_,hg,hn,hm,hs,ht⟩
 . simp only[bM] at hv;exact .inl ⟨hv.1,hv.2.2,co.1 h0⟩
 . simp only[bM] at hv;obtain⟨d,_,rfl⟩:=hv;refine .inr ⟨g,cur.toList.drop (L.length*2),d,?_,hn,hm,?_⟩
   . unfold jD;rw[<-ht,cZ,iz];exact hg
   . have f:=Array.length_toList (xs:=cur);rw[dv];omega
theorem Vw.mk(d:jD w g (rc L++Y))(f:L.length<=cap)(e:cap<=maxLen)(h:L.length*2+Y.length=cap*2):Vw w (some ⟨g,0,none⟩) cap L:=
 ⟨iN L,.inr ⟨g,cap,(rc L++Y).toArray,rfl,az _,d,f,e,by simp[iN];omega,by rw[fW,ft (iN L)]⟩⟩
theorem Vw.lt(h:Vw w a cap L)(d:a=some x):x.block<w.heap.size:=by
 rcases h.cases with⟨rfl,_⟩|⟨g,Y,rfl,hg,_⟩
 . cases d
 . cases d;exact hg.lt
theorem Vw.but(h:Vw w a cap L)(hb:But S w w')(d:∀x,a=some x->¬S x.block):Vw w' a cap L:=by
 rcases h.cases with⟨rfl,rfl,rfl⟩|⟨g,Y,rfl,hg,h1,h2,h3⟩
 . exact Vw.nil w'
 . exact Vw.mk (hg.but hb (d _ rfl)) h1 h2 h3
theorem Vw.keep(h:Vw w a cap L)(hb:Below w.heap.size w w'):Vw w' a cap L:=
 h.but (S:=λ_=>False) (But.ofBelow hb) (λ_ _ d=>d)
theorem Vw.vs(h:Vw w a cap L):Vs w a L:=by
 rcases h.cases with⟨rfl,rfl,rfl⟩|⟨g,Y,rfl,hg,h1,h2,h3⟩
 . exact .inl rfl
 . exact .inr ⟨g,0,rfl,hg.cs (P:=[]) (X:=rc L) (Y:=Y) (by simp)⟩
theorem Vw.len(h:Vw w a cap L):L.length<=cap/\cap<=maxLen:=by
 rcases h.cases with⟨rfl,rfl,rfl⟩|⟨g,Y,rfl,hg,h1,h2,h3⟩
 . exact⟨ai _,az _⟩
 . exact⟨h1,h2⟩
theorem zK:(prog.info? 171).map (·.size)=some 2:=by kernel_rfl
theorem jg(w:World)(g:Nat)(cur:Array Value):But (λk=>k=g) w (w.setRow g cur):=by
 refine⟨rfl,rfl,rfl,?_,λk _ d=>?_⟩
 . simp[World.setRow]
 . simp only[World.setRow];rw[fI,if_neg (λe=>d e.symm)]
theorem jH(w:World)(C:TypeId)(g e D:Nat)(f:Option Addr)(d n:Nat)(P X Y:List Value)(h:jD w g (P++Y))(l:X.length=Nat.min d e*2)(s:X=[]\/∃b o,f=some ⟨b,o,none⟩/\Cs w b o X)(E:X.length<=Y.length)(r:∀v∈X,v.oneCell'=true):
 ∃w',(Builtin.copy_ #[169,169] C #[.slice (some ⟨g,P.length,none⟩) e D,.slice f d n]).run prog w=.ok (goInt (Nat.min d e)) w'/\jD w' g (P++X++Y.drop X.length)/\But (λk=>k=g) w w':=by
 have m:=il prog g P.length 171 X 0 (P++Y).toArray w h (by simp;omega) r
 have p:((P++Y).toArray.toList.take (P.length+0)++X++(P++Y).toArray.toList.drop (P.length+0+X.length))=P++X++Y.drop X.length:=by
  rw[fW,bY,ft rfl,List.drop_append,du (by omega),fE]
  simp
 rw[p] at m;refine⟨_,?_,dc w g _ _ _ _ h,jg w g _⟩;cases hq:prog.info? 171 with
 |none=>have:=zK;simp[hq] at this
 |some i=>
  have y:i.size=2:=by have:=zK;simpa[hq] using this
  have A:(Builtin.firstCells 2 (Nat.min d e) (.slice f d n)).run prog w=.ok X.toArray w:=by
   rcases s with rfl|⟨b,o,rfl,t⟩
   . have q:Nat.min d e=0:=by simp at l;omega
     cases f with
     |none=>rfl
     |some z=>simp[Builtin.firstCells,q,loadCells,loadCellsFrom]
   . have:=run_loadCells_list (P:=prog) w ⟨b,o,none⟩ X (λj v B=>by rw[Addr.add_mid];exact t j v B)
     show(loadCells ⟨b,o,none⟩ (Nat.min d e*2)).run prog w=_;rw[<-l];exact this
  simp[Builtin.copy_,dt underlying169,Builtin.lenOf,sizeOf,typeInfo,hq,y,A,m]
theorem pm(n:Nat):(Builtin.zeroCells (rcs Rn.zero) n).toList=rc (List.replicate n Rn.zero):=by
 apply dX;intro i;have f:(rcs Rn.zero).size=2:=rfl;simp only[Builtin.zeroCells,Array.toList_map,Array.toList_range,f,c9];by_cases e:i<n*2
 . rw[List.getElem?_range e];have d:=vB (List.replicate n Rn.zero) (i/2) (by simp;omega)
   rcases Nat.mod_two_eq_zero_or_one i with h|h
   . rw[show i=i/2*2 by omega,d.1]
     simp[rcs,show i/2<n by omega]
   . rw[show i=i/2*2+1 by omega,d.2]
     simp[rcs,show i/2<n by omega,Nat.add_mod]
 . rw[cM (by simp;omega),cM (by rw[iN];simp;omega)]
   rfl
theorem r9(w:World)(j:TypeId)(g n c:Nat)(P Y:List Value)(d:jD w g (P++Y))(l:n*2<=Y.length):
 ∃w',(Builtin.clear_ #[169] j #[.slice (some ⟨g,P.length,none⟩) n c]).run prog w=.ok (.tuple #[]) w'/\jD w' g (P++rc (List.replicate n Rn.zero)++Y.drop (n*2))/\But (λk=>k=g) w w':=by
 have e:=il prog g P.length 171 (rc (List.replicate n Rn.zero)) 0 (P++Y).toArray w d (by simp[iN];omega) (jW _)
 have f:((P++Y).toArray.toList.take (P.length+0)++rc (List.replicate n Rn.zero)++(P++Y).toArray.toList.drop (P.length+0+(rc (List.replicate n Rn.zero)).length))=P++rc (List.replicate n Rn.zero)++Y.drop (n*2):=by
  rw[fW,bY,ft rfl,List.drop_append,du (by omega),fE,iN,bh]
  simp
 rw[f] at e;cases n with
 |zero=>exact⟨w,by simp[Builtin.clear_,dt underlying169],by simpa[Hh] using d,But.refl _ _⟩
 |succ n=>
  refine⟨_,?_,dc w g _ _ _ _ d,jg w g _⟩;have h:(Builtin.zeroCells (Value.agg #[.int .i64 0,.int .i64 0]).cells (n+1)).toList=rc (List.replicate (n+1) Rn.zero):=pm (n+1);simp[Builtin.clear_,dt underlying169,h,e]
theorem rL(w:World)(n:Nat):Below w.heap.size w (w.drewN n):=⟨rfl,rfl,rfl,ai _,λ_ _=>rfl⟩
structure St(w:World)(b:Nat)(a:Option Addr)(cap:Nat)(L:List Rn):Prop where
 blk:w.heap[b]?=some (.cells #[.slice a L.length cap] 173 (0,0))
 row:Vw w a cap L
 can:Can L
 bnd:∀r∈L,Nm r.1/\Nm r.2
 len:L.length<=11000000000000
theorem al(w:World)(o:Obj):Below w.heap.size w (w.alloc o):=(Below.refl _ _).alloc (ai _) o
theorem St.ne(h:St w b a cap L)(f:a=some x):x.block≠b:=by
 rcases h.row.cases with⟨rfl,_⟩|⟨g,Y,rfl,hg,_⟩
 . cases f
 . cases f;intro e;have d:=h.blk;rw[<-show g=b from e,show w.heap[g]?=_ from hg] at d
   simp at d
theorem St.keep(h:St w b a cap L)(hb:Below w.heap.size w w'):St w' b a cap L:=
 ⟨(hb.block b (af.1 h.blk).1).trans h.blk,h.row.keep hb,h.can,h.bnd,h.len⟩
theorem St.but(h:St w b a cap L)(hb:But S w w')(e:¬S b)(d:∀x,a=some x->¬S x.block):St w' b a cap L:=
 ⟨hb.same h.blk e,h.row.but hb d,h.can,h.bnd,h.len⟩
theorem St.lt(h:St w b a cap L):b<w.heap.size:=(af.1 h.blk).1
theorem St.cell(h:St w b a cap L):w.cell? ⟨b,0,none⟩=some (.slice a L.length cap):=by
 rw[ay _ _ _ _ _ _ h.blk];rfl
theorem kS(h:i<L.length):L.getD i Rn.zero∈L:=by simp[h]
theorem mi{n:Int}(d:(-9223372036854775808)<=n)(e:n<=9223372036854775807):IntKind.i64.wrap n=n:=by
 simp[IntKind.wrap,IntKind.bits,IntKind.signed]
 first
  |omega
  |(split<;>omega)
theorem yT(w:World)(x:Int)(k:Nm x):Calls prog 176 #[.int .i64 x] w λe w'=>e=.returned (.int .i64 (max (-9223372036854775808) (x-1)))/\w'=w:=by
 obtain⟨l,m⟩:=k;by_cases f:x=(-9223372036854775808)
 . have j:IntKind.i64.wrap (x-1)=9223372036854775807:=by rw[f];decide
   have n:wrap64 (x-1)=9223372036854775807:=by rw[f];decide +kernel
   have d:max (-9223372036854775808) (x-1)=x:=by omega
   have h:¬9223372036854775807<x:=by omega
   rw[d];clear f d;go_enter func176,ntmps176;go_wp2;go_ret;exact⟨rfl,rfl⟩
 . have j:IntKind.i64.wrap (x-1)=x-1:=mi (by omega) (by omega)
   have d:max (-9223372036854775808) (x-1)=x-1:=by omega
   have h:¬x<=x-1:=by omega
   rw[d];go_enter func176,ntmps176;go_wp2;go_ret;exact⟨rfl,rfl⟩
theorem yJ(w:World)(x:Int)(k:Nm x):Calls prog 177 #[.int .i64 x] w λe w'=>e=.returned (.int .i64 (min 9223372036854775807 (x+1)))/\w'=w:=by
 obtain⟨l,m⟩:=k;by_cases f:x=9223372036854775807
 . have j:IntKind.i64.wrap (x+1)=(-9223372036854775808):=by rw[f];decide
   have n:wrap64 (x+1)=(-9223372036854775808):=by rw[f];decide +kernel
   have d:min 9223372036854775807 (x+1)=x:=by omega
   have h:¬x<(-9223372036854775808):=by omega
   rw[d];clear f d;go_enter func177,ntmps177;go_wp2;go_ret;exact⟨rfl,rfl⟩
 . have j:IntKind.i64.wrap (x+1)=x+1:=mi (by omega) (by omega)
   have d:min 9223372036854775807 (x+1)=x+1:=by omega
   have h:¬x+1<=x:=by omega
   rw[d];go_enter func177,ntmps177;go_wp2;go_ret;exact⟨rfl,rfl⟩
theorem rK(w:World)(n:Nat)(g:Nat)(d:Array Value)(p:Nat->Bool)(k:Nat)(t:k<=n)(q:∀i,i<k->p i=false)(r:∀i,k<=i->i<n->p i=true)(J:n<=11000000000000)
 (I:∀args w,(callFunc g args).run prog w=.ok (.enter g args) w)
 (l:∀i W,i<n->Below w.heap.size w W->Calls prog g (#[.int .i64 ((i:Nat):Int)]++d) W λe w'=>e=.returned (.bool (p i))/\Below W.heap.size W w'):
 Calls prog 192 #[.int .i64 ((n:Nat):Int),.func (.func g) #[] d] w λe w'=>e=.returned (.int .i64 ((k:Nat):Int))/\Below w.heap.size w w':=by
 have C:=iJ l;clear l;go_enter func192,ntmps192;go_wp2;go_loopw [5,6] (λi j D=>∃x y:Nat,i=.int .i64 x/\j=.int .i64 y/\x<=k/\k<=y/\y<=n/\Below w.heap.size w D) (λi j _=>(intOf j).toNat-(intOf i).toNat)
 case atStart=>exact⟨0,n,rfl,rfl,az _,t,ai _,Below.refl _ _⟩
 case round=>
  obtain⟨x,y,rfl,rfl,A,B,E,hb⟩:=hrel;by_cases M:x<y
  . go_wp2;obtain⟨h,s⟩:∃h:Nat,h=(x+y)/2:=⟨_,rfl⟩;have f:((x:Int)+(y:Int))/2=(h:Int):=by omega
    rw[f];have G:x<=h:=by omega
    have H:h<y:=by omega
    clear f s;refine(C.o h wr (by omega) hb).mono ?_
    rintro e K ⟨rfl,m⟩;by_cases v:h<k
    . rw[q h v];go_wp2;go_roundw
      case rel=>exact⟨h+1,y,by simp,rfl,by omega,B,E,bt hb m⟩
      case measure=>simp[intOf];omega
    . rw[r h (by omega) (by omega)]
      go_wp2;go_roundw
      case rel=>exact⟨x,h,rfl,rfl,A,by omega,by omega,bt hb m⟩
      case measure=>simp[intOf];omega
  . obtain rfl:x=k:=by omega
    go_wp2;go_ret;exact⟨rfl,hb⟩
theorem vy(w:World)(b f h:Nat)(a:Option Addr)(cap:Nat)(L:List Rn)(lo:Int)(i:Nat)(d:St w b a cap L)(c1:w.cell? ⟨f,0,none⟩=some (.pointer (some ⟨b,0,none⟩)))(c2:w.cell? ⟨h,0,none⟩=some (.int .i64 lo))(hi:i<L.length):
 Calls prog 193 #[.int .i64 ((i:Nat):Int),.pointer (some ⟨f,0,none⟩),.pointer (some ⟨h,0,none⟩)] w λe w'=>e=.returned (.bool (decide (lo<=(L.getD i Rn.zero).2)))/\Below w.heap.size w w':=by
 obtain⟨j,o,rfl,k,l⟩:=d.row.vs.at hi;have m:=d.cell;have n:=d.len;generalize L.getD i Rn.zero=r at *;go_enter func193,ntmps193;go_wp2;go_quiet (fail)
 go_wp2;go_ret;exact⟨rfl,rL _ _⟩
theorem vC(w:World)(b f h:Nat)(a:Option Addr)(cap:Nat)(L:List Rn)(j:Int)(i:Nat)(d:St w b a cap L)(c1:w.cell? ⟨f,0,none⟩=some (.pointer (some ⟨b,0,none⟩)))(c2:w.cell? ⟨h,0,none⟩=some (.int .i64 j))(hi:i<L.length):
 Calls prog 194 #[.int .i64 ((i:Nat):Int),.pointer (some ⟨f,0,none⟩),.pointer (some ⟨h,0,none⟩)] w λe w'=>e=.returned (.bool (decide (j<(L.getD i Rn.zero).1)))/\Below w.heap.size w w':=by
 obtain⟨k,o,rfl,l,m⟩:=d.row.vs.at hi;have n:=d.cell;have p:=d.len;generalize L.getD i Rn.zero=r at *;go_enter func194,ntmps194;go_wp2;go_quiet (fail)
 go_wp2;go_ret;exact⟨rfl,rL _ _⟩
theorem kI{A M B:List Rn}(i:Nat):(i<A.length->(A++M++B).getD i Rn.zero∈A)/\(A.length<=i->i<A.length+M.length->(A++M++B).getD i Rn.zero∈M)/\(A.length+M.length<=i->i<A.length+M.length+B.length->(A++M++B).getD i Rn.zero∈B):=by
 refine⟨λh=>?_,λd e=>?_,λd e=>?_⟩
 . rw[aU,aq,br h];simp[h]
 . rw[aq,br (by simp;omega),bg d]
   have:i-A.length<M.length:=by omega
   simp[this]
 . rw[aq,bg (by simp;omega)]
   have:i-(A.length+M.length)<B.length:=by omega
   simp[this]
def w3(w:World)(b:Nat)(lo hi:Int):World:=((w.alloc (.cells #[.pointer (some ⟨b,0,none⟩)] 127)).alloc (.cells #[.int .i64 lo] 3)).alloc (.cells #[.int .i64 hi] 3)
theorem oq(w:World)(b:Nat)(lo hi:Int):Below w.heap.size w (w3 w b lo hi):=bt (bt (al _ _) (al _ _)) (al _ _)
theorem qt(w:World)(b:Nat)(lo hi:Int):(w3 w b lo hi).heap.size=w.heap.size+1+1+1:=by unfold w3;rw[size_alloc,size_alloc,size_alloc]
theorem jd(w:World)(v:Value)(t:TypeId):(w.alloc (.cells #[v] t)).cell? ⟨w.heap.size,0,none⟩=some v:=by
 rw[ay _ _ _ _ _ _ (aF w _)];rfl
theorem oe(w:World)(b:Nat)(lo hi:Int):(w3 w b lo hi).cell? ⟨w.heap.size,0,none⟩=some (.pointer (some ⟨b,0,none⟩))/\(w3 w b lo hi).cell? ⟨w.heap.size+1,0,none⟩=some (.int .i64 lo)/\(w3 w b lo hi).cell? ⟨w.heap.size+1+1,0,none⟩=some (.int .i64 hi):=by
 have c1:=jd w (.pointer (some ⟨b,0,none⟩)) 127;have c2:=jd (w.alloc (.cells #[.pointer (some ⟨b,0,none⟩)] 127)) (.int .i64 lo) 3;have c3:=jd ((w.alloc (.cells #[.pointer (some ⟨b,0,none⟩)] 127)).alloc (.cells #[.int .i64 lo] 3)) (.int .i64 hi) 3;rw[size_alloc] at c2;rw[size_alloc,size_alloc] at c3;refine⟨?_,?_,c3⟩
 . exact((bt (al _ _) (al _ _)).cell (p:=⟨w.heap.size,0,none⟩) (block_lt_of_cell c1)).trans c1
 . exact((al _ _).cell (p:=⟨w.heap.size+1,0,none⟩) (block_lt_of_cell c2)).trans c2
theorem mV(w:World)(b:Nat)(a:Option Addr)(cap:Nat)(L:List Rn)(lo hi:Int)(A M B:List Rn)(k:St w b a cap L)(f:Spl L lo hi A M B)(ac:lo<=hi):
 Calls prog 175 #[.pointer (some ⟨b,0,none⟩),.int .i64 lo,.int .i64 hi] w λe w'=>e=.returned (.tuple #[.int .i64 ((A.length:Nat):Int),.int .i64 ((A.length+M.length:Nat):Int)])/\Below w.heap.size w w':=by
 have X:L.length=A.length+M.length+B.length:=by rw[f.eq];simp[fC]
 have R:=k.cell;have G:=k.len;have hb:=k.lt
 have N:=iJ λ(W:World)(h j:Nat)(v:St W b a cap L)(c1:W.cell? ⟨h,0,none⟩=some (.pointer (some ⟨b,0,none⟩)))(c2:W.cell? ⟨j,0,none⟩=some (.int .i64 lo))=>
  rK W L.length 193 #[.pointer (some ⟨h,0,none⟩),.pointer (some ⟨j,0,none⟩)] (λi=>decide (lo<=(L.getD i Rn.zero).2)) A.length (by omega)
   (λi hi=>au (by have d:=(kI (A:=A) (M:=M) (B:=B) i).1 hi;rw[<-f.eq] at d;have:=f.a _ d;omega))
   (λi r J=>ax (by
     by_cases t:i<A.length+M.length
     . have d:=(kI (A:=A) (M:=M) (B:=B) i).2.1 r t;rw[<-f.eq] at d;exact(f.m _ d).1
     . have d:=(kI (A:=A) (M:=M) (B:=B) i).2.2 (by omega) (by omega);rw[<-f.eq] at d
       have O:=f.b _ d;have P:=k.can.1 _ (kS J);omega)) G (enters_of func193 (by kernel_rfl) rfl)
   (λi s hi l=>vy s b h j a cap L lo i (v.keep l) ((l.cell (p:=⟨h,0,none⟩) (block_lt_of_cell c1)).trans c1) ((l.cell (p:=⟨j,0,none⟩) (block_lt_of_cell c2)).trans c2) hi)
 have E:=iJ λ(W:World)(h j:Nat)(v:St W b a cap L)(c1:W.cell? ⟨h,0,none⟩=some (.pointer (some ⟨b,0,none⟩)))(c2:W.cell? ⟨j,0,none⟩=some (.int .i64 hi))=>
  rK W L.length 194 #[.pointer (some ⟨h,0,none⟩),.pointer (some ⟨j,0,none⟩)] (λi=>decide (hi<(L.getD i Rn.zero).1)) (A.length+M.length) (by omega)
   (λi r=>au (by
     by_cases t:i<A.length
     . have d:=(kI (A:=A) (M:=M) (B:=B) i).1 t;rw[<-f.eq] at d;have O:=f.a _ d;have P:=k.can.1 _ (kS (show i<L.length by omega))
       omega
     . have d:=(kI (A:=A) (M:=M) (B:=B) i).2.1 (by omega) r;rw[<-f.eq] at d;have:=(f.m _ d).2;omega))
   (λi r J=>ax (by
     have d:=(kI (A:=A) (M:=M) (B:=B) i).2.2 (by omega) (by omega);rw[<-f.eq] at d;exact f.b _ d)) G (enters_of func194 (by kernel_rfl) rfl)
   (λi s ab l=>vC s b h j a cap L hi i (v.keep l) ((l.cell (p:=⟨h,0,none⟩) (block_lt_of_cell c1)).trans c1) ((l.cell (p:=⟨j,0,none⟩) (block_lt_of_cell c2)).trans c2) ab)
 have Z:=iJ k;clear k;obtain⟨I,K⟩:∃I:Nat,I=A.length+M.length:=⟨_,rfl⟩;rw[<-K] at E ⊢;generalize A.length=n0 at *;clear K f X;have q:=oq w b lo hi;have T:=qt w b lo hi;obtain⟨n,H,y⟩:=oe w b lo hi;have C:=(q.cell (p:=⟨b,0,none⟩) hb).trans R;have D:=iJ (Z.o.keep q);unfold w3 at q T n H y C D;go_enter func175,ntmps175;go_wp2_with fail
 refine(N.o _ _ _ D.o n H).mono ?_;rintro e W1 ⟨rfl,m⟩;have U:=(m.cell (p:=⟨w.heap.size,0,none⟩) (block_lt_of_cell n)).trans n;have V:=(m.cell (p:=⟨w.heap.size+1+1,0,none⟩) (block_lt_of_cell y)).trans y;have m4:=(m.cell (p:=⟨b,0,none⟩) (block_lt_of_cell C)).trans C;go_wp2_with fail
 refine(E.o _ _ _ (D.o.keep m) U V).mono ?_;rintro e W2 ⟨rfl,aa⟩;go_wp2;go_ret2
 exact⟨rfl,bt (bt q m) aa⟩
theorem xB(b:Int):∀(L:List Rn)(a:Int),Can L->(∀r∈L,a<=r.1/\r.2<=b)->a<=b+2->2*(L.length:Int)<=b-a+2
 | [],a,_,_,h=>by
   rw[bj];omega
 |r::L,a,hc,hb,h=>by
  have h1:=hb r (by simp)
  have f:=hc.1 r (by simp)
  have e:=(cQ.1 hc.2).1;have j:=xB b L (r.2+2) hc.tail (λx d=>⟨by have:=e x d;omega,(hb x (by simp[d])).2⟩) (by omega)
  rw[bf];omega
end Go.Proofs.YtbdkogimlbnlmaaGreat.Q
namespace Go.Proofs.YtbdkogimlbnlmaaGreat.Q
open Tryz
open Go.RowKit Go.Shelf
attribute [local go_sem] Oper.semAt_some
variable {k:Nat}{w:World}
def enR(r:Rn):Array Value:=#[.agg (rcs r)]
theorem lu{α:Type}[Inhabited α](L:List α)(d:α)(h:k<L.length):L=L.take k++L.getD k d::L.drop (k+1):=by
 rw[aq,aR h];simp
theorem jO{α:Type}(L:List α)(d:α)(h:k<L.length):L.take (k+1)=L.take k++[L.getD k d]:=by
 rw[dS h,aq,aR h];rfl
theorem wW(w:World)(Bx:Nat)(a:Option Addr)(cap:Nat)(L:List Rn)(g:w.cell? ⟨Bx,0,none⟩=some (.slice a L.length cap))(y:Vs w a L)(R:L.length<=11000000000000):
 uA prog 168 #[.pointer (some ⟨Bx,0,none⟩)] enR L w (λk=>k=Bx\/∃x,a=some x/\x.block=k):=by
 intro l S J T W A v E aa B G;have ab:¬S Bx:=λh=>(v _ h).1 (.inl rfl)
 have N:W.cell? ⟨Bx,0,none⟩=some (.slice a L.length cap):=(A.cell (p:=⟨Bx,0,none⟩) (block_lt_of_cell g) (λh=>h (.inl rfl))).trans g
 have K:Vs W a L:=y.but A (λx q h=>h (.inr ⟨x,q,rfl⟩))
 clear g y;have Y:=iJ B;clear B;obtain⟨n,j⟩:∃n:Nat,n=L.length:=⟨_,rfl⟩;have D:=iJ j;rw[<-j] at N R;clear j;refine gR func168 rfl trivial ?_ rfl;simp only[ntmps168,dm,bf,bj,Nat.reduceAdd,Nat.reduceSub,dG,dH,dY,dO,cY,dw];gi_wp2
 gi_loopw [7] (λi wr=>∃k:Nat,k<=n/\i=.int .i64 k/\J (L.take k) wr/\But S W wr)
  (λi _=>n-(intOf i).toNat)
 case atStart=>exact⟨0,az _,rfl,G,But.refl _ _⟩
 case round=>
  obtain⟨k,hk,rfl,f,b⟩:=hrel;by_cases O:k<n
  . have d:k<L.length:=by rw[<-D.o];exact O
    have M:Vs wr a L:=K.but b (λx q h=>(v _ h).1 (.inr ⟨x,q,rfl⟩))
    obtain⟨V,o,rfl,X,Z⟩:=M.at d;generalize m:L.getD k Rn.zero=r at *;have P:=b.size;obtain⟨fn,ad,ae,ac,I,H⟩:=Y.o (L.take k) r (L.drop (k+1)) (wr.alloc (.cells #[.int .i64 r.1,.int .i64 r.2] 171)) (by rw[<-m];exact lu L Rn.zero d) (E _ _ _ f P (But.ofBelow (al _ _))) (by rw[size_alloc];omega)
    simp only[enR,rcs] at I;gi_wp2
    refine⟨rfl,H.mono ?_⟩;have C:But S W (wr.alloc (.cells #[.int .i64 r.1,.int .i64 r.2] 171)):=b.andBelow (al _ _);rintro e U ⟨t,⟨rfl,s⟩|⟨rfl,s⟩⟩
    . gi_wp2
      go_roundw
      case rel=>exact⟨k+1,by omega,by simp,by rw[jO L Rn.zero d,m];exact s,C.trans t (λ_ _ h=>h)⟩
      case measure=>simp[intOf];omega
    . gi_wp2
      refine bZ (eQ rfl _ _ _) rfl ?_;exact⟨⟨_,rfl⟩,C.trans t (λ_ _ h=>h),.inr ⟨_,L.drop (k+1),by rw[aU,<-m];exact lu L Rn.zero d,s⟩⟩
  . obtain rfl:k=n:=by omega
    gi_wp2
    go_end0
    exact⟨⟨_,rfl⟩,b,.inl (by rw[D.o,cJ] at f;exact f)⟩
theorem zf(w:World)(a:Option Addr)(n cap:Nat):Calls prog 150 #[.slice a n cap] w λe b=>e=.returned (.func (.func 168) #[] #[.pointer (some ⟨w.heap.size,0,none⟩)])/\b=w.alloc (.cells #[.slice a n cap] 169):=by
 go_enter func150,ntmps150;go_wp2;go_ret;exact⟨rfl,rfl⟩
theorem tD(w:World)(b:Nat)(lo hi:Int):Calls prog 191 #[.pointer (some ⟨b,0,none⟩),.int .i64 lo,.int .i64 hi] w λe d=>
 e=.returned (.func (.func 205) #[] #[.pointer (some ⟨w.heap.size,0,none⟩),.pointer (some ⟨w.heap.size+1,0,none⟩),.pointer (some ⟨w.heap.size+1+1,0,none⟩)])/\d=w3 w b lo hi:=by
 go_enter func191,ntmps191;go_wp2;go_ret;exact⟨rfl,rfl⟩
theorem qI(M:List Rn)(lo hi:Int):(jR M lo hi).length=M.length:=by simp[jR]
theorem Ba(M:List Rn)(lo hi:Int)(h:k<M.length):(jR M lo hi).getD k Rn.zero=(max lo (M.getD k Rn.zero).1,min hi (M.getD k Rn.zero).2):=by
 simp[jR,h]
def Inb(b:Nat)(a:Option Addr)(k:Nat):Prop:=k=b\/∃x,a=some x/\x.block=k
theorem Vs.mid{a:Option Addr}{A M B:List Rn}(h:Vs w a (A++M++B))(f:M≠[]):∃b o,a=some ⟨b,o,none⟩/\Vs w (some ⟨b,o+A.length*2,none⟩) M:=by
 rcases h with h|⟨b,o,e,g⟩
 . simp at h;exact absurd h.2.1 f
 . refine⟨b,o,e,.inr ⟨b,o+A.length*2,rfl,λj u d=>?_⟩⟩
   have:=g (A.length*2+j) u (by
    rw[iV,iV,aU,bg (by rw[iN];omega),iN,fE,br (bz.1 d).1]
    exact d)
   rw[<-fC] at this;exact this
theorem tB(w:World)(b g d f:Nat)(a:Option Addr)(cap:Nat)(L A M B:List Rn)(lo hi:Int)(hS:St w b a cap L)(E:Spl L lo hi A M B)(aw:lo<=hi)
 (c1:w.cell? ⟨g,0,none⟩=some (.pointer (some ⟨b,0,none⟩))) (c2:w.cell? ⟨d,0,none⟩=some (.int .i64 lo)) (c3:w.cell? ⟨f,0,none⟩=some (.int .i64 hi)):
 uA prog 205 #[.pointer (some ⟨g,0,none⟩),.pointer (some ⟨d,0,none⟩),.pointer (some ⟨f,0,none⟩)] enR (jR M lo hi) w (λk=>Inb b a k\/k=g\/k=d\/k=f):=by
 intro aF S J Jx W D hX l aG hY h0;have R:∀k,(Inb b a k\/k=g\/k=d\/k=f)->¬S k:=λk h hs=>(hX _ hs).1 h
 have aa:W.cell? ⟨g,0,none⟩=some (.pointer (some ⟨b,0,none⟩)):=(D.cell (p:=⟨g,0,none⟩) (block_lt_of_cell c1) (λh=>h (.inr (.inl rfl)))).trans c1
 have ab:W.cell? ⟨d,0,none⟩=some (.int .i64 lo):=(D.cell (p:=⟨d,0,none⟩) (block_lt_of_cell c2) (λh=>h (.inr (.inr (.inl rfl))))).trans c2
 have ad:W.cell? ⟨f,0,none⟩=some (.int .i64 hi):=(D.cell (p:=⟨f,0,none⟩) (block_lt_of_cell c3) (λh=>h (.inr (.inr (.inr rfl))))).trans c3
 have v:St W b a cap L:=hS.but D (λh=>h (.inl (.inl rfl))) (λx P h=>h (.inl (.inr ⟨x,P,rfl⟩)))
 clear c1 c2 c3 hS D;have ap:=iJ hY;clear hY;have C:=iJ (mV W b a cap L lo hi A M B v E aw);have hL:=iJ v;have N:=v.cell;have hl:=v.len;have ak:=v.row.len;have U:L.length=A.length+M.length+B.length:=by rw[E.eq];simp[fC]
 have aL:=iJ (show ∀k,k<M.length->lo<=(M.getD k Rn.zero).2/\(M.getD k Rn.zero).1<=hi from λk hk=>E.m _ (kS hk))
 have eL:=iJ E.eq;clear v E;obtain⟨n,O⟩:∃n:Nat,n=M.length:=⟨_,rfl⟩;obtain⟨j,Z⟩:∃n:Nat,n=A.length:=⟨_,rfl⟩;have I:=iJ O;have aA:=iJ Z;rw[<-O,<-Z] at U C;obtain⟨nL,aj⟩:∃n:Nat,n=L.length:=⟨_,rfl⟩;rw[<-aj] at U N hl ak;clear aj O Z;obtain⟨aV,aC⟩:=ak;unfold maxLen at aC;obtain⟨t,Y⟩:∃ar:Nat,ar=j+n:=⟨_,rfl⟩;rw[<-Y] at C;have aO:j<=t:=by omega
 have aS:t<=cap:=by omega
 have aB:(t:Int)-(j:Int)=(n:Int):=by omega
 have aD:t-j=n:=by omega
 have aR:j+n<=nL:=by omega
 have an:=iJ Y;clear Y U;refine gR func205 rfl trivial ?_ rfl;simp only[ntmps205,dm,bf,bj,Nat.reduceAdd,Nat.reduceSub,dG,dH,dY,dO,cY,dw];gi_wp2_with fail
 refine⟨trivial,rfl,?_⟩;refine(fj.2 C.o).mono ?_;rintro aq m ⟨rfl,y⟩;have aQ:=y.size;have k1:=(y.cell (p:=⟨g,0,none⟩) (block_lt_of_cell aa)).trans aa;have kc:=(y.cell (p:=⟨b,0,none⟩) (block_lt_of_cell N)).trans N;have e:J [] m:=l _ _ _ h0 (ai _) (But.ofBelow y);by_cases hz:n=0
 . subst hz;obtain rfl:t=j:=by have:=an.o;omega
   clear aB aD an;have au:M=[]:=co.1 I.o.symm;by_cases aM:cap=t
   all_goals
    gi_wp2
    gi_loopw [24] (λi wr=>i=.int .i64 0/\wr=m) (λ_ _=>0)
    case atStart=>exact⟨rfl,rfl⟩
    case round=>
     obtain⟨rfl,rfl⟩:=hrel;gi_wp2
     go_end0
     exact⟨⟨_,rfl⟩,But.ofBelow y,.inl (by rw[au];exact e)⟩
 . have ao:0<M.length:=by rw[<-I.o];omega
   obtain⟨bb,o,rfl,_⟩:=Vs.mid (A:=A) (M:=M) (B:=B) (by rw[<-eL.o];exact hL.o.row.vs) (bR.1 ao)
   have aN:¬cap=j:=by omega
   gi_wp2
   gi_loopw [24] (λi wr=>∃k:Nat,k<=n/\i=.int .i64 k/\J ((jR M lo hi).take k) wr/\But S W wr)
    (λi _=>n-(intOf i).toNat)
   case atStart=>exact⟨0,az _,rfl,e,But.ofBelow y⟩
   case round=>
    obtain⟨k,hk,rfl,K,s⟩:=hrel;by_cases ax:k<n
    . have X:k<M.length:=by rw[<-I.o];exact ax
      have ah:=(hL.o.row.vs.but s (λx P h=>R _ (.inl (.inr ⟨x,P,rfl⟩)) h))
      rw[eL.o] at ah;obtain⟨aH,o',e',av⟩:=ah.mid (bR.1 ao);simp only[aE,Addr.mk.injEq,eH] at e';obtain⟨rfl,rfl⟩:=e';obtain⟨b2,o2,e2,d1,d2⟩:=av.at X;simp only[aE,Addr.mk.injEq,eH] at e2;obtain⟨rfl,rfl⟩:=e2;rw[<-aA.o] at d1 d2;have V:k<(jR M lo hi).length:=by rw[qI];exact X
      have H:=Ba M lo hi X;have ay:=s.size;have ac:=(s.cell (p:=⟨d,0,none⟩) (block_lt_of_cell ab) (R _ (.inr (.inr (.inl rfl))))).trans ab;have ae:=(s.cell (p:=⟨f,0,none⟩) (block_lt_of_cell ad) (R _ (.inr (.inr (.inr rfl))))).trans ad;generalize hr:M.getD k Rn.zero=r at *;have G:Below wr.heap.size wr (wr.alloc (.cells #[.int .i64 r.1,.int .i64 r.2] 171)):=al _ _;have aI:=(G.cell (p:=⟨d,0,none⟩) (block_lt_of_cell ac)).trans ac;have aK:=(G.cell (p:=⟨f,0,none⟩) (block_lt_of_cell ae)).trans ae;obtain⟨p,hp⟩:∃p,(if lo<r.1 then r.1 else lo)=p:=⟨_,rfl⟩
      obtain⟨q,hq⟩:∃q,(if r.2<hi then r.2 else hi)=q:=⟨_,rfl⟩
      have af:(max lo r.1,min hi r.2)=(p,q):=by rw[<-hp,<-hq];exact Prod.ext (by simp only;split<;>omega) (by simp only;split<;>omega)
      rw[af] at H;obtain⟨fn,aT,aW,aP,hy,hR⟩:=ap.o ((jR M lo hi).take k) (p,q) ((jR M lo hi).drop (k+1)) (wr.alloc (.cells #[.int .i64 r.1,.int .i64 r.2] 171)) (by rw[<-H];exact lu _ Rn.zero V) (l _ _ _ K ay (But.ofBelow G)) (by rw[size_alloc];omega)
      simp only[enR,rcs] at hy;have ag:=iJ (s.andBelow G);clear hr af;have am:=iJ H;clear H;gi_wp2
      refine⟨rfl,hR.mono ?_⟩;rintro aq W3 ⟨h3,⟨rfl,T⟩|⟨rfl,T⟩⟩
      . gi_wp2
        go_roundw
        case rel=>exact⟨k+1,by omega,by simp,by rw[jO _ Rn.zero V,am.o];exact T,ag.o.trans h3 (λ_ _ h=>h)⟩
        case measure=>simp[intOf];omega
      . gi_wp2
        refine bZ (eQ rfl _ _ _) rfl ?_;exact⟨⟨_,rfl⟩,ag.o.trans h3 (λ_ _ h=>h),.inr ⟨_,(jR M lo hi).drop (k+1),by rw[aU,<-am.o];exact lu _ Rn.zero V,T⟩⟩
    . obtain rfl:k=n:=by omega
      gi_wp2
      go_end0
      exact⟨⟨_,rfl⟩,s,.inl (by rw[I.o,<-qI M lo hi,cJ] at K;exact K)⟩
def kg(f:Int):List Rn->List Rn
 | []=>[]
 |p::P=>(if f<p.1 then [(f,p.1-1)] else [])++kg (p.2+1) P
def jZ(f:Int):List Rn->Int
 | []=>f
 |p::P=>jZ (p.2+1) P
theorem pH:∀{P:List Rn}(f hi:Int)(R:List Rn),(∀p∈P,p.2≠hi)->gap f hi (P++R)=kg f P++gap (jZ f P) hi R
 | [],f,hi,R,_=>rfl
 |p::P,f,hi,R,h=>by
  show(if f<p.1 then [(f,p.1-1)] else [])++(if p.2=hi then [] else gap (p.2+1) hi (P++R))=(if f<p.1 then [(f,p.1-1)] else [])++kg (p.2+1) P++gap (jZ (p.2+1) P) hi R
  rw[if_neg (h p (by simp)),pH (p.2+1) hi R (λq b=>h q (by simp[b])),aU]
theorem rM:∀(P:List Rn)(f:Int)(p:Rn),jZ f (P++[p])=p.2+1
 | [],_,_=>rfl
 |q::P,_,p=>rM P (q.2+1) p
theorem wE:∀(P:List Rn)(f lo:Int),lo<=f->(∀p∈P,lo<=p.2)->lo<=jZ f P
 | [],_,_,h,_=>h
 |q::P,_,lo,_,h=>wE P (q.2+1) lo (by have:=h q (by simp);omega) (λp b=>h p (by simp[b]))
theorem oy:∀(P:List Rn)(f:Int)(p:Rn),kg f (P++[p])=kg f P++(if jZ f P<p.1 then [(jZ f P,p.1-1)] else [])
 | [],f,p=>by
   show(if f<p.1 then [(f,p.1-1)] else [])++[]=[]++(if f<p.1 then [(f,p.1-1)] else [])
   rw[cU,cY]
 |q::P,f,p=>by
  show(if f<q.1 then [(f,q.1-1)] else [])++kg (q.2+1) (P++[p])=_
  rw[oy P (q.2+1) p,<-aU];rfl
theorem Dj{P R:List Rn}{f hi:Int}{r:Rn}(h:∀p∈P,p.2≠hi):gap f hi (P++r::R)=kg f (P++[r])++(if r.2=hi then [] else gap (r.2+1) hi R):=by
 rw[pH f hi _ h,gap,oy,aU]
theorem Ct(w:World)(b:Nat)(lo hi:Int):Calls prog 174 #[.pointer (some ⟨b,0,none⟩),.int .i64 lo,.int .i64 hi] w λe d=>
 e=.returned (.func (.func 190) #[] #[.pointer (some ⟨w.heap.size+1,0,none⟩),.pointer (some ⟨w.heap.size,0,none⟩),.pointer (some ⟨w.heap.size+1+1,0,none⟩)])/\d=w3 w b lo hi:=by
 go_enter func174,ntmps174;go_wp2;go_ret;exact⟨rfl,rfl⟩
theorem Dq(w:World)(b K H m:Nat)(a:Option Addr)(cap:Nat)(L A M B:List Rn)(lo hi:Int)(hS:St w b a cap L)(s:Spl L lo hi A M B)(aE:lo<=hi)(au:Nm lo)(ar:Nm hi)
 (c1:w.cell? ⟨K,0,none⟩=some (.pointer (some ⟨b,0,none⟩))) (c2:w.cell? ⟨H,0,none⟩=some (.int .i64 lo)) (c3:w.cell? ⟨m,0,none⟩=some (.int .i64 hi)):
 uA prog 190 #[.pointer (some ⟨H,0,none⟩),.pointer (some ⟨K,0,none⟩),.pointer (some ⟨m,0,none⟩)] enR (gap lo hi (jR M lo hi)) w (λk=>Inb b a k\/k=K\/k=H\/k=m):=by
 obtain⟨P,hP⟩:∃P,jR M lo hi=P:=⟨_,rfl⟩;rw[hP];intro l S J Jx W Y y N am hY h0;have nS:∀k,(Inb b a k\/k=K\/k=H\/k=m)->¬S k:=λk h g=>(y _ g).1 h
 have an:W.cell? ⟨K,0,none⟩=some (.pointer (some ⟨b,0,none⟩)):=(Y.cell (p:=⟨K,0,none⟩) (block_lt_of_cell c1) (λh=>h (.inr (.inl rfl)))).trans c1
 have D:W.cell? ⟨H,0,none⟩=some (.int .i64 lo):=(Y.cell (p:=⟨H,0,none⟩) (block_lt_of_cell c2) (λh=>h (.inr (.inr (.inl rfl))))).trans c2
 have ao:W.cell? ⟨m,0,none⟩=some (.int .i64 hi):=(Y.cell (p:=⟨m,0,none⟩) (block_lt_of_cell c3) (λh=>h (.inr (.inr (.inr rfl))))).trans c3
 have aa:St W b a cap L:=hS.but Y (λh=>h (.inl (.inl rfl))) (λx O h=>h (.inl (.inr ⟨x,O,rfl⟩)))
 clear c1 c2 c3 hS Y;have ax:=iJ hY;clear hY;have aD:=iJ hP;clear hP;obtain⟨v,ab⟩:∃v,(W.alloc (.cells #[.func (.yield l) #[] #[]] 193)).alloc (.cells #[.int .i64 lo] 3)=v:=⟨_,rfl⟩;have bb:Below W.heap.size W v:=by rw[<-ab];exact bt (al _ _) (al _ _)
 have aK:v.heap.size=W.heap.size+1+1:=by rw[<-ab,size_alloc,size_alloc]
 have av:=iJ (tD v b lo hi);have a1:=(al W (.cells #[.func (.yield l) #[] #[]] 193)).cell (p:=⟨H,0,none⟩) (block_lt_of_cell D) |>.trans D
 have a2:=(bb.cell (p:=⟨K,0,none⟩) (block_lt_of_cell an)).trans an;have a3:=(bb.cell (p:=⟨H,0,none⟩) (block_lt_of_cell D)).trans D;have a4:=(bb.cell (p:=⟨m,0,none⟩) (block_lt_of_cell ao)).trans ao;refine fF func190 rfl trivial ?_ rfl;simp only[ntmps190,dm,bf,bj,Nat.reduceAdd,Nat.reduceSub,dG,dH,dY,dO,cY,dw];gi_wp2_with fail
 refine⟨trivial,rfl,?_⟩;refine(fj.2 av.o).mono ?_;rintro e W1 ⟨rfl,rfl⟩;gi_wp2_with fail
 obtain⟨G,ac⟩:∃G,w3 v b lo hi=G:=⟨_,rfl⟩;have kb:Below v.heap.size v G:=by rw[<-ac];exact oq _ _ _ _
 have aX:G.heap.size=W.heap.size+1+1+1+1+1:=by rw[<-ac,qt,aK]
 obtain⟨p1,p2,p3⟩:=oe v b lo hi;rw[ac,aK] at p1 p2 p3;rw[ac];have bc:Below W.heap.size W G:=bt bb kb
 have y0:v.cell? ⟨W.heap.size,0,none⟩=some (.func (.yield l) #[] #[]):=by
  rw[<-ab];have c:=jd W (.func (.yield l) #[] #[]) 193;exact((al _ _).cell (p:=⟨W.heap.size,0,none⟩) (block_lt_of_cell c)).trans c
 have f0:v.heap[W.heap.size+1]?=some (.cells #[.int .i64 lo] 3 (0,0)):=by
  rw[<-ab];have c:=aF (W.alloc (.cells #[.func (.yield l) #[] #[]] 193)) (.cells #[.int .i64 lo] 3);rwa [size_alloc] at c
 have yc:=(kb.cell (p:=⟨W.heap.size,0,none⟩) (block_lt_of_cell y0)).trans y0;have fc:=(kb.block (W.heap.size+1) (af.1 f0).1).trans f0;have hc:=(kb.cell (p:=⟨m,0,none⟩) (block_lt_of_cell a4)).trans a4;have aI:m<W.heap.size:=block_lt_of_cell ao;have PS:=tB G b (W.heap.size+1+1) (W.heap.size+1+1+1) (W.heap.size+1+1+1+1) a cap L A M B lo hi (aa.keep bc) s aE p1 p2 p3
 have aH:∀k,Inb b a k->k<W.heap.size:=λk E=>by
  rcases E with rfl|⟨x,O,rfl⟩
  . exact aa.lt
  . exact aa.row.lt O
 have V:=rD (M:=M) aE ⟨λr hr=>aa.can.1 r (by rw[s.eq];simp[hr]),by have:=aa.can.ris.2;rw[s.eq,kD] at this;exact this.2.1⟩ s.m
 rw[aD.o] at PS V;clear a1 a2 a3 a4 av p1 p2 p3 an D ab ac y0 f0 aD s
 refine wg (gf:=205) (lb:=#[.pointer (some ⟨W.heap.size+1+1,0,none⟩),.pointer (some ⟨W.heap.size+1+1+1,0,none⟩),.pointer (some ⟨W.heap.size+1+1+1+1,0,none⟩)]) rfl (enters_of func205 (by kernel_rfl) rfl) PS (But.refl _ _)
  (λk E=>by
    rcases E with E|rfl|rfl|rfl
    . have:=aH k E;omega
    . omega
    . omega
    . omega) (λ_=>rfl) (λk=>S k\/k=W.heap.size+1)
  (λk E=>by
    rcases E with E|rfl
    . have h1:=(y k E).2;refine⟨λh=>?_,by omega⟩
      rcases h with h|rfl|rfl|rfl
      . exact(y k E).1 (.inl h)
      all_goals
       omega
    . refine⟨λh=>?_,by omega⟩
      rcases h with h|h|h|h
      . have:=aH _ h;omega
      . omega
      . omega
      . omega)
  (λpre q=>But (λk=>S k\/k=W.heap.size+1) G q/\J (kg lo pre) q/\q.heap[W.heap.size+1]?=some (.cells #[.int .i64 (jZ lo pre)] 3 (0,0))/\∀p∈pre,p.2≠hi)
  (λc _ q=>c=.ret/\(J (gap lo hi P) q\/∃pre I,gap lo hi P=pre++I/\Jx pre q))
  (λaM X1 X2 g hn hb=>⟨g.1.trans hb (λx O h=>by omega),N _ _ _ g.2.1 (by omega) (hb.mono λx _ O=>by omega),hb.same g.2.2.1 (by omega),g.2.2.2⟩)
  (λc aM X1 X2 g hn hb=>⟨g.1,g.2.imp (λh=>N _ _ _ h (by omega) (hb.mono λx _ O=>by omega)) (λ⟨pre,I,e,h⟩=>⟨pre,I,e,am _ _ _ h (by omega) (hb.mono λx _ O=>by omega)⟩)⟩)
  ⟨But.refl _ _,N _ _ _ h0 (ai _) (But.ofBelow bc),fc,by simp⟩ ?round ?done ?stop
 case round=>
  rintro C pre x I X U ⟨n,hJ,hf,ad⟩ aV aW;unfold enR rcs;gi_wp2
  refine⟨al _ _,λd h3=>?_⟩
  have nl:W.heap.size+1≠C:=by omega
  have aZ:=n.size;have T:But (λk=>k=C) X d:=(But.ofBelow (al _ _)).trans h3 (λ_ _ h=>h)
  have f3:d.heap[W.heap.size+1]?=some (.cells #[.int .i64 (jZ lo pre)] 3 (0,0)):=T.same hf nl;have ap:d.cell? ⟨W.heap.size+1,0,none⟩=some (.int .i64 (jZ lo pre)):=by rw[ay _ _ _ _ _ _ f3];rfl
  have y3:d.cell? ⟨W.heap.size,0,none⟩=some (.func (.yield l) #[] #[]):=by
   have e:=(n.cell (p:=⟨W.heap.size,0,none⟩) (block_lt_of_cell yc) (λh=>h.elim (λh=>eG _ (y _ h).2) (λh=>Nat.ne_of_lt (fU _) h))).trans yc
   exact(T.cell (p:=⟨W.heap.size,0,none⟩) (block_lt_of_cell e) (by show ¬W.heap.size=C;omega)).trans e
  have aB:d.cell? ⟨m,0,none⟩=some (.int .i64 hi):=by
   have e:=(n.cell (p:=⟨m,0,none⟩) (block_lt_of_cell hc) (λh=>h.elim (λh=>nS _ (.inr (.inr (.inr rfl))) h) (λh=>Nat.ne_of_lt (Nat.lt_succ_of_lt aI) h))).trans hc
   exact(T.cell (p:=⟨m,0,none⟩) (block_lt_of_cell e) (by show ¬m=C;omega)).trans e
  have n0:=aF X (.cells #[.int .i64 x.1,.int .i64 x.2] 171);have n3:=h3.same n0 (by omega)
  have n1:d.cell? ⟨X.heap.size,0,none⟩=some (.int .i64 x.1):=by rw[ay _ _ _ _ _ _ n3];rfl
  have n2:d.cell? ⟨X.heap.size,1,none⟩=some (.int .i64 x.2):=by rw[ay _ _ _ _ _ _ n3];rfl
  have J3:J (kg lo pre) d:=N _ _ _ hJ (by omega) (T.mono λz _ hz=>by omega)
  have rb:=V.2 x (by rw[U];simp)
  have rx:=V.1.1 x (by rw[U];simp)
  have gn:=Dj (P:=pre) (R:=I) (f:=lo) (hi:=hi) (r:=x) ad;rw[<-U] at gn;have gs:=oy pre lo x;have gf:=rM pre lo x;have a0:=T.size;have aC:But (λk=>S k\/k=W.heap.size+1) G d:=n.trans T (λz hz h=>by omega)
  have gl:=wE pre lo lo (fd _) (λp hp=>by have h1:=V.2 p (by rw[U];simp[hp]);have h2:=V.1.1 p (by rw[U];simp[hp]);omega)
  generalize jZ lo pre=f at *;clear n0 n3 h3 T;have aO:d.frozen? ⟨W.heap.size+1,0,none⟩=false:=bG _ _ _ _ _ f3
  have up:∀t,But S d t->x.2≠hi->J (kg lo (pre++[x])) t->But (λk=>S k\/k=W.heap.size+1) d (t.setCell ⟨W.heap.size+1,0,none⟩ (.int .i64 (x.2+1)))/\
   (But (λk=>S k\/k=W.heap.size+1) G (t.setCell ⟨W.heap.size+1,0,none⟩ (.int .i64 (x.2+1)))/\J (kg lo (pre++[x])) (t.setCell ⟨W.heap.size+1,0,none⟩ (.int .i64 (x.2+1)))/\(t.setCell ⟨W.heap.size+1,0,none⟩ (.int .i64 (x.2+1))).heap[W.heap.size+1]?=some (.cells #[.int .i64 (jZ lo (pre++[x]))] 3 (0,0))/\∀p∈pre++[x],p.2≠hi):=λt i aP j=>by
   have b1:But (λk=>S k\/k=W.heap.size+1) d (t.setCell ⟨W.heap.size+1,0,none⟩ (.int .i64 (x.2+1))):=(i.mono (λ_ _ h=>.inl h)).setCell (λ_=>.inr rfl) _
   have f4:=i.same f3 (λh=>iA _ (gE (y _ h).2))
   refine⟨b1,aC.trans b1 (λ_ _ h=>h),N _ _ _ j (by have:=i.size;omega) ((But.refl _ _).setCell (λ_=>eJ _) _),?_,λp hp=>?_⟩
   . rw[aY _ _ _ _ _ _ f4,gf];rfl
   . rcases bq.1 hp with hp|hp
     . exact ad p hp
     . rw[aQ.1 hp];exact aP
  have aL:=iJ up;have aS:W.heap.size<=X.heap.size:=by omega
  have ag:=iJ gn;have aA:=iJ gs;have aN:∀{fn aj ak ah R},RoundIn Fence.wide 0 prog l fn aj ak ah d R->RoundIn (Fence.wide.inRound C) 0 prog l fn aj ak ah d R:=λh=>h
  clear up gn gs gf PS V U ad f3 aC n hJ hf;by_cases g1:f<x.1
  . have g:=aA.o;rw[if_pos g1] at g;obtain⟨fn,aj,ak,ah,hy,hR⟩:=ax.o (kg lo pre) (f,x.1-1) (if x.2=hi then [] else gap (x.2+1) hi I) d (by rw[ag.o,g,aU];rfl) J3 (by omega)
    have aG:=iJ g;clear g;simp only[enR,rcs] at hy;have hw:IntKind.i64.wrap (x.1-1)=x.1-1:=mi (by have:=au.1;omega) (by have:=ar.2;omega)
    gi_wp2
    refine⟨rfl,(aN hR).mono ?_⟩;rintro e t ⟨i,⟨rfl,j⟩|⟨rfl,j⟩⟩
    . rw[<-aG.o] at j;have c4:=(i.cell (p:=⟨m,0,none⟩) (block_lt_of_cell aB) (nS _ (.inr (.inr (.inr rfl))))).trans aB;have n4:=(i.cell (p:=⟨X.heap.size,1,none⟩) (block_lt_of_cell n2) (λh=>eG _ (be (y _ h).2 aS))).trans n2
      have f4:=(i.cell (p:=⟨W.heap.size+1,0,none⟩) (block_lt_of_cell ap) (λh=>iA _ (gE (y _ h).2))).trans ap
      have z4:=(i.frozen (p:=⟨W.heap.size+1,0,none⟩) (block_lt_of_cell ap) (λh=>iA _ (gE (y _ h).2))).trans aO
      by_cases Z:x.2=hi
      . gi_wp2
        exact⟨i.mono (λ_ _ h=>.inl h),rfl,.inl (by rw[ag.o,if_pos Z,cU];exact j)⟩
      . have aR:IntKind.i64.wrap (x.2+1)=x.2+1:=mi (by have:=au.1;omega) (by have:=ar.2;omega)
        gi_wp2
        exact aL.o t i Z j
    . gi_wp2
      exact⟨i.mono (λ_ _ h=>.inl h),rfl,.inr ⟨_,(if x.2=hi then [] else gap (x.2+1) hi I),by rw[ag.o,aG.o],j⟩⟩
  . have g:=aA.o;rw[if_neg g1,cU] at g;have j:J (kg lo (pre++[x])) d:=by rw[g];exact J3
    clear g;by_cases Z:x.2=hi
    . gi_wp2
      refine⟨λ_ h=>(by cases h),?_⟩
      gi_wp2
      exact⟨But.refl _ _,rfl,.inl (by rw[ag.o,if_pos Z,cU];exact j)⟩
    . have aR:IntKind.i64.wrap (x.2+1)=x.2+1:=mi (by have:=au.1;omega) (by have:=ar.2;omega)
      gi_wp2
      refine⟨λ_ h=>(by cases h),?_⟩
      gi_wp2
      exact aL.o d (But.refl _ _) Z j
 case done=>
  rintro aw q hD ⟨n,hJ,hf,ad⟩ _ hK;have ge:=pH (P:=P) lo hi [] ad;rw[cU] at ge;have sz:=n.size;have fX:q.cell? ⟨W.heap.size+1,0,none⟩=some (.int .i64 (jZ lo P)):=by rw[ay _ _ _ _ _ _ hf];rfl
  have yX:=(n.cell (p:=⟨W.heap.size,0,none⟩) (block_lt_of_cell yc) (λh=>h.elim (λh=>eG _ (y _ h).2) (λh=>Nat.ne_of_lt (fU _) h))).trans yc
  have aT:=(n.cell (p:=⟨m,0,none⟩) (block_lt_of_cell hc) (λh=>h.elim (λh=>nS _ (.inr (.inr (.inr rfl))) h) (λh=>Nat.ne_of_lt (Nat.lt_succ_of_lt aI) h))).trans hc
  obtain⟨fn,aj,ak,ah,hy,hR⟩:=ax.o (kg lo P) (jZ lo P,hi) [] q (by rw[ge];rfl) hJ (by omega)
  simp only[enR,rcs] at hy;have az:=iJ (show gap lo hi P=kg lo P++[(jZ lo P,hi)] from ge)
  clear ge PS;generalize jZ lo P=f at *;gi_wp2
  refine⟨rfl,hR.mono ?_⟩;have ae:But S W q:=(But.ofBelow (S:=S) bc).trans n (λz hz h=>h.elim id (λe=>by omega))
  have nD:¬S aw:=λh=>by have:=(y _ h).2;omega
  rintro e t ⟨i,⟨rfl,j⟩|⟨rfl,j⟩⟩
  . have aq:=i.same hK nD;have s4:=i.size;gi_wp2
    refine⟨by simp,.inl ⟨_,_,rfl,eO aq,?_⟩⟩
    exact⟨_,eQ rfl _ _ _,⟨_,rfl⟩,(ae.trans i (λ_ _ h=>h)).putObj (λh=>by omega) _,.inl (by rw[az.o];exact N _ _ _ j (by omega) ((But.refl _ _).putObj (λ_=>by omega) _))⟩
  . have aq:=i.same hK nD;have s4:=i.size;gi_wp2
    refine⟨by simp,.inl ⟨_,_,rfl,eO aq,?_⟩⟩
    exact⟨_,eQ rfl _ _ _,⟨_,rfl⟩,(ae.trans i (λ_ _ h=>h)).putObj (λh=>by omega) _,.inr ⟨_,[],by rw[az.o,cU],am _ _ _ j (by omega) ((But.refl _ _).putObj (λ_=>by omega) _)⟩⟩
 case stop=>
  rintro aw c pre I q hD U ⟨rfl,j⟩ n hK;have ae:But S W q:=(But.ofBelow (S:=S) bc).trans n (λz hz h=>h.elim id (λe=>by omega))
  have sz:=n.size;gi_wp2
  refine⟨by simp,.inl ⟨_,_,rfl,eO hK,?_⟩⟩
  exact⟨_,eQ rfl _ _ _,⟨_,rfl⟩,ae.putObj (λh=>by omega) _,j.imp (λh=>N _ _ _ h (by omega) ((But.refl _ _).putObj (λ_=>by omega) _)) (λ⟨p,r,e,h⟩=>⟨p,r,e,am _ _ _ h (by omega) ((But.refl _ _).putObj (λ_=>by omega) _)⟩)⟩
def mxi:Nat:=9223372036854775807
theorem pk{fn:Func}{p:Tmp}(h:fn.results=#[.cell p 3])(tmps:Array Value)(w:World)(g:Nat)(v:Value)(d:tmps.getD p undef=.pointer (some ⟨g,0,none⟩))(b:w.cell? ⟨g,0,none⟩=some v):
 (results fn tmps).run prog w=.ok v w:=by
 have e:tmps[p]?.getD undef=.pointer (some ⟨g,0,none⟩):=by simpa using d
 simp[results,h,e,asAddr,loadVar,isAgg3,run_load,b]
theorem setD{p:Addr}{v:Value}(D:Nat)(h:D≠p.block):(w.setCell p v).heap[D]?=w.heap[D]?:=Below.heap_setCell _ _ _ _ h
theorem mU(w L:World)(gf:Nat)(lb:Array Value)(xs:List Rn)(X:Nat->Prop)(Y:uA prog gf lb enR xs L X)(ac:But (λk=>¬X k) L w)(W:∀k,X k->k<w.heap.size/\k<L.heap.size)(eg:∀args w,(callFunc gf args).run prog w=.ok (.enter gf args) w)
 (hb:∀r∈xs,Nm r.1/\Nm r.2/\r.1<=r.2):
 Calls prog 149 #[.func (.func gf) #[] lb] w λe w'=>e=.returned (.int .i64 ((min (sz xs) mxi:Nat):Int))/\Below w.heap.size w w':=by
 obtain⟨t,O⟩:∃t:Nat,min (sz xs) mxi=t:=⟨_,rfl⟩;rw[O];refine(fj (n:=0)).1 ?_;refine fF func149 rfl trivial ?_ rfl;simp only[ntmps149,dm,bf,bj,Nat.reduceAdd,Nat.reduceSub,dG,dH,dY,dO,cY,dw];gi_wp2_with fail
 obtain⟨g,m⟩:∃g,(w.alloc (.cells #[.int .i64 0] 3)).alloc (.cells #[.int .i64 0] 3)=g:=⟨_,rfl⟩;have H:Below w.heap.size w g:=by rw[<-m];exact bt (al _ _) (al _ _)
 have av:g.heap.size=w.heap.size+1+1:=by rw[<-m,size_alloc,size_alloc]
 have r0:g.heap[w.heap.size]?=some (.cells #[.int .i64 0] 3 (0,0)):=by
  rw[<-m];have c:=aF w (.cells #[.int .i64 0] 3);exact((al _ _).block w.heap.size (af.1 c).1).trans c
 have n0:g.heap[w.heap.size+1]?=some (.cells #[.int .i64 0] 3 (0,0)):=by
  rw[<-m];have c:=aF (w.alloc (.cells #[.int .i64 0] 3)) (.cells #[.int .i64 0] 3);rwa [size_alloc] at c
 rw[m];clear m;have ab:=iJ O;clear O
 refine wg (gf:=gf) (lb:=lb) rfl eg Y (ac.andBelow H)
  (λk T=>by have:=W k T;omega) (λ_=>rfl) (λk=>k=w.heap.size\/k=w.heap.size+1)
  (λk T=>⟨λh=>by have:=W k h;omega,by omega⟩)
  (λpre f=>But (λk=>k=w.heap.size\/k=w.heap.size+1) g f/\sz pre<=mxi/\f.heap[w.heap.size]?=some (.cells #[.int .i64 0] 3 (0,0))/\f.heap[w.heap.size+1]?=some (.cells #[.int .i64 ((sz pre:Nat):Int)] 3 (0,0)))
  (λc pre f=>c=.ret/\mxi<=sz pre/\f.heap[w.heap.size]?=some (.cells #[.int .i64 9223372036854775807] 3 (0,0)))
  (λs X1 X2 i l hb=>⟨i.1.trans hb (λx hx h=>by omega),i.2.1,hb.same i.2.2.1 (by omega),hb.same i.2.2.2 (by omega)⟩)
  (λc s X1 X2 i l hb=>⟨i.1,i.2.1,hb.same i.2.2 (by omega)⟩)
  ⟨But.refl _ _,az _,r0,n0⟩ ?round ?done ?stop
 case round=>
  rintro l' pre x aa v E ⟨q,N,j,l⟩ ak am;unfold enR rcs;gi_wp2
  refine⟨al _ _,λb p=>?_⟩
  have ax:=q.size;have B:But (λk=>k=l') v b:=(But.ofBelow (al _ _)).trans p (λ_ _ h=>h)
  have A:=B.same j (by omega)
  have K:=B.same l (by omega)
  have ap:b.cell? ⟨w.heap.size,0,none⟩=some (.int .i64 0):=by rw[ay _ _ _ _ _ _ A];rfl
  have an:b.cell? ⟨w.heap.size+1,0,none⟩=some (.int .i64 ((sz pre:Nat):Int)):=by rw[ay _ _ _ _ _ _ K];rfl
  have aq:b.frozen? ⟨w.heap.size,0,none⟩=false:=bG _ _ _ _ _ A;have ao:b.frozen? ⟨w.heap.size+1,0,none⟩=false:=bG _ _ _ _ _ K;have V:=aF v (.cells #[.int .i64 x.1,.int .i64 x.2] 171);have J:=p.same V (by omega)
  have m1:b.cell? ⟨v.heap.size,0,none⟩=some (.int .i64 x.1):=by rw[ay _ _ _ _ _ _ J];rfl
  have m2:b.cell? ⟨v.heap.size,1,none⟩=some (.int .i64 x.2):=by rw[ay _ _ _ _ _ _ J];rfl
  obtain⟨⟨x1,x2⟩,⟨x3,x4⟩,x5⟩:=hb x (by rw[E];simp)
  have ae:sz (pre++[x])=sz pre+(x.2-x.1+1).toNat:=by rw[qd];rfl
  have ad:But (λk=>k=w.heap.size\/k=w.heap.size+1) g b:=q.trans B (λz U h=>by omega)
  obtain⟨d,R⟩:∃d:Nat,(d:Int)=x.2-x.1:=⟨(x.2-x.1).toNat,by omega⟩
  have Z:sz (pre++[x])=sz pre+d+1:=by omega
  generalize sz pre=s at *;clear V J p B q E ae;unfold mxi at N;have aj:x.2-x.1=(d:Int):=R.symm;have ah:(b.setCell ⟨w.heap.size+1,0,none⟩ (.int .i64 ((s:Int)+((d:Int)+1)))).heap[w.heap.size]?=b.heap[w.heap.size]?:=Below.heap_setCell _ _ _ _ (by simp)
  have ai:IntKind.u64.wrap (IntKind.u64.wrap x.2-IntKind.u64.wrap x.1)=(d:Int):=by rw[IntKind.wrap_u64,IntKind.wrap_u64,IntKind.wrap_u64];omega
  have aA:(d:Int)<18446744073709551616:=by omega
  have P:=iJ Z;clear Z R;by_cases hg:(9223372036854775807:Int)-(s:Int)<=(d:Int)
  . gi_wp2
    have C:But (λk=>k=w.heap.size\/k=w.heap.size+1) b (b.setCell ⟨w.heap.size,0,none⟩ (.int .i64 9223372036854775807)):=(But.refl _ _).setCell (λ_=>.inl rfl) _
    exact⟨C,rfl,by rw[P.o];unfold mxi;omega,by rw[aY _ _ _ _ _ _ A];rfl⟩
  . gi_wp2
    have C:But (λk=>k=w.heap.size\/k=w.heap.size+1) b (b.setCell ⟨w.heap.size+1,0,none⟩ (.int .i64 ((s:Int)+((d:Int)+1)))):=(But.refl _ _).setCell (λ_=>.inr rfl) _
    refine⟨C,ad.trans C (λ_ _ h=>h),by rw[P.o];unfold mxi;omega,(ah.trans A),?_⟩
    rw[aY _ _ _ _ _ _ K,P.o,show((s+d+1:Nat):Int)=(s:Int)+((d:Int)+1) by omega]
    rfl
 case done=>
  rintro D f hD ⟨q,N,j,l⟩ M I;have ar:f.cell? ⟨w.heap.size,0,none⟩=some (.int .i64 0):=by rw[ay _ _ _ _ _ _ j];rfl
  have ag:f.cell? ⟨w.heap.size+1,0,none⟩=some (.int .i64 ((sz xs:Nat):Int)):=by rw[ay _ _ _ _ _ _ l];rfl
  have au:f.frozen? ⟨w.heap.size,0,none⟩=false:=bG _ _ _ _ _ j;have y:t=sz xs:=by rw[<-ab.o];exact dq N
  have G:=(But.ofBelow (S:=λ_=>False) H).trans M (λz U h=>by omega)
  have aw:=q.size;rw[<-y] at ag;clear y l Y;gi_wp2
  refine⟨by simp,.inl ⟨_,_,rfl,eO ((setD D (by show D≠w.heap.size;omega)).trans I),?_⟩⟩
  refine⟨_,pk rfl _ _ w.heap.size _ rfl ?_,rfl,?_⟩
  . have q1:(f.setCell ⟨w.heap.size,0,none⟩ (.int .i64 (t:Int))).heap[w.heap.size]?=_:=aY _ _ _ _ _ _ j;rw[ay _ _ _ _ _ _ ((dz (by omega)).trans q1)]
    rfl
  . exact((G.setCell (λh=>absurd h (eG _)) _).putObj (λh=>by omega) _).below (λ_ _ h=>h)
 case stop=>
  rintro D c pre aa f hD E ⟨rfl,h1,j⟩ M I
  have y:(t:Int)=9223372036854775807:=by
   have h2:sz xs=sz pre+sz aa:=by rw[E,qd]
   have p:min (sz xs) mxi=mxi:=by omega
   rw[<-ab.o,p];rfl
  have G:=(But.ofBelow (S:=λ_=>False) H).trans M (λz U h=>by omega)
  gi_wp2
  refine⟨by simp,.inl ⟨_,_,rfl,eO I,?_⟩⟩
  refine⟨_,pk rfl _ _ w.heap.size (.int .i64 9223372036854775807) rfl ?_,?_,?_⟩
  . rw[ay _ _ _ _ _ _ ((dz (by omega)).trans j)]
    rfl
  . rw[y]
  . exact(G.putObj (λh=>by omega) _).below (λ_ _ h=>h)
end Go.Proofs.YtbdkogimlbnlmaaGreat.Q
