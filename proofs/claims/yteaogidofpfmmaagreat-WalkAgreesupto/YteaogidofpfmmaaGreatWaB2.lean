import Derived.Test.YteaogidofpfmmaaGreatWaB0
import Derived.RangeFuncNested
import Derived.RangeFuncBound
import Derived.RangeFuncCalls
import Derived.Shelf.Abstract
import Derived.Shelf.RegionOpen
import Derived.OwnWalkIn
import Derived.TacticsInMore
import Derived.LoopNIn
import Derived.LoopIn
import Derived.Deep.MidRow
import Derived.Laws.CopyRow
import Derived.Laws.IdiomCopy
import Derived.Lib.SliceRun
set_option linter.all false
set_option maxHeartbeats 4000000
set_option maxRecDepth 10000
namespace Go.Proofs.YteaogidofpfmmaaGreat.Q
open Tryz
open Go.RowKit Go.Shelf
variable {S:Nat->Prop}{a w:World}
theorem _root_.Go.Proofs.YteaogidofpfmmaaGreat.But.putObj(h:But S a w){l:Nat}(b:l<a.heap.size->S l)(o:Obj):But S a (w.putObj l o):=
 h.trans (T:=λk=>k=l) ⟨rfl,rfl,rfl,by simp,λk _ c=>dJ (λe=>c e)⟩ (λx d e=>by subst e;exact b d)
theorem _root_.Go.Proofs.YteaogidofpfmmaaGreat.But.same(h:But S a w){k:Nat}{o:Obj}(b:a.heap[k]?=some o)(c:¬S k):w.heap[k]?=some o:=
 (h.block k (ae.1 b).1 c).trans b
def y7{β:Type}(n:Nat)(J:β->World->Prop):Prop:=∀s A B,J s A->n<=A.heap.size->But (λk=>n<=k) A B->J s B
def Yes{α:Type}(S:Nat->Prop)(J Jx:List α->World->Prop)(pre:List α)(W:World)(e:Ending)(W':World):Prop:=
 But S W W'/\((e=.returned (.bool true)/\J pre W')\/(e=.returned (.bool false)/\Jx pre W'))
def uo{α:Type}(P:Program)(g:Nat)(lb:Array Value)(encs:α->Array Value)(xs:List α)(w:World)(X:Nat->Prop):Prop:=
 ∀(l:Nat)(S:Nat->Prop)(J Jx:List α->World->Prop)(W:World),But (λk=>¬X k) w W->(∀k,S k->¬X k/\k<W.heap.size)->y7 W.heap.size J->y7 W.heap.size Jx->
  (∀pre x rest W1,xs=pre++x::rest->J pre W1->W.heap.size<=W1.heap.size->YieldAt Fence.wide 0 P l (encs x) W1 (Yes S J Jx (pre++[x]) W1))->
  J [] W->CallsIn Fence.wide 0 P g (#[.func (.yield l) #[] #[]]++lb) W λe W'=>(∃v,e=.returned v)/\But S W W'/\(J xs W'\/∃pre rest,xs=pre++rest/\Jx pre W')
def Ej{α:Type}(S:Nat->Prop)(I:List α->World->Prop)(Ix:Code->List α->World->Prop)(pre:List α)(W:World):Exit->Act->World->Prop
 | .normal,_,W'=>But S W W'/\I pre W'
 | .ret,_,W'=>But S W W'/\Ix .ret pre W'
 | .exit id,_,W'=>But S W W'/\Ix (.exit id) pre W'
 | .goto t,_,W'=>But S W W'/\Ix (.goto t) pre W'
 | .panic _,_,_=>False
 | .outgrown,_,_=>False
theorem vV{P:Program}{α:Type}{g:Operand}{T:Array Tmp}{assign body:Code}{Q:Exit->Act->World->Prop}{a:Act}{w:World}
 {gf:Nat} {lb:Array Value} (hg:a.eval g=.func (.func gf) #[] lb) (eg:∀args w,(callFunc gf args).run P w=.ok (.enter gf args) w)
 {ab:α->Array Value} {xs:List α} {w0:World} {X:Nat->Prop} (ay:uo P gf lb ab xs w0 X) (ap:But (λk=>¬X k) w0 w) (aq:∀k,X k->k<w.heap.size/\k<w0.heap.size) (ax:∀x,(ab x).size=T.size)
 (S:Nat->Prop) (hS:∀k,S k->¬X k/\k<w.heap.size) (I:List α->World->Prop) (B:Code->List α->World->Prop) (hI:y7 w.heap.size I) (Z:∀c,y7 w.heap.size (B c)) (h0:I [] w)
 (aC:∀(l:Nat)(pre:List α)(x:α)(J:List α)(W:World),xs=pre++x::J->I pre W->w.heap.size<=l->l<W.heap.size->
   assign.wpIn (Fence.wide.inRound l) 0 P (Exit.then (λa₁ L=>Below W.heap.size W L/\∀W₂,But (λk=>k=l) L W₂->body.wpIn (Fence.wide.inRound l) 0 P (Ej S I B (pre++[x]) W₂) a₁ W₂) (λ_ _ _=>False))
    {tmps:=(T.zip (ab x)).foldl (λt (p,v)=>t.setIfInBounds p v) a.tmps,defers:=[]} W)
 (aA:∀(D:Nat)(W:World),w.heap.size<=D->I xs W->But S w W->W.heap[D]?=some (.deferred (some []))->Q .normal {a with defers:={target:=.collected D,args:=#[]}::a.defers} W)
 (aB:∀(D:Nat)(c:Code)(pre J:List α)(W:World),w.heap.size<=D->xs=pre++J->B c pre W->But S w W->W.heap[D]?=some (.deferred (some []))->c.wpIn Fence.wide 0 P Q {a with defers:={target:=.collected D,args:=#[]}::a.defers} W):
 (Code.rangeFunc g T assign body).wpIn Fence.wide 0 P Q a w:=by
 refine wpIn_rangeFunc λfn aw=>?_
 obtain⟨d,y⟩:∃d:LoopState->Option Code->Loop,d=λst pe=>{state:=st,pending:=pe,fn,tmps:=a.tmps,params:=T,assign,body,defers:=w.heap.size}:=⟨_,rfl⟩
 have av:=run_enterLoop_outer (P:=P) (w:=w) fn a.tmps T assign body;obtain⟨V,M⟩:∃V,(w.alloc (.deferred (some []))).alloc (.loop (d .ready none))=V:=⟨_,rfl⟩;have sV:V.heap.size=w.heap.size+2:=by rw[<-M,size_alloc,size_alloc]
 have rV:V.heap[w.heap.size+1]?=some (.loop (d .ready none)):=by
  rw[<-M];have:=ag (w.alloc (.deferred (some []))) (.loop (d .ready none));rwa [World.size_alloc] at this
 have dV:V.heap[w.heap.size]?=some (.deferred (some [])):=by
  rw[<-M];exact(Below.heap_alloc _ _ _ (by simp)).trans (ag w _)
 have s:Below w.heap.size w V:=by rw[<-M];exact bt ((Below.refl _ _).alloc (am _) _) ((Below.refl _ _).alloc (am _) _)
 have IV:I [] V:=hI _ _ _ h0 (am _) (But.ofBelow s);refine⟨w.heap.size+1,[{target:=.collected w.heap.size,args:=#[]}],V,{target:=.fn (.func gf) lb,args:=#[.func (.yield (w.heap.size+1)) #[] #[]]},V,gf,#[.func (.yield (w.heap.size+1)) #[] #[]]++lb,V,?_,?_,?_,?_,?_,?_⟩
 . rw[<-M,y];exact av
 . simp only[resolve,hg];simp[go_sem]
 . intro f' _;trivial
 . simp[invoke,go_sem,eg]
 . intro h;cases h
 have step:=ay (w.heap.size+1) (λk=>S k\/k=w.heap.size+1)
  (λpre W=>I pre W/\W.heap[w.heap.size+1]?=some (.loop (d .ready none))/\W.heap[w.heap.size]?=some (.deferred (some [])))
  (λpre W=>∃c,B c pre W/\W.heap[w.heap.size+1]?=some (.loop (d .done (some c)))/\W.heap[w.heap.size]?=some (.deferred (some [])))
  V (ap.andBelow s)
  (λk hk=>by
    rcases hk with hk|rfl
    . exact⟨(hS k hk).1,by have:=(hS k hk).2;omega⟩
    . exact⟨λn=>by have:=(aq _ n).1;omega,by omega⟩)
  (λaf ac ad R hn hb=>⟨hI af ac ad R.1 (by omega) (hb.mono λx _ n=>by omega),hb.same R.2.1 (by omega),hb.same R.2.2 (by omega)⟩)
  (λaf ac ad R hn hb=>by
    obtain⟨c,hc,h1,h2⟩:=R;exact⟨c,Z c af ac ad hc (by omega) (hb.mono λx _ n=>by omega),hb.same h1 (by omega),hb.same h2 (by omega)⟩)
  ?_ ⟨IV,rV,dV⟩
 . refine CallsIn.mono step ?_;rintro e W ⟨⟨v,rfl⟩,hB,⟨O,K,N⟩|⟨pre,J,n,c,O,K,N⟩⟩
   . have Y:But S w W:=((But.ofBelow (S:=S) s).trans hB (λx n h=>h.elim id (λe=>by omega)))
     have ak:=λo=>(But.refl (λk=>w.heap.size<=k) W).putObj (l:=w.heap.size+1) (λ_=>by omega) o
     have A:=gV (P:=P) K (by rw[y];simp)
     rw[show(d .ready none).pending=none by rw[y]] at A
     refine⟨none,_,A,?_⟩;have:=Y.size;refine aA w.heap.size _ (am _) (hI _ _ _ O this (ak _)) (Y.putObj (λh=>by omega) _) ?_
     exact(dJ (by omega)).trans N
   . have Y:But S w W:=((But.ofBelow (S:=S) s).trans hB (λx n h=>h.elim id (λe=>by omega)))
     have ak:=λo=>(But.refl (λk=>w.heap.size<=k) W).putObj (l:=w.heap.size+1) (λ_=>by omega) o
     have A:=gV (P:=P) K (by rw[y];simp)
     rw[show(d .done (some c)).pending=some c by rw[y]] at A
     refine⟨some c,_,A,?_⟩;have:=Y.size;refine aB w.heap.size c pre J _ (am _) n (Z c _ _ _ O this (ak _)) (Y.putObj (λh=>by omega) _) ?_
     exact(dJ (by omega)).trans N
 . rintro pre x J W n ⟨O,K,N⟩ hW;have hy:=run_yield (P:=P) (args:=ab x) K (by rw[y];exact ax x)
   rw[y] at hy;refine⟨fn,_,assign,body,hy,roundIn_of_wpIn aw (wpIn_mono (aC _ pre x J W n O (by omega) (by omega)) ?_)⟩
   rintro e a₁ L i;cases e with
   |normal=>
    obtain⟨aj,az⟩:=i;have al:=(aj.block (w.heap.size+1) (by omega)).trans K
    have ar:=(aj.block w.heap.size (by omega)).trans N
    refine⟨_,run_beginRound al (by rw[y]),?_⟩
    obtain⟨C,ai⟩:∃C,L.putObj (w.heap.size+1) (.loop {d .ready none with state:=.busy})=C:=⟨_,rfl⟩;have l1:=(ae.1 al).1;have ah:But (λk=>k=w.heap.size+1) L C:=by rw[<-ai];exact(But.refl (λk=>k=w.heap.size+1) _).putObj (λ_=>rfl) _
    have an:C.heap[w.heap.size+1]?=some (.loop {d .ready none with state:=.busy}):=by rw[<-ai];exact ec l1
    have au:C.heap[w.heap.size]?=some (.deferred (some [])):=ah.same ar (by omega)
    rw[ai];refine wpIn_mono (az C ah) ?_
    have aa:∀(q:Option Code)(b:World),But S C b->
     ∃f,(Instr.endRound (w.heap.size+1) q).run P b=.ok (.bool q.isNone) f/\But (λk=>k=w.heap.size+1) b f/\But (λk=>S k\/k=w.heap.size+1) W f/\
     f.heap[w.heap.size+1]?=some (.loop (d (if q.isNone then .ready else .done) q))/\f.heap[w.heap.size]?=some (.deferred (some [])):=λq b U=>by
     have nl:¬S (w.heap.size+1):=λh=>by have:=(hS _ h).2;omega
     have nd:¬S w.heap.size:=λh=>by have:=(hS _ h).2;omega
     have ao:=U.same an nl;have l3:=(ae.1 ao).1;have m:=run_endRound (P:=P) q ao;have e1:({ ({d .ready none with state:=.busy}:Loop) with state:=if q.isNone then .ready else .done,pending:=q}:Loop)=d (if q.isNone then .ready else .done) q:=by rw[y]
     rw[e1] at m;refine⟨_,m,(But.refl (λk=>k=w.heap.size+1) _).putObj (λ_=>rfl) _,?_,ec l3,(dJ (by omega)).trans (U.same au nd)⟩
     refine But.putObj ?_ (λ_=>.inr rfl) _
     refine(((But.ofBelow (S:=λk=>S k\/k=w.heap.size+1) aj).trans ah (λx _ h=>.inr h)).trans U (λx _ h=>.inl h))
    have up:∀{b f:World},But S C b->But (λk=>k=w.heap.size+1) b f->w.heap.size<=b.heap.size/\But (λk=>w.heap.size<=k) b f:=λ{b f} U r=>by
     refine⟨?_,r.mono λx _ n=>by omega⟩
     have h1:=U.size;have h2:=(ae.1 an).1;omega
    rintro e a3 b i;cases e with
    |normal=>
     obtain⟨j,G⟩:=i;obtain⟨f,m,r,E,H,F⟩:=aa none b j;obtain⟨u1,u2⟩:=up j r;exact⟨_,_,m,E,.inl ⟨rfl,hI _ _ _ G u1 u2,H,F⟩⟩
    |ret=>
     obtain⟨j,G⟩:=i;obtain⟨f,m,r,E,H,F⟩:=aa (some .ret) b j;obtain⟨u1,u2⟩:=up j r;exact⟨_,_,m,E,.inr ⟨rfl,.ret,Z _ _ _ _ G u1 u2,H,F⟩⟩
    |exit id=>
     obtain⟨j,G⟩:=i;obtain⟨f,m,r,E,H,F⟩:=aa (some (.exit id)) b j;obtain⟨u1,u2⟩:=up j r;exact⟨_,_,m,E,.inr ⟨rfl,.exit id,Z _ _ _ _ G u1 u2,H,F⟩⟩
    |goto t=>
     obtain⟨j,G⟩:=i;obtain⟨f,m,r,E,H,F⟩:=aa (some (.goto t)) b j;obtain⟨u1,u2⟩:=up j r;exact⟨_,_,m,E,.inr ⟨rfl,.goto t,Z _ _ _ _ G u1 u2,H,F⟩⟩
    |panic ch=>exact i.elim
    |outgrown=>exact i.elim
   |ret=>exact i.elim
   |exit id=>exact i.elim
   |goto t=>exact i.elim
   |panic ch=>exact i.elim
   |outgrown=>exact i.elim
end Go.Proofs.YteaogidofpfmmaaGreat.Q
namespace Go.Proofs.YteaogidofpfmmaaGreat.Q
open Tryz
variable {hi lo mn mx:Int}
abbrev Rn:=Int×Int
def has(L:List Rn)(x:Int):Bool:=L.any λr=>decide (r.1<=x)&&decide (x<=r.2)
theorem has_iff(L:List Rn)(x:Int):has L x=true↔∃r∈L,r.1<=x/\x<=r.2:=by
 unfold has;rw[fT];simp
theorem nj(L:List Rn)(x:Int):has L x=false↔∀r∈L,r.1<=x->r.2<x:=by
 rw[<-Bool.not_eq_true,has_iff];constructor
 . intro h r b a;by_cases c:x<=r.2
   . exact(h ⟨r,b,a,c⟩).elim
   . omega
 . rintro h ⟨r,b,a,c⟩;have:=h r b a;omega
theorem lG(x:Int):has [] x=false:=rfl
theorem kx(r:Rn)(L:List Rn)(x:Int):has (r::L) x=((decide (r.1<=x)&&decide (x<=r.2))||has L x):=rfl
theorem i8(L M:List Rn)(x:Int):has (L++M) x=(has L x||has M x):=by
 unfold has;rw[List.any_append]
def Ris(L:List Rn):Prop:=(∀r∈L,r.1<=r.2)/\L.Pairwise λa b=>a.2<b.1
def Can(L:List Rn):Prop:=(∀r∈L,r.1<=r.2)/\L.Pairwise λa b=>a.2+1<b.1
theorem Can.ris{L:List Rn}(h:Can L):Ris L:=⟨h.1,h.2.imp (λh=>by omega)⟩
theorem Can.nil:Can []:=⟨by simp,by simp⟩
theorem Can.tail{r:Rn}{L:List Rn}(h:Can (r::L)):Can L:=⟨λx a=>h.1 x (by simp[a]),(dd.1 h.2).2⟩
theorem Ris.tail{r:Rn}{L:List Rn}(h:Ris (r::L)):Ris L:=⟨λx a=>h.1 x (by simp[a]),(dd.1 h.2).2⟩
def nb(p:Int->Bool)(a:Int):Nat->Nat
 |0=>0
 |k+1=>nb p a k+(if p (a+k) then 1 else 0)
theorem xt(p:Int->Bool)(a:Int)(k:Nat):nb p a (k+1)=nb p a k+(if p (a+k) then 1 else 0):=rfl
theorem vh(p:Int->Bool)(a:Int)(j:Nat):∀k,nb p a (j+k)=nb p a j+nb p (a+j) k
 |0=>rfl
 |k+1=>by
  rw[<-gh,xt,xt,vh p a j k,show a+((j+k:Nat):Int)=a+j+k by omega]
  omega
theorem qx{p q:Int->Bool}{a:Int}:∀{k:Nat},(∀x,a<=x->x<a+k->p x=q x)->nb p a k=nb q a k
 |0,_=>rfl
 |k+1,h=>by
  show nb p a k+_=nb q a k+_;rw[qx (k:=k) (λx b c=>h x b (by omega)),h (a+k) (by omega) (by omega)]
theorem se{p:Int->Bool}{a:Int}:∀{k:Nat},(∀x,a<=x->x<a+k->p x=false)->nb p a k=0
 |0,_=>rfl
 |k+1,h=>by
  show nb p a k+_=0;rw[se (k:=k) (λx b c=>h x b (by omega)),h (a+k) (by omega) (by omega)]
  rfl
theorem AK{p:Int->Bool}{a:Int}:∀{k:Nat},(∀x,a<=x->x<a+k->p x=true)->nb p a k=k
 |0,_=>rfl
 |k+1,h=>by
  show nb p a k+_=k+1;rw[AK (k:=k) (λx b c=>h x b (by omega)),h (a+k) (by omega) (by omega)]
  rfl
def sz:List Rn->Nat
 | []=>0
 |r::L=>(r.2-r.1+1).toNat+sz L
theorem pu:∀(L M:List Rn),sz (L++M)=sz L+sz M
 | [],M=>by simp[sz]
 |r::L,M=>by
  show(r.2-r.1+1).toNat+sz (L++M)=(r.2-r.1+1).toNat+sz L+sz M;rw[pu L M];omega
theorem Ew:∀{L:List Rn}{a:Int}{k:Nat},Ris L->(∀r∈L,a<=r.1/\r.2<a+k)->sz L=nb (has L) a k
 | [],a,k,_,_=>(se (λx _ _=>rfl)).symm
 |r::L,a,k,hL,hb=>by
  have hr:=hL.1 r (by simp)
  obtain⟨e,f⟩:=hb r (by simp)
  have d:=(dd.1 hL.2).1;obtain⟨i,hi⟩:∃i:Nat,(i:Int)=r.1-a:=⟨(r.1-a).toNat,by omega⟩
  obtain⟨j,h⟩:∃j:Nat,(j:Int)=r.2-r.1+1:=⟨(r.2-r.1+1).toNat,by omega⟩
  obtain⟨m,l⟩:∃m:Nat,(m:Int)=a+k-r.2-1:=⟨(a+k-r.2-1).toNat,by omega⟩
  rw[show k=i+j+m by omega,vh,vh]
  rw[se (p:=has (r::L)) (a:=a) (k:=i) (λx b c=>(nj _ _).2 λy hy g=>by
   rcases bQ.1 hy with rfl|hy
   . omega
   . have:=d y hy;omega)]
  rw[AK (p:=has (r::L)) (k:=j) (λx b c=>(has_iff _ _).2 ⟨r,by simp,by omega,by omega⟩)]
  rw[qx (p:=has (r::L)) (q:=has L) (k:=m) (λx b c=>by
   rw[kx,ah (show ¬x<=r.2 by omega)]
   simp)]
  rw[<-Ew (L:=L) hL.tail (λy hy=>by
   have b:=d y hy;have c:=hb y (by simp[hy])
   omega)]
  show(r.2-r.1+1).toNat+sz L=_;omega
structure Spl(L:List Rn)(x y:Int)(A M B:List Rn):Prop where
 eq:L=A++M++B
 a:∀r∈A,r.2<x
 m:∀r∈M,x<=r.2/\r.1<=y
 b:∀r∈B,y<r.1
theorem spl:∀{L:List Rn}(x y:Int),Ris L->x<=y->∃A M B,Spl L x y A M B
 | [],x,y,_,_=>⟨[],[],[],rfl,by simp,by simp,by simp⟩
 |r::L,x,y,hL,hxy=>by
  obtain⟨A,M,B,h⟩:=spl (L:=L) x y hL.tail hxy;have k:=hL.1 r (by simp)
  have c:=(dd.1 hL.2).1;have d:∀z∈L,z.1<=z.2:=λz hz=>hL.1 z (by simp[hz])
  have a:=h.eq;by_cases c1:r.2<x
  . exact⟨r::A,M,B,by rw[a];rfl,λz hz=>by
     rcases bQ.1 hz with rfl|hz
     . exact c1
     . exact h.a z hz,h.m,h.b⟩
  . have e:A=[]:=fB.2 λz hz=>by
     have b:z∈L:=by rw[a];simp[hz]
     have g:=h.a z hz;have i:=c z b;have j:=d z b;omega
    subst e;by_cases c2:r.1<=y
    . exact⟨[],r::M,B,by rw[a];rfl,by simp,λz hz=>by
       rcases bQ.1 hz with rfl|hz
       . exact⟨by omega,c2⟩
       . exact h.m z hz,h.b⟩
    . have f:M=[]:=fB.2 λz hz=>by
       have b:z∈L:=by rw[a];simp[hz]
       have g:=h.m z hz;have i:=c z b;have j:=d z b;omega
      subst f
      exact⟨[],[],r::B,by rw[a];rfl,by simp,by simp,λz hz=>by
       rcases bQ.1 hz with rfl|hz
       . omega
       . exact h.b z hz⟩
theorem jS{A M B:List Rn}{r:Rn}:r∈A++M++B↔r∈A\/r∈M\/r∈B:=by simp
theorem lj{R:Rn->Rn->Prop}{A M B:List Rn}:(A++M++B).Pairwise R↔A.Pairwise R/\M.Pairwise R/\B.Pairwise R/\(∀a∈A,∀m∈M,R a m)/\(∀a∈A,∀b∈B,R a b)/\(∀m∈M,∀b∈B,R m b):=by
 rw[dE,dE];constructor
 . rintro⟨⟨h1,h2,h3⟩,h4,h5⟩;exact⟨h1,h2,h4,h3,λa c b hb=>h5 a (by simp[c]) b hb,λm d b hb=>h5 m (by simp[d]) b hb⟩
 . rintro⟨h1,h2,h4,h3,h5,h6⟩;exact⟨⟨h1,h2,h3⟩,h4,λa c b hb=>(bO.1 c).elim (λh=>h5 a h b hb) (λh=>h6 a h b hb)⟩
theorem ends{M:List Rn}(b:Ris M)(a:M≠[]):∀m∈M,(M.head a).1<=m.1/\m.2<=(M.getLast a).2:=by
 intro m hm;constructor
 . cases M with
   |nil=>exact absurd rfl a
   |cons r M=>
    rcases bQ.1 hm with rfl|hm
    . exact fi _
    . have d:=(dd.1 b.2).1 m hm;have f:=b.1 r (by simp)
      show r.1<=m.1;omega
 . have e:=List.dropLast_concat_getLast a;rw[<-e] at hm;rcases bO.1 hm with hm|hm
   . have c:=b.2;rw[<-e,dE] at c;have d:=c.2.2 m hm _ (aZ.2 rfl);have f:=b.1 _ (List.getLast_mem a);omega
   . rw[aZ] at hm;rw[hm];exact fi _
def kF(M:List Rn)(lo:Int):Int:=match M with| []=>lo|r::_=>min lo r.1
def kB(M:List Rn)(hi:Int):Int:=match M.getLast? with|none=>hi|some r=>max hi r.2
theorem tD{M:List Rn}(a:M≠[])(lo:Int):kF M lo=min lo (M.head a).1:=by
 cases M with
 |nil=>exact absurd rfl a
 |cons r M=>rfl
theorem tC{M:List Rn}(a:M≠[])(hi:Int):kB M hi=max hi (M.getLast a).2:=by
 unfold kB;rw[List.getLast?_eq_some_getLast a]
theorem Fj{L A M B:List Rn}{x y:Int}(j:Can L)(hb:∀r∈L,mn<=r.1/\r.2<=mx)(W:lo<=hi)(R:mn<=lo)(T:hi<=mx)(hx:x=max mn (lo-1))(hy:y=min mx (hi+1))(S:Spl L x y A M B):
 Can (A++[(kF M lo,kB M hi)]++B)/\(∀z,has (A++[(kF M lo,kB M hi)]++B) z=(has L z||(decide (lo<=z)&&decide (z<=hi))))/\
  mn<=kF M lo/\kB M hi<=mx/\kF M lo<=lo/\hi<=kB M hi/\(∀r∈A,r.2+1<kF M lo):=by
 have e:=S.eq;have D:=j.2;rw[e,lj] at D;obtain⟨F,U,G,H,I,V⟩:=D;have d:∀r,r∈A\/r∈M\/r∈B->r∈L:=λr hr=>by rw[e];exact jS.2 hr
 have v:Ris M:=⟨λr hr=>j.1 r (d r (.inr (.inl hr))),U.imp (λh=>by omega)⟩
 have q:∀r∈A,r.2+1<lo:=λr hr=>by
  have n:=S.a r hr;have p:=hb r (d r (.inl hr));have J:=j.1 r (d r (.inl hr));omega
 have C:∀r∈B,hi+1<r.1:=λr hr=>by
  have n:=S.b r hr;have p:=hb r (d r (.inr (.inr hr)));have J:=j.1 r (d r (.inr (.inr hr)));omega
 by_cases i:M=[]
 . subst i;have O:kF [] lo=lo:=rfl;have P:kB [] hi=hi:=rfl;rw[O,P];refine⟨⟨?_,?_⟩,?_,R,T,fi _,fi _,q⟩
   . intro r hr;rcases jS.1 hr with hr|hr|hr
     . exact j.1 r (d r (.inl hr))
     . rw[aZ] at hr;rw[hr];exact W
     . exact j.1 r (d r (.inr (.inr hr)))
   . rw[lj];refine⟨F,by simp,G,?_,I,?_⟩
     . intro a s m c;rw[aZ] at c;rw[c];exact q a s
     . intro m c b t;rw[aZ] at c;rw[c];exact C b t
   . intro z;rw[e,i8,i8,i8,i8,kx];show(has A z||(_&&_||has [] z)||has B z)=_;rw[lG];cases has A z<;>cases has B z<;>simp
 . have E:=ends v i;rw[tD i,tC i];have k:=List.head_mem i;have l:=List.getLast_mem i;obtain⟨m1,m2⟩:=S.m _ k;obtain⟨m3,m4⟩:=S.m _ l;have Z:=hb _ (d _ (.inr (.inl k)));have b2:=hb _ (d _ (.inr (.inl l)));have c1:=v.1 _ k;have c2:=v.1 _ l;have Y:=(E _ l).1;generalize hf:M.head i=f at *;generalize hg:M.getLast i=g at *;refine⟨⟨?_,?_⟩,?_,by omega,by omega,by omega,by omega,?_⟩
   . intro r hr;rcases jS.1 hr with hr|hr|hr
     . exact j.1 r (d r (.inl hr))
     . rw[aZ] at hr;rw[hr];show min lo f.1<=max hi g.2;omega
     . exact j.1 r (d r (.inr (.inr hr)))
   . rw[lj];refine⟨F,by simp,G,?_,I,?_⟩
     . intro a s m c;rw[aZ] at c;rw[c];have n:=q a s;have p:=H a s f k;show a.2+1<min lo f.1;omega
     . intro m c b t;rw[aZ] at c;rw[c];have n:=C b t;have p:=V g l b t;show max hi g.2+1<b.1;omega
   . intro z;rw[e,i8,i8,i8,i8,kx];show(has A z||(decide (min lo f.1<=z)&&decide (z<=max hi g.2)||has [] z)||has B z)=_;rw[lG,fy]
     have X:(decide (min lo f.1<=z)&&decide (z<=max hi g.2))=(has M z||(decide (lo<=z)&&decide (z<=hi))):=by
      rw[dW];simp only[ce,eF,cZ,has_iff];constructor
      . rintro⟨z1,z2⟩;by_cases K:lo<=z
        . by_cases N:z<=hi
          . exact .inr ⟨K,N⟩
          . exact .inl ⟨g,l,by omega,by omega⟩
        . exact .inl ⟨f,k,by omega,by omega⟩
      . rintro(⟨r,hr,z1,z2⟩|⟨z1,z2⟩)
        . have:=E r hr;omega
        . omega
     rw[X];cases has A z<;>cases has B z<;>cases has M z<;>simp
   . intro r hr;have n:=q r hr;have p:=H r hr f k;omega
def lS(M:List Rn)(lo hi:Int):List Rn:=
 (match M with| []=>[]|r::_=>if r.1<lo then [(r.1,lo-1)] else [])++(match M.getLast? with|none=>[]|some r=>if hi<r.2 then [(hi+1,r.2)] else [])
theorem BZ(lo hi:Int):lS [] lo hi=[]:=rfl
theorem sl{M:List Rn}(a:M≠[])(lo hi:Int):lS M lo hi=(if (M.head a).1<lo then [((M.head a).1,lo-1)] else [])++(if hi<(M.getLast a).2 then [(hi+1,(M.getLast a).2)] else []):=by
 unfold lS;rw[List.getLast?_eq_some_getLast a];cases M with
 |nil=>exact absurd rfl a
 |cons r M=>rfl
theorem DT{M:List Rn}{lo hi:Int}(a:M≠[]){r:Rn}(hr:r∈lS M lo hi):(r=((M.head a).1,lo-1)/\(M.head a).1<lo)\/(r=(hi+1,(M.getLast a).2)/\hi<(M.getLast a).2):=by
 rw[sl a,bO] at hr;rcases hr with hr|hr
 . by_cases c:(M.head a).1<lo
   . rw[if_pos c,aZ] at hr;exact .inl ⟨hr,c⟩
   . rw[if_neg c] at hr;cases hr
 . by_cases c:hi<(M.getLast a).2
   . rw[if_pos c,aZ] at hr;exact .inr ⟨hr,c⟩
   . rw[if_neg c] at hr;cases hr
theorem remove_can{L A M B:List Rn}(k:Can L)(hb:∀r∈L,mn<=r.1/\r.2<=mx)(aa:lo<=hi)(S:Spl L lo hi A M B):
 Can (A++lS M lo hi++B)/\(∀z,has (A++lS M lo hi++B) z=(has L z&& !(decide (lo<=z)&&decide (z<=hi))))/\(∀r∈A++lS M lo hi++B,mn<=r.1/\r.2<=mx):=by
 have e:=S.eq;have q:=k.2;rw[e,lj] at q;obtain⟨D,F,G,H,I,J⟩:=q;have i:∀r,r∈A\/r∈M\/r∈B->r∈L:=λr hr=>by rw[e];exact jS.2 hr
 have y:Ris M:=⟨λr hr=>k.1 r (i r (.inr (.inl hr))),F.imp (λh=>by omega)⟩
 have v:∀z,lo<=z->has A z=false:=λz C=>(nj _ _).2 λr hr _=>by have:=S.a r hr;omega
 have x:∀z,z<=hi->has B z=false:=λz C=>(nj _ _).2 λr hr U=>by have:=S.b r hr;omega
 by_cases d:M=[]
 . subst d;rw[BZ,<-e];refine⟨k,λz=>?_,hb⟩
   by_cases c:lo<=z/\z<=hi
   . rw[e,i8,i8,lG,v z c.1,x z c.2];simp
   . have:(decide (lo<=z)&&decide (z<=hi))=false:=by
      rw[eY,dO,dO];omega
     rw[this];simp
 . have E:=ends y d;have l:=List.head_mem d;have n:=List.getLast_mem d;obtain⟨V,W⟩:=S.m _ l;obtain⟨X,Y⟩:=S.m _ n;have j:= @DT M lo hi d;have O:=hb _ (i _ (.inr (.inl l)));have P:=hb _ (i _ (.inr (.inl n)));refine⟨⟨?_,?_⟩,?_,?_⟩
   . intro r hr;rcases jS.1 hr with hr|hr|hr
     . exact k.1 r (i r (.inl hr))
     . rcases j hr with⟨rfl,c⟩|⟨rfl,c⟩
       . show(M.head d).1<=lo-1;omega
       . show hi+1<=(M.getLast d).2;omega
     . exact k.1 r (i r (.inr (.inr hr)))
   . rw[lj];refine⟨D,?_,G,?_,I,?_⟩
     . rw[sl d,dE];refine⟨by split<;>simp,by split<;>simp,?_⟩
       intro a f b g;by_cases c1:(M.head d).1<lo
       . rw[if_pos c1,aZ] at f;by_cases c2:hi<(M.getLast d).2
         . rw[if_pos c2,aZ] at g;rw[f,g];show lo-1+1<hi+1;omega
         . rw[if_neg c2] at g;cases g
       . rw[if_neg c1] at f;cases f
     . intro a f m p;rcases j p with⟨rfl,c⟩|⟨rfl,c⟩
       . exact(H a f (M.head d) l:a.2+1<(M.head d).1)
       . have:=S.a a f;show a.2+1<hi+1;omega
     . intro m p b g;rcases j p with⟨rfl,c⟩|⟨rfl,c⟩
       . have:=S.b b g;show lo-1+1<b.1;omega
       . exact(J (M.getLast d) n b g:(M.getLast d).2+1<b.1)
   . intro z;rw[e,i8,i8,i8,i8]
     have K:has (lS M lo hi) z=(has M z&& !(decide (lo<=z)&&decide (z<=hi))):=by
      rw[dW];simp only[ce,Bool.not_eq_true',eY,dO,has_iff];constructor
      . rintro⟨r,hr,z1,z2⟩;rcases j hr with⟨rfl,c⟩|⟨rfl,c⟩
        . have s:(M.head d).1<=z:=z1;have t:z<=lo-1:=z2;exact⟨⟨_,l,s,by omega⟩,by omega⟩
        . have s:hi+1<=z:=z1;have t:z<=(M.getLast d).2:=z2;exact⟨⟨_,n,by omega,t⟩,by omega⟩
      . rintro⟨⟨r,hr,z1,z2⟩,c⟩;have N:=E r hr;have Z:(lo<=z->hi<z):=by omega
        rw[sl d];by_cases c1:z<lo
        . exact⟨((M.head d).1,lo-1),by simp[show(M.head d).1<lo by omega],by show _<=z;omega,by show z<=lo-1;omega⟩
        . exact⟨(hi+1,(M.getLast d).2),by simp[show hi<(M.getLast d).2 by omega],by show hi+1<=z;omega,by show z<=_;omega⟩
     rw[K];by_cases c1:lo<=z
     . rw[v z c1];by_cases c2:z<=hi
       . rw[x z c2];simp[c1,c2]
       . simp[c1,c2]
     . simp[c1]
   . intro r hr;rcases jS.1 hr with hr|hr|hr
     . exact hb r (i r (.inl hr))
     . have R:=E _ l;have T:=E _ n;rcases j hr with⟨rfl,c⟩|⟨rfl,c⟩
       . show mn<=(M.head d).1/\lo-1<=mx;omega
       . show mn<=hi+1/\(M.getLast d).2<=mx;omega
     . exact hb r (i r (.inr (.inr hr)))
def kr(M:List Rn)(lo hi:Int):List Rn:=M.map λr=>(max lo r.1,min hi r.2)
theorem wg{M:List Rn}(j:lo<=hi)(e:Ris M)(f:∀r∈M,lo<=r.2/\r.1<=hi):Ris (kr M lo hi)/\(∀r∈kr M lo hi,lo<=r.1/\r.2<=hi):=by
 refine⟨⟨?_,?_⟩,?_⟩
 . intro r c;obtain⟨s,d,rfl⟩:=bE.1 c;have g:=f s d;have i:=e.1 s d;show max lo s.1<=min hi s.2;omega
 . unfold kr;rw[fa];exact e.2.imp (λ{a b} h=>by show min hi a.2<max lo b.1;omega)
 . intro r c;obtain⟨s,d,rfl⟩:=bE.1 c;show lo<=max lo s.1/\min hi s.2<=hi;omega
theorem Cx{L A M B:List Rn}(S:Spl L lo hi A M B)(z:Int):has (kr M lo hi) z=(has L z&&(decide (lo<=z)&&decide (z<=hi))):=by
 rw[dW];simp only[ce,cZ,has_iff];constructor
 . rintro⟨r,hr,h1,h2⟩;obtain⟨s,a,rfl⟩:=bE.1 hr;have b:max lo s.1<=z:=h1;have c:z<=min hi s.2:=h2;exact⟨⟨s,by rw[S.eq];exact jS.2 (.inr (.inl a)),by omega,by omega⟩,by omega,by omega⟩
 . rintro⟨⟨r,hr,h1,h2⟩,h3,h4⟩;rw[S.eq] at hr;rcases jS.1 hr with hr|hr|hr
   . have:=S.a r hr;omega
   . exact⟨_,bE.2 ⟨r,hr,rfl⟩,by show max lo r.1<=z;omega,by show z<=min hi r.2;omega⟩
   . have:=S.b r hr;omega
def gap(f:Int)(hi:Int):List Rn->List Rn
 | []=>[(f,hi)]
 |p::P=>(if f<p.1 then [(f,p.1-1)] else [])++(if p.2=hi then [] else gap (p.2+1) hi P)
theorem uO:∀{P:List Rn}{f hi:Int},f<=hi->Ris P->(∀r∈P,f<=r.1/\r.2<=hi)->
 Ris (gap f hi P)/\(∀r∈gap f hi P,f<=r.1/\r.2<=hi)/\(∀z,has (gap f hi P) z=((decide (f<=z)&&decide (z<=hi))&& !has P z))
 | [],f,hi,hle,_,_=>by
   refine⟨⟨?_,by simp[gap]⟩,?_,λz=>?_⟩
   . intro r hr;rw[gap,aZ] at hr;rw[hr];exact hle
   . intro r hr;rw[gap,aZ] at hr;rw[hr];exact⟨fi _,fi _⟩
   . rw[gap,kx,lG];simp
 |p::P,f,hi,hle,hP,hb=>by
  have hp:=hP.1 p (by simp)
  have y:=hb p (by simp)
  have g:=(dd.1 hP.2).1
  have d:∀r∈(if f<p.1 then [(f,p.1-1)] else []),f<p.1/\r=(f,p.1-1):=λr hr=>by
   by_cases c:f<p.1
   . rw[if_pos c,aZ] at hr;exact⟨c,hr⟩
   . rw[if_neg c] at hr;cases hr
  have i:∀z,has (if f<p.1 then [(f,p.1-1)] else []) z=(decide (f<=z)&&decide (z<p.1)):=λz=>by
   by_cases c:f<p.1
   . rw[if_pos c,kx,lG,fy];show(decide (f<=z)&&decide (z<=p.1-1))=_;rw[decide_eq_decide.2 (show z<=p.1-1↔z<p.1 by omega)]
   . rw[if_neg c,lG,dW];simp only[ce,cZ];constructor
     . intro h;cases h
     . omega
  by_cases c:p.2=hi
  . have n:P=[]:=fB.2 λz e=>by
     have j:=g z e;have q:=hb z (by simp[e])
     have A:=hP.1 z (by simp[e])
     omega
    subst n;rw[gap,if_pos c,dr];refine⟨⟨?_,by split<;>simp⟩,?_,λz=>?_⟩
    . intro r hr;obtain⟨c1,rfl⟩:=d r hr;show f<=p.1-1;omega
    . intro r hr;obtain⟨c1,rfl⟩:=d r hr;show f<=f/\p.1-1<=hi;omega
    . rw[i,kx,lG,fy,dW];simp only[ce,Bool.not_eq_true',eY,cZ,dO];omega
  . obtain⟨k,l,t⟩:=uO (P:=P) (f:=p.2+1) (hi:=hi) (by omega) hP.tail (λr hr=>by
     have j:=g r hr;have q:=hb r (by simp[hr])
     omega)
    rw[gap,if_neg c];refine⟨⟨?_,?_⟩,?_,λz=>?_⟩
    . intro r hr;rcases bO.1 hr with hr|hr
      . obtain⟨c1,rfl⟩:=d r hr;show f<=p.1-1;omega
      . exact k.1 r hr
    . rw[dE];refine⟨by split<;>simp,k.2,?_⟩
      intro a s b x;obtain⟨c1,rfl⟩:=d a s;have:=l b x;show p.1-1<b.1;omega
    . intro r hr;rcases bO.1 hr with hr|hr
      . obtain⟨c1,rfl⟩:=d r hr;show f<=f/\p.1-1<=hi;omega
      . have:=l r hr;omega
    . rw[i8,i,t,kx];have v:z<=p.2->has P z=false:=λh=>(nj _ _).2 λr hr j=>by have:=g r hr;omega
      by_cases c1:z<=p.2
      . rw[v c1,dW];simp only[fy,Bool.not_false,Bool.and_true,eF,ce,Bool.not_eq_true',eY,cZ,dO];omega
      . have m:decide (z<=p.2)=false:=ah c1;rw[m,show decide (z<p.1)=false from ah (by omega),show decide (p.2+1<=z)=true from ar (by omega),show decide (f<=z)=true from ar (by omega)]
        simp
end Go.Proofs.YteaogidofpfmmaaGreat.Q
namespace Go.Proofs.YteaogidofpfmmaaGreat.Q
open Tryz
open Go.RowKit
variable {x:Addr}{L:List Rn}{Y:List Value}{b cap g i o:Nat}{S:Nat->Prop}{a:Option Addr}{w w':World}
def Nm(x:Int):Prop:=(-9223372036854775808)<=x/\x<=9223372036854775807
def rcs(r:Rn):Array Value:=#[.int .i64 r.1,.int .i64 r.2]
def Rn.zero:Rn:=(0,0)
theorem pF:(prog.info? 221).map (λi=>(i.zero,i.size,i.bytes))=some (some (.agg (rcs Rn.zero)),2,16):=by kernel_rfl
theorem x9(r:Rn):∀u∈(rcs r).toList,u.oneCell'=true:=by
 intro u c;simp[rcs] at c;rcases c with rfl|rfl<;>rfl
def rc(L:List Rn):List Value:=(L.map λr=>(rcs r).toList).flatten
theorem GU:rc []=[]:=rfl
theorem xZ(r:Rn)(L:List Rn):rc (r::L)=.int .i64 r.1:: .int .i64 r.2::rc L:=by simp[rc,rcs]
theorem iI(L M:List Rn):rc (L++M)=rc L++rc M:=by simp[rc]
theorem iA(L:List Rn):(rc L).length=L.length*2:=by
 induction L with
 |nil=>rfl
 |cons r L ih=>rw[xZ,a7,a7,ih,a7];omega
theorem kj(L:List Rn):∀u∈rc L,u.oneCell'=true:=by
 intro u d;obtain⟨l,c,h⟩:=d7.1 d;obtain⟨r,_,rfl⟩:=bE.1 c;exact x9 r u h
theorem uY(L:List Rn):∀(i:Nat),i<L.length->(rc L)[i*2]?=some (.int .i64 (L.getD i Rn.zero).1)/\(rc L)[i*2+1]?=some (.int .i64 (L.getD i Rn.zero).2):=by
 induction L with
 |nil=>intro i c;simp at c
 |cons r L ih=>
  intro i c;rw[xZ];cases i with
  |zero=>exact⟨rfl,rfl⟩
  |succ i=>
   have h:=ih i (by simpa using c)
   rw[show(i+1)*2=i*2+1+1 by omega,eE,eE,show i*2+1+1+1=i*2+1+1+1 by rfl,eE,eE]
   exact h
def Cs(w:World)(b o:Nat)(C:List Value):Prop:=∀j u,C[j]?=some u->w.cell? ⟨b,o+j,none⟩=some u
theorem Cs.keep{C:List Value}(h:Cs w b o C)(hb:Below w.heap.size w w'):Cs w' b o C:=λj u c=>(hb.cell (p:=⟨b,o+j,none⟩) (block_lt_of_cell (h j u c))).trans (h j u c)
theorem Cs.but{C:List Value}(h:Cs w b o C)(hb:But S w w')(d:¬S b):Cs w' b o C:=λj u c=>(hb.cell (p:=⟨b,o+j,none⟩) (block_lt_of_cell (h j u c)) d).trans (h j u c)
def Vs(w:World)(a:Option Addr)(L:List Rn):Prop:=L=[]\/∃b o,a=some ⟨b,o,none⟩/\Cs w b o (rc L)
theorem Vs.keep(h:Vs w a L)(hb:Below w.heap.size w w'):Vs w' a L:=h.imp id λ⟨b,o,e,c⟩=>⟨b,o,e,c.keep hb⟩
theorem Vs.but(h:Vs w a L)(hb:But S w w')(d:∀x,a=some x->¬S x.block):Vs w' a L:=h.imp id λ⟨b,o,e,c⟩=>⟨b,o,e,c.but hb (d _ e)⟩
theorem Vs.at(h:Vs w a L)(hi:i<L.length):∃b o,a=some ⟨b,o,none⟩/\w.cell? ⟨b,o+i*2,none⟩=some (.int .i64 (L.getD i Rn.zero).1)/\w.cell? ⟨b,o+i*2+1,none⟩=some (.int .i64 (L.getD i Rn.zero).2):=by
 rcases h with rfl|⟨b,o,e,c⟩
 . simp at hi
 . obtain⟨d,f⟩:=uY L i hi;exact⟨b,o,e,c _ _ d,c _ _ f⟩
def jC(w:World)(g:Nat)(C:List Value):Prop:=w.heap[g]?=some (.cells C.toArray 221 (0,0))
theorem jC.but{C:List Value}(h:jC w g C)(hb:But S w w')(c:¬S g):jC w' g C:=hb.same h c
theorem jC.keep{C:List Value}(h:jC w g C)(hb:Below w.heap.size w w'):jC w' g C:=(hb.block g (ae.1 h).1).trans h
theorem jC.lt{C:List Value}(h:jC w g C):g<w.heap.size:=(ae.1 h).1
theorem jC.cs{C:List Value}(h:jC w g C){P X:List Value}(e:C=P++X++Y):Cs w g P.length X:=by
 intro j u c;rw[ai _ _ _ _ _ _ h,e];have d:=(bA.1 c).1;simp only[fL];rw[aR,bP (by omega),eN,db d]
 exact c
def Vw(w:World)(a:Option Addr)(cap:Nat)(L:List Rn):Prop:=w.ownsRow 0 221 2 (.slice a L.length cap) L.length (rc L)
theorem Vw.nil(w:World):Vw w none 0 []:=fH w 0 221 2
theorem Vw.cases(h:Vw w a cap L):(a=none/\cap=0/\L=[])\/
 ∃g Y,a=some ⟨g,0,none⟩/\jC w g (rc L++Y)/\L.length<=cap/\cap<=maxLen/\L.length*2+Y.length=cap*2:=by
 obtain⟨_,d⟩:=h;rcases d with⟨hv,h0⟩|⟨g,cap',cur,hv,_,hg,hn,hm,hs,ht⟩
 . simp only[di] at hv;exact .inl ⟨hv.1,hv.2.2,dz.1 h0⟩
 . simp only[di] at hv;obtain⟨c,_,rfl⟩:=hv;refine .inr ⟨g,cur.toList.drop (L.length*2),c,?_,hn,hm,?_⟩
   . unfold jC;rw[<-ht,fM,Array.toArray_toList];exact hg
   . have e:=Array.length_toList (xs:=cur);rw[dv];omega
theorem Vw.mk(c:jC w g (rc L++Y))(e:L.length<=cap)(d:cap<=maxLen)(f:L.length*2+Y.length=cap*2):Vw w (some ⟨g,0,none⟩) cap L:=
 ⟨iA L,.inr ⟨g,cap,(rc L++Y).toArray,rfl,an _,c,e,d,by simp[iA];omega,by rw[gj,ik (iA L)]⟩⟩
theorem Vw.lt(h:Vw w a cap L)(c:a=some x):x.block<w.heap.size:=by
 rcases h.cases with⟨rfl,_⟩|⟨g,Y,rfl,hg,_⟩
 . cases c
 . cases c;exact hg.lt
theorem Vw.but(h:Vw w a cap L)(hb:But S w w')(c:∀x,a=some x->¬S x.block):Vw w' a cap L:=by
 rcases h.cases with⟨rfl,rfl,rfl⟩|⟨g,Y,rfl,hg,h1,h2,h3⟩
 . exact Vw.nil w'
 . exact Vw.mk (hg.but hb (c _ rfl)) h1 h2 h3
theorem Vw.keep(h:Vw w a cap L)(hb:Below w.heap.size w w'):Vw w' a cap L:=
 h.but (S:=λ_=>False) (But.ofBelow hb) (λ_ _ c=>c)
theorem Vw.vs(h:Vw w a cap L):Vs w a L:=by
 rcases h.cases with⟨rfl,rfl,rfl⟩|⟨g,Y,rfl,hg,h1,h2,h3⟩
 . exact .inl rfl
 . exact .inr ⟨g,0,rfl,hg.cs (P:=[]) (X:=rc L) (Y:=Y) (by simp)⟩
theorem Vw.len(h:Vw w a cap L):L.length<=cap/\cap<=maxLen:=by
 rcases h.cases with⟨rfl,rfl,rfl⟩|⟨g,Y,rfl,hg,h1,h2,h3⟩
 . exact⟨am _,an _⟩
 . exact⟨h1,h2⟩
theorem zB:(prog.info? 221).map (·.size)=some 2:=by kernel_rfl
theorem iD(w:World)(g:Nat)(cur:Array Value):But (λk=>k=g) w (w.setRow g cur):=by
 refine⟨rfl,rfl,rfl,?_,λk _ c=>?_⟩
 . simp[World.setRow]
 . simp only[World.setRow];rw[eW,if_neg (λe=>c e.symm)]
theorem jH(w:World)(B:TypeId)(g d C:Nat)(e:Option Addr)(c m:Nat)(P X Y:List Value)(f:jC w g (P++Y))(h:X.length=Nat.min c d*2)(r:X=[]\/∃b o,e=some ⟨b,o,none⟩/\Cs w b o X)(D:X.length<=Y.length)(q:∀v∈X,v.oneCell'=true):
 ∃w',(Builtin.copy_ #[218,218] B #[.slice (some ⟨g,P.length,none⟩) d C,.slice e c m]).run prog w=.ok (goInt (Nat.min c d)) w'/\jC w' g (P++X++Y.drop X.length)/\But (λk=>k=g) w w':=by
 have l:=run_storeCells_at prog g P.length 221 X 0 (P++Y).toArray w f (by simp;omega) q
 have n:((P++Y).toArray.toList.take (P.length+0)++X++(P++Y).toArray.toList.drop (P.length+0+X.length))=P++X++Y.drop X.length:=by
  rw[gj,dp,ik rfl,List.drop_append,dw (by omega),eN]
  simp
 rw[n] at l;refine⟨_,?_,bu w g _ _ _ _ f,iD w g _⟩;cases hq:prog.info? 221 with
 |none=>have:=zB;simp[hq] at this
 |some i=>
  have t:i.size=2:=by have:=zB;simpa[hq] using this
  have y:(Builtin.firstCells 2 (Nat.min c d) (.slice e c m)).run prog w=.ok X.toArray w:=by
   rcases r with rfl|⟨b,o,rfl,s⟩
   . have p:Nat.min c d=0:=by simp at h;omega
     cases e with
     |none=>rfl
     |some z=>simp[Builtin.firstCells,p,loadCells,loadCellsFrom]
   . have:=run_loadCells_list (P:=prog) w ⟨b,o,none⟩ X (λj v A=>by rw[Addr.add_mid];exact s j v A)
     show(loadCells ⟨b,o,none⟩ (Nat.min c d*2)).run prog w=_;rw[<-h];exact this
  simp[Builtin.copy_,dU underlying218,Builtin.lenOf,sizeOf,typeInfo,hq,t,y,l]
theorem oV(n:Nat):(Builtin.zeroCells (rcs Rn.zero) n).toList=rc (List.replicate n Rn.zero):=by
 apply List.ext_getElem?;intro i;have e:(rcs Rn.zero).size=2:=rfl;simp only[Builtin.zeroCells,Array.toList_map,Array.toList_range,e,ed];by_cases d:i<n*2
 . rw[List.getElem?_range d];have c:=uY (List.replicate n Rn.zero) (i/2) (by simp;omega)
   rcases Nat.mod_two_eq_zero_or_one i with h|h
   . rw[show i=i/2*2 by omega,c.1]
     simp[rcs,show i/2<n by omega]
   . rw[show i=i/2*2+1 by omega,c.2]
     simp[rcs,show i/2<n by omega,Nat.add_mod]
 . rw[ep (by simp;omega),ep (by rw[iA];simp;omega)]
   rfl
theorem rL(w:World)(j:TypeId)(g n c:Nat)(P Y:List Value)(d:jC w g (P++Y))(l:n*2<=Y.length):
 ∃w',(Builtin.clear_ #[218] j #[.slice (some ⟨g,P.length,none⟩) n c]).run prog w=.ok (.tuple #[]) w'/\jC w' g (P++rc (List.replicate n Rn.zero)++Y.drop (n*2))/\But (λk=>k=g) w w':=by
 have e:=run_storeCells_at prog g P.length 221 (rc (List.replicate n Rn.zero)) 0 (P++Y).toArray w d (by simp[iA];omega) (kj _)
 have f:((P++Y).toArray.toList.take (P.length+0)++rc (List.replicate n Rn.zero)++(P++Y).toArray.toList.drop (P.length+0+(rc (List.replicate n Rn.zero)).length))=P++rc (List.replicate n Rn.zero)++Y.drop (n*2):=by
  rw[gj,dp,ik rfl,List.drop_append,dw (by omega),eN,iA,dt]
  simp
 rw[f] at e;cases n with
 |zero=>exact⟨w,by simp[Builtin.clear_,dU underlying218],by simpa[GU] using d,But.refl _ _⟩
 |succ n=>
  refine⟨_,?_,bu w g _ _ _ _ d,iD w g _⟩;have h:(Builtin.zeroCells (Value.agg #[.int .i64 0,.int .i64 0]).cells (n+1)).toList=rc (List.replicate (n+1) Rn.zero):=oV (n+1);simp[Builtin.clear_,dU underlying218,h,e]
theorem ra(w:World)(n:Nat):Below w.heap.size w (w.drewN n):=⟨rfl,rfl,rfl,am _,λ_ _=>rfl⟩
structure St(w:World)(b:Nat)(a:Option Addr)(cap:Nat)(L:List Rn):Prop where
 blk:w.heap[b]?=some (.cells #[.slice a L.length cap] 228 (0,0))
 row:Vw w a cap L
 can:Can L
 bnd:∀r∈L,Nm r.1/\Nm r.2
 len:L.length<=11000000000000
theorem al(w:World)(o:Obj):Below w.heap.size w (w.alloc o):=(Below.refl _ _).alloc (am _) o
theorem St.ne(h:St w b a cap L)(d:a=some x):x.block≠b:=by
 rcases h.row.cases with⟨rfl,_⟩|⟨g,Y,rfl,hg,_⟩
 . cases d
 . cases d;intro e;have c:=h.blk;rw[<-show g=b from e,show w.heap[g]?=_ from hg] at c
   simp at c
theorem St.keep(h:St w b a cap L)(hb:Below w.heap.size w w'):St w' b a cap L:=
 ⟨(hb.block b (ae.1 h.blk).1).trans h.blk,h.row.keep hb,h.can,h.bnd,h.len⟩
theorem St.but(h:St w b a cap L)(hb:But S w w')(d:¬S b)(c:∀x,a=some x->¬S x.block):St w' b a cap L:=
 ⟨hb.same h.blk d,h.row.but hb c,h.can,h.bnd,h.len⟩
theorem St.lt(h:St w b a cap L):b<w.heap.size:=(ae.1 h.blk).1
theorem St.cell(h:St w b a cap L):w.cell? ⟨b,0,none⟩=some (.slice a L.length cap):=by
 rw[ai _ _ _ _ _ _ h.blk];rfl
theorem oH(h:i<L.length):L.getD i Rn.zero∈L:=by simp[h]
theorem rM{n:Int}(c:(-9223372036854775808)<=n)(d:n<=9223372036854775807):IntKind.i64.wrap n=n:=by
 simp[IntKind.wrap,IntKind.bits,IntKind.signed]
 first
  |omega
  |(split<;>omega)
theorem yT(w:World)(x:Int)(j:Nm x):Calls prog 188 #[.int .i64 x] w λe w'=>e=.returned (.int .i64 (max (-9223372036854775808) (x-1)))/\w'=w:=by
 obtain⟨k,l⟩:=j;by_cases d:x=(-9223372036854775808)
 . have h:IntKind.i64.wrap (x-1)=9223372036854775807:=by rw[d];decide
   have m:wrap64 (x-1)=9223372036854775807:=by rw[d];decide +kernel
   have c:max (-9223372036854775808) (x-1)=x:=by omega
   have f:¬9223372036854775807<x:=by omega
   rw[c];clear d c;go_enter func188,ntmps188;go_wp2;go_ret;exact⟨rfl,rfl⟩
 . have h:IntKind.i64.wrap (x-1)=x-1:=rM (by omega) (by omega)
   have c:max (-9223372036854775808) (x-1)=x-1:=by omega
   have f:¬x<=x-1:=by omega
   rw[c];go_enter func188,ntmps188;go_wp2;go_ret;exact⟨rfl,rfl⟩
theorem oF(w:World)(x:Int)(j:Nm x):Calls prog 189 #[.int .i64 x] w λe w'=>e=.returned (.int .i64 (min 9223372036854775807 (x+1)))/\w'=w:=by
 obtain⟨k,l⟩:=j;by_cases d:x=9223372036854775807
 . have h:IntKind.i64.wrap (x+1)=(-9223372036854775808):=by rw[d];decide
   have m:wrap64 (x+1)=(-9223372036854775808):=by rw[d];decide +kernel
   have c:min 9223372036854775807 (x+1)=x:=by omega
   have f:¬x<(-9223372036854775808):=by omega
   rw[c];clear d c;go_enter func189,ntmps189;go_wp2;go_ret;exact⟨rfl,rfl⟩
 . have h:IntKind.i64.wrap (x+1)=x+1:=rM (by omega) (by omega)
   have c:min 9223372036854775807 (x+1)=x+1:=by omega
   have f:¬x+1<=x:=by omega
   rw[c];go_enter func189,ntmps189;go_wp2;go_ret;exact⟨rfl,rfl⟩
theorem mG(w:World)(n:Nat)(g:Nat)(c:Array Value)(p:Nat->Bool)(k:Nat)(hk:k<=n)(m:∀i,i<k->p i=false)(q:∀i,k<=i->i<n->p i=true)(G:n<=11000000000000)
 (F:∀args w,(callFunc g args).run prog w=.ok (.enter g args) w)
 (f:∀i W,i<n->Below w.heap.size w W->Calls prog g (#[.int .i64 ((i:Nat):Int)]++c) W λe w'=>e=.returned (.bool (p i))/\Below W.heap.size W w'):
 Calls prog 200 #[.int .i64 ((n:Nat):Int),.func (.func g) #[] c] w λe w'=>e=.returned (.int .i64 ((k:Nat):Int))/\Below w.heap.size w w':=by
 have C:=ix f;clear f;go_enter func200,ntmps200;go_wp2;go_loopw [5,6] (λi j A=>∃x y:Nat,i=.int .i64 x/\j=.int .i64 y/\x<=k/\k<=y/\y<=n/\Below w.heap.size w A) (λi j _=>(intOf j).toNat-(intOf i).toNat)
 case atStart=>exact⟨0,n,rfl,rfl,an _,hk,am _,Below.refl _ _⟩
 case round=>
  obtain⟨x,y,rfl,rfl,t,v,B,hb⟩:=hrel;by_cases I:x<y
  . go_wp2;obtain⟨h,r⟩:∃h:Nat,h=(x+y)/2:=⟨_,rfl⟩;have d:((x:Int)+(y:Int))/2=(h:Int):=by omega
    rw[d];have D:x<=h:=by omega
    have E:h<y:=by omega
    clear d r;refine(C.o h wr (by omega) hb).mono ?_
    rintro e H ⟨rfl,l⟩;by_cases s:h<k
    . rw[m h s];go_wp2;go_roundw
      case rel=>exact⟨h+1,y,by simp,rfl,by omega,v,B,bt hb l⟩
      case measure=>simp[intOf];omega
    . rw[q h (by omega) (by omega)]
      go_wp2;go_roundw
      case rel=>exact⟨x,h,rfl,rfl,t,by omega,by omega,bt hb l⟩
      case measure=>simp[intOf];omega
  . obtain rfl:x=k:=by omega
    go_wp2;go_ret;exact⟨rfl,hb⟩
theorem uU(w:World)(b d f:Nat)(a:Option Addr)(cap:Nat)(L:List Rn)(h:Int)(i:Nat)(c:St w b a cap L)(c1:w.cell? ⟨d,0,none⟩=some (.pointer (some ⟨b,0,none⟩)))(c2:w.cell? ⟨f,0,none⟩=some (.int .i64 h))(hi:i<L.length):
 Calls prog 201 #[.int .i64 ((i:Nat):Int),.pointer (some ⟨d,0,none⟩),.pointer (some ⟨f,0,none⟩)] w λe w'=>e=.returned (.bool (decide (h<=(L.getD i Rn.zero).2)))/\Below w.heap.size w w':=by
 obtain⟨j,o,rfl,k,l⟩:=c.row.vs.at hi;have m:=c.cell;have n:=c.len;generalize L.getD i Rn.zero=r at *;go_enter func201,ntmps201;go_wp2;go_quiet (fail)
 go_wp2;go_ret;exact⟨rfl,ra _ _⟩
theorem uZ(w:World)(b d f:Nat)(a:Option Addr)(cap:Nat)(L:List Rn)(h:Int)(i:Nat)(c:St w b a cap L)(c1:w.cell? ⟨d,0,none⟩=some (.pointer (some ⟨b,0,none⟩)))(c2:w.cell? ⟨f,0,none⟩=some (.int .i64 h))(hi:i<L.length):
 Calls prog 202 #[.int .i64 ((i:Nat):Int),.pointer (some ⟨d,0,none⟩),.pointer (some ⟨f,0,none⟩)] w λe w'=>e=.returned (.bool (decide (h<(L.getD i Rn.zero).1)))/\Below w.heap.size w w':=by
 obtain⟨j,o,rfl,k,l⟩:=c.row.vs.at hi;have m:=c.cell;have n:=c.len;generalize L.getD i Rn.zero=r at *;go_enter func202,ntmps202;go_wp2;go_quiet (fail)
 go_wp2;go_ret;exact⟨rfl,ra _ _⟩
theorem kT{A M B:List Rn}(i:Nat):(i<A.length->(A++M++B).getD i Rn.zero∈A)/\(A.length<=i->i<A.length+M.length->(A++M++B).getD i Rn.zero∈M)/\(A.length+M.length<=i->i<A.length+M.length+B.length->(A++M++B).getD i Rn.zero∈B):=by
 refine⟨λh=>?_,λc d=>?_,λc d=>?_⟩
 . rw[aR,aM,db h];simp[h]
 . rw[aM,db (by simp;omega),bP c]
   have:i-A.length<M.length:=by omega
   simp[this]
 . rw[aM,bP (by simp;omega)]
   have:i-(A.length+M.length)<B.length:=by omega
   simp[this]
def w3(w:World)(b:Nat)(lo hi:Int):World:=((w.alloc (.cells #[.pointer (some ⟨b,0,none⟩)] 173)).alloc (.cells #[.int .i64 lo] 3)).alloc (.cells #[.int .i64 hi] 3)
theorem qu(w:World)(b:Nat)(c hi:Int):Below w.heap.size w (w3 w b c hi):=bt (bt (al _ _) (al _ _)) (al _ _)
theorem sG(w:World)(b:Nat)(c hi:Int):(w3 w b c hi).heap.size=w.heap.size+1+1+1:=by unfold w3;rw[size_alloc,size_alloc,size_alloc]
theorem iT(w:World)(v:Value)(t:TypeId):(w.alloc (.cells #[v] t)).cell? ⟨w.heap.size,0,none⟩=some v:=by
 rw[ai _ _ _ _ _ _ (ag w _)];rfl
theorem qo(w:World)(b:Nat)(c hi:Int):(w3 w b c hi).cell? ⟨w.heap.size,0,none⟩=some (.pointer (some ⟨b,0,none⟩))/\(w3 w b c hi).cell? ⟨w.heap.size+1,0,none⟩=some (.int .i64 c)/\(w3 w b c hi).cell? ⟨w.heap.size+1+1,0,none⟩=some (.int .i64 hi):=by
 have c1:=iT w (.pointer (some ⟨b,0,none⟩)) 173;have c2:=iT (w.alloc (.cells #[.pointer (some ⟨b,0,none⟩)] 173)) (.int .i64 c) 3;have c3:=iT ((w.alloc (.cells #[.pointer (some ⟨b,0,none⟩)] 173)).alloc (.cells #[.int .i64 c] 3)) (.int .i64 hi) 3;rw[size_alloc] at c2;rw[size_alloc,size_alloc] at c3;refine⟨?_,?_,c3⟩
 . exact((bt (al _ _) (al _ _)).cell (p:=⟨w.heap.size,0,none⟩) (block_lt_of_cell c1)).trans c1
 . exact((al _ _).cell (p:=⟨w.heap.size+1,0,none⟩) (block_lt_of_cell c2)).trans c2
theorem pS(w:World)(b:Nat)(a:Option Addr)(cap:Nat)(L:List Rn)(j hi:Int)(A M B:List Rn)(k:St w b a cap L)(d:Spl L j hi A M B)(ab:j<=hi):
 Calls prog 187 #[.pointer (some ⟨b,0,none⟩),.int .i64 j,.int .i64 hi] w λe w'=>e=.returned (.tuple #[.int .i64 ((A.length:Nat):Int),.int .i64 ((A.length+M.length:Nat):Int)])/\Below w.heap.size w w':=by
 have V:L.length=A.length+M.length+B.length:=by rw[d.eq];simp[gh]
 have P:=k.cell;have F:=k.len;have hb:=k.lt
 have K:=ix λ(W:World)(f h:Nat)(v:St W b a cap L)(c1:W.cell? ⟨f,0,none⟩=some (.pointer (some ⟨b,0,none⟩)))(c2:W.cell? ⟨h,0,none⟩=some (.int .i64 j))=>
  mG W L.length 201 #[.pointer (some ⟨f,0,none⟩),.pointer (some ⟨h,0,none⟩)] (λi=>decide (j<=(L.getD i Rn.zero).2)) A.length (by omega)
   (λi hi=>ah (by have c:=(kT (A:=A) (M:=M) (B:=B) i).1 hi;rw[<-d.eq] at c;have:=d.a _ c;omega))
   (λi r I=>ar (by
     by_cases t:i<A.length+M.length
     . have c:=(kT (A:=A) (M:=M) (B:=B) i).2.1 r t;rw[<-d.eq] at c;exact(d.m _ c).1
     . have c:=(kT (A:=A) (M:=M) (B:=B) i).2.2 (by omega) (by omega);rw[<-d.eq] at c
       have N:=d.b _ c;have O:=k.can.1 _ (oH I);omega)) F (enters_of func201 (by kernel_rfl) rfl)
   (λi s hi l=>uU s b f h a cap L j i (v.keep l) ((l.cell (p:=⟨f,0,none⟩) (block_lt_of_cell c1)).trans c1) ((l.cell (p:=⟨h,0,none⟩) (block_lt_of_cell c2)).trans c2) hi)
 have E:=ix λ(W:World)(f h:Nat)(v:St W b a cap L)(c1:W.cell? ⟨f,0,none⟩=some (.pointer (some ⟨b,0,none⟩)))(c2:W.cell? ⟨h,0,none⟩=some (.int .i64 hi))=>
  mG W L.length 202 #[.pointer (some ⟨f,0,none⟩),.pointer (some ⟨h,0,none⟩)] (λi=>decide (hi<(L.getD i Rn.zero).1)) (A.length+M.length) (by omega)
   (λi r=>ah (by
     by_cases t:i<A.length
     . have c:=(kT (A:=A) (M:=M) (B:=B) i).1 t;rw[<-d.eq] at c;have N:=d.a _ c;have O:=k.can.1 _ (oH (show i<L.length by omega))
       omega
     . have c:=(kT (A:=A) (M:=M) (B:=B) i).2.1 (by omega) r;rw[<-d.eq] at c;have:=(d.m _ c).2;omega))
   (λi r I=>ar (by
     have c:=(kT (A:=A) (M:=M) (B:=B) i).2.2 (by omega) (by omega);rw[<-d.eq] at c;exact d.b _ c)) F (enters_of func202 (by kernel_rfl) rfl)
   (λi s aa l=>uZ s b f h a cap L hi i (v.keep l) ((l.cell (p:=⟨f,0,none⟩) (block_lt_of_cell c1)).trans c1) ((l.cell (p:=⟨h,0,none⟩) (block_lt_of_cell c2)).trans c2) aa)
 have X:=ix k;clear k;obtain⟨H,J⟩:∃H:Nat,H=A.length+M.length:=⟨_,rfl⟩;rw[<-J] at E ⊢;generalize A.length=n0 at *;clear J d V;have q:=qu w b j hi;have R:=sG w b j hi;obtain⟨n,G,y⟩:=qo w b j hi;have C:=(q.cell (p:=⟨b,0,none⟩) hb).trans P;have D:=ix (X.o.keep q);unfold w3 at q R n G y C D;go_enter func187,ntmps187;go_wp2_with fail
 refine(K.o _ _ _ D.o n G).mono ?_;rintro e W1 ⟨rfl,m⟩;have T:=(m.cell (p:=⟨w.heap.size,0,none⟩) (block_lt_of_cell n)).trans n;have U:=(m.cell (p:=⟨w.heap.size+1+1,0,none⟩) (block_lt_of_cell y)).trans y;have m4:=(m.cell (p:=⟨b,0,none⟩) (block_lt_of_cell C)).trans C;go_wp2_with fail
 refine(E.o _ _ _ (D.o.keep m) T U).mono ?_;rintro e W2 ⟨rfl,Z⟩;go_wp2;go_ret2
 exact⟨rfl,bt (bt q m) Z⟩
theorem xy(b:Int):∀(L:List Rn)(a:Int),Can L->(∀r∈L,a<=r.1/\r.2<=b)->a<=b+2->2*(L.length:Int)<=b-a+2
 | [],a,_,_,h=>by
   rw[bg];omega
 |r::L,a,hc,hb,h=>by
  have h1:=hb r (by simp)
  have e:=hc.1 r (by simp)
  have d:=(dd.1 hc.2).1;have f:=xy b L (r.2+2) hc.tail (λx c=>⟨by have:=d x c;omega,(hb x (by simp[c])).2⟩) (by omega)
  rw[a7];omega
end Go.Proofs.YteaogidofpfmmaaGreat.Q
namespace Go.Proofs.YteaogidofpfmmaaGreat.Q
open Tryz
open Go.RowKit Go.Shelf
attribute [local go_sem] Oper.semAt_some
variable {k:Nat}{w:World}
def enR(r:Rn):Array Value:=#[.agg (rcs r)]
theorem mH{α:Type}[Inhabited α](L:List α)(d:α)(h:k<L.length):L=L.take k++L.getD k d::L.drop (k+1):=by
 rw[aM,bX h];simp
theorem lu{α:Type}(L:List α)(d:α)(h:k<L.length):L.take (k+1)=L.take k++[L.getD k d]:=by
 rw[bZ h,aM,bX h];rfl
theorem wQ(w:World)(Bx:Nat)(a:Option Addr)(cap:Nat)(L:List Rn)(f:w.cell? ⟨Bx,0,none⟩=some (.slice a L.length cap))(v:Vs w a L)(O:L.length<=11000000000000):
 uo prog 191 #[.pointer (some ⟨Bx,0,none⟩)] enR L w (λk=>k=Bx\/∃x,a=some x/\x.block=k):=by
 intro l S J P W y t D Z A E;have aa:¬S Bx:=λh=>(t _ h).1 (.inl rfl)
 have K:W.cell? ⟨Bx,0,none⟩=some (.slice a L.length cap):=(y.cell (p:=⟨Bx,0,none⟩) (block_lt_of_cell f) (λh=>h (.inl rfl))).trans f
 have H:Vs W a L:=v.but y (λx m h=>h (.inr ⟨x,m,rfl⟩))
 clear f v;have Y:=ix A;clear A;obtain⟨n,g⟩:∃n:Nat,n=L.length:=⟨_,rfl⟩;have C:=ix g;rw[<-g] at K O;clear g;refine fA func191 rfl trivial ?_ rfl;simp only[ntmps191,cR,a7,bg,Nat.reduceAdd,Nat.reduceSub,cx,cM,dg,c7,b9,b7];gi_wp2
 gi_loopw [7] (λi wr=>∃k:Nat,k<=n/\i=.int .i64 k/\J (L.take k) wr/\But S W wr)
  (λi _=>n-(intOf i).toNat)
 case atStart=>exact⟨0,an _,rfl,E,But.refl _ _⟩
 case round=>
  obtain⟨k,hk,rfl,d,b⟩:=hrel;by_cases M:k<n
  . have c:k<L.length:=by rw[<-C.o];exact M
    have I:Vs wr a L:=H.but b (λx m h=>(t _ h).1 (.inr ⟨x,m,rfl⟩))
    obtain⟨T,o,rfl,U,V⟩:=I.at c;generalize j:L.getD k Rn.zero=r at *;have N:=b.size;obtain⟨X,ac,ad,ab,G,F⟩:=Y.o (L.take k) r (L.drop (k+1)) (wr.alloc (.cells #[.int .i64 r.1,.int .i64 r.2] 221)) (by rw[<-j];exact mH L Rn.zero c) (D _ _ _ d N (But.ofBelow (al _ _))) (by rw[size_alloc];omega)
    simp only[enR,rcs] at G;gi_wp2
    refine⟨rfl,F.mono ?_⟩;have B:But S W (wr.alloc (.cells #[.int .i64 r.1,.int .i64 r.2] 221)):=b.andBelow (al _ _);rintro e R ⟨s,⟨rfl,q⟩|⟨rfl,q⟩⟩
    . gi_wp2
      go_roundw
      case rel=>exact⟨k+1,by omega,by simp,by rw[lu L Rn.zero c,j];exact q,B.trans s (λ_ _ h=>h)⟩
      case measure=>simp[intOf];omega
    . gi_wp2
      refine az (co rfl _ _ _) rfl ?_;exact⟨⟨_,rfl⟩,B.trans s (λ_ _ h=>h),.inr ⟨_,L.drop (k+1),by rw[aR,<-j];exact mH L Rn.zero c,q⟩⟩
  . obtain rfl:k=n:=by omega
    gi_wp2
    go_end0
    exact⟨⟨_,rfl⟩,b,.inl (by rw[C.o,du] at d;exact d)⟩
theorem za(w:World)(a:Option Addr)(n cap:Nat):Calls prog 168 #[.slice a n cap] w λe b=>e=.returned (.func (.func 191) #[] #[.pointer (some ⟨w.heap.size,0,none⟩)])/\b=w.alloc (.cells #[.slice a n cap] 218):=by
 go_enter func168,ntmps168;go_wp2;go_ret;exact⟨rfl,rfl⟩
theorem zt(w:World)(b:Nat)(a hi:Int):Calls prog 197 #[.pointer (some ⟨b,0,none⟩),.int .i64 a,.int .i64 hi] w λe c=>
 e=.returned (.func (.func 218) #[] #[.pointer (some ⟨w.heap.size,0,none⟩),.pointer (some ⟨w.heap.size+1,0,none⟩),.pointer (some ⟨w.heap.size+1+1,0,none⟩)])/\c=w3 w b a hi:=by
 go_enter func197,ntmps197;go_wp2;go_ret;exact⟨rfl,rfl⟩
theorem pZ(M:List Rn)(a hi:Int):(kr M a hi).length=M.length:=by simp[kr]
theorem Bu(M:List Rn)(a hi:Int)(h:k<M.length):(kr M a hi).getD k Rn.zero=(max a (M.getD k Rn.zero).1,min hi (M.getD k Rn.zero).2):=by
 simp[kr,h]
def Inb(b:Nat)(a:Option Addr)(k:Nat):Prop:=k=b\/∃x,a=some x/\x.block=k
theorem Vs.mid{a:Option Addr}{A M B:List Rn}(h:Vs w a (A++M++B))(d:M≠[]):∃b o,a=some ⟨b,o,none⟩/\Vs w (some ⟨b,o+A.length*2,none⟩) M:=by
 rcases h with h|⟨b,o,e,f⟩
 . simp at h;exact absurd h.2.1 d
 . refine⟨b,o,e,.inr ⟨b,o+A.length*2,rfl,λj u c=>?_⟩⟩
   have:=f (A.length*2+j) u (by
    rw[iI,iI,aR,bP (by rw[iA];omega),iA,eN,db (bA.1 c).1]
    exact c)
   rw[<-gh] at this;exact this
theorem zr(w:World)(b g d f:Nat)(a:Option Addr)(cap:Nat)(L A M B:List Rn)(c hi:Int)(hS:St w b a cap L)(E:Spl L c hi A M B)(ay:c<=hi)
 (c1:w.cell? ⟨g,0,none⟩=some (.pointer (some ⟨b,0,none⟩))) (c2:w.cell? ⟨d,0,none⟩=some (.int .i64 c)) (c3:w.cell? ⟨f,0,none⟩=some (.int .i64 hi)):
 uo prog 218 #[.pointer (some ⟨g,0,none⟩),.pointer (some ⟨d,0,none⟩),.pointer (some ⟨f,0,none⟩)] enR (kr M c hi) w (λk=>Inb b a k\/k=g\/k=d\/k=f):=by
 intro aG S J Jx W D hX m aH hY h0;have P:∀k,(Inb b a k\/k=g\/k=d\/k=f)->¬S k:=λk h hs=>(hX _ hs).1 h
 have aa:W.cell? ⟨g,0,none⟩=some (.pointer (some ⟨b,0,none⟩)):=(D.cell (p:=⟨g,0,none⟩) (block_lt_of_cell c1) (λh=>h (.inr (.inl rfl)))).trans c1
 have ab:W.cell? ⟨d,0,none⟩=some (.int .i64 c):=(D.cell (p:=⟨d,0,none⟩) (block_lt_of_cell c2) (λh=>h (.inr (.inr (.inl rfl))))).trans c2
 have ad:W.cell? ⟨f,0,none⟩=some (.int .i64 hi):=(D.cell (p:=⟨f,0,none⟩) (block_lt_of_cell c3) (λh=>h (.inr (.inr (.inr rfl))))).trans c3
 have v:St W b a cap L:=hS.but D (λh=>h (.inl (.inl rfl))) (λx O h=>h (.inl (.inr ⟨x,O,rfl⟩)))
 clear c1 c2 c3 hS D;have aq:=ix hY;clear hY;have C:=ix (pS W b a cap L c hi A M B v E ay);have hL:=ix v;have K:=v.cell;have hl:=v.len;have aj:=v.row.len;have T:L.length=A.length+M.length+B.length:=by rw[E.eq];simp[gh]
 have aM:=ix (show ∀k,k<M.length->c<=(M.getD k Rn.zero).2/\(M.getD k Rn.zero).1<=hi from λk hk=>E.m _ (oH hk))
 have eL:=ix E.eq;clear v E;obtain⟨n,N⟩:∃n:Nat,n=M.length:=⟨_,rfl⟩;obtain⟨j,X⟩:∃n:Nat,n=A.length:=⟨_,rfl⟩;have H:=ix N;have aC:=ix X;rw[<-N,<-X] at T C;obtain⟨nL,ai⟩:∃n:Nat,n=L.length:=⟨_,rfl⟩;rw[<-ai] at T K hl aj;clear ai N X;obtain⟨aW,aE⟩:=aj;unfold maxLen at aE;obtain⟨t,Z⟩:∃av:Nat,av=j+n:=⟨_,rfl⟩;rw[<-Z] at C;have aP:j<=t:=by omega
 have aU:t<=cap:=by omega
 have aD:(t:Int)-(j:Int)=(n:Int):=by omega
 have aF:t-j=n:=by omega
 have aT:j+n<=nL:=by omega
 have ao:=ix Z;clear Z T;refine fA func218 rfl trivial ?_ rfl;simp only[ntmps218,cR,a7,bg,Nat.reduceAdd,Nat.reduceSub,cx,cM,dg,c7,b9,b7];gi_wp2_with fail
 refine⟨trivial,rfl,?_⟩;refine(dc.2 C.o).mono ?_;rintro ar e ⟨rfl,y⟩;have aS:=y.size;have k1:=(y.cell (p:=⟨g,0,none⟩) (block_lt_of_cell aa)).trans aa;have kc:=(y.cell (p:=⟨b,0,none⟩) (block_lt_of_cell K)).trans K;have Y:J [] e:=m _ _ _ h0 (am _) (But.ofBelow y);by_cases hz:n=0
 . subst hz;obtain rfl:t=j:=by have:=ao.o;omega
   clear aD aF ao;have aw:M=[]:=dz.1 H.o.symm;by_cases aN:cap=t
   all_goals
    gi_wp2
    gi_loopw [24] (λi wr=>i=.int .i64 0/\wr=e) (λ_ _=>0)
    case atStart=>exact⟨rfl,rfl⟩
    case round=>
     obtain⟨rfl,rfl⟩:=hrel;gi_wp2
     go_end0
     exact⟨⟨_,rfl⟩,But.ofBelow y,.inl (by rw[aw];exact Y)⟩
 . have ap:0<M.length:=by rw[<-H.o];omega
   obtain⟨bb,o,rfl,_⟩:=Vs.mid (A:=A) (M:=M) (B:=B) (by rw[<-eL.o];exact hL.o.row.vs) (bY.1 ap)
   have aO:¬cap=j:=by omega
   gi_wp2
   gi_loopw [24] (λi wr=>∃k:Nat,k<=n/\i=.int .i64 k/\J ((kr M c hi).take k) wr/\But S W wr)
    (λi _=>n-(intOf i).toNat)
   case atStart=>exact⟨0,an _,rfl,Y,But.ofBelow y⟩
   case round=>
    obtain⟨k,hk,rfl,I,s⟩:=hrel;by_cases aA:k<n
    . have V:k<M.length:=by rw[<-H.o];exact aA
      have ah:=(hL.o.row.vs.but s (λx O h=>P _ (.inl (.inr ⟨x,O,rfl⟩)) h))
      rw[eL.o] at ah;obtain⟨aI,o',l,ax⟩:=ah.mid (bY.1 ap);simp only[au,Addr.mk.injEq,d9] at l;obtain⟨rfl,rfl⟩:=l;obtain⟨b2,o2,e2,d1,d2⟩:=ax.at V;simp only[au,Addr.mk.injEq,d9] at e2;obtain⟨rfl,rfl⟩:=e2;rw[<-aC.o] at d1 d2;have U:k<(kr M c hi).length:=by rw[pZ];exact V
      have G:=Bu M c hi V;have aB:=s.size;have ac:=(s.cell (p:=⟨d,0,none⟩) (block_lt_of_cell ab) (P _ (.inr (.inr (.inl rfl))))).trans ab;have ae:=(s.cell (p:=⟨f,0,none⟩) (block_lt_of_cell ad) (P _ (.inr (.inr (.inr rfl))))).trans ad;generalize hr:M.getD k Rn.zero=r at *;have F:Below wr.heap.size wr (wr.alloc (.cells #[.int .i64 r.1,.int .i64 r.2] 221)):=al _ _;have aK:=(F.cell (p:=⟨d,0,none⟩) (block_lt_of_cell ac)).trans ac;have aL:=(F.cell (p:=⟨f,0,none⟩) (block_lt_of_cell ae)).trans ae;obtain⟨p,hp⟩:∃p,(if c<r.1 then r.1 else c)=p:=⟨_,rfl⟩
      obtain⟨q,hq⟩:∃q,(if r.2<hi then r.2 else hi)=q:=⟨_,rfl⟩
      have af:(max c r.1,min hi r.2)=(p,q):=by rw[<-hp,<-hq];exact Prod.ext (by simp only;split<;>omega) (by simp only;split<;>omega)
      rw[af] at G;obtain⟨fn,aV,aX,aQ,hy,hR⟩:=aq.o ((kr M c hi).take k) (p,q) ((kr M c hi).drop (k+1)) (wr.alloc (.cells #[.int .i64 r.1,.int .i64 r.2] 221)) (by rw[<-G];exact mH _ Rn.zero U) (m _ _ _ I aB (But.ofBelow F)) (by rw[size_alloc];omega)
      simp only[enR,rcs] at hy;have ag:=ix (s.andBelow F);clear hr af;have ak:=ix G;clear G;gi_wp2
      refine⟨rfl,hR.mono ?_⟩;rintro ar W3 ⟨h3,⟨rfl,R⟩|⟨rfl,R⟩⟩
      . gi_wp2
        go_roundw
        case rel=>exact⟨k+1,by omega,by simp,by rw[lu _ Rn.zero U,ak.o];exact R,ag.o.trans h3 (λ_ _ h=>h)⟩
        case measure=>simp[intOf];omega
      . gi_wp2
        refine az (co rfl _ _ _) rfl ?_;exact⟨⟨_,rfl⟩,ag.o.trans h3 (λ_ _ h=>h),.inr ⟨_,(kr M c hi).drop (k+1),by rw[aR,<-ak.o];exact mH _ Rn.zero U,R⟩⟩
    . obtain rfl:k=n:=by omega
      gi_wp2
      go_end0
      exact⟨⟨_,rfl⟩,s,.inl (by rw[H.o,<-pZ M c hi,du] at I;exact I)⟩
def km(f:Int):List Rn->List Rn
 | []=>[]
 |p::P=>(if f<p.1 then [(f,p.1-1)] else [])++km (p.2+1) P
def j5(f:Int):List Rn->Int
 | []=>f
 |p::P=>j5 (p.2+1) P
theorem o7:∀{P:List Rn}(f hi:Int)(R:List Rn),(∀p∈P,p.2≠hi)->gap f hi (P++R)=km f P++gap (j5 f P) hi R
 | [],f,hi,R,_=>rfl
 |p::P,f,hi,R,h=>by
  show(if f<p.1 then [(f,p.1-1)] else [])++(if p.2=hi then [] else gap (p.2+1) hi (P++R))=(if f<p.1 then [(f,p.1-1)] else [])++km (p.2+1) P++gap (j5 (p.2+1) P) hi R
  rw[if_neg (h p (by simp)),o7 (p.2+1) hi R (λq a=>h q (by simp[a])),aR]
theorem rh:∀(P:List Rn)(f:Int)(p:Rn),j5 f (P++[p])=p.2+1
 | [],_,_=>rfl
 |q::P,_,p=>rh P (q.2+1) p
theorem wo:∀(P:List Rn)(f a:Int),a<=f->(∀p∈P,a<=p.2)->a<=j5 f P
 | [],_,_,h,_=>h
 |q::P,_,a,_,h=>wo P (q.2+1) a (by have:=h q (by simp);omega) (λp b=>h p (by simp[b]))
theorem oE:∀(P:List Rn)(f:Int)(p:Rn),km f (P++[p])=km f P++(if j5 f P<p.1 then [(j5 f P,p.1-1)] else [])
 | [],f,p=>by
   show(if f<p.1 then [(f,p.1-1)] else [])++[]=[]++(if f<p.1 then [(f,p.1-1)] else [])
   rw[dr,b9]
 |q::P,f,p=>by
  show(if f<q.1 then [(f,q.1-1)] else [])++km (q.2+1) (P++[p])=_
  rw[oE P (q.2+1) p,<-aR];rfl
theorem DF{P R:List Rn}{f hi:Int}{r:Rn}(h:∀p∈P,p.2≠hi):gap f hi (P++r::R)=km f (P++[r])++(if r.2=hi then [] else gap (r.2+1) hi R):=by
 rw[o7 f hi _ h,gap,oE,aR]
theorem Dj(w:World)(b:Nat)(a hi:Int):Calls prog 186 #[.pointer (some ⟨b,0,none⟩),.int .i64 a,.int .i64 hi] w λe c=>
 e=.returned (.func (.func 199) #[] #[.pointer (some ⟨w.heap.size+1,0,none⟩),.pointer (some ⟨w.heap.size,0,none⟩),.pointer (some ⟨w.heap.size+1+1,0,none⟩)])/\c=w3 w b a hi:=by
 go_enter func186,ntmps186;go_wp2;go_ret;exact⟨rfl,rfl⟩
theorem DJ(w:World)(b I G n:Nat)(a:Option Addr)(cap:Nat)(L A M B:List Rn)(d hi:Int)(hS:St w b a cap L)(C:Spl L d hi A M B)(aF:d<=hi)(av:Nm d)(au:Nm hi)
 (c1:w.cell? ⟨I,0,none⟩=some (.pointer (some ⟨b,0,none⟩))) (c2:w.cell? ⟨G,0,none⟩=some (.int .i64 d)) (c3:w.cell? ⟨n,0,none⟩=some (.int .i64 hi)):
 uo prog 199 #[.pointer (some ⟨G,0,none⟩),.pointer (some ⟨I,0,none⟩),.pointer (some ⟨n,0,none⟩)] enR (gap d hi (kr M d hi)) w (λk=>Inb b a k\/k=I\/k=G\/k=n):=by
 obtain⟨P,hP⟩:∃P,kr M d hi=P:=⟨_,rfl⟩;rw[hP];intro l S J Jx W Z E K an hY h0;have nS:∀k,(Inb b a k\/k=I\/k=G\/k=n)->¬S k:=λk h i=>(E _ i).1 h
 have ao:W.cell? ⟨I,0,none⟩=some (.pointer (some ⟨b,0,none⟩)):=(Z.cell (p:=⟨I,0,none⟩) (block_lt_of_cell c1) (λh=>h (.inr (.inl rfl)))).trans c1
 have s:W.cell? ⟨G,0,none⟩=some (.int .i64 d):=(Z.cell (p:=⟨G,0,none⟩) (block_lt_of_cell c2) (λh=>h (.inr (.inr (.inl rfl))))).trans c2
 have ap:W.cell? ⟨n,0,none⟩=some (.int .i64 hi):=(Z.cell (p:=⟨n,0,none⟩) (block_lt_of_cell c3) (λh=>h (.inr (.inr (.inr rfl))))).trans c3
 have D:St W b a cap L:=hS.but Z (λh=>h (.inl (.inl rfl))) (λx N h=>h (.inl (.inr ⟨x,N,rfl⟩)))
 clear c1 c2 c3 hS Z;have ay:=ix hY;clear hY;have aD:=ix hP;clear hP;obtain⟨y,aa⟩:∃y,(W.alloc (.cells #[.func (.yield l) #[] #[]] 259)).alloc (.cells #[.int .i64 d] 3)=y:=⟨_,rfl⟩;have bb:Below W.heap.size W y:=by rw[<-aa];exact bt (al _ _) (al _ _)
 have aK:y.heap.size=W.heap.size+1+1:=by rw[<-aa,size_alloc,size_alloc]
 have aw:=ix (zt y b d hi);have a1:=(al W (.cells #[.func (.yield l) #[] #[]] 259)).cell (p:=⟨G,0,none⟩) (block_lt_of_cell s) |>.trans s
 have a2:=(bb.cell (p:=⟨I,0,none⟩) (block_lt_of_cell ao)).trans ao;have a3:=(bb.cell (p:=⟨G,0,none⟩) (block_lt_of_cell s)).trans s;have a4:=(bb.cell (p:=⟨n,0,none⟩) (block_lt_of_cell ap)).trans ap;refine dM func199 rfl trivial ?_ rfl;simp only[ntmps199,cR,a7,bg,Nat.reduceAdd,Nat.reduceSub,cx,cM,dg,c7,b9,b7];gi_wp2_with fail
 refine⟨trivial,rfl,?_⟩;refine(dc.2 aw.o).mono ?_;rintro e W1 ⟨rfl,rfl⟩;gi_wp2_with fail
 obtain⟨F,ab⟩:∃F,w3 y b d hi=F:=⟨_,rfl⟩;have kb:Below y.heap.size y F:=by rw[<-ab];exact qu _ _ _ _
 have aW:F.heap.size=W.heap.size+1+1+1+1+1:=by rw[<-ab,sG,aK]
 obtain⟨p1,p2,p3⟩:=qo y b d hi;rw[ab,aK] at p1 p2 p3;rw[ab];have bc:Below W.heap.size W F:=bt bb kb
 have y0:y.cell? ⟨W.heap.size,0,none⟩=some (.func (.yield l) #[] #[]):=by
  rw[<-aa];have c:=iT W (.func (.yield l) #[] #[]) 259;exact((al _ _).cell (p:=⟨W.heap.size,0,none⟩) (block_lt_of_cell c)).trans c
 have f0:y.heap[W.heap.size+1]?=some (.cells #[.int .i64 d] 3 (0,0)):=by
  rw[<-aa];have c:=ag (W.alloc (.cells #[.func (.yield l) #[] #[]] 259)) (.cells #[.int .i64 d] 3);rwa [size_alloc] at c
 have yc:=(kb.cell (p:=⟨W.heap.size,0,none⟩) (block_lt_of_cell y0)).trans y0;have fc:=(kb.block (W.heap.size+1) (ae.1 f0).1).trans f0;have hc:=(kb.cell (p:=⟨n,0,none⟩) (block_lt_of_cell a4)).trans a4;have aI:n<W.heap.size:=block_lt_of_cell ap;have PS:=zr F b (W.heap.size+1+1) (W.heap.size+1+1+1) (W.heap.size+1+1+1+1) a cap L A M B d hi (D.keep bc) C aF p1 p2 p3
 have aH:∀k,Inb b a k->k<W.heap.size:=λk hk=>by
  rcases hk with rfl|⟨x,N,rfl⟩
  . exact D.lt
  . exact D.row.lt N
 have U:=wg (M:=M) aF ⟨λr hr=>D.can.1 r (by rw[C.eq];simp[hr]),by have:=D.can.ris.2;rw[C.eq,lj] at this;exact this.2.1⟩ C.m
 rw[aD.o] at PS U;clear a1 a2 a3 a4 aw p1 p2 p3 ao s aa ab y0 f0 aD C
 refine vV (gf:=218) (lb:=#[.pointer (some ⟨W.heap.size+1+1,0,none⟩),.pointer (some ⟨W.heap.size+1+1+1,0,none⟩),.pointer (some ⟨W.heap.size+1+1+1+1,0,none⟩)]) rfl (enters_of func218 (by kernel_rfl) rfl) PS (But.refl _ _)
  (λk hk=>by
    rcases hk with hk|rfl|rfl|rfl
    . have:=aH k hk;omega
    . omega
    . omega
    . omega) (λ_=>rfl) (λk=>S k\/k=W.heap.size+1)
  (λk hk=>by
    rcases hk with hk|rfl
    . have h1:=(E k hk).2;refine⟨λh=>?_,by omega⟩
      rcases h with h|rfl|rfl|rfl
      . exact(E k hk).1 (.inl h)
      all_goals
       omega
    . refine⟨λh=>?_,by omega⟩
      rcases h with h|h|h|h
      . have:=aH _ h;omega
      . omega
      . omega
      . omega)
  (λpre t=>But (λk=>S k\/k=W.heap.size+1) F t/\J (km d pre) t/\t.heap[W.heap.size+1]?=some (.cells #[.int .i64 (j5 d pre)] 3 (0,0))/\∀p∈pre,p.2≠hi)
  (λc _ t=>c=.ret/\(J (gap d hi P) t\/∃pre H,gap d hi P=pre++H/\Jx pre t))
  (λaM X1 X2 i hn hb=>⟨i.1.trans hb (λx N h=>by omega),K _ _ _ i.2.1 (by omega) (hb.mono λx _ N=>by omega),hb.same i.2.2.1 (by omega),i.2.2.2⟩)
  (λc aM X1 X2 i hn hb=>⟨i.1,i.2.imp (λh=>K _ _ _ h (by omega) (hb.mono λx _ N=>by omega)) (λ⟨pre,H,e,h⟩=>⟨pre,H,e,an _ _ _ h (by omega) (hb.mono λx _ N=>by omega)⟩)⟩)
  ⟨But.refl _ _,K _ _ _ h0 (am _) (But.ofBelow bc),fc,by simp⟩ ?round ?done ?stop
 case round=>
  rintro Y pre x H V T ⟨q,hJ,hf,ac⟩ aU aV;unfold enR rcs;gi_wp2
  refine⟨al _ _,λg h3=>?_⟩
  have nl:W.heap.size+1≠Y:=by omega
  have aX:=q.size;have O:But (λk=>k=Y) V g:=(But.ofBelow (al _ _)).trans h3 (λ_ _ h=>h)
  have f3:g.heap[W.heap.size+1]?=some (.cells #[.int .i64 (j5 d pre)] 3 (0,0)):=O.same hf nl;have aq:g.cell? ⟨W.heap.size+1,0,none⟩=some (.int .i64 (j5 d pre)):=by rw[ai _ _ _ _ _ _ f3];rfl
  have y3:g.cell? ⟨W.heap.size,0,none⟩=some (.func (.yield l) #[] #[]):=by
   have e:=(q.cell (p:=⟨W.heap.size,0,none⟩) (block_lt_of_cell yc) (λh=>h.elim (λh=>fZ _ (E _ h).2) (λh=>Nat.ne_of_lt (Nat.lt_succ_self _) h))).trans yc
   exact(O.cell (p:=⟨W.heap.size,0,none⟩) (block_lt_of_cell e) (by show ¬W.heap.size=Y;omega)).trans e
  have aB:g.cell? ⟨n,0,none⟩=some (.int .i64 hi):=by
   have e:=(q.cell (p:=⟨n,0,none⟩) (block_lt_of_cell hc) (λh=>h.elim (λh=>nS _ (.inr (.inr (.inr rfl))) h) (λh=>Nat.ne_of_lt (Nat.lt_succ_of_lt aI) h))).trans hc
   exact(O.cell (p:=⟨n,0,none⟩) (block_lt_of_cell e) (by show ¬n=Y;omega)).trans e
  have n0:=ag V (.cells #[.int .i64 x.1,.int .i64 x.2] 221);have n3:=h3.same n0 (by omega)
  have n1:g.cell? ⟨V.heap.size,0,none⟩=some (.int .i64 x.1):=by rw[ai _ _ _ _ _ _ n3];rfl
  have n2:g.cell? ⟨V.heap.size,1,none⟩=some (.int .i64 x.2):=by rw[ai _ _ _ _ _ _ n3];rfl
  have J3:J (km d pre) g:=K _ _ _ hJ (by omega) (O.mono λz _ hz=>by omega)
  have rb:=U.2 x (by rw[T];simp)
  have rx:=U.1.1 x (by rw[T];simp)
  have gn:=DF (P:=pre) (R:=H) (f:=d) (hi:=hi) (r:=x) ac;rw[<-T] at gn;have gs:=oE pre d x;have gf:=rh pre d x;have aY:=O.size;have aC:But (λk=>S k\/k=W.heap.size+1) F g:=q.trans O (λz hz h=>by omega)
  have gl:=wo pre d d (fi _) (λp hp=>by have h1:=U.2 p (by rw[T];simp[hp]);have h2:=U.1.1 p (by rw[T];simp[hp]);omega)
  generalize j5 d pre=f at *;clear n0 n3 h3 O;have aO:g.frozen? ⟨W.heap.size+1,0,none⟩=false:=bq _ _ _ _ _ f3
  have up:∀v,But S g v->x.2≠hi->J (km d (pre++[x])) v->But (λk=>S k\/k=W.heap.size+1) g (v.setCell ⟨W.heap.size+1,0,none⟩ (.int .i64 (x.2+1)))/\
   (But (λk=>S k\/k=W.heap.size+1) F (v.setCell ⟨W.heap.size+1,0,none⟩ (.int .i64 (x.2+1)))/\J (km d (pre++[x])) (v.setCell ⟨W.heap.size+1,0,none⟩ (.int .i64 (x.2+1)))/\(v.setCell ⟨W.heap.size+1,0,none⟩ (.int .i64 (x.2+1))).heap[W.heap.size+1]?=some (.cells #[.int .i64 (j5 d (pre++[x]))] 3 (0,0))/\∀p∈pre++[x],p.2≠hi):=λv j aP m=>by
   have b1:But (λk=>S k\/k=W.heap.size+1) g (v.setCell ⟨W.heap.size+1,0,none⟩ (.int .i64 (x.2+1))):=(j.mono (λ_ _ h=>.inl h)).setCell (λ_=>.inr rfl) _
   have f4:=j.same f3 (λh=>il _ (Nat.le_of_lt (E _ h).2))
   refine⟨b1,aC.trans b1 (λ_ _ h=>h),K _ _ _ m (by have:=j.size;omega) ((But.refl _ _).setCell (λ_=>eS _) _),?_,λp hp=>?_⟩
   . rw[aE _ _ _ _ _ _ f4,gf];rfl
   . rcases bO.1 hp with hp|hp
     . exact ac p hp
     . rw[aZ.1 hp];exact aP
  have aL:=ix up;have aS:W.heap.size<=V.heap.size:=by omega
  have af:=ix gn;have aA:=ix gs;have aN:∀{fn aj ak ah R},RoundIn Fence.wide 0 prog l fn aj ak ah g R->RoundIn (Fence.wide.inRound Y) 0 prog l fn aj ak ah g R:=λh=>h
  clear up gn gs gf PS U T ac f3 aC q hJ hf;by_cases g1:f<x.1
  . have i:=aA.o;rw[if_pos g1] at i;obtain⟨fn,aj,ak,ah,hy,hR⟩:=ay.o (km d pre) (f,x.1-1) (if x.2=hi then [] else gap (x.2+1) hi H) g (by rw[af.o,i,aR];rfl) J3 (by omega)
    have aG:=ix i;clear i;simp only[enR,rcs] at hy;have hw:IntKind.i64.wrap (x.1-1)=x.1-1:=rM (by have:=av.1;omega) (by have:=au.2;omega)
    gi_wp2
    refine⟨rfl,(aN hR).mono ?_⟩;rintro e v ⟨j,⟨rfl,m⟩|⟨rfl,m⟩⟩
    . rw[<-aG.o] at m;have c4:=(j.cell (p:=⟨n,0,none⟩) (block_lt_of_cell aB) (nS _ (.inr (.inr (.inr rfl))))).trans aB;have n4:=(j.cell (p:=⟨V.heap.size,1,none⟩) (block_lt_of_cell n2) (λh=>fZ _ (a6 (E _ h).2 aS))).trans n2
      have f4:=(j.cell (p:=⟨W.heap.size+1,0,none⟩) (block_lt_of_cell aq) (λh=>il _ (Nat.le_of_lt (E _ h).2))).trans aq
      have z4:=(j.frozen (p:=⟨W.heap.size+1,0,none⟩) (block_lt_of_cell aq) (λh=>il _ (Nat.le_of_lt (E _ h).2))).trans aO
      by_cases X:x.2=hi
      . gi_wp2
        exact⟨j.mono (λ_ _ h=>.inl h),rfl,.inl (by rw[af.o,if_pos X,dr];exact m)⟩
      . have aQ:IntKind.i64.wrap (x.2+1)=x.2+1:=rM (by have:=av.1;omega) (by have:=au.2;omega)
        gi_wp2
        exact aL.o v j X m
    . gi_wp2
      exact⟨j.mono (λ_ _ h=>.inl h),rfl,.inr ⟨_,(if x.2=hi then [] else gap (x.2+1) hi H),by rw[af.o,aG.o],m⟩⟩
  . have i:=aA.o;rw[if_neg g1,dr] at i;have m:J (km d (pre++[x])) g:=by rw[i];exact J3
    clear i;by_cases X:x.2=hi
    . gi_wp2
      refine⟨λ_ h=>(by cases h),?_⟩
      gi_wp2
      exact⟨But.refl _ _,rfl,.inl (by rw[af.o,if_pos X,dr];exact m)⟩
    . have aQ:IntKind.i64.wrap (x.2+1)=x.2+1:=rM (by have:=av.1;omega) (by have:=au.2;omega)
      gi_wp2
      refine⟨λ_ h=>(by cases h),?_⟩
      gi_wp2
      exact aL.o g (But.refl _ _) X m
 case done=>
  rintro ax t hD ⟨q,hJ,hf,ac⟩ _ hK;have ge:=o7 (P:=P) d hi [] ac;rw[dr] at ge;have sz:=q.size;have fX:t.cell? ⟨W.heap.size+1,0,none⟩=some (.int .i64 (j5 d P)):=by rw[ai _ _ _ _ _ _ hf];rfl
  have yX:=(q.cell (p:=⟨W.heap.size,0,none⟩) (block_lt_of_cell yc) (λh=>h.elim (λh=>fZ _ (E _ h).2) (λh=>Nat.ne_of_lt (Nat.lt_succ_self _) h))).trans yc
  have aT:=(q.cell (p:=⟨n,0,none⟩) (block_lt_of_cell hc) (λh=>h.elim (λh=>nS _ (.inr (.inr (.inr rfl))) h) (λh=>Nat.ne_of_lt (Nat.lt_succ_of_lt aI) h))).trans hc
  obtain⟨fn,aj,ak,ah,hy,hR⟩:=ay.o (km d P) (j5 d P,hi) [] t (by rw[ge];rfl) hJ (by omega)
  simp only[enR,rcs] at hy;have az:=ix (show gap d hi P=km d P++[(j5 d P,hi)] from ge)
  clear ge PS;generalize j5 d P=f at *;gi_wp2
  refine⟨rfl,hR.mono ?_⟩;have ad:But S W t:=(But.ofBelow (S:=S) bc).trans q (λz hz h=>h.elim id (λe=>by omega))
  have nD:¬S ax:=λh=>by have:=(E _ h).2;omega
  rintro e v ⟨j,⟨rfl,m⟩|⟨rfl,m⟩⟩
  . have ar:=j.same hK nD;have s4:=j.size;gi_wp2
    refine⟨by simp,.inl ⟨_,_,rfl,cw ar,?_⟩⟩
    exact⟨_,co rfl _ _ _,⟨_,rfl⟩,(ad.trans j (λ_ _ h=>h)).putObj (λh=>by omega) _,.inl (by rw[az.o];exact K _ _ _ m (by omega) ((But.refl _ _).putObj (λ_=>by omega) _))⟩
  . have ar:=j.same hK nD;have s4:=j.size;gi_wp2
    refine⟨by simp,.inl ⟨_,_,rfl,cw ar,?_⟩⟩
    exact⟨_,co rfl _ _ _,⟨_,rfl⟩,(ad.trans j (λ_ _ h=>h)).putObj (λh=>by omega) _,.inr ⟨_,[],by rw[az.o,dr],an _ _ _ m (by omega) ((But.refl _ _).putObj (λ_=>by omega) _)⟩⟩
 case stop=>
  rintro ax c pre H t hD T ⟨rfl,m⟩ q hK;have ad:But S W t:=(But.ofBelow (S:=S) bc).trans q (λz hz h=>h.elim id (λe=>by omega))
  have sz:=q.size;gi_wp2
  refine⟨by simp,.inl ⟨_,_,rfl,cw hK,?_⟩⟩
  exact⟨_,co rfl _ _ _,⟨_,rfl⟩,ad.putObj (λh=>by omega) _,m.imp (λh=>K _ _ _ h (by omega) ((But.refl _ _).putObj (λ_=>by omega) _)) (λ⟨p,r,e,h⟩=>⟨p,r,e,an _ _ _ h (by omega) ((But.refl _ _).putObj (λ_=>by omega) _)⟩)⟩
def mxi:Nat:=9223372036854775807
theorem oU{a:Func}{p:Tmp}(h:a.results=#[.cell p 3])(tmps:Array Value)(w:World)(g:Nat)(v:Value)(c:tmps.getD p undef=.pointer (some ⟨g,0,none⟩))(b:w.cell? ⟨g,0,none⟩=some v):
 (results a tmps).run prog w=.ok v w:=by
 have d:tmps[p]?.getD undef=.pointer (some ⟨g,0,none⟩):=by simpa using c
 simp[results,h,d,asAddr,loadVar,isAgg3,run_load,b]
theorem setD{p:Addr}{v:Value}(D:Nat)(h:D≠p.block):(w.setCell p v).heap[D]?=w.heap[D]?:=Below.heap_setCell _ _ _ _ h
theorem pQ(w J:World)(gf:Nat)(lb:Array Value)(xs:List Rn)(X:Nat->Prop)(U:uo prog gf lb enR xs J X)(aa:But (λk=>¬X k) J w)(T:∀k,X k->k<w.heap.size/\k<J.heap.size)(eg:∀args w,(callFunc gf args).run prog w=.ok (.enter gf args) w)
 (hb:∀r∈xs,Nm r.1/\Nm r.2/\r.1<=r.2):
 Calls prog 167 #[.func (.func gf) #[] lb] w λe w'=>e=.returned (.int .i64 ((min (sz xs) mxi:Nat):Int))/\Below w.heap.size w w':=by
 obtain⟨q,M⟩:∃q:Nat,min (sz xs) mxi=q:=⟨_,rfl⟩;rw[M];refine(dc (n:=0)).1 ?_;refine dM func167 rfl trivial ?_ rfl;simp only[ntmps167,cR,a7,bg,Nat.reduceAdd,Nat.reduceSub,cx,cM,dg,c7,b9,b7];gi_wp2_with fail
 obtain⟨f,l⟩:∃f,(w.alloc (.cells #[.int .i64 0] 3)).alloc (.cells #[.int .i64 0] 3)=f:=⟨_,rfl⟩;have F:Below w.heap.size w f:=by rw[<-l];exact bt (al _ _) (al _ _)
 have aw:f.heap.size=w.heap.size+1+1:=by rw[<-l,size_alloc,size_alloc]
 have r0:f.heap[w.heap.size]?=some (.cells #[.int .i64 0] 3 (0,0)):=by
  rw[<-l];have c:=ag w (.cells #[.int .i64 0] 3);exact((al _ _).block w.heap.size (ae.1 c).1).trans c
 have n0:f.heap[w.heap.size+1]?=some (.cells #[.int .i64 0] 3 (0,0)):=by
  rw[<-l];have c:=ag (w.alloc (.cells #[.int .i64 0] 3)) (.cells #[.int .i64 0] 3);rwa [size_alloc] at c
 rw[l];clear l;have Y:=ix M;clear M
 refine vV (gf:=gf) (lb:=lb) rfl eg U (aa.andBelow F)
  (λk hk=>by have:=T k hk;omega) (λ_=>rfl) (λk=>k=w.heap.size\/k=w.heap.size+1)
  (λk hk=>⟨λh=>by have:=T k h;omega,by omega⟩)
  (λpre b=>But (λk=>k=w.heap.size\/k=w.heap.size+1) f b/\sz pre<=mxi/\b.heap[w.heap.size]?=some (.cells #[.int .i64 0] 3 (0,0))/\b.heap[w.heap.size+1]?=some (.cells #[.int .i64 ((sz pre:Nat):Int)] 3 (0,0)))
  (λc pre b=>c=.ret/\mxi<=sz pre/\b.heap[w.heap.size]?=some (.cells #[.int .i64 9223372036854775807] 3 (0,0)))
  (λs Z X2 g j hb=>⟨g.1.trans hb (λx hx h=>by omega),g.2.1,hb.same g.2.2.1 (by omega),hb.same g.2.2.2 (by omega)⟩)
  (λc s Z X2 g j hb=>⟨g.1,g.2.1,hb.same g.2.2 (by omega)⟩)
  ⟨But.refl _ _,an _,r0,n0⟩ ?round ?done ?stop
 case round=>
  rintro l' pre x W t C ⟨p,L,i,j⟩ ak am;unfold enR rcs;gi_wp2
  refine⟨al _ _,λa m=>?_⟩
  have ay:=p.size;have A:But (λk=>k=l') t a:=(But.ofBelow (al _ _)).trans m (λ_ _ h=>h)
  have y:=A.same i (by omega)
  have I:=A.same j (by omega)
  have aq:a.cell? ⟨w.heap.size,0,none⟩=some (.int .i64 0):=by rw[ai _ _ _ _ _ _ y];rfl
  have ao:a.cell? ⟨w.heap.size+1,0,none⟩=some (.int .i64 ((sz pre:Nat):Int)):=by rw[ai _ _ _ _ _ _ I];rfl
  have ar:a.frozen? ⟨w.heap.size,0,none⟩=false:=bq _ _ _ _ _ y;have ap:a.frozen? ⟨w.heap.size+1,0,none⟩=false:=bq _ _ _ _ _ I;have R:=ag t (.cells #[.int .i64 x.1,.int .i64 x.2] 221);have H:=m.same R (by omega)
  have m1:a.cell? ⟨t.heap.size,0,none⟩=some (.int .i64 x.1):=by rw[ai _ _ _ _ _ _ H];rfl
  have m2:a.cell? ⟨t.heap.size,1,none⟩=some (.int .i64 x.2):=by rw[ai _ _ _ _ _ _ H];rfl
  obtain⟨⟨x1,x2⟩,⟨x3,x4⟩,x5⟩:=hb x (by rw[C];simp)
  have ac:sz (pre++[x])=sz pre+(x.2-x.1+1).toNat:=by rw[pu];rfl
  have ab:But (λk=>k=w.heap.size\/k=w.heap.size+1) f a:=p.trans A (λz P h=>by omega)
  obtain⟨d,O⟩:∃d:Nat,(d:Int)=x.2-x.1:=⟨(x.2-x.1).toNat,by omega⟩
  have V:sz (pre++[x])=sz pre+d+1:=by omega
  generalize sz pre=s at *;clear R H m A p C ac;unfold mxi at L;have aj:x.2-x.1=(d:Int):=O.symm;have af:(a.setCell ⟨w.heap.size+1,0,none⟩ (.int .i64 ((s:Int)+((d:Int)+1)))).heap[w.heap.size]?=a.heap[w.heap.size]?:=Below.heap_setCell _ _ _ _ (by simp)
  have ah:IntKind.u64.wrap (IntKind.u64.wrap x.2-IntKind.u64.wrap x.1)=(d:Int):=by rw[IntKind.wrap_u64,IntKind.wrap_u64,IntKind.wrap_u64];omega
  have az:(d:Int)<18446744073709551616:=by omega
  have N:=ix V;clear V O;by_cases hg:(9223372036854775807:Int)-(s:Int)<=(d:Int)
  . gi_wp2
    have B:But (λk=>k=w.heap.size\/k=w.heap.size+1) a (a.setCell ⟨w.heap.size,0,none⟩ (.int .i64 9223372036854775807)):=(But.refl _ _).setCell (λ_=>.inl rfl) _
    exact⟨B,rfl,by rw[N.o];unfold mxi;omega,by rw[aE _ _ _ _ _ _ y];rfl⟩
  . gi_wp2
    have B:But (λk=>k=w.heap.size\/k=w.heap.size+1) a (a.setCell ⟨w.heap.size+1,0,none⟩ (.int .i64 ((s:Int)+((d:Int)+1)))):=(But.refl _ _).setCell (λ_=>.inr rfl) _
    refine⟨B,ab.trans B (λ_ _ h=>h),by rw[N.o];unfold mxi;omega,(af.trans y),?_⟩
    rw[aE _ _ _ _ _ _ I,N.o,show((s+d+1:Nat):Int)=(s:Int)+((d:Int)+1) by omega]
    rfl
 case done=>
  rintro D b hD ⟨p,L,i,j⟩ K G;have au:b.cell? ⟨w.heap.size,0,none⟩=some (.int .i64 0):=by rw[ai _ _ _ _ _ _ i];rfl
  have ad:b.cell? ⟨w.heap.size+1,0,none⟩=some (.int .i64 ((sz xs:Nat):Int)):=by rw[ai _ _ _ _ _ _ j];rfl
  have av:b.frozen? ⟨w.heap.size,0,none⟩=false:=bq _ _ _ _ _ i;have v:q=sz xs:=by rw[<-Y.o];exact ee L
  have E:=(But.ofBelow (S:=λ_=>False) F).trans K (λz P h=>by omega)
  have ax:=p.size;rw[<-v] at ad;clear v j U;gi_wp2
  refine⟨by simp,.inl ⟨_,_,rfl,cw ((setD D (by show D≠w.heap.size;omega)).trans G),?_⟩⟩
  refine⟨_,oU rfl _ _ w.heap.size _ rfl ?_,rfl,?_⟩
  . have q1:(b.setCell ⟨w.heap.size,0,none⟩ (.int .i64 (q:Int))).heap[w.heap.size]?=_:=aE _ _ _ _ _ _ i;rw[ai _ _ _ _ _ _ ((dJ (by omega)).trans q1)]
    rfl
  . exact((E.setCell (λh=>absurd h (fZ _)) _).putObj (λh=>by omega) _).below (λ_ _ h=>h)
 case stop=>
  rintro D c pre W b hD C ⟨rfl,h1,i⟩ K G
  have v:(q:Int)=9223372036854775807:=by
   have h2:sz xs=sz pre+sz W:=by rw[C,pu]
   have m:min (sz xs) mxi=mxi:=by omega
   rw[<-Y.o,m];rfl
  have E:=(But.ofBelow (S:=λ_=>False) F).trans K (λz P h=>by omega)
  gi_wp2
  refine⟨by simp,.inl ⟨_,_,rfl,cw G,?_⟩⟩
  refine⟨_,oU rfl _ _ w.heap.size (.int .i64 9223372036854775807) rfl ?_,?_,?_⟩
  . rw[ai _ _ _ _ _ _ ((dJ (by omega)).trans i)]
    rfl
  . rw[v]
  . exact(E.putObj (λh=>by omega) _).below (λ_ _ h=>h)
end Go.Proofs.YteaogidofpfmmaaGreat.Q
