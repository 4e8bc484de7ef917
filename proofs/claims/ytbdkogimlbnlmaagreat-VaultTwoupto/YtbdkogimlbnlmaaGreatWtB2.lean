import Derived.Test.YtbdkogimlbnlmaaGreatWtB0
import Derived.RangeFuncNested
import Derived.RangeFuncBound
import Derived.RangeFuncCalls
import Derived.Shelf.Abstract
import Derived.Shelf.RegionOpen
import Derived.OwnWalkIn
import Derived.TacticsInMore
import Derived.LoopNIn
import Derived.LoopIn
import Derived.Deep.MidRow
import Derived.Laws.IdiomCopy
import Derived.Lib.SliceRun
set_option linter.unusedVariables false
set_option linter.unusedSimpArgs false
set_option maxHeartbeats 4000000
set_option maxRecDepth 10000
namespace Go.Proofs.YtbdkogimlbnlmaaGreat.Q
open Go.RowKit Go.Shelf
variable {S:Nat->Prop}{a w:World}
theorem _root_.Go.Proofs.YtbdkogimlbnlmaaGreat.But.putObj(h:But S a w){l:Nat}(hl:l<a.heap.size->S l)(o:Obj):But S a (w.putObj l o):=
 h.trans (T:=λk=>k=l) ⟨rfl,rfl,rfl,by simp,λk _ hn=>dq (λe=>hn e)⟩ (λx hx e=>by subst e;exact hl hx)
theorem _root_.Go.Proofs.YtbdkogimlbnlmaaGreat.But.same(h:But S a w){k:Nat}{o:Obj}(ho:a.heap[k]?=some o)(hn:¬S k):w.heap[k]?=some o:=
 (h.block k (af.1 ho).1 hn).trans ho
def xw{β:Type}(n:Nat)(J:β->World->Prop):Prop:=∀s A B,J s A->n<=A.heap.size->But (λk=>n<=k) A B->J s B
def Yes{α:Type}(S:Nat->Prop)(J Jx:List α->World->Prop)(pre:List α)(W:World)(e:Ending)(W':World):Prop:=
 But S W W'/\((e=.returned (.bool true)/\J pre W')\/(e=.returned (.bool false)/\Jx pre W'))
def uv{α:Type}(P:Program)(g:Nat)(lb:Array Value)(encs:α->Array Value)(xs:List α)(w:World)(X:Nat->Prop):Prop:=
 ∀(l:Nat)(S:Nat->Prop)(J Jx:List α->World->Prop)(W:World),But (λk=>¬X k) w W->(∀k,S k->¬X k/\k<W.heap.size)->xw W.heap.size J->xw W.heap.size Jx->
  (∀pre x rest W1,xs=pre++x::rest->J pre W1->W.heap.size<=W1.heap.size->YieldAt Fence.wide 0 P l (encs x) W1 (Yes S J Jx (pre++[x]) W1))->
  J [] W->CallsIn Fence.wide 0 P g (#[.func (.yield l) #[] #[]]++lb) W λe W'=>(∃v,e=.returned v)/\But S W W'/\(J xs W'\/∃pre rest,xs=pre++rest/\Jx pre W')
def Ab{α:Type}(S:Nat->Prop)(I:List α->World->Prop)(Ix:Code->List α->World->Prop)(pre:List α)(W:World):Exit->Act->World->Prop
 | .normal,_,W'=>But S W W'/\I pre W'
 | .ret,_,W'=>But S W W'/\Ix .ret pre W'
 | .exit id,_,W'=>But S W W'/\Ix (.exit id) pre W'
 | .goto t,_,W'=>But S W W'/\Ix (.goto t) pre W'
 | .panic _,_,_=>False
 | .outgrown,_,_=>False
theorem tq{P:Program}{α:Type}{g:Operand}{ps:Array Tmp}{assign body:Code}{Q:Exit->Act->World->Prop}{a:Act}{w:World}
 {gf:Nat} {lb:Array Value} (hg:a.eval g=.func (.func gf) #[] lb) (eg:∀args w,(callFunc gf args).run P w=.ok (.enter gf args) w)
 {encs:α->Array Value} {xs:List α} {w0:World} {X:Nat->Prop} (hseq:uv P gf lb encs xs w0 X) (h0X:But (λk=>¬X k) w0 w) (hXw:∀k,X k->k<w.heap.size/\k<w0.heap.size) (hps:∀x,(encs x).size=ps.size)
 (S:Nat->Prop) (hS:∀k,S k->¬X k/\k<w.heap.size) (I:List α->World->Prop) (Ix:Code->List α->World->Prop) (hI:xw w.heap.size I) (hIx:∀c,xw w.heap.size (Ix c)) (h0:I [] w)
 (hround:∀(l:Nat)(pre:List α)(x:α)(rest:List α)(W:World),xs=pre++x::rest->I pre W->w.heap.size<=l->l<W.heap.size->
   assign.wpIn (Fence.wide.inRound l) 0 P (Exit.then (λa₁ W₁=>Below W.heap.size W W₁/\∀W₂,But (λk=>k=l) W₁ W₂->body.wpIn (Fence.wide.inRound l) 0 P (Ab S I Ix (pre++[x]) W₂) a₁ W₂) (λ_ _ _=>False))
    {tmps:=(ps.zip (encs x)).foldl (λt (p,v)=>t.setIfInBounds p v) a.tmps,defers:=[]} W)
 (hdone:∀(D:Nat)(W:World),w.heap.size<=D->I xs W->But S w W->W.heap[D]?=some (.deferred (some []))->Q .normal {a with defers:={target:=.collected D,args:=#[]}::a.defers} W)
 (hstop:∀(D:Nat)(c:Code)(pre rest:List α)(W:World),w.heap.size<=D->xs=pre++rest->Ix c pre W->But S w W->W.heap[D]?=some (.deferred (some []))->c.wpIn Fence.wide 0 P Q {a with defers:={target:=.collected D,args:=#[]}::a.defers} W):
 (Code.rangeFunc g ps assign body).wpIn Fence.wide 0 P Q a w:=by
 refine wpIn_rangeFunc λfn hfn=>?_
 obtain⟨rec,hrec⟩:∃rec:LoopState->Option Code->Loop,rec=λst pe=>{state:=st,pending:=pe,fn,tmps:=a.tmps,params:=ps,assign,body,defers:=w.heap.size}:=⟨_,rfl⟩
 have hen:=run_enterLoop_outer (P:=P) (w:=w) fn a.tmps ps assign body;obtain⟨V,hV⟩:∃V,(w.alloc (.deferred (some []))).alloc (.loop (rec .ready none))=V:=⟨_,rfl⟩;have sV:V.heap.size=w.heap.size+2:=by rw[<-hV,size_alloc,size_alloc]
 have rV:V.heap[w.heap.size+1]?=some (.loop (rec .ready none)):=by
  rw[<-hV];have:=az (w.alloc (.deferred (some []))) (.loop (rec .ready none));rwa [World.size_alloc] at this
 have dV:V.heap[w.heap.size]?=some (.deferred (some [])):=by
  rw[<-hV];exact(Below.heap_alloc _ _ _ (by simp)).trans (az w _)
 have bV:Below w.heap.size w V:=by rw[<-hV];exact bt ((Below.refl _ _).alloc (ai _) _) ((Below.refl _ _).alloc (ai _) _)
 have IV:I [] V:=hI _ _ _ h0 (ai _) (But.ofBelow bV);refine⟨w.heap.size+1,[{target:=.collected w.heap.size,args:=#[]}],V,{target:=.fn (.func gf) lb,args:=#[.func (.yield (w.heap.size+1)) #[] #[]]},V,gf,#[.func (.yield (w.heap.size+1)) #[] #[]]++lb,V,?_,?_,?_,?_,?_,?_⟩
 . rw[<-hV,hrec];exact hen
 . simp only[resolve,hg];simp[go_sem]
 . intro f' _;trivial
 . simp[invoke,go_sem,eg]
 . intro h;cases h
 have step:=hseq (w.heap.size+1) (λk=>S k\/k=w.heap.size+1)
  (λpre W=>I pre W/\W.heap[w.heap.size+1]?=some (.loop (rec .ready none))/\W.heap[w.heap.size]?=some (.deferred (some [])))
  (λpre W=>∃c,Ix c pre W/\W.heap[w.heap.size+1]?=some (.loop (rec .done (some c)))/\W.heap[w.heap.size]?=some (.deferred (some [])))
  V (h0X.andBelow bV)
  (λk hk=>by
    rcases hk with hk|rfl
    . exact⟨(hS k hk).1,by have:=(hS k hk).2;omega⟩
    . exact⟨λhx=>by have:=(hXw _ hx).1;omega,by omega⟩)
  (λs A B hs hn hb=>⟨hI s A B hs.1 (by omega) (hb.mono λx _ hx=>by omega),hb.same hs.2.1 (by omega),hb.same hs.2.2 (by omega)⟩)
  (λs A B hs hn hb=>by
    obtain⟨c,hc,h1,h2⟩:=hs;exact⟨c,hIx c s A B hc (by omega) (hb.mono λx _ hx=>by omega),hb.same h1 (by omega),hb.same h2 (by omega)⟩)
  ?_ ⟨IV,rV,dV⟩
 . refine CallsIn.mono step ?_;rintro e W ⟨⟨v,rfl⟩,hB,⟨hi,hl,hd⟩|⟨pre,rest,hx,c,hi,hl,hd⟩⟩
   . have hBw:But S w W:=((But.ofBelow (S:=S) bV).trans hB (λx hx h=>h.elim id (λe=>by omega)))
     have hput:=λo=>(But.refl (λk=>w.heap.size<=k) W).putObj (l:=w.heap.size+1) (λ_=>by omega) o
     have hen2:=run_endLoop (P:=P) hl (by rw[hrec];simp)
     rw[show(rec .ready none).pending=none by rw[hrec]] at hen2
     refine⟨none,_,hen2,?_⟩;have:=hBw.size;refine hdone w.heap.size _ (ai _) (hI _ _ _ hi this (hput _)) (hBw.putObj (λh=>by omega) _) ?_
     exact(dq (by omega)).trans hd
   . have hBw:But S w W:=((But.ofBelow (S:=S) bV).trans hB (λx hx h=>h.elim id (λe=>by omega)))
     have hput:=λo=>(But.refl (λk=>w.heap.size<=k) W).putObj (l:=w.heap.size+1) (λ_=>by omega) o
     have hen2:=run_endLoop (P:=P) hl (by rw[hrec];simp)
     rw[show(rec .done (some c)).pending=some c by rw[hrec]] at hen2
     refine⟨some c,_,hen2,?_⟩;have:=hBw.size;refine hstop w.heap.size c pre rest _ (ai _) hx (hIx c _ _ _ hi this (hput _)) (hBw.putObj (λh=>by omega) _) ?_
     exact(dq (by omega)).trans hd
 . rintro pre x rest W hx ⟨hi,hl,hd⟩ hW;have hy:=run_yield (P:=P) (args:=encs x) hl (by rw[hrec];exact hps x)
   rw[hrec] at hy;refine⟨fn,_,assign,body,hy,roundIn_of_wpIn hfn (wpIn_mono (hround _ pre x rest W hx hi (by omega) (by omega)) ?_)⟩
   rintro e a₁ W₁ hp;cases e with
   |normal=>
    obtain⟨hb1,hbody⟩:=hp;have hl1:=(hb1.block (w.heap.size+1) (by omega)).trans hl
    have hd1:=(hb1.block w.heap.size (by omega)).trans hd
    refine⟨_,run_beginRound hl1 (by rw[hrec]),?_⟩
    obtain⟨W2,hW2⟩:∃W2,W₁.putObj (w.heap.size+1) (.loop {rec .ready none with state:=.busy})=W2:=⟨_,rfl⟩;have l1:=(af.1 hl1).1;have b12:But (λk=>k=w.heap.size+1) W₁ W2:=by rw[<-hW2];exact(But.refl (λk=>k=w.heap.size+1) _).putObj (λ_=>rfl) _
    have hl2:W2.heap[w.heap.size+1]?=some (.loop {rec .ready none with state:=.busy}):=by rw[<-hW2];exact fO l1
    have hd2:W2.heap[w.heap.size]?=some (.deferred (some [])):=b12.same hd1 (by omega)
    rw[hW2];refine wpIn_mono (hbody W2 b12) ?_
    have fin:∀(jump:Option Code)(W3:World),But S W2 W3->
     ∃W4,(Instr.endRound (w.heap.size+1) jump).run P W3=.ok (.bool jump.isNone) W4/\But (λk=>k=w.heap.size+1) W3 W4/\But (λk=>S k\/k=w.heap.size+1) W W4/\
     W4.heap[w.heap.size+1]?=some (.loop (rec (if jump.isNone then .ready else .done) jump))/\W4.heap[w.heap.size]?=some (.deferred (some [])):=λjump W3 h23=>by
     have nl:¬S (w.heap.size+1):=λh=>by have:=(hS _ h).2;omega
     have nd:¬S w.heap.size:=λh=>by have:=(hS _ h).2;omega
     have hl3:=h23.same hl2 nl;have l3:=(af.1 hl3).1;have hr:=run_endRound (P:=P) jump hl3;have e1:({ ({rec .ready none with state:=.busy}:Loop) with state:=if jump.isNone then .ready else .done,pending:=jump}:Loop)=rec (if jump.isNone then .ready else .done) jump:=by rw[hrec]
     rw[e1] at hr;refine⟨_,hr,(But.refl (λk=>k=w.heap.size+1) _).putObj (λ_=>rfl) _,?_,fO l3,(dq (by omega)).trans (h23.same hd2 nd)⟩
     refine But.putObj ?_ (λ_=>.inr rfl) _
     refine(((But.ofBelow (S:=λk=>S k\/k=w.heap.size+1) hb1).trans b12 (λx _ h=>.inr h)).trans h23 (λx _ h=>.inl h))
    have up:∀{W3 W4:World},But S W2 W3->But (λk=>k=w.heap.size+1) W3 W4->w.heap.size<=W3.heap.size/\But (λk=>w.heap.size<=k) W3 W4:=λ{W3 W4} h23 h34=>by
     refine⟨?_,h34.mono λx _ hx=>by omega⟩
     have h1:=h23.size;have h2:=(af.1 hl2).1;omega
    rintro e a3 W3 hp;cases e with
    |normal=>
     obtain⟨hk3,hi3⟩:=hp;obtain⟨W4,hr,h34,h4,hl4,hd4⟩:=fin none W3 hk3;obtain⟨u1,u2⟩:=up hk3 h34;exact⟨_,_,hr,h4,.inl ⟨rfl,hI _ _ _ hi3 u1 u2,hl4,hd4⟩⟩
    |ret=>
     obtain⟨hk3,hi3⟩:=hp;obtain⟨W4,hr,h34,h4,hl4,hd4⟩:=fin (some .ret) W3 hk3;obtain⟨u1,u2⟩:=up hk3 h34;exact⟨_,_,hr,h4,.inr ⟨rfl,.ret,hIx _ _ _ _ hi3 u1 u2,hl4,hd4⟩⟩
    |exit id=>
     obtain⟨hk3,hi3⟩:=hp;obtain⟨W4,hr,h34,h4,hl4,hd4⟩:=fin (some (.exit id)) W3 hk3;obtain⟨u1,u2⟩:=up hk3 h34;exact⟨_,_,hr,h4,.inr ⟨rfl,.exit id,hIx _ _ _ _ hi3 u1 u2,hl4,hd4⟩⟩
    |goto t=>
     obtain⟨hk3,hi3⟩:=hp;obtain⟨W4,hr,h34,h4,hl4,hd4⟩:=fin (some (.goto t)) W3 hk3;obtain⟨u1,u2⟩:=up hk3 h34;exact⟨_,_,hr,h4,.inr ⟨rfl,.goto t,hIx _ _ _ _ hi3 u1 u2,hl4,hd4⟩⟩
    |panic ch=>exact hp.elim
    |outgrown=>exact hp.elim
   |ret=>exact hp.elim
   |exit id=>exact hp.elim
   |goto t=>exact hp.elim
   |panic ch=>exact hp.elim
   |outgrown=>exact hp.elim
end Go.Proofs.YtbdkogimlbnlmaaGreat.Q
namespace Go.Proofs.YtbdkogimlbnlmaaGreat.Q
variable {hi lo mn mx:Int}
abbrev Rn:=Int×Int
def has(L:List Rn)(x:Int):Bool:=L.any λr=>decide (r.1<=x)&&decide (x<=r.2)
theorem has_iff(L:List Rn)(x:Int):has L x=true↔∃r∈L,r.1<=x/\x<=r.2:=by
 unfold has;rw[List.any_eq_true];simp
theorem lI(L:List Rn)(x:Int):has L x=false↔∀r∈L,r.1<=x->r.2<x:=by
 rw[<-Bool.not_eq_true,has_iff];constructor
 . intro h r hr h1;by_cases h2:x<=r.2
   . exact(h ⟨r,hr,h1,h2⟩).elim
   . omega
 . rintro h ⟨r,hr,h1,h2⟩;have:=h r hr h1;omega
theorem kj(x:Int):has [] x=false:=rfl
theorem jG(r:Rn)(L:List Rn)(x:Int):has (r::L) x=((decide (r.1<=x)&&decide (x<=r.2))||has L x):=rfl
theorem iO(L M:List Rn)(x:Int):has (L++M) x=(has L x||has M x):=by
 unfold has;rw[List.any_append]
def Ris(L:List Rn):Prop:=(∀r∈L,r.1<=r.2)/\L.Pairwise λa b=>a.2<b.1
def Can(L:List Rn):Prop:=(∀r∈L,r.1<=r.2)/\L.Pairwise λa b=>a.2+1<b.1
theorem Can.ris{L:List Rn}(h:Can L):Ris L:=⟨h.1,h.2.imp (λh=>by omega)⟩
theorem Can.nil:Can []:=⟨by simp,by simp⟩
theorem Can.tail{r:Rn}{L:List Rn}(h:Can (r::L)):Can L:=⟨λx hx=>h.1 x (by simp[hx]),(cH.1 h.2).2⟩
theorem Ris.tail{r:Rn}{L:List Rn}(h:Ris (r::L)):Ris L:=⟨λx hx=>h.1 x (by simp[hx]),(cH.1 h.2).2⟩
def nb(p:Int->Bool)(a:Int):Nat->Nat
 |0=>0
 |k+1=>nb p a k+(if p (a+k) then 1 else 0)
theorem vZ(p:Int->Bool)(a:Int)(k:Nat):nb p a (k+1)=nb p a k+(if p (a+k) then 1 else 0):=rfl
theorem tN(p:Int->Bool)(a:Int)(j:Nat):∀k,nb p a (j+k)=nb p a j+nb p (a+j) k
 |0=>rfl
 |k+1=>by
  rw[<-eU,vZ,vZ,tN p a j k,show a+((j+k:Nat):Int)=a+j+k by omega]
  omega
theorem mN{p q:Int->Bool}{a:Int}:∀{k:Nat},(∀x,a<=x->x<a+k->p x=q x)->nb p a k=nb q a k
 |0,_=>rfl
 |k+1,h=>by
  show nb p a k+_=nb q a k+_;rw[mN (k:=k) (λx h1 h2=>h x h1 (by omega)),h (a+k) (by omega) (by omega)]
theorem rC{p:Int->Bool}{a:Int}:∀{k:Nat},(∀x,a<=x->x<a+k->p x=false)->nb p a k=0
 |0,_=>rfl
 |k+1,h=>by
  show nb p a k+_=0;rw[rC (k:=k) (λx h1 h2=>h x h1 (by omega)),h (a+k) (by omega) (by omega)]
  rfl
theorem yH{p:Int->Bool}{a:Int}:∀{k:Nat},(∀x,a<=x->x<a+k->p x=true)->nb p a k=k
 |0,_=>rfl
 |k+1,h=>by
  show nb p a k+_=k+1;rw[yH (k:=k) (λx h1 h2=>h x h1 (by omega)),h (a+k) (by omega) (by omega)]
  rfl
def sz:List Rn->Nat
 | []=>0
 |r::L=>(r.2-r.1+1).toNat+sz L
theorem nR:∀(L M:List Rn),sz (L++M)=sz L+sz M
 | [],M=>by simp[sz]
 |r::L,M=>by
  show(r.2-r.1+1).toNat+sz (L++M)=(r.2-r.1+1).toNat+sz L+sz M;rw[nR L M];omega
theorem wQ:∀{L:List Rn}{a:Int}{k:Nat},Ris L->(∀r∈L,a<=r.1/\r.2<a+k)->sz L=nb (has L) a k
 | [],a,k,_,_=>(rC (λx _ _=>rfl)).symm
 |r::L,a,k,hL,hb=>by
  have hr:=hL.1 r (by simp)
  obtain⟨b1,b2⟩:=hb r (by simp)
  have pL:=(cH.1 hL.2).1;obtain⟨i,hi⟩:∃i:Nat,(i:Int)=r.1-a:=⟨(r.1-a).toNat,by omega⟩
  obtain⟨j,hj⟩:∃j:Nat,(j:Int)=r.2-r.1+1:=⟨(r.2-r.1+1).toNat,by omega⟩
  obtain⟨m,hm⟩:∃m:Nat,(m:Int)=a+k-r.2-1:=⟨(a+k-r.2-1).toNat,by omega⟩
  rw[show k=i+j+m by omega,tN,tN]
  rw[rC (p:=has (r::L)) (a:=a) (k:=i) (λx h1 h2=>(lI _ _).2 λy hy h3=>by
   rcases bT.1 hy with rfl|hy
   . omega
   . have:=pL y hy;omega)]
  rw[yH (p:=has (r::L)) (k:=j) (λx h1 h2=>(has_iff _ _).2 ⟨r,by simp,by omega,by omega⟩)]
  rw[mN (p:=has (r::L)) (q:=has L) (k:=m) (λx h1 h2=>by
   rw[jG,ax (show ¬x<=r.2 by omega)]
   simp)]
  rw[<-wQ (L:=L) hL.tail (λy hy=>by
   have h1:=pL y hy;have h2:=hb y (by simp[hy])
   omega)]
  show(r.2-r.1+1).toNat+sz L=_;omega
structure Spl(L:List Rn)(x y:Int)(A M B:List Rn):Prop where
 eq:L=A++M++B
 a:∀r∈A,r.2<x
 m:∀r∈M,x<=r.2/\r.1<=y
 b:∀r∈B,y<r.1
theorem spl:∀{L:List Rn}(x y:Int),Ris L->x<=y->∃A M B,Spl L x y A M B
 | [],x,y,_,_=>⟨[],[],[],rfl,by simp,by simp,by simp⟩
 |r::L,x,y,hL,hxy=>by
  obtain⟨A,M,B,h⟩:=spl (L:=L) x y hL.tail hxy;have hr:=hL.1 r (by simp)
  have pL:=(cH.1 hL.2).1;have hin:∀z∈L,z.1<=z.2:=λz hz=>hL.1 z (by simp[hz])
  have eL:=h.eq;by_cases c1:r.2<x
  . exact⟨r::A,M,B,by rw[eL];rfl,λz hz=>by
     rcases bT.1 hz with rfl|hz
     . exact c1
     . exact h.a z hz,h.m,h.b⟩
  . have eA:A=[]:=fJ.2 λz hz=>by
     have hzL:z∈L:=by rw[eL];simp[hz]
     have h1:=h.a z hz;have h2:=pL z hzL;have h3:=hin z hzL;omega
    subst eA;by_cases c2:r.1<=y
    . exact⟨[],r::M,B,by rw[eL];rfl,by simp,λz hz=>by
       rcases bT.1 hz with rfl|hz
       . exact⟨by omega,c2⟩
       . exact h.m z hz,h.b⟩
    . have eM:M=[]:=fJ.2 λz hz=>by
       have hzL:z∈L:=by rw[eL];simp[hz]
       have h1:=h.m z hz;have h2:=pL z hzL;have h3:=hin z hzL;omega
      subst eM
      exact⟨[],[],r::B,by rw[eL];rfl,by simp,by simp,λz hz=>by
       rcases bT.1 hz with rfl|hz
       . omega
       . exact h.b z hz⟩
theorem jk{A M B:List Rn}{r:Rn}:r∈A++M++B↔r∈A\/r∈M\/r∈B:=by simp
theorem jR{R:Rn->Rn->Prop}{A M B:List Rn}:(A++M++B).Pairwise R↔A.Pairwise R/\M.Pairwise R/\B.Pairwise R/\(∀a∈A,∀m∈M,R a m)/\(∀a∈A,∀b∈B,R a b)/\(∀m∈M,∀b∈B,R m b):=by
 rw[dh,dh];constructor
 . rintro⟨⟨h1,h2,h3⟩,h4,h5⟩;exact⟨h1,h2,h4,h3,λa ha b hb=>h5 a (by simp[ha]) b hb,λm hm b hb=>h5 m (by simp[hm]) b hb⟩
 . rintro⟨h1,h2,h4,h3,h5,h6⟩;exact⟨⟨h1,h2,h3⟩,h4,λa ha b hb=>(bm.1 ha).elim (λh=>h5 a h b hb) (λh=>h6 a h b hb)⟩
theorem ends{M:List Rn}(hM:Ris M)(h0:M≠[]):∀m∈M,(M.head h0).1<=m.1/\m.2<=(M.getLast h0).2:=by
 intro m hm;constructor
 . cases M with
   |nil=>exact absurd rfl h0
   |cons r M=>
    rcases bT.1 hm with rfl|hm
    . exact eK _
    . have h1:=(cH.1 hM.2).1 m hm;have h2:=hM.1 r (by simp)
      show r.1<=m.1;omega
 . have e:=List.dropLast_concat_getLast h0;rw[<-e] at hm;rcases bm.1 hm with hm|hm
   . have hp:=hM.2;rw[<-e,dh] at hp;have h1:=hp.2.2 m hm _ (aQ.2 rfl);have h2:=hM.1 _ (List.getLast_mem h0);omega
   . rw[aQ] at hm;rw[hm];exact eK _
def jp(M:List Rn)(lo:Int):Int:=match M with| []=>lo|r::_=>min lo r.1
def jo(M:List Rn)(hi:Int):Int:=match M.getLast? with|none=>hi|some r=>max hi r.2
theorem su{M:List Rn}(h0:M≠[])(lo:Int):jp M lo=min lo (M.head h0).1:=by
 cases M with
 |nil=>exact absurd rfl h0
 |cons r M=>rfl
theorem rM{M:List Rn}(h0:M≠[])(hi:Int):jo M hi=max hi (M.getLast h0).2:=by
 unfold jo;rw[List.getLast?_eq_some_getLast h0]
theorem Dm{L A M B:List Rn}{x y:Int}(hL:Can L)(hb:∀r∈L,mn<=r.1/\r.2<=mx)(hle:lo<=hi)(h1:mn<=lo)(h2:hi<=mx)(hx:x=max mn (lo-1))(hy:y=min mx (hi+1))(S:Spl L x y A M B):
 Can (A++[(jp M lo,jo M hi)]++B)/\(∀z,has (A++[(jp M lo,jo M hi)]++B) z=(has L z||(decide (lo<=z)&&decide (z<=hi))))/\
  mn<=jp M lo/\jo M hi<=mx/\jp M lo<=lo/\hi<=jo M hi/\(∀r∈A,r.2+1<jp M lo):=by
 have e:=S.eq;have hp:=hL.2;rw[e,jR] at hp;obtain⟨p1,p2,p3,p4,p5,p6⟩:=hp;have inL:∀r,r∈A\/r∈M\/r∈B->r∈L:=λr hr=>by rw[e];exact jk.2 hr
 have hM:Ris M:=⟨λr hr=>hL.1 r (inL r (.inr (.inl hr))),p2.imp (λh=>by omega)⟩
 have hA:∀r∈A,r.2+1<lo:=λr hr=>by
  have a1:=S.a r hr;have a2:=hb r (inL r (.inl hr));have a3:=hL.1 r (inL r (.inl hr));omega
 have hB:∀r∈B,hi+1<r.1:=λr hr=>by
  have a1:=S.b r hr;have a2:=hb r (inL r (.inr (.inr hr)));have a3:=hL.1 r (inL r (.inr (.inr hr)));omega
 by_cases h0:M=[]
 . subst h0;have e1:jp [] lo=lo:=rfl;have e2:jo [] hi=hi:=rfl;rw[e1,e2];refine⟨⟨?_,?_⟩,?_,h1,h2,eK _,eK _,hA⟩
   . intro r hr;rcases jk.1 hr with hr|hr|hr
     . exact hL.1 r (inL r (.inl hr))
     . rw[aQ] at hr;rw[hr];exact hle
     . exact hL.1 r (inL r (.inr (.inr hr)))
   . rw[jR];refine⟨p1,by simp,p3,?_,p5,?_⟩
     . intro a ha m hm;rw[aQ] at hm;rw[hm];exact hA a ha
     . intro m hm b hb';rw[aQ] at hm;rw[hm];exact hB b hb'
   . intro z;rw[e,iO,iO,iO,iO,jG];show(has A z||(_&&_||has [] z)||has B z)=_;rw[kj];cases has A z<;>cases has B z<;>simp
 . have E:=ends hM h0;rw[su h0,rM h0];have hh:=List.head_mem h0;have hl:=List.getLast_mem h0;obtain⟨m1,m2⟩:=S.m _ hh;obtain⟨m3,m4⟩:=S.m _ hl;have b1:=hb _ (inL _ (.inr (.inl hh)));have b2:=hb _ (inL _ (.inr (.inl hl)));have c1:=hM.1 _ hh;have c2:=hM.1 _ hl;have E1:=(E _ hl).1;generalize hf:M.head h0=f at *;generalize hg:M.getLast h0=g at *;refine⟨⟨?_,?_⟩,?_,by omega,by omega,by omega,by omega,?_⟩
   . intro r hr;rcases jk.1 hr with hr|hr|hr
     . exact hL.1 r (inL r (.inl hr))
     . rw[aQ] at hr;rw[hr];show min lo f.1<=max hi g.2;omega
     . exact hL.1 r (inL r (.inr (.inr hr)))
   . rw[jR];refine⟨p1,by simp,p3,?_,p5,?_⟩
     . intro a ha m hm;rw[aQ] at hm;rw[hm];have a1:=hA a ha;have a2:=p4 a ha f hh;show a.2+1<min lo f.1;omega
     . intro m hm b hb';rw[aQ] at hm;rw[hm];have a1:=hB b hb';have a2:=p6 g hl b hb';show max hi g.2+1<b.1;omega
   . intro z;rw[e,iO,iO,iO,iO,jG];show(has A z||(decide (min lo f.1<=z)&&decide (z<=max hi g.2)||has [] z)||has B z)=_;rw[kj,e8]
     have key:(decide (min lo f.1<=z)&&decide (z<=max hi g.2))=(has M z||(decide (lo<=z)&&decide (z<=hi))):=by
      rw[fk];simp only[bQ,Bool.or_eq_true,bM,has_iff];constructor
      . rintro⟨z1,z2⟩;by_cases d1:lo<=z
        . by_cases d2:z<=hi
          . exact .inr ⟨d1,d2⟩
          . exact .inl ⟨g,hl,by omega,by omega⟩
        . exact .inl ⟨f,hh,by omega,by omega⟩
      . rintro(⟨r,hr,z1,z2⟩|⟨z1,z2⟩)
        . have:=E r hr;omega
        . omega
     rw[key];cases has A z<;>cases has B z<;>cases has M z<;>simp
   . intro r hr;have a1:=hA r hr;have a2:=p4 r hr f hh;omega
def left(M:List Rn)(lo hi:Int):List Rn:=
 (match M with| []=>[]|r::_=>if r.1<lo then [(r.1,lo-1)] else [])++(match M.getLast? with|none=>[]|some r=>if hi<r.2 then [(hi+1,r.2)] else [])
theorem m9(lo hi:Int):left [] lo hi=[]:=rfl
theorem mt{M:List Rn}(h0:M≠[])(lo hi:Int):left M lo hi=(if (M.head h0).1<lo then [((M.head h0).1,lo-1)] else [])++(if hi<(M.getLast h0).2 then [(hi+1,(M.getLast h0).2)] else []):=by
 unfold left;rw[List.getLast?_eq_some_getLast h0];cases M with
 |nil=>exact absurd rfl h0
 |cons r M=>rfl
theorem zy{M:List Rn}{lo hi:Int}(h0:M≠[]){r:Rn}(hr:r∈left M lo hi):(r=((M.head h0).1,lo-1)/\(M.head h0).1<lo)\/(r=(hi+1,(M.getLast h0).2)/\hi<(M.getLast h0).2):=by
 rw[mt h0,bm] at hr;rcases hr with hr|hr
 . by_cases c:(M.head h0).1<lo
   . rw[if_pos c,aQ] at hr;exact .inl ⟨hr,c⟩
   . rw[if_neg c] at hr;cases hr
 . by_cases c:hi<(M.getLast h0).2
   . rw[if_pos c,aQ] at hr;exact .inr ⟨hr,c⟩
   . rw[if_neg c] at hr;cases hr
theorem xq{L A M B:List Rn}(hL:Can L)(hb:∀r∈L,mn<=r.1/\r.2<=mx)(hle:lo<=hi)(S:Spl L lo hi A M B):
 Can (A++left M lo hi++B)/\(∀z,has (A++left M lo hi++B) z=(has L z&& !(decide (lo<=z)&&decide (z<=hi))))/\(∀r∈A++left M lo hi++B,mn<=r.1/\r.2<=mx):=by
 have e:=S.eq;have hp:=hL.2;rw[e,jR] at hp;obtain⟨p1,p2,p3,p4,p5,p6⟩:=hp;have inL:∀r,r∈A\/r∈M\/r∈B->r∈L:=λr hr=>by rw[e];exact jk.2 hr
 have hM:Ris M:=⟨λr hr=>hL.1 r (inL r (.inr (.inl hr))),p2.imp (λh=>by omega)⟩
 have outA:∀z,lo<=z->has A z=false:=λz hz=>(lI _ _).2 λr hr _=>by have:=S.a r hr;omega
 have outB:∀z,z<=hi->has B z=false:=λz hz=>(lI _ _).2 λr hr h1=>by have:=S.b r hr;omega
 by_cases h0:M=[]
 . subst h0;rw[m9,<-e];refine⟨hL,λz=>?_,hb⟩
   by_cases c:lo<=z/\z<=hi
   . rw[e,iO,iO,kj,outA z c.1,outB z c.2];simp
   . have:(decide (lo<=z)&&decide (z<=hi))=false:=by
      rw[eG,dr,dr];omega
     rw[this];simp
 . have E:=ends hM h0;have hh:=List.head_mem h0;have hl:=List.getLast_mem h0;obtain⟨m1,m2⟩:=S.m _ hh;obtain⟨m3,m4⟩:=S.m _ hl;have LM:= @zy M lo hi h0;have b1:=hb _ (inL _ (.inr (.inl hh)));have b2:=hb _ (inL _ (.inr (.inl hl)));refine⟨⟨?_,?_⟩,?_,?_⟩
   . intro r hr;rcases jk.1 hr with hr|hr|hr
     . exact hL.1 r (inL r (.inl hr))
     . rcases LM hr with⟨rfl,c⟩|⟨rfl,c⟩
       . show(M.head h0).1<=lo-1;omega
       . show hi+1<=(M.getLast h0).2;omega
     . exact hL.1 r (inL r (.inr (.inr hr)))
   . rw[jR];refine⟨p1,?_,p3,?_,p5,?_⟩
     . rw[mt h0,dh];refine⟨by split<;>simp,by split<;>simp,?_⟩
       intro a ha b hb';by_cases c1:(M.head h0).1<lo
       . rw[if_pos c1,aQ] at ha;by_cases c2:hi<(M.getLast h0).2
         . rw[if_pos c2,aQ] at hb';rw[ha,hb'];show lo-1+1<hi+1;omega
         . rw[if_neg c2] at hb';cases hb'
       . rw[if_neg c1] at ha;cases ha
     . intro a ha m hm;rcases LM hm with⟨rfl,c⟩|⟨rfl,c⟩
       . exact(p4 a ha (M.head h0) hh:a.2+1<(M.head h0).1)
       . have:=S.a a ha;show a.2+1<hi+1;omega
     . intro m hm b hb';rcases LM hm with⟨rfl,c⟩|⟨rfl,c⟩
       . have:=S.b b hb';show lo-1+1<b.1;omega
       . exact(p6 (M.getLast h0) hl b hb':(M.getLast h0).2+1<b.1)
   . intro z;rw[e,iO,iO,iO,iO]
     have key:has (left M lo hi) z=(has M z&& !(decide (lo<=z)&&decide (z<=hi))):=by
      rw[fk];simp only[bQ,Bool.not_eq_true',eG,dr,has_iff];constructor
      . rintro⟨r,hr,z1,z2⟩;rcases LM hr with⟨rfl,c⟩|⟨rfl,c⟩
        . have z1':(M.head h0).1<=z:=z1;have z2':z<=lo-1:=z2;exact⟨⟨_,hh,z1',by omega⟩,by omega⟩
        . have z1':hi+1<=z:=z1;have z2':z<=(M.getLast h0).2:=z2;exact⟨⟨_,hl,by omega,z2'⟩,by omega⟩
      . rintro⟨⟨r,hr,z1,z2⟩,c⟩;have Er:=E r hr;have nz:(lo<=z->hi<z):=by omega
        rw[mt h0];by_cases c1:z<lo
        . exact⟨((M.head h0).1,lo-1),by simp[show(M.head h0).1<lo by omega],by show _<=z;omega,by show z<=lo-1;omega⟩
        . exact⟨(hi+1,(M.getLast h0).2),by simp[show hi<(M.getLast h0).2 by omega],by show hi+1<=z;omega,by show z<=_;omega⟩
     rw[key];by_cases c1:lo<=z
     . rw[outA z c1];by_cases c2:z<=hi
       . rw[outB z c2];simp[c1,c2]
       . simp[c1,c2]
     . simp[c1]
   . intro r hr;rcases jk.1 hr with hr|hr|hr
     . exact hb r (inL r (.inl hr))
     . have e1:=E _ hh;have e2:=E _ hl;rcases LM hr with⟨rfl,c⟩|⟨rfl,c⟩
       . show mn<=(M.head h0).1/\lo-1<=mx;omega
       . show mn<=hi+1/\(M.getLast h0).2<=mx;omega
     . exact hb r (inL r (.inr (.inr hr)))
def jq(M:List Rn)(lo hi:Int):List Rn:=M.map λr=>(max lo r.1,min hi r.2)
theorem pJ{M:List Rn}(hle:lo<=hi)(hM:Ris M)(hm:∀r∈M,lo<=r.2/\r.1<=hi):Ris (jq M lo hi)/\(∀r∈jq M lo hi,lo<=r.1/\r.2<=hi):=by
 refine⟨⟨?_,?_⟩,?_⟩
 . intro r hr;obtain⟨s,hs,rfl⟩:=bG.1 hr;have h1:=hm s hs;have h2:=hM.1 s hs;show max lo s.1<=min hi s.2;omega
 . unfold jq;rw[gE];exact hM.2.imp (λ{a b} h=>by show min hi a.2<max lo b.1;omega)
 . intro r hr;obtain⟨s,hs,rfl⟩:=bG.1 hr;show lo<=max lo s.1/\min hi s.2<=hi;omega
theorem tT{L A M B:List Rn}(S:Spl L lo hi A M B)(z:Int):has (jq M lo hi) z=(has L z&&(decide (lo<=z)&&decide (z<=hi))):=by
 rw[fk];simp only[bQ,bM,has_iff];constructor
 . rintro⟨r,hr,h1,h2⟩;obtain⟨s,hs,rfl⟩:=bG.1 hr;have h1':max lo s.1<=z:=h1;have h2':z<=min hi s.2:=h2;exact⟨⟨s,by rw[S.eq];exact jk.2 (.inr (.inl hs)),by omega,by omega⟩,by omega,by omega⟩
 . rintro⟨⟨r,hr,h1,h2⟩,h3,h4⟩;rw[S.eq] at hr;rcases jk.1 hr with hr|hr|hr
   . have:=S.a r hr;omega
   . exact⟨_,bG.2 ⟨r,hr,rfl⟩,by show max lo r.1<=z;omega,by show z<=min hi r.2;omega⟩
   . have:=S.b r hr;omega
def gap(f:Int)(hi:Int):List Rn->List Rn
 | []=>[(f,hi)]
 |p::P=>(if f<p.1 then [(f,p.1-1)] else [])++(if p.2=hi then [] else gap (p.2+1) hi P)
theorem tD:∀{P:List Rn}{f hi:Int},f<=hi->Ris P->(∀r∈P,f<=r.1/\r.2<=hi)->
 Ris (gap f hi P)/\(∀r∈gap f hi P,f<=r.1/\r.2<=hi)/\(∀z,has (gap f hi P) z=((decide (f<=z)&&decide (z<=hi))&& !has P z))
 | [],f,hi,hle,_,_=>by
   refine⟨⟨?_,by simp[gap]⟩,?_,λz=>?_⟩
   . intro r hr;rw[gap,aQ] at hr;rw[hr];exact hle
   . intro r hr;rw[gap,aQ] at hr;rw[hr];exact⟨eK _,eK _⟩
   . rw[gap,jG,kj];simp
 |p::P,f,hi,hle,hP,hb=>by
  have hp:=hP.1 p (by simp)
  have bp:=hb p (by simp)
  have pP:=(cH.1 hP.2).1
  have F1:∀r∈(if f<p.1 then [(f,p.1-1)] else []),f<p.1/\r=(f,p.1-1):=λr hr=>by
   by_cases c:f<p.1
   . rw[if_pos c,aQ] at hr;exact⟨c,hr⟩
   . rw[if_neg c] at hr;cases hr
  have H1:∀z,has (if f<p.1 then [(f,p.1-1)] else []) z=(decide (f<=z)&&decide (z<p.1)):=λz=>by
   by_cases c:f<p.1
   . rw[if_pos c,jG,kj,e8];show(decide (f<=z)&&decide (z<=p.1-1))=_;rw[decide_eq_decide.2 (show z<=p.1-1↔z<p.1 by omega)]
   . rw[if_neg c,kj,fk];simp only[bQ,bM];constructor
     . intro h;cases h
     . omega
  by_cases c:p.2=hi
  . have eP:P=[]:=fJ.2 λz hz=>by
     have h1:=pP z hz;have h2:=hb z (by simp[hz])
     have h3:=hP.1 z (by simp[hz])
     omega
    subst eP;rw[gap,if_pos c,cF];refine⟨⟨?_,by split<;>simp⟩,?_,λz=>?_⟩
    . intro r hr;obtain⟨c1,rfl⟩:=F1 r hr;show f<=p.1-1;omega
    . intro r hr;obtain⟨c1,rfl⟩:=F1 r hr;show f<=f/\p.1-1<=hi;omega
    . rw[H1,jG,kj,e8,fk];simp only[bQ,Bool.not_eq_true',eG,bM,dr];omega
  . obtain⟨i1,i2,i3⟩:=tD (P:=P) (f:=p.2+1) (hi:=hi) (by omega) hP.tail (λr hr=>by
     have h1:=pP r hr;have h2:=hb r (by simp[hr])
     omega)
    rw[gap,if_neg c];refine⟨⟨?_,?_⟩,?_,λz=>?_⟩
    . intro r hr;rcases bm.1 hr with hr|hr
      . obtain⟨c1,rfl⟩:=F1 r hr;show f<=p.1-1;omega
      . exact i1.1 r hr
    . rw[dh];refine⟨by split<;>simp,i1.2,?_⟩
      intro a ha b hb';obtain⟨c1,rfl⟩:=F1 a ha;have:=i2 b hb';show p.1-1<b.1;omega
    . intro r hr;rcases bm.1 hr with hr|hr
      . obtain⟨c1,rfl⟩:=F1 r hr;show f<=f/\p.1-1<=hi;omega
      . have:=i2 r hr;omega
    . rw[iO,H1,i3,jG];have hPz:z<=p.2->has P z=false:=λh=>(lI _ _).2 λr hr h1=>by have:=pP r hr;omega
      by_cases c1:z<=p.2
      . rw[hPz c1,fk];simp only[e8,Bool.not_false,Bool.and_true,Bool.or_eq_true,bQ,Bool.not_eq_true',eG,bM,dr];omega
      . have d1:decide (z<=p.2)=false:=ax c1;rw[d1,show decide (z<p.1)=false from ax (by omega),show decide (p.2+1<=z)=true from ay (by omega),show decide (f<=z)=true from ay (by omega)]
        simp
end Go.Proofs.YtbdkogimlbnlmaaGreat.Q
namespace Go.Proofs.YtbdkogimlbnlmaaGreat.Q
open Go.RowKit
variable {x:Addr}{L:List Rn}{Y:List Value}{b cap g i o:Nat}{S:Nat->Prop}{a:Option Addr}{w w':World}
def Nm(x:Int):Prop:=(-9223372036854775808)<=x/\x<=9223372036854775807
def rcs(r:Rn):Array Value:=#[.int .i64 r.1,.int .i64 r.2]
def Rn.zero:Rn:=(0,0)
theorem mj:(Tryz.prog.info? 171).map (λi=>(i.zero,i.size,i.bytes))=some (some (.agg (rcs Rn.zero)),2,16):=by kernel_rfl
theorem wu(r:Rn):∀u∈(rcs r).toList,u.oneCell'=true:=by
 intro u hu;simp[rcs] at hu;rcases hu with rfl|rfl<;>rfl
def rc(L:List Rn):List Value:=(L.map λr=>(rcs r).toList).flatten
theorem Fl:rc []=[]:=rfl
theorem vH(r:Rn)(L:List Rn):rc (r::L)=.int .i64 r.1:: .int .i64 r.2::rc L:=by simp[rc,rcs]
theorem ix(L M:List Rn):rc (L++M)=rc L++rc M:=by simp[rc]
theorem il(L:List Rn):(rc L).length=L.length*2:=by
 induction L with
 |nil=>rfl
 |cons r L ih=>rw[vH,bg,bg,ih,bg];omega
theorem js(L:List Rn):∀u∈rc L,u.oneCell'=true:=by
 intro u hu;obtain⟨l,hl,h⟩:=fW.1 hu;obtain⟨r,_,rfl⟩:=bG.1 hl;exact wu r u h
theorem ut(L:List Rn):∀(i:Nat),i<L.length->(rc L)[i*2]?=some (.int .i64 (L.getD i Rn.zero).1)/\(rc L)[i*2+1]?=some (.int .i64 (L.getD i Rn.zero).2):=by
 induction L with
 |nil=>intro i hi;simp at hi
 |cons r L ih=>
  intro i hi;rw[vH];cases i with
  |zero=>exact⟨rfl,rfl⟩
  |succ i=>
   have h:=ih i (by simpa using hi)
   rw[show(i+1)*2=i*2+1+1 by omega,dU,dU,show i*2+1+1+1=i*2+1+1+1 by rfl,dU,dU]
   exact h
def Cs(w:World)(b o:Nat)(C:List Value):Prop:=∀j u,C[j]?=some u->w.cell? ⟨b,o+j,none⟩=some u
theorem Cs.keep{C:List Value}(h:Cs w b o C)(hb:Below w.heap.size w w'):Cs w' b o C:=λj u hu=>(hb.cell (p:=⟨b,o+j,none⟩) (block_lt_of_cell (h j u hu))).trans (h j u hu)
theorem Cs.but{C:List Value}(h:Cs w b o C)(hb:But S w w')(hn:¬S b):Cs w' b o C:=λj u hu=>(hb.cell (p:=⟨b,o+j,none⟩) (block_lt_of_cell (h j u hu)) hn).trans (h j u hu)
def Vs(w:World)(a:Option Addr)(L:List Rn):Prop:=L=[]\/∃b o,a=some ⟨b,o,none⟩/\Cs w b o (rc L)
theorem Vs.keep(h:Vs w a L)(hb:Below w.heap.size w w'):Vs w' a L:=h.imp id λ⟨b,o,e,hc⟩=>⟨b,o,e,hc.keep hb⟩
theorem Vs.but(h:Vs w a L)(hb:But S w w')(hn:∀x,a=some x->¬S x.block):Vs w' a L:=h.imp id λ⟨b,o,e,hc⟩=>⟨b,o,e,hc.but hb (hn _ e)⟩
theorem Vs.nil(w:World)(a:Option Addr):Vs w a []:=.inl rfl
theorem Vs.at(h:Vs w a L)(hi:i<L.length):∃b o,a=some ⟨b,o,none⟩/\w.cell? ⟨b,o+i*2,none⟩=some (.int .i64 (L.getD i Rn.zero).1)/\w.cell? ⟨b,o+i*2+1,none⟩=some (.int .i64 (L.getD i Rn.zero).2):=by
 rcases h with rfl|⟨b,o,e,hc⟩
 . simp at hi
 . obtain⟨h1,h2⟩:=ut L i hi;exact⟨b,o,e,hc _ _ h1,hc _ _ h2⟩
def i7(w:World)(g:Nat)(C:List Value):Prop:=w.heap[g]?=some (.cells C.toArray 171 (0,0))
theorem i7.but{C:List Value}(h:i7 w g C)(hb:But S w w')(hn:¬S g):i7 w' g C:=hb.same h hn
theorem i7.keep{C:List Value}(h:i7 w g C)(hb:Below w.heap.size w w'):i7 w' g C:=(hb.block g (af.1 h).1).trans h
theorem i7.lt{C:List Value}(h:i7 w g C):g<w.heap.size:=(af.1 h).1
theorem i7.cs{C:List Value}(h:i7 w g C){P X:List Value}(e:C=P++X++Y):Cs w g P.length X:=by
 intro j u hu;rw[au _ _ _ _ _ _ h,e];have hj:=(bz.1 hu).1;simp only[eW];rw[aR,bj (by omega),fa,br hj]
 exact hu
def Vw(w:World)(a:Option Addr)(cap:Nat)(L:List Rn):Prop:=w.ownsRow 0 171 2 (.slice a L.length cap) L.length (rc L)
theorem Vw.nil(w:World):Vw w none 0 []:=e7 w 0 171 2
theorem Vw.cases(h:Vw w a cap L):(a=none/\cap=0/\L=[])\/
 ∃g Y,a=some ⟨g,0,none⟩/\i7 w g (rc L++Y)/\L.length<=cap/\cap<=maxLen/\L.length*2+Y.length=cap*2:=by
 obtain⟨_,h2⟩:=h;rcases h2 with⟨hv,h0⟩|⟨g,cap',cur,hv,_,hg,hn,hm,hs,ht⟩
 . simp only[bE] at hv;exact .inl ⟨hv.1,hv.2.2,bY.1 h0⟩
 . simp only[bE] at hv;obtain⟨h1,_,rfl⟩:=hv;refine .inr ⟨g,cur.toList.drop (L.length*2),h1,?_,hn,hm,?_⟩
   . unfold i7;rw[<-ht,cR,gU];exact hg
   . have hl:=Array.length_toList (xs:=cur);rw[di];omega
theorem Vw.mk(hg:i7 w g (rc L++Y))(hn:L.length<=cap)(hm:cap<=maxLen)(hs:L.length*2+Y.length=cap*2):Vw w (some ⟨g,0,none⟩) cap L:=
 ⟨il L,.inr ⟨g,cap,(rc L++Y).toArray,rfl,aF _,hg,hn,hm,by simp[il];omega,by rw[fF,eZ (il L)]⟩⟩
theorem Vw.lt(h:Vw w a cap L)(hx:a=some x):x.block<w.heap.size:=by
 rcases h.cases with⟨rfl,_⟩|⟨g,Y,rfl,hg,_⟩
 . cases hx
 . cases hx;exact hg.lt
theorem Vw.but(h:Vw w a cap L)(hb:But S w w')(hn:∀x,a=some x->¬S x.block):Vw w' a cap L:=by
 rcases h.cases with⟨rfl,rfl,rfl⟩|⟨g,Y,rfl,hg,h1,h2,h3⟩
 . exact Vw.nil w'
 . exact Vw.mk (hg.but hb (hn _ rfl)) h1 h2 h3
theorem Vw.keep(h:Vw w a cap L)(hb:Below w.heap.size w w'):Vw w' a cap L:=
 h.but (S:=λ_=>False) (But.ofBelow hb) (λ_ _ hf=>hf)
theorem Vw.vs(h:Vw w a cap L):Vs w a L:=by
 rcases h.cases with⟨rfl,rfl,rfl⟩|⟨g,Y,rfl,hg,h1,h2,h3⟩
 . exact .inl rfl
 . exact .inr ⟨g,0,rfl,hg.cs (P:=[]) (X:=rc L) (Y:=Y) (by simp)⟩
theorem Vw.len(h:Vw w a cap L):L.length<=cap/\cap<=maxLen:=by
 rcases h.cases with⟨rfl,rfl,rfl⟩|⟨g,Y,rfl,hg,h1,h2,h3⟩
 . exact⟨ai _,aF _⟩
 . exact⟨h1,h2⟩
theorem yf:(Tryz.prog.info? 171).map (·.size)=some 2:=by kernel_rfl
theorem iK(w:World)(g:Nat)(cur:Array Value):But (λk=>k=g) w (w.setRow g cur):=by
 refine⟨rfl,rfl,rfl,?_,λk _ hn=>?_⟩
 . simp[World.setRow]
 . simp only[World.setRow];rw[fj,if_neg (λe=>hn e.symm)]
theorem jb(w:World)(ty:TypeId)(g dLen dCap:Nat)(sa:Option Addr)(sLen sCap:Nat)(P X Y:List Value)(hg:i7 w g (P++Y))(hn:X.length=Nat.min sLen dLen*2)(hX:X=[]\/∃b o,sa=some ⟨b,o,none⟩/\Cs w b o X)(hfit:X.length<=Y.length)(h1:∀v∈X,v.oneCell'=true):
 ∃w',(Builtin.copy_ #[169,169] ty #[.slice (some ⟨g,P.length,none⟩) dLen dCap,.slice sa sLen sCap]).run Tryz.prog w=.ok (goInt (Nat.min sLen dLen)) w'/\i7 w' g (P++X++Y.drop X.length)/\But (λk=>k=g) w w':=by
 have hst:=gH Tryz.prog g P.length 171 X 0 (P++Y).toArray w hg (by simp;omega) h1
 have e1:((P++Y).toArray.toList.take (P.length+0)++X++(P++Y).toArray.toList.drop (P.length+0+X.length))=P++X++Y.drop X.length:=by
  rw[fF,cE,eZ rfl,List.drop_append,dC (by omega),fa]
  simp
 rw[e1] at hst;refine⟨_,?_,cY w g _ _ _ _ hg,iK w g _⟩;cases hq:Tryz.prog.info? 171 with
 |none=>have:=yf;simp[hq] at this
 |some i=>
  have hi:i.size=2:=by have:=yf;simpa[hq] using this
  have hl:(Builtin.firstCells 2 (Nat.min sLen dLen) (.slice sa sLen sCap)).run Tryz.prog w=.ok X.toArray w:=by
   rcases hX with rfl|⟨b,o,rfl,hc⟩
   . have h0:Nat.min sLen dLen=0:=by simp at hn;omega
     cases sa with
     |none=>rfl
     |some z=>simp[Builtin.firstCells,h0,loadCells,loadCellsFrom]
   . have:=run_loadCells_list (P:=Tryz.prog) w ⟨b,o,none⟩ X (λj v hv=>by rw[Addr.add_mid];exact hc j v hv)
     show(loadCells ⟨b,o,none⟩ (Nat.min sLen dLen*2)).run Tryz.prog w=_;rw[<-hn];exact this
  simp[Builtin.copy_,de Tryz.underlying169,Builtin.lenOf,sizeOf,typeInfo,hq,hi,hl,hst]
theorem nK(n:Nat):(Builtin.zeroCells (rcs Rn.zero) n).toList=rc (List.replicate n Rn.zero):=by
 apply dS;intro i;have hs:(rcs Rn.zero).size=2:=rfl;simp only[Builtin.zeroCells,Array.toList_map,Array.toList_range,hs,dm];by_cases hi:i<n*2
 . rw[List.getElem?_range hi];have hr:=ut (List.replicate n Rn.zero) (i/2) (by simp;omega)
   rcases Nat.mod_two_eq_zero_or_one i with h|h
   . rw[show i=i/2*2 by omega,hr.1]
     simp[rcs,show i/2<n by omega]
   . rw[show i=i/2*2+1 by omega,hr.2]
     simp[rcs,show i/2<n by omega,Nat.add_mod]
 . rw[dz (by simp;omega),dz (by rw[il];simp;omega)]
   rfl
theorem qC(w:World)(ty:TypeId)(g n c:Nat)(P Y:List Value)(hg:i7 w g (P++Y))(hn:n*2<=Y.length):
 ∃w',(Builtin.clear_ #[169] ty #[.slice (some ⟨g,P.length,none⟩) n c]).run Tryz.prog w=.ok (.tuple #[]) w'/\i7 w' g (P++rc (List.replicate n Rn.zero)++Y.drop (n*2))/\But (λk=>k=g) w w':=by
 have hst:=gH Tryz.prog g P.length 171 (rc (List.replicate n Rn.zero)) 0 (P++Y).toArray w hg (by simp[il];omega) (js _)
 have e1:((P++Y).toArray.toList.take (P.length+0)++rc (List.replicate n Rn.zero)++(P++Y).toArray.toList.drop (P.length+0+(rc (List.replicate n Rn.zero)).length))=P++rc (List.replicate n Rn.zero)++Y.drop (n*2):=by
  rw[fF,cE,eZ rfl,List.drop_append,dC (by omega),fa,il,be]
  simp
 rw[e1] at hst;cases n with
 |zero=>exact⟨w,by simp[Builtin.clear_,de Tryz.underlying169],by simpa[Fl] using hg,But.refl _ _⟩
 |succ n=>
  refine⟨_,?_,cY w g _ _ _ _ hg,iK w g _⟩;have hz:(Builtin.zeroCells (Value.agg #[.int .i64 0,.int .i64 0]).cells (n+1)).toList=rc (List.replicate (n+1) Rn.zero):=nK (n+1);simp[Builtin.clear_,de Tryz.underlying169,hz,hst]
theorem qv(w:World)(n:Nat):Below w.heap.size w (w.drewN n):=⟨rfl,rfl,rfl,ai _,λ_ _=>rfl⟩
structure St(w:World)(b:Nat)(a:Option Addr)(cap:Nat)(L:List Rn):Prop where
 blk:w.heap[b]?=some (.cells #[.slice a L.length cap] 173 (0,0))
 row:Vw w a cap L
 can:Can L
 bnd:∀r∈L,Nm r.1/\Nm r.2
 len:L.length<=11000000000000
theorem al(w:World)(o:Obj):Below w.heap.size w (w.alloc o):=(Below.refl _ _).alloc (ai _) o
theorem St.ne(h:St w b a cap L)(hx:a=some x):x.block≠b:=by
 rcases h.row.cases with⟨rfl,_⟩|⟨g,Y,rfl,hg,_⟩
 . cases hx
 . cases hx;intro e;have h1:=h.blk;rw[<-show g=b from e,show w.heap[g]?=_ from hg] at h1
   simp at h1
theorem St.keep(h:St w b a cap L)(hb:Below w.heap.size w w'):St w' b a cap L:=
 ⟨(hb.block b (af.1 h.blk).1).trans h.blk,h.row.keep hb,h.can,h.bnd,h.len⟩
theorem St.but(h:St w b a cap L)(hb:But S w w')(hn:¬S b)(ha:∀x,a=some x->¬S x.block):St w' b a cap L:=
 ⟨hb.same h.blk hn,h.row.but hb ha,h.can,h.bnd,h.len⟩
theorem St.lt(h:St w b a cap L):b<w.heap.size:=(af.1 h.blk).1
theorem St.cell{w:World}{b:Nat}{a:Option Addr}{cap:Nat}{L:List Rn}(h:St w b a cap L):w.cell? ⟨b,0,none⟩=some (.slice a L.length cap):=by
 rw[au _ _ _ _ _ _ h.blk];rfl
theorem kg(h:i<L.length):L.getD i Rn.zero∈L:=by simp[h]
theorem kW{n:Int}(h1:(-9223372036854775808)<=n)(h2:n<=9223372036854775807):IntKind.i64.wrap n=n:=by
 simp[IntKind.wrap,IntKind.bits,IntKind.signed]
 first
  |omega
  |(split<;>omega)
theorem xe(w:World)(x:Int)(hx:Nm x):Calls Tryz.prog 176 #[.int .i64 x] w λe w'=>e=.returned (.int .i64 (max (-9223372036854775808) (x-1)))/\w'=w:=by
 obtain⟨h1,h2⟩:=hx;by_cases h0:x=(-9223372036854775808)
 . have hw:IntKind.i64.wrap (x-1)=9223372036854775807:=by rw[h0];decide
   have hv:wrap64 (x-1)=9223372036854775807:=by rw[h0];decide +kernel
   have e1:max (-9223372036854775808) (x-1)=x:=by omega
   have e2:¬9223372036854775807<x:=by omega
   rw[e1];clear h0 e1;go_enter Tryz.func176,Tryz.ntmps176;go_wp2;go_ret;exact⟨rfl,rfl⟩
 . have hw:IntKind.i64.wrap (x-1)=x-1:=kW (by omega) (by omega)
   have e1:max (-9223372036854775808) (x-1)=x-1:=by omega
   have e2:¬x<=x-1:=by omega
   rw[e1];go_enter Tryz.func176,Tryz.ntmps176;go_wp2;go_ret;exact⟨rfl,rfl⟩
theorem wJ(w:World)(x:Int)(hx:Nm x):Calls Tryz.prog 177 #[.int .i64 x] w λe w'=>e=.returned (.int .i64 (min 9223372036854775807 (x+1)))/\w'=w:=by
 obtain⟨h1,h2⟩:=hx;by_cases h0:x=9223372036854775807
 . have hw:IntKind.i64.wrap (x+1)=(-9223372036854775808):=by rw[h0];decide
   have hv:wrap64 (x+1)=(-9223372036854775808):=by rw[h0];decide +kernel
   have e1:min 9223372036854775807 (x+1)=x:=by omega
   have e2:¬x<(-9223372036854775808):=by omega
   rw[e1];clear h0 e1;go_enter Tryz.func177,Tryz.ntmps177;go_wp2;go_ret;exact⟨rfl,rfl⟩
 . have hw:IntKind.i64.wrap (x+1)=x+1:=kW (by omega) (by omega)
   have e1:min 9223372036854775807 (x+1)=x+1:=by omega
   have e2:¬x+1<=x:=by omega
   rw[e1];go_enter Tryz.func177,Tryz.ntmps177;go_wp2;go_ret;exact⟨rfl,rfl⟩
theorem qF(w:World)(n:Nat)(g:Nat)(cb:Array Value)(p:Nat->Bool)(k:Nat)(hk:k<=n)(h1:∀i,i<k->p i=false)(h2:∀i,k<=i->i<n->p i=true)(hn:n<=11000000000000)
 (eg:∀args w,(callFunc g args).run Tryz.prog w=.ok (.enter g args) w)
 (hf:∀i W,i<n->Below w.heap.size w W->Calls Tryz.prog g (#[.int .i64 ((i:Nat):Int)]++cb) W λe w'=>e=.returned (.bool (p i))/\Below W.heap.size W w'):
 Calls Tryz.prog 192 #[.int .i64 ((n:Nat):Int),.func (.func g) #[] cb] w λe w'=>e=.returned (.int .i64 ((k:Nat):Int))/\Below w.heap.size w w':=by
 have C:=ig hf;clear hf;go_enter Tryz.func192,Tryz.ntmps192;go_wp2;go_loopw [5,6] (λi j wx=>∃x y:Nat,i=.int .i64 x/\j=.int .i64 y/\x<=k/\k<=y/\y<=n/\Below w.heap.size w wx) (λi j _=>(intOf j).toNat-(intOf i).toNat)
 case atStart=>exact⟨0,n,rfl,rfl,aF _,hk,ai _,Below.refl _ _⟩
 case round=>
  obtain⟨x,y,rfl,rfl,hx,hy,hyn,hb⟩:=hrel;by_cases hlt:x<y
  . go_wp2;obtain⟨h,hh⟩:∃h:Nat,h=(x+y)/2:=⟨_,rfl⟩;have eh:((x:Int)+(y:Int))/2=(h:Int):=by omega
    rw[eh];have b1:x<=h:=by omega
    have b2:h<y:=by omega
    clear eh hh;refine(C.o h wr (by omega) hb).mono ?_
    rintro e w1 ⟨rfl,hb1⟩;by_cases hp:h<k
    . rw[h1 h hp];go_wp2;go_roundw
      case rel=>exact⟨h+1,y,by simp,rfl,by omega,hy,hyn,bt hb hb1⟩
      case measure=>simp[intOf];omega
    . rw[h2 h (by omega) (by omega)]
      go_wp2;go_roundw
      case rel=>exact⟨x,h,rfl,rfl,hx,by omega,by omega,bt hb hb1⟩
      case measure=>simp[intOf];omega
  . obtain rfl:x=k:=by omega
    go_wp2;go_ret;exact⟨rfl,hb⟩
theorem uf(w:World)(b B1 B2:Nat)(a:Option Addr)(cap:Nat)(L:List Rn)(lo:Int)(i:Nat)(hS:St w b a cap L)(c1:w.cell? ⟨B1,0,none⟩=some (.pointer (some ⟨b,0,none⟩)))(c2:w.cell? ⟨B2,0,none⟩=some (.int .i64 lo))(hi:i<L.length):
 Calls Tryz.prog 193 #[.int .i64 ((i:Nat):Int),.pointer (some ⟨B1,0,none⟩),.pointer (some ⟨B2,0,none⟩)] w λe w'=>e=.returned (.bool (decide (lo<=(L.getD i Rn.zero).2)))/\Below w.heap.size w w':=by
 obtain⟨bb,o,rfl,d1,d2⟩:=hS.row.vs.at hi;have hc:=hS.cell;have hl:=hS.len;generalize L.getD i Rn.zero=r at *;go_enter Tryz.func193,Tryz.ntmps193;go_wp2;go_quiet (fail)
 go_wp2;go_ret;exact⟨rfl,qv _ _⟩
theorem ux(w:World)(b B1 B2:Nat)(a:Option Addr)(cap:Nat)(L:List Rn)(hi':Int)(i:Nat)(hS:St w b a cap L)(c1:w.cell? ⟨B1,0,none⟩=some (.pointer (some ⟨b,0,none⟩)))(c2:w.cell? ⟨B2,0,none⟩=some (.int .i64 hi'))(hi:i<L.length):
 Calls Tryz.prog 194 #[.int .i64 ((i:Nat):Int),.pointer (some ⟨B1,0,none⟩),.pointer (some ⟨B2,0,none⟩)] w λe w'=>e=.returned (.bool (decide (hi'<(L.getD i Rn.zero).1)))/\Below w.heap.size w w':=by
 obtain⟨bb,o,rfl,d1,d2⟩:=hS.row.vs.at hi;have hc:=hS.cell;have hl:=hS.len;generalize L.getD i Rn.zero=r at *;go_enter Tryz.func194,Tryz.ntmps194;go_wp2;go_quiet (fail)
 go_wp2;go_ret;exact⟨rfl,qv _ _⟩
theorem jU{A M B:List Rn}(i:Nat):(i<A.length->(A++M++B).getD i Rn.zero∈A)/\(A.length<=i->i<A.length+M.length->(A++M++B).getD i Rn.zero∈M)/\(A.length+M.length<=i->i<A.length+M.length+B.length->(A++M++B).getD i Rn.zero∈B):=by
 refine⟨λh=>?_,λh1 h2=>?_,λh1 h2=>?_⟩
 . rw[aR,aq,br h];simp[h]
 . rw[aq,br (by simp;omega),bj h1]
   have:i-A.length<M.length:=by omega
   simp[this]
 . rw[aq,bj (by simp;omega)]
   have:i-(A.length+M.length)<B.length:=by omega
   simp[this]
def w3(w:World)(b:Nat)(lo hi:Int):World:=((w.alloc (.cells #[.pointer (some ⟨b,0,none⟩)] 127)).alloc (.cells #[.int .i64 lo] 3)).alloc (.cells #[.int .i64 hi] 3)
theorem mX(w:World)(b:Nat)(lo hi:Int):Below w.heap.size w (w3 w b lo hi):=bt (bt (al _ _) (al _ _)) (al _ _)
theorem pf(w:World)(b:Nat)(lo hi:Int):(w3 w b lo hi).heap.size=w.heap.size+1+1+1:=by unfold w3;rw[size_alloc,size_alloc,size_alloc]
theorem iI(w:World)(v:Value)(t:TypeId):(w.alloc (.cells #[v] t)).cell? ⟨w.heap.size,0,none⟩=some v:=by
 rw[au _ _ _ _ _ _ (az w _)];rfl
theorem mH(w:World)(b:Nat)(lo hi:Int):(w3 w b lo hi).cell? ⟨w.heap.size,0,none⟩=some (.pointer (some ⟨b,0,none⟩))/\(w3 w b lo hi).cell? ⟨w.heap.size+1,0,none⟩=some (.int .i64 lo)/\(w3 w b lo hi).cell? ⟨w.heap.size+1+1,0,none⟩=some (.int .i64 hi):=by
 have c1:=iI w (.pointer (some ⟨b,0,none⟩)) 127;have c2:=iI (w.alloc (.cells #[.pointer (some ⟨b,0,none⟩)] 127)) (.int .i64 lo) 3;have c3:=iI ((w.alloc (.cells #[.pointer (some ⟨b,0,none⟩)] 127)).alloc (.cells #[.int .i64 lo] 3)) (.int .i64 hi) 3;rw[size_alloc] at c2;rw[size_alloc,size_alloc] at c3;refine⟨?_,?_,c3⟩
 . exact((bt (al _ _) (al _ _)).cell (p:=⟨w.heap.size,0,none⟩) (block_lt_of_cell c1)).trans c1
 . exact((al _ _).cell (p:=⟨w.heap.size+1,0,none⟩) (block_lt_of_cell c2)).trans c2
theorem me(w:World)(b:Nat)(a:Option Addr)(cap:Nat)(L:List Rn)(lo hi:Int)(A M B:List Rn)(hS:St w b a cap L)(sp:Spl L lo hi A M B)(hle:lo<=hi):
 Calls Tryz.prog 175 #[.pointer (some ⟨b,0,none⟩),.int .i64 lo,.int .i64 hi] w λe w'=>e=.returned (.tuple #[.int .i64 ((A.length:Nat):Int),.int .i64 ((A.length+M.length:Nat):Int)])/\Below w.heap.size w w':=by
 have hLl:L.length=A.length+M.length+B.length:=by rw[sp.eq];simp[eU]
 have hc:=hS.cell;have hn:=hS.len;have hb:=hS.lt
 have S1:=ig λ(W:World)(B1 B2:Nat)(hW:St W b a cap L)(c1:W.cell? ⟨B1,0,none⟩=some (.pointer (some ⟨b,0,none⟩)))(c2:W.cell? ⟨B2,0,none⟩=some (.int .i64 lo))=>
  qF W L.length 193 #[.pointer (some ⟨B1,0,none⟩),.pointer (some ⟨B2,0,none⟩)] (λi=>decide (lo<=(L.getD i Rn.zero).2)) A.length (by omega)
   (λi hi=>ax (by have h1:=(jU (A:=A) (M:=M) (B:=B) i).1 hi;rw[<-sp.eq] at h1;have:=sp.a _ h1;omega))
   (λi hi1 hi2=>ay (by
     by_cases h3:i<A.length+M.length
     . have h1:=(jU (A:=A) (M:=M) (B:=B) i).2.1 hi1 h3;rw[<-sp.eq] at h1;exact(sp.m _ h1).1
     . have h1:=(jU (A:=A) (M:=M) (B:=B) i).2.2 (by omega) (by omega);rw[<-sp.eq] at h1
       have h4:=sp.b _ h1;have h5:=hS.can.1 _ (kg hi2);omega)) hn (enters_of Tryz.func193 (by kernel_rfl) rfl)
   (λi W' hi hW'=>uf W' b B1 B2 a cap L lo i (hW.keep hW') ((hW'.cell (p:=⟨B1,0,none⟩) (block_lt_of_cell c1)).trans c1) ((hW'.cell (p:=⟨B2,0,none⟩) (block_lt_of_cell c2)).trans c2) hi)
 have S2:=ig λ(W:World)(B1 B2:Nat)(hW:St W b a cap L)(c1:W.cell? ⟨B1,0,none⟩=some (.pointer (some ⟨b,0,none⟩)))(c2:W.cell? ⟨B2,0,none⟩=some (.int .i64 hi))=>
  qF W L.length 194 #[.pointer (some ⟨B1,0,none⟩),.pointer (some ⟨B2,0,none⟩)] (λi=>decide (hi<(L.getD i Rn.zero).1)) (A.length+M.length) (by omega)
   (λi hi1=>ax (by
     by_cases h3:i<A.length
     . have h1:=(jU (A:=A) (M:=M) (B:=B) i).1 h3;rw[<-sp.eq] at h1;have h4:=sp.a _ h1;have h5:=hS.can.1 _ (kg (show i<L.length by omega))
       omega
     . have h1:=(jU (A:=A) (M:=M) (B:=B) i).2.1 (by omega) hi1;rw[<-sp.eq] at h1;have:=(sp.m _ h1).2;omega))
   (λi hi1 hi2=>ay (by
     have h1:=(jU (A:=A) (M:=M) (B:=B) i).2.2 (by omega) (by omega);rw[<-sp.eq] at h1;exact sp.b _ h1)) hn (enters_of Tryz.func194 (by kernel_rfl) rfl)
   (λi W' hi' hW'=>ux W' b B1 B2 a cap L hi i (hW.keep hW') ((hW'.cell (p:=⟨B1,0,none⟩) (block_lt_of_cell c1)).trans c1) ((hW'.cell (p:=⟨B2,0,none⟩) (block_lt_of_cell c2)).trans c2) hi')
 have hS':=ig hS;clear hS;obtain⟨n1,hn1⟩:∃n1:Nat,n1=A.length+M.length:=⟨_,rfl⟩;rw[<-hn1] at S2 ⊢;generalize A.length=n0 at *;clear hn1 sp hLl;have kb:=mX w b lo hi;have ks:=pf w b lo hi;obtain⟨k1,k2,k3⟩:=mH w b lo hi;have k4:=(kb.cell (p:=⟨b,0,none⟩) hb).trans hc;have hS3:=ig (hS'.o.keep kb);unfold w3 at kb ks k1 k2 k3 k4 hS3;go_enter Tryz.func175,Tryz.ntmps175;go_wp2_with fail
 refine(S1.o _ _ _ hS3.o k1 k2).mono ?_;rintro e W1 ⟨rfl,hb1⟩;have m1:=(hb1.cell (p:=⟨w.heap.size,0,none⟩) (block_lt_of_cell k1)).trans k1;have m3:=(hb1.cell (p:=⟨w.heap.size+1+1,0,none⟩) (block_lt_of_cell k3)).trans k3;have m4:=(hb1.cell (p:=⟨b,0,none⟩) (block_lt_of_cell k4)).trans k4;go_wp2_with fail
 refine(S2.o _ _ _ (hS3.o.keep hb1) m1 m3).mono ?_;rintro e W2 ⟨rfl,hb2⟩;go_wp2;go_ret2
 exact⟨rfl,bt (bt kb hb1) hb2⟩
theorem wm(b:Int):∀(L:List Rn)(a:Int),Can L->(∀r∈L,a<=r.1/\r.2<=b)->a<=b+2->2*(L.length:Int)<=b-a+2
 | [],a,_,_,h=>by
   rw[bh];omega
 |r::L,a,hc,hb,h=>by
  have h1:=hb r (by simp)
  have h2:=hc.1 r (by simp)
  have h3:=(cH.1 hc.2).1;have ih:=wm b L (r.2+2) hc.tail (λx hx=>⟨by have:=h3 x hx;omega,(hb x (by simp[hx])).2⟩) (by omega)
  rw[bg];omega
end Go.Proofs.YtbdkogimlbnlmaaGreat.Q
namespace Go.Proofs.YtbdkogimlbnlmaaGreat.Q
open Go.RowKit Go.Shelf
attribute [local go_sem] Oper.semAt_some
variable {k:Nat}{w:World}
def enR(r:Rn):Array Value:=#[.agg (rcs r)]
theorem kA{α:Type}[Inhabited α](L:List α)(d:α)(h:k<L.length):L=L.take k++L.getD k d::L.drop (k+1):=by
 rw[aq,aU h];simp
theorem jt{α:Type}(L:List α)(d:α)(h:k<L.length):L.take (k+1)=L.take k++[L.getD k d]:=by
 rw[dQ h,aq,aU h];rfl
theorem uW(w:World)(Bx:Nat)(a:Option Addr)(cap:Nat)(L:List Rn)(hc:w.cell? ⟨Bx,0,none⟩=some (.slice a L.length cap))(hV:Vs w a L)(hlen:L.length<=11000000000000):
 uv Tryz.prog 168 #[.pointer (some ⟨Bx,0,none⟩)] enR L w (λk=>k=Bx\/∃x,a=some x/\x.block=k):=by
 intro l S J Jx W hW hS aJ aJx hY h0;have hBx:¬S Bx:=λh=>(hS _ h).1 (.inl rfl)
 have hcW:W.cell? ⟨Bx,0,none⟩=some (.slice a L.length cap):=(hW.cell (p:=⟨Bx,0,none⟩) (block_lt_of_cell hc) (λh=>h (.inl rfl))).trans hc
 have hVW:Vs W a L:=hV.but hW (λx hx h=>h (.inr ⟨x,hx,rfl⟩))
 clear hc hV;have Y:=ig hY;clear hY;obtain⟨n,hn⟩:∃n:Nat,n=L.length:=⟨_,rfl⟩;have hn':=ig hn;rw[<-hn] at hcW hlen;clear hn;refine gh Tryz.func168 rfl trivial ?_ rfl;simp only[Tryz.ntmps168,da,bg,bh,Nat.reduceAdd,Nat.reduceSub,dw,dy,dG,dA,cO,dl];gi_wp2
 gi_loopw [7] (λi wr=>∃k:Nat,k<=n/\i=.int .i64 k/\J (L.take k) wr/\But S W wr)
  (λi _=>n-(intOf i).toNat)
 case atStart=>exact⟨0,aF _,rfl,h0,But.refl _ _⟩
 case round=>
  obtain⟨k,hk,rfl,hJ,hB⟩:=hrel;by_cases hlt:k<n
  . have hkL:k<L.length:=by rw[<-hn'.o];exact hlt
    have hVr:Vs wr a L:=hVW.but hB (λx hx h=>(hS _ h).1 (.inr ⟨x,hx,rfl⟩))
    obtain⟨bb,o,rfl,d1,d2⟩:=hVr.at hkL;generalize hr:L.getD k Rn.zero=r at *;have hsz:=hB.size;obtain⟨fn,tmps,assign,body,hy,hR⟩:=Y.o (L.take k) r (L.drop (k+1)) (wr.alloc (.cells #[.int .i64 r.1,.int .i64 r.2] 171)) (by rw[<-hr];exact kA L Rn.zero hkL) (aJ _ _ _ hJ hsz (But.ofBelow (al _ _))) (by rw[size_alloc];omega)
    simp only[enR,rcs] at hy;gi_wp2
    refine⟨rfl,hR.mono ?_⟩;have hBa:But S W (wr.alloc (.cells #[.int .i64 r.1,.int .i64 r.2] 171)):=hB.andBelow (al _ _);rintro e W3 ⟨h3,⟨rfl,hJ3⟩|⟨rfl,hJ3⟩⟩
    . gi_wp2
      go_roundw
      case rel=>exact⟨k+1,by omega,by simp,by rw[jt L Rn.zero hkL,hr];exact hJ3,hBa.trans h3 (λ_ _ h=>h)⟩
      case measure=>simp[intOf];omega
    . gi_wp2
      refine bU (eu rfl _ _ _) rfl ?_;exact⟨⟨_,rfl⟩,hBa.trans h3 (λ_ _ h=>h),.inr ⟨_,L.drop (k+1),by rw[aR,<-hr];exact kA L Rn.zero hkL,hJ3⟩⟩
  . obtain rfl:k=n:=by omega
    gi_wp2
    go_end0
    exact⟨⟨_,rfl⟩,hB,.inl (by rw[hn'.o,cU] at hJ;exact hJ)⟩
theorem wK(w:World)(a:Option Addr)(n cap:Nat):Calls Tryz.prog 150 #[.slice a n cap] w λe w'=>e=.returned (.func (.func 168) #[] #[.pointer (some ⟨w.heap.size,0,none⟩)])/\w'=w.alloc (.cells #[.slice a n cap] 169):=by
 go_enter Tryz.func150,Tryz.ntmps150;go_wp2;go_ret;exact⟨rfl,rfl⟩
theorem rQ(w:World)(b:Nat)(lo hi:Int):Calls Tryz.prog 191 #[.pointer (some ⟨b,0,none⟩),.int .i64 lo,.int .i64 hi] w λe w'=>
 e=.returned (.func (.func 205) #[] #[.pointer (some ⟨w.heap.size,0,none⟩),.pointer (some ⟨w.heap.size+1,0,none⟩),.pointer (some ⟨w.heap.size+1+1,0,none⟩)])/\w'=w3 w b lo hi:=by
 go_enter Tryz.func191,Tryz.ntmps191;go_wp2;go_ret;exact⟨rfl,rfl⟩
theorem pE(M:List Rn)(lo hi:Int):(jq M lo hi).length=M.length:=by simp[jq]
theorem yL(M:List Rn)(lo hi:Int)(h:k<M.length):(jq M lo hi).getD k Rn.zero=(max lo (M.getD k Rn.zero).1,min hi (M.getD k Rn.zero).2):=by
 simp[jq,h]
def Inb(b:Nat)(a:Option Addr)(k:Nat):Prop:=k=b\/∃x,a=some x/\x.block=k
theorem Vs.mid{a:Option Addr}{A M B:List Rn}(h:Vs w a (A++M++B))(hM:M≠[]):∃b o,a=some ⟨b,o,none⟩/\Vs w (some ⟨b,o+A.length*2,none⟩) M:=by
 rcases h with h|⟨b,o,e,hc⟩
 . simp at h;exact absurd h.2.1 hM
 . refine⟨b,o,e,.inr ⟨b,o+A.length*2,rfl,λj u hu=>?_⟩⟩
   have:=hc (A.length*2+j) u (by
    rw[ix,ix,aR,bj (by rw[il];omega),il,fa,br (bz.1 hu).1]
    exact hu)
   rw[<-eU] at this;exact this
theorem r8(w:World)(b B1 B2 B3:Nat)(a:Option Addr)(cap:Nat)(L A M B:List Rn)(lo hi:Int)(hS:St w b a cap L)(sp:Spl L lo hi A M B)(hle:lo<=hi)
 (c1:w.cell? ⟨B1,0,none⟩=some (.pointer (some ⟨b,0,none⟩))) (c2:w.cell? ⟨B2,0,none⟩=some (.int .i64 lo)) (c3:w.cell? ⟨B3,0,none⟩=some (.int .i64 hi)):
 uv Tryz.prog 205 #[.pointer (some ⟨B1,0,none⟩),.pointer (some ⟨B2,0,none⟩),.pointer (some ⟨B3,0,none⟩)] enR (jq M lo hi) w (λk=>Inb b a k\/k=B1\/k=B2\/k=B3):=by
 intro l S J Jx W hW hX aJ aJx hY h0;have nS:∀k,(Inb b a k\/k=B1\/k=B2\/k=B3)->¬S k:=λk h hs=>(hX _ hs).1 h
 have c1W:W.cell? ⟨B1,0,none⟩=some (.pointer (some ⟨b,0,none⟩)):=(hW.cell (p:=⟨B1,0,none⟩) (block_lt_of_cell c1) (λh=>h (.inr (.inl rfl)))).trans c1
 have c2W:W.cell? ⟨B2,0,none⟩=some (.int .i64 lo):=(hW.cell (p:=⟨B2,0,none⟩) (block_lt_of_cell c2) (λh=>h (.inr (.inr (.inl rfl))))).trans c2
 have c3W:W.cell? ⟨B3,0,none⟩=some (.int .i64 hi):=(hW.cell (p:=⟨B3,0,none⟩) (block_lt_of_cell c3) (λh=>h (.inr (.inr (.inr rfl))))).trans c3
 have hSW:St W b a cap L:=hS.but hW (λh=>h (.inl (.inl rfl))) (λx hx h=>h (.inl (.inr ⟨x,hx,rfl⟩)))
 clear c1 c2 c3 hS hW;have Y:=ig hY;clear hY;have C:=ig (me W b a cap L lo hi A M B hSW sp hle);have hL:=ig hSW;have hc:=hSW.cell;have hl:=hSW.len;have hcap:=hSW.row.len;have hLl:L.length=A.length+M.length+B.length:=by rw[sp.eq];simp[eU]
 have hM1:=ig (show ∀k,k<M.length->lo<=(M.getD k Rn.zero).2/\(M.getD k Rn.zero).1<=hi from λk hk=>sp.m _ (kg hk))
 have eL:=ig sp.eq;clear hSW sp;obtain⟨n,hn⟩:∃n:Nat,n=M.length:=⟨_,rfl⟩;obtain⟨n0,hn0⟩:∃n:Nat,n=A.length:=⟨_,rfl⟩;have hn':=ig hn;have hn0':=ig hn0;rw[<-hn,<-hn0] at hLl C;obtain⟨nL,hnL⟩:∃n:Nat,n=L.length:=⟨_,rfl⟩;rw[<-hnL] at hLl hc hl hcap;clear hnL hn hn0;obtain⟨hcap1,hcap2⟩:=hcap;unfold maxLen at hcap2;obtain⟨n1,hn1⟩:∃m:Nat,m=n0+n:=⟨_,rfl⟩;rw[<-hn1] at C;have hne:n0<=n1:=by omega
 have hne2:n1<=cap:=by omega
 have hsub:(n1:Int)-(n0:Int)=(n:Int):=by omega
 have hsubN:n1-n0=n:=by omega
 have hn0L:n0+n<=nL:=by omega
 have hn1':=ig hn1;clear hn1 hLl;refine gh Tryz.func205 rfl trivial ?_ rfl;simp only[Tryz.ntmps205,da,bg,bh,Nat.reduceAdd,Nat.reduceSub,dw,dy,dG,dA,cO,dl];gi_wp2_with fail
 refine⟨trivial,rfl,?_⟩;refine(eQ.2 C.o).mono ?_;rintro e W1 ⟨rfl,hb1⟩;have hW1s:=hb1.size;have k1:=(hb1.cell (p:=⟨B1,0,none⟩) (block_lt_of_cell c1W)).trans c1W;have kc:=(hb1.cell (p:=⟨b,0,none⟩) (block_lt_of_cell hc)).trans hc;have J1:J [] W1:=aJ _ _ _ h0 (ai _) (But.ofBelow hb1);by_cases hz:n=0
 . subst hz;obtain rfl:n1=n0:=by have:=hn1'.o;omega
   clear hsub hsubN hn1';have hM0:M=[]:=bY.1 hn'.o.symm;by_cases hcz:cap=n1
   all_goals
    gi_wp2
    gi_loopw [24] (λi wr=>i=.int .i64 0/\wr=W1) (λ_ _=>0)
    case atStart=>exact⟨rfl,rfl⟩
    case round=>
     obtain⟨rfl,rfl⟩:=hrel;gi_wp2
     go_end0
     exact⟨⟨_,rfl⟩,But.ofBelow hb1,.inl (by rw[hM0];exact J1)⟩
 . have hpos:0<M.length:=by rw[<-hn'.o];omega
   obtain⟨bb,o,rfl,_⟩:=Vs.mid (A:=A) (M:=M) (B:=B) (by rw[<-eL.o];exact hL.o.row.vs) (bN.1 hpos)
   have hnc:¬cap=n0:=by omega
   gi_wp2
   gi_loopw [24] (λi wr=>∃k:Nat,k<=n/\i=.int .i64 k/\J ((jq M lo hi).take k) wr/\But S W wr)
    (λi _=>n-(intOf i).toNat)
   case atStart=>exact⟨0,aF _,rfl,J1,But.ofBelow hb1⟩
   case round=>
    obtain⟨k,hk,rfl,hJ,hB⟩:=hrel;by_cases hlt:k<n
    . have hkM:k<M.length:=by rw[<-hn'.o];exact hlt
      have hVr:=(hL.o.row.vs.but hB (λx hx h=>nS _ (.inl (.inr ⟨x,hx,rfl⟩)) h))
      rw[eL.o] at hVr;obtain⟨bb',o',e',hVm⟩:=hVr.mid (bN.1 hpos);simp only[aE,Addr.mk.injEq,dL] at e';obtain⟨rfl,rfl⟩:=e';obtain⟨b2,o2,e2,d1,d2⟩:=hVm.at hkM;simp only[aE,Addr.mk.injEq,dL] at e2;obtain⟨rfl,rfl⟩:=e2;rw[<-hn0'.o] at d1 d2;have hkC:k<(jq M lo hi).length:=by rw[pE];exact hkM
      have hgC:=yL M lo hi hkM;have hsz:=hB.size;have c2r:=(hB.cell (p:=⟨B2,0,none⟩) (block_lt_of_cell c2W) (nS _ (.inr (.inr (.inl rfl))))).trans c2W;have c3r:=(hB.cell (p:=⟨B3,0,none⟩) (block_lt_of_cell c3W) (nS _ (.inr (.inr (.inr rfl))))).trans c3W;generalize hr:M.getD k Rn.zero=r at *;have ha:Below wr.heap.size wr (wr.alloc (.cells #[.int .i64 r.1,.int .i64 r.2] 171)):=al _ _;have c2a:=(ha.cell (p:=⟨B2,0,none⟩) (block_lt_of_cell c2r)).trans c2r;have c3a:=(ha.cell (p:=⟨B3,0,none⟩) (block_lt_of_cell c3r)).trans c3r;obtain⟨p,hp⟩:∃p,(if lo<r.1 then r.1 else lo)=p:=⟨_,rfl⟩
      obtain⟨q,hq⟩:∃q,(if r.2<hi then r.2 else hi)=q:=⟨_,rfl⟩
      have epq:(max lo r.1,min hi r.2)=(p,q):=by rw[<-hp,<-hq];exact Prod.ext (by simp only;split<;>omega) (by simp only;split<;>omega)
      rw[epq] at hgC;obtain⟨fn,tmps,assign,body,hy,hR⟩:=Y.o ((jq M lo hi).take k) (p,q) ((jq M lo hi).drop (k+1)) (wr.alloc (.cells #[.int .i64 r.1,.int .i64 r.2] 171)) (by rw[<-hgC];exact kA _ Rn.zero hkC) (aJ _ _ _ hJ hsz (But.ofBelow ha)) (by rw[size_alloc];omega)
      simp only[enR,rcs] at hy;have hBa:=ig (hB.andBelow ha);clear hr epq;have hgC':=ig hgC;clear hgC;gi_wp2
      refine⟨rfl,hR.mono ?_⟩;rintro e W3 ⟨h3,⟨rfl,hJ3⟩|⟨rfl,hJ3⟩⟩
      . gi_wp2
        go_roundw
        case rel=>exact⟨k+1,by omega,by simp,by rw[jt _ Rn.zero hkC,hgC'.o];exact hJ3,hBa.o.trans h3 (λ_ _ h=>h)⟩
        case measure=>simp[intOf];omega
      . gi_wp2
        refine bU (eu rfl _ _ _) rfl ?_;exact⟨⟨_,rfl⟩,hBa.o.trans h3 (λ_ _ h=>h),.inr ⟨_,(jq M lo hi).drop (k+1),by rw[aR,<-hgC'.o];exact kA _ Rn.zero hkC,hJ3⟩⟩
    . obtain rfl:k=n:=by omega
      gi_wp2
      go_end0
      exact⟨⟨_,rfl⟩,hB,.inl (by rw[hn'.o,<-pE M lo hi,cU] at hJ;exact hJ)⟩
def jI(f:Int):List Rn->List Rn
 | []=>[]
 |p::P=>(if f<p.1 then [(f,p.1-1)] else [])++jI (p.2+1) P
def jy(f:Int):List Rn->Int
 | []=>f
 |p::P=>jy (p.2+1) P
theorem ox:∀{P:List Rn}(f hi:Int)(R:List Rn),(∀p∈P,p.2≠hi)->gap f hi (P++R)=jI f P++gap (jy f P) hi R
 | [],f,hi,R,_=>rfl
 |p::P,f,hi,R,h=>by
  show(if f<p.1 then [(f,p.1-1)] else [])++(if p.2=hi then [] else gap (p.2+1) hi (P++R))=(if f<p.1 then [(f,p.1-1)] else [])++jI (p.2+1) P++gap (jy (p.2+1) P) hi R
  rw[if_neg (h p (by simp)),ox (p.2+1) hi R (λq hq=>h q (by simp[hq])),aR]
theorem qm:∀(P:List Rn)(f:Int)(p:Rn),jy f (P++[p])=p.2+1
 | [],_,_=>rfl
 |q::P,_,p=>qm P (q.2+1) p
theorem t8:∀(P:List Rn)(f lo:Int),lo<=f->(∀p∈P,lo<=p.2)->lo<=jy f P
 | [],_,_,h,_=>h
 |q::P,_,lo,_,h=>t8 P (q.2+1) lo (by have:=h q (by simp);omega) (λp hp=>h p (by simp[hp]))
theorem mZ:∀(P:List Rn)(f:Int)(p:Rn),jI f (P++[p])=jI f P++(if jy f P<p.1 then [(jy f P,p.1-1)] else [])
 | [],f,p=>by
   show(if f<p.1 then [(f,p.1-1)] else [])++[]=[]++(if f<p.1 then [(f,p.1-1)] else [])
   rw[cF,cO]
 |q::P,f,p=>by
  show(if f<q.1 then [(f,q.1-1)] else [])++jI (q.2+1) (P++[p])=_
  rw[mZ P (q.2+1) p,<-aR];rfl
theorem Ao{P R:List Rn}{f hi:Int}{r:Rn}(h:∀p∈P,p.2≠hi):gap f hi (P++r::R)=jI f (P++[r])++(if r.2=hi then [] else gap (r.2+1) hi R):=by
 rw[ox f hi _ h,gap,mZ,aR]
theorem By(w:World)(b:Nat)(lo hi:Int):Calls Tryz.prog 174 #[.pointer (some ⟨b,0,none⟩),.int .i64 lo,.int .i64 hi] w λe w'=>
 e=.returned (.func (.func 190) #[] #[.pointer (some ⟨w.heap.size+1,0,none⟩),.pointer (some ⟨w.heap.size,0,none⟩),.pointer (some ⟨w.heap.size+1+1,0,none⟩)])/\w'=w3 w b lo hi:=by
 go_enter Tryz.func174,Tryz.ntmps174;go_wp2;go_ret;exact⟨rfl,rfl⟩
theorem A6(w:World)(b B1 B2 B3:Nat)(a:Option Addr)(cap:Nat)(L A M B:List Rn)(lo hi:Int)(hS:St w b a cap L)(sp:Spl L lo hi A M B)(hle:lo<=hi)(hlo:Nm lo)(hhi:Nm hi)
 (c1:w.cell? ⟨B1,0,none⟩=some (.pointer (some ⟨b,0,none⟩))) (c2:w.cell? ⟨B2,0,none⟩=some (.int .i64 lo)) (c3:w.cell? ⟨B3,0,none⟩=some (.int .i64 hi)):
 uv Tryz.prog 190 #[.pointer (some ⟨B2,0,none⟩),.pointer (some ⟨B1,0,none⟩),.pointer (some ⟨B3,0,none⟩)] enR (gap lo hi (jq M lo hi)) w (λk=>Inb b a k\/k=B1\/k=B2\/k=B3):=by
 obtain⟨P,hP⟩:∃P,jq M lo hi=P:=⟨_,rfl⟩;rw[hP];intro l S J Jx W hW hX aJ aJx hY h0;have nS:∀k,(Inb b a k\/k=B1\/k=B2\/k=B3)->¬S k:=λk h hs=>(hX _ hs).1 h
 have c1W:W.cell? ⟨B1,0,none⟩=some (.pointer (some ⟨b,0,none⟩)):=(hW.cell (p:=⟨B1,0,none⟩) (block_lt_of_cell c1) (λh=>h (.inr (.inl rfl)))).trans c1
 have c2W:W.cell? ⟨B2,0,none⟩=some (.int .i64 lo):=(hW.cell (p:=⟨B2,0,none⟩) (block_lt_of_cell c2) (λh=>h (.inr (.inr (.inl rfl))))).trans c2
 have c3W:W.cell? ⟨B3,0,none⟩=some (.int .i64 hi):=(hW.cell (p:=⟨B3,0,none⟩) (block_lt_of_cell c3) (λh=>h (.inr (.inr (.inr rfl))))).trans c3
 have hSW:St W b a cap L:=hS.but hW (λh=>h (.inl (.inl rfl))) (λx hx h=>h (.inl (.inr ⟨x,hx,rfl⟩)))
 clear c1 c2 c3 hS hW;have Y:=ig hY;clear hY;have hP':=ig hP;clear hP;obtain⟨Wb,hWb⟩:∃Wb,(W.alloc (.cells #[.func (.yield l) #[] #[]] 193)).alloc (.cells #[.int .i64 lo] 3)=Wb:=⟨_,rfl⟩;have bb:Below W.heap.size W Wb:=by rw[<-hWb];exact bt (al _ _) (al _ _)
 have sWb:Wb.heap.size=W.heap.size+1+1:=by rw[<-hWb,size_alloc,size_alloc]
 have C:=ig (rQ Wb b lo hi);have a1:=(al W (.cells #[.func (.yield l) #[] #[]] 193)).cell (p:=⟨B2,0,none⟩) (block_lt_of_cell c2W) |>.trans c2W
 have a2:=(bb.cell (p:=⟨B1,0,none⟩) (block_lt_of_cell c1W)).trans c1W;have a3:=(bb.cell (p:=⟨B2,0,none⟩) (block_lt_of_cell c2W)).trans c2W;have a4:=(bb.cell (p:=⟨B3,0,none⟩) (block_lt_of_cell c3W)).trans c3W;refine fb Tryz.func190 rfl trivial ?_ rfl;simp only[Tryz.ntmps190,da,bg,bh,Nat.reduceAdd,Nat.reduceSub,dw,dy,dG,dA,cO,dl];gi_wp2_with fail
 refine⟨trivial,rfl,?_⟩;refine(eQ.2 C.o).mono ?_;rintro e W1 ⟨rfl,rfl⟩;gi_wp2_with fail
 obtain⟨Wc,hWc⟩:∃Wc,w3 Wb b lo hi=Wc:=⟨_,rfl⟩;have kb:Below Wb.heap.size Wb Wc:=by rw[<-hWc];exact mX _ _ _ _
 have sWc:Wc.heap.size=W.heap.size+1+1+1+1+1:=by rw[<-hWc,pf,sWb]
 obtain⟨p1,p2,p3⟩:=mH Wb b lo hi;rw[hWc,sWb] at p1 p2 p3;rw[hWc];have bc:Below W.heap.size W Wc:=bt bb kb
 have y0:Wb.cell? ⟨W.heap.size,0,none⟩=some (.func (.yield l) #[] #[]):=by
  rw[<-hWb];have c:=iI W (.func (.yield l) #[] #[]) 193;exact((al _ _).cell (p:=⟨W.heap.size,0,none⟩) (block_lt_of_cell c)).trans c
 have f0:Wb.heap[W.heap.size+1]?=some (.cells #[.int .i64 lo] 3 (0,0)):=by
  rw[<-hWb];have c:=az (W.alloc (.cells #[.func (.yield l) #[] #[]] 193)) (.cells #[.int .i64 lo] 3);rwa [size_alloc] at c
 have yc:=(kb.cell (p:=⟨W.heap.size,0,none⟩) (block_lt_of_cell y0)).trans y0;have fc:=(kb.block (W.heap.size+1) (af.1 f0).1).trans f0;have hc:=(kb.cell (p:=⟨B3,0,none⟩) (block_lt_of_cell a4)).trans a4;have lB3:B3<W.heap.size:=block_lt_of_cell c3W;have PS:=r8 Wc b (W.heap.size+1+1) (W.heap.size+1+1+1) (W.heap.size+1+1+1+1) a cap L A M B lo hi (hSW.keep bc) sp hle p1 p2 p3
 have inW:∀k,Inb b a k->k<W.heap.size:=λk hk=>by
  rcases hk with rfl|⟨x,hx,rfl⟩
  . exact hSW.lt
  . exact hSW.row.lt hx
 have CR:=pJ (M:=M) hle ⟨λr hr=>hSW.can.1 r (by rw[sp.eq];simp[hr]),by have:=hSW.can.ris.2;rw[sp.eq,jR] at this;exact this.2.1⟩ sp.m
 rw[hP'.o] at PS CR;clear a1 a2 a3 a4 C p1 p2 p3 c1W c2W hWb hWc y0 f0 hP' sp
 refine tq (gf:=205) (lb:=#[.pointer (some ⟨W.heap.size+1+1,0,none⟩),.pointer (some ⟨W.heap.size+1+1+1,0,none⟩),.pointer (some ⟨W.heap.size+1+1+1+1,0,none⟩)]) rfl (enters_of Tryz.func205 (by kernel_rfl) rfl) PS (But.refl _ _)
  (λk hk=>by
    rcases hk with hk|rfl|rfl|rfl
    . have:=inW k hk;omega
    . omega
    . omega
    . omega) (λ_=>rfl) (λk=>S k\/k=W.heap.size+1)
  (λk hk=>by
    rcases hk with hk|rfl
    . have h1:=(hX k hk).2;refine⟨λh=>?_,by omega⟩
      rcases h with h|rfl|rfl|rfl
      . exact(hX k hk).1 (.inl h)
      all_goals
       omega
    . refine⟨λh=>?_,by omega⟩
      rcases h with h|h|h|h
      . have:=inW _ h;omega
      . omega
      . omega
      . omega)
  (λpre Wx=>But (λk=>S k\/k=W.heap.size+1) Wc Wx/\J (jI lo pre) Wx/\Wx.heap[W.heap.size+1]?=some (.cells #[.int .i64 (jy lo pre)] 3 (0,0))/\∀p∈pre,p.2≠hi)
  (λc _ Wx=>c=.ret/\(J (gap lo hi P) Wx\/∃pre rest,gap lo hi P=pre++rest/\Jx pre Wx))
  (λs X1 X2 hs hn hb=>⟨hs.1.trans hb (λx hx h=>by omega),aJ _ _ _ hs.2.1 (by omega) (hb.mono λx _ hx=>by omega),hb.same hs.2.2.1 (by omega),hs.2.2.2⟩)
  (λc s X1 X2 hs hn hb=>⟨hs.1,hs.2.imp (λh=>aJ _ _ _ h (by omega) (hb.mono λx _ hx=>by omega)) (λ⟨pre,rest,e,h⟩=>⟨pre,rest,e,aJx _ _ _ h (by omega) (hb.mono λx _ hx=>by omega)⟩)⟩)
  ⟨But.refl _ _,aJ _ _ _ h0 (ai _) (But.ofBelow bc),fc,by simp⟩ ?round ?done ?stop
 case round=>
  rintro l' pre x rest W2 hxs ⟨hB,hJ,hf,hpre⟩ hl1 hl2;unfold enR rcs;gi_wp2
  refine⟨al _ _,λW3 h3=>?_⟩
  have nl:W.heap.size+1≠l':=by omega
  have sz2:=hB.size;have b23:But (λk=>k=l') W2 W3:=(But.ofBelow (al _ _)).trans h3 (λ_ _ h=>h)
  have f3:W3.heap[W.heap.size+1]?=some (.cells #[.int .i64 (jy lo pre)] 3 (0,0)):=b23.same hf nl;have f3c:W3.cell? ⟨W.heap.size+1,0,none⟩=some (.int .i64 (jy lo pre)):=by rw[au _ _ _ _ _ _ f3];rfl
  have y3:W3.cell? ⟨W.heap.size,0,none⟩=some (.func (.yield l) #[] #[]):=by
   have e:=(hB.cell (p:=⟨W.heap.size,0,none⟩) (block_lt_of_cell yc) (λh=>h.elim (λh=>em _ (hX _ h).2) (λh=>Nat.ne_of_lt (fE _) h))).trans yc
   exact(b23.cell (p:=⟨W.heap.size,0,none⟩) (block_lt_of_cell e) (by show ¬W.heap.size=l';omega)).trans e
  have h3c:W3.cell? ⟨B3,0,none⟩=some (.int .i64 hi):=by
   have e:=(hB.cell (p:=⟨B3,0,none⟩) (block_lt_of_cell hc) (λh=>h.elim (λh=>nS _ (.inr (.inr (.inr rfl))) h) (λh=>Nat.ne_of_lt (Nat.lt_succ_of_lt lB3) h))).trans hc
   exact(b23.cell (p:=⟨B3,0,none⟩) (block_lt_of_cell e) (by show ¬B3=l';omega)).trans e
  have n0:=az W2 (.cells #[.int .i64 x.1,.int .i64 x.2] 171);have n3:=h3.same n0 (by omega)
  have n1:W3.cell? ⟨W2.heap.size,0,none⟩=some (.int .i64 x.1):=by rw[au _ _ _ _ _ _ n3];rfl
  have n2:W3.cell? ⟨W2.heap.size,1,none⟩=some (.int .i64 x.2):=by rw[au _ _ _ _ _ _ n3];rfl
  have J3:J (jI lo pre) W3:=aJ _ _ _ hJ (by omega) (b23.mono λz _ hz=>by omega)
  have rb:=CR.2 x (by rw[hxs];simp)
  have rx:=CR.1.1 x (by rw[hxs];simp)
  have gn:=Ao (P:=pre) (R:=rest) (f:=lo) (hi:=hi) (r:=x) hpre;rw[<-hxs] at gn;have gs:=mZ pre lo x;have gf:=qm pre lo x;have sz3:=b23.size;have hB3:But (λk=>S k\/k=W.heap.size+1) Wc W3:=hB.trans b23 (λz hz h=>by omega)
  have gl:=t8 pre lo lo (eK _) (λp hp=>by have h1:=CR.2 p (by rw[hxs];simp[hp]);have h2:=CR.1.1 p (by rw[hxs];simp[hp]);omega)
  generalize jy lo pre=f at *;clear n0 n3 h3 b23;have fz3:W3.frozen? ⟨W.heap.size+1,0,none⟩=false:=bq _ _ _ _ _ f3
  have up:∀W4,But S W3 W4->x.2≠hi->J (jI lo (pre++[x])) W4->But (λk=>S k\/k=W.heap.size+1) W3 (W4.setCell ⟨W.heap.size+1,0,none⟩ (.int .i64 (x.2+1)))/\
   (But (λk=>S k\/k=W.heap.size+1) Wc (W4.setCell ⟨W.heap.size+1,0,none⟩ (.int .i64 (x.2+1)))/\J (jI lo (pre++[x])) (W4.setCell ⟨W.heap.size+1,0,none⟩ (.int .i64 (x.2+1)))/\(W4.setCell ⟨W.heap.size+1,0,none⟩ (.int .i64 (x.2+1))).heap[W.heap.size+1]?=some (.cells #[.int .i64 (jy lo (pre++[x]))] 3 (0,0))/\∀p∈pre++[x],p.2≠hi):=λW4 h34 hne hJ4=>by
   have b1:But (λk=>S k\/k=W.heap.size+1) W3 (W4.setCell ⟨W.heap.size+1,0,none⟩ (.int .i64 (x.2+1))):=(h34.mono (λ_ _ h=>.inl h)).setCell (λ_=>.inr rfl) _
   have f4:=h34.same f3 (λh=>gW _ (fP (hX _ h).2))
   refine⟨b1,hB3.trans b1 (λ_ _ h=>h),aJ _ _ _ hJ4 (by have:=h34.size;omega) ((But.refl _ _).setCell (λ_=>eb _) _),?_,λp hp=>?_⟩
   . rw[aM _ _ _ _ _ _ f4,gf];rfl
   . rcases bm.1 hp with hp|hp
     . exact hpre p hp
     . rw[aQ.1 hp];exact hne
  have up':=ig up;have hsW2:W.heap.size<=W2.heap.size:=by omega
  have gn':=ig gn;have gs':=ig gs;have Rn3:∀{fn tmps assign body R},RoundIn Fence.wide 0 Tryz.prog l fn tmps assign body W3 R->RoundIn (Fence.wide.inRound l') 0 Tryz.prog l fn tmps assign body W3 R:=λh=>h
  clear up gn gs gf PS CR hxs hpre f3 hB3 hB hJ hf;by_cases g1:f<x.1
  . have hs:=gs'.o;rw[if_pos g1] at hs;obtain⟨fn,tmps,assign,body,hy,hR⟩:=Y.o (jI lo pre) (f,x.1-1) (if x.2=hi then [] else gap (x.2+1) hi rest) W3 (by rw[gn'.o,hs,aR];rfl) J3 (by omega)
    have hs':=ig hs;clear hs;simp only[enR,rcs] at hy;have hw:IntKind.i64.wrap (x.1-1)=x.1-1:=kW (by have:=hlo.1;omega) (by have:=hhi.2;omega)
    gi_wp2
    refine⟨rfl,(Rn3 hR).mono ?_⟩;rintro e W4 ⟨h34,⟨rfl,hJ4⟩|⟨rfl,hJ4⟩⟩
    . rw[<-hs'.o] at hJ4;have c4:=(h34.cell (p:=⟨B3,0,none⟩) (block_lt_of_cell h3c) (nS _ (.inr (.inr (.inr rfl))))).trans h3c;have n4:=(h34.cell (p:=⟨W2.heap.size,1,none⟩) (block_lt_of_cell n2) (λh=>em _ (aZ (hX _ h).2 hsW2))).trans n2
      have f4:=(h34.cell (p:=⟨W.heap.size+1,0,none⟩) (block_lt_of_cell f3c) (λh=>gW _ (fP (hX _ h).2))).trans f3c
      have z4:=(h34.frozen (p:=⟨W.heap.size+1,0,none⟩) (block_lt_of_cell f3c) (λh=>gW _ (fP (hX _ h).2))).trans fz3
      by_cases g2:x.2=hi
      . gi_wp2
        exact⟨h34.mono (λ_ _ h=>.inl h),rfl,.inl (by rw[gn'.o,if_pos g2,cF];exact hJ4)⟩
      . have hw2:IntKind.i64.wrap (x.2+1)=x.2+1:=kW (by have:=hlo.1;omega) (by have:=hhi.2;omega)
        gi_wp2
        exact up'.o W4 h34 g2 hJ4
    . gi_wp2
      exact⟨h34.mono (λ_ _ h=>.inl h),rfl,.inr ⟨_,(if x.2=hi then [] else gap (x.2+1) hi rest),by rw[gn'.o,hs'.o],hJ4⟩⟩
  . have hs:=gs'.o;rw[if_neg g1,cF] at hs;have hJ4:J (jI lo (pre++[x])) W3:=by rw[hs];exact J3
    clear hs;by_cases g2:x.2=hi
    . gi_wp2
      refine⟨λ_ h=>(by cases h),?_⟩
      gi_wp2
      exact⟨But.refl _ _,rfl,.inl (by rw[gn'.o,if_pos g2,cF];exact hJ4)⟩
    . have hw2:IntKind.i64.wrap (x.2+1)=x.2+1:=kW (by have:=hlo.1;omega) (by have:=hhi.2;omega)
      gi_wp2
      refine⟨λ_ h=>(by cases h),?_⟩
      gi_wp2
      exact up'.o W3 (But.refl _ _) g2 hJ4
 case done=>
  rintro D Wx hD ⟨hB,hJ,hf,hpre⟩ _ hK;have ge:=ox (P:=P) lo hi [] hpre;rw[cF] at ge;have sz:=hB.size;have fX:Wx.cell? ⟨W.heap.size+1,0,none⟩=some (.int .i64 (jy lo P)):=by rw[au _ _ _ _ _ _ hf];rfl
  have yX:=(hB.cell (p:=⟨W.heap.size,0,none⟩) (block_lt_of_cell yc) (λh=>h.elim (λh=>em _ (hX _ h).2) (λh=>Nat.ne_of_lt (fE _) h))).trans yc
  have hXc:=(hB.cell (p:=⟨B3,0,none⟩) (block_lt_of_cell hc) (λh=>h.elim (λh=>nS _ (.inr (.inr (.inr rfl))) h) (λh=>Nat.ne_of_lt (Nat.lt_succ_of_lt lB3) h))).trans hc
  obtain⟨fn,tmps,assign,body,hy,hR⟩:=Y.o (jI lo P) (jy lo P,hi) [] Wx (by rw[ge];rfl) hJ (by omega)
  simp only[enR,rcs] at hy;have ge':=ig (show gap lo hi P=jI lo P++[(jy lo P,hi)] from ge)
  clear ge PS;generalize jy lo P=f at *;gi_wp2
  refine⟨rfl,hR.mono ?_⟩;have bWx:But S W Wx:=(But.ofBelow (S:=S) bc).trans hB (λz hz h=>h.elim id (λe=>by omega))
  have nD:¬S D:=λh=>by have:=(hX _ h).2;omega
  rintro e W4 ⟨h34,⟨rfl,hJ4⟩|⟨rfl,hJ4⟩⟩
  . have hK4:=h34.same hK nD;have s4:=h34.size;gi_wp2
    refine⟨by simp,.inl ⟨_,_,rfl,ee hK4,?_⟩⟩
    exact⟨_,eu rfl _ _ _,⟨_,rfl⟩,(bWx.trans h34 (λ_ _ h=>h)).putObj (λh=>by omega) _,.inl (by rw[ge'.o];exact aJ _ _ _ hJ4 (by omega) ((But.refl _ _).putObj (λ_=>by omega) _))⟩
  . have hK4:=h34.same hK nD;have s4:=h34.size;gi_wp2
    refine⟨by simp,.inl ⟨_,_,rfl,ee hK4,?_⟩⟩
    exact⟨_,eu rfl _ _ _,⟨_,rfl⟩,(bWx.trans h34 (λ_ _ h=>h)).putObj (λh=>by omega) _,.inr ⟨_,[],by rw[ge'.o,cF],aJx _ _ _ hJ4 (by omega) ((But.refl _ _).putObj (λ_=>by omega) _)⟩⟩
 case stop=>
  rintro D c pre rest Wx hD hxs ⟨rfl,hJ4⟩ hB hK;have bWx:But S W Wx:=(But.ofBelow (S:=S) bc).trans hB (λz hz h=>h.elim id (λe=>by omega))
  have sz:=hB.size;gi_wp2
  refine⟨by simp,.inl ⟨_,_,rfl,ee hK,?_⟩⟩
  exact⟨_,eu rfl _ _ _,⟨_,rfl⟩,bWx.putObj (λh=>by omega) _,hJ4.imp (λh=>aJ _ _ _ h (by omega) ((But.refl _ _).putObj (λ_=>by omega) _)) (λ⟨p,r,e,h⟩=>⟨p,r,e,aJx _ _ _ h (by omega) ((But.refl _ _).putObj (λ_=>by omega) _)⟩)⟩
def mxi:Nat:=9223372036854775807
theorem nG{fn:Func}{p:Tmp}(h:fn.results=#[.cell p 3])(tmps:Array Value)(w:World)(g:Nat)(v:Value)(hp:tmps.getD p undef=.pointer (some ⟨g,0,none⟩))(hc:w.cell? ⟨g,0,none⟩=some v):
 (results fn tmps).run Tryz.prog w=.ok v w:=by
 have hp':tmps[p]?.getD undef=.pointer (some ⟨g,0,none⟩):=by simpa using hp
 simp[results,h,hp',asAddr,loadVar,Tryz.isAgg3,run_load,hc]
theorem setD{p:Addr}{v:Value}(D:Nat)(h:D≠p.block):(w.setCell p v).heap[D]?=w.heap[D]?:=Below.heap_setCell _ _ _ _ h
theorem mf(w w0:World)(gf:Nat)(lb:Array Value)(xs:List Rn)(X:Nat->Prop)(hseq:uv Tryz.prog gf lb enR xs w0 X)(h0X:But (λk=>¬X k) w0 w)(hXw:∀k,X k->k<w.heap.size/\k<w0.heap.size)(eg:∀args w,(callFunc gf args).run Tryz.prog w=.ok (.enter gf args) w)
 (hb:∀r∈xs,Nm r.1/\Nm r.2/\r.1<=r.2):
 Calls Tryz.prog 149 #[.func (.func gf) #[] lb] w λe w'=>e=.returned (.int .i64 ((min (sz xs) mxi:Nat):Int))/\Below w.heap.size w w':=by
 obtain⟨ans,hans⟩:∃ans:Nat,min (sz xs) mxi=ans:=⟨_,rfl⟩;rw[hans];refine(eQ (n:=0)).1 ?_;refine fb Tryz.func149 rfl trivial ?_ rfl;simp only[Tryz.ntmps149,da,bg,bh,Nat.reduceAdd,Nat.reduceSub,dw,dy,dG,dA,cO,dl];gi_wp2_with fail
 obtain⟨Wc,hWc⟩:∃Wc,(w.alloc (.cells #[.int .i64 0] 3)).alloc (.cells #[.int .i64 0] 3)=Wc:=⟨_,rfl⟩;have bc:Below w.heap.size w Wc:=by rw[<-hWc];exact bt (al _ _) (al _ _)
 have sWc:Wc.heap.size=w.heap.size+1+1:=by rw[<-hWc,size_alloc,size_alloc]
 have r0:Wc.heap[w.heap.size]?=some (.cells #[.int .i64 0] 3 (0,0)):=by
  rw[<-hWc];have c:=az w (.cells #[.int .i64 0] 3);exact((al _ _).block w.heap.size (af.1 c).1).trans c
 have n0:Wc.heap[w.heap.size+1]?=some (.cells #[.int .i64 0] 3 (0,0)):=by
  rw[<-hWc];have c:=az (w.alloc (.cells #[.int .i64 0] 3)) (.cells #[.int .i64 0] 3);rwa [size_alloc] at c
 rw[hWc];clear hWc;have hans':=ig hans;clear hans
 refine tq (gf:=gf) (lb:=lb) rfl eg hseq (h0X.andBelow bc)
  (λk hk=>by have:=hXw k hk;omega) (λ_=>rfl) (λk=>k=w.heap.size\/k=w.heap.size+1)
  (λk hk=>⟨λh=>by have:=hXw k h;omega,by omega⟩)
  (λpre Wx=>But (λk=>k=w.heap.size\/k=w.heap.size+1) Wc Wx/\sz pre<=mxi/\Wx.heap[w.heap.size]?=some (.cells #[.int .i64 0] 3 (0,0))/\Wx.heap[w.heap.size+1]?=some (.cells #[.int .i64 ((sz pre:Nat):Int)] 3 (0,0)))
  (λc pre Wx=>c=.ret/\mxi<=sz pre/\Wx.heap[w.heap.size]?=some (.cells #[.int .i64 9223372036854775807] 3 (0,0)))
  (λs X1 X2 hs hn hb=>⟨hs.1.trans hb (λx hx h=>by omega),hs.2.1,hb.same hs.2.2.1 (by omega),hb.same hs.2.2.2 (by omega)⟩)
  (λc s X1 X2 hs hn hb=>⟨hs.1,hs.2.1,hb.same hs.2.2 (by omega)⟩)
  ⟨But.refl _ _,aF _,r0,n0⟩ ?round ?done ?stop
 case round=>
  rintro l' pre x rest W2 hxs ⟨hB,hsz,hr,hn⟩ hl1 hl2;unfold enR rcs;gi_wp2
  refine⟨al _ _,λW3 h3=>?_⟩
  have sz2:=hB.size;have b23:But (λk=>k=l') W2 W3:=(But.ofBelow (al _ _)).trans h3 (λ_ _ h=>h)
  have r3:=b23.same hr (by omega)
  have n3:=b23.same hn (by omega)
  have r3c:W3.cell? ⟨w.heap.size,0,none⟩=some (.int .i64 0):=by rw[au _ _ _ _ _ _ r3];rfl
  have n3c:W3.cell? ⟨w.heap.size+1,0,none⟩=some (.int .i64 ((sz pre:Nat):Int)):=by rw[au _ _ _ _ _ _ n3];rfl
  have r3f:W3.frozen? ⟨w.heap.size,0,none⟩=false:=bq _ _ _ _ _ r3;have n3f:W3.frozen? ⟨w.heap.size+1,0,none⟩=false:=bq _ _ _ _ _ n3;have m0:=az W2 (.cells #[.int .i64 x.1,.int .i64 x.2] 171);have m3:=h3.same m0 (by omega)
  have m1:W3.cell? ⟨W2.heap.size,0,none⟩=some (.int .i64 x.1):=by rw[au _ _ _ _ _ _ m3];rfl
  have m2:W3.cell? ⟨W2.heap.size,1,none⟩=some (.int .i64 x.2):=by rw[au _ _ _ _ _ _ m3];rfl
  obtain⟨⟨x1,x2⟩,⟨x3,x4⟩,x5⟩:=hb x (by rw[hxs];simp)
  have hsx:sz (pre++[x])=sz pre+(x.2-x.1+1).toNat:=by rw[nR];rfl
  have hB3:But (λk=>k=w.heap.size\/k=w.heap.size+1) Wc W3:=hB.trans b23 (λz hz h=>by omega)
  obtain⟨d,hd⟩:∃d:Nat,(d:Int)=x.2-x.1:=⟨(x.2-x.1).toNat,by omega⟩
  have hsx':sz (pre++[x])=sz pre+d+1:=by omega
  generalize sz pre=s at *;clear m0 m3 h3 b23 hB hxs hsx;unfold mxi at hsz;have hd':x.2-x.1=(d:Int):=hd.symm;have hw1r:(W3.setCell ⟨w.heap.size+1,0,none⟩ (.int .i64 ((s:Int)+((d:Int)+1)))).heap[w.heap.size]?=W3.heap[w.heap.size]?:=Below.heap_setCell _ _ _ _ (by simp)
  have hcv:IntKind.u64.wrap (IntKind.u64.wrap x.2-IntKind.u64.wrap x.1)=(d:Int):=by rw[IntKind.wrap_u64,IntKind.wrap_u64,IntKind.wrap_u64];omega
  have hd64:(d:Int)<18446744073709551616:=by omega
  have hsx2:=ig hsx';clear hsx' hd;by_cases hg:(9223372036854775807:Int)-(s:Int)<=(d:Int)
  . gi_wp2
    have hw1:But (λk=>k=w.heap.size\/k=w.heap.size+1) W3 (W3.setCell ⟨w.heap.size,0,none⟩ (.int .i64 9223372036854775807)):=(But.refl _ _).setCell (λ_=>.inl rfl) _
    exact⟨hw1,rfl,by rw[hsx2.o];unfold mxi;omega,by rw[aM _ _ _ _ _ _ r3];rfl⟩
  . gi_wp2
    have hw1:But (λk=>k=w.heap.size\/k=w.heap.size+1) W3 (W3.setCell ⟨w.heap.size+1,0,none⟩ (.int .i64 ((s:Int)+((d:Int)+1)))):=(But.refl _ _).setCell (λ_=>.inr rfl) _
    refine⟨hw1,hB3.trans hw1 (λ_ _ h=>h),by rw[hsx2.o];unfold mxi;omega,(hw1r.trans r3),?_⟩
    rw[aM _ _ _ _ _ _ n3,hsx2.o,show((s+d+1:Nat):Int)=(s:Int)+((d:Int)+1) by omega]
    rfl
 case done=>
  rintro D Wx hD ⟨hB,hsz,hr,hn⟩ hBw hK;have rc':Wx.cell? ⟨w.heap.size,0,none⟩=some (.int .i64 0):=by rw[au _ _ _ _ _ _ hr];rfl
  have nc':Wx.cell? ⟨w.heap.size+1,0,none⟩=some (.int .i64 ((sz xs:Nat):Int)):=by rw[au _ _ _ _ _ _ hn];rfl
  have rf':Wx.frozen? ⟨w.heap.size,0,none⟩=false:=bq _ _ _ _ _ hr;have ea:ans=sz xs:=by rw[<-hans'.o];exact db hsz
  have bW:=(But.ofBelow (S:=λ_=>False) bc).trans hBw (λz hz h=>by omega)
  have sz':=hB.size;rw[<-ea] at nc';clear ea hn hseq;gi_wp2
  refine⟨by simp,.inl ⟨_,_,rfl,ee ((setD D (by show D≠w.heap.size;omega)).trans hK),?_⟩⟩
  refine⟨_,nG rfl _ _ w.heap.size _ rfl ?_,rfl,?_⟩
  . have q1:(Wx.setCell ⟨w.heap.size,0,none⟩ (.int .i64 (ans:Int))).heap[w.heap.size]?=_:=aM _ _ _ _ _ _ hr;rw[au _ _ _ _ _ _ ((dq (by omega)).trans q1)]
    rfl
  . exact((bW.setCell (λh=>absurd h (em _)) _).putObj (λh=>by omega) _).below (λ_ _ h=>h)
 case stop=>
  rintro D c pre rest Wx hD hxs ⟨rfl,h1,hr⟩ hBw hK
  have ea:(ans:Int)=9223372036854775807:=by
   have h2:sz xs=sz pre+sz rest:=by rw[hxs,nR]
   have h3:min (sz xs) mxi=mxi:=by omega
   rw[<-hans'.o,h3];rfl
  have bW:=(But.ofBelow (S:=λ_=>False) bc).trans hBw (λz hz h=>by omega)
  gi_wp2
  refine⟨by simp,.inl ⟨_,_,rfl,ee hK,?_⟩⟩
  refine⟨_,nG rfl _ _ w.heap.size (.int .i64 9223372036854775807) rfl ?_,?_,?_⟩
  . rw[au _ _ _ _ _ _ ((dq (by omega)).trans hr)]
    rfl
  . rw[ea]
  . exact(bW.putObj (λh=>by omega) _).below (λ_ _ h=>h)
end Go.Proofs.YtbdkogimlbnlmaaGreat.Q
