import Derived.Test.YtbdkogimlbnlmaaGreatWlB4
import Derived.Laws.ResultCell
import Derived.BigFrameIn
set_option linter.all false
set_option maxHeartbeats 4000000
set_option maxRecDepth 10000
namespace Go.Proofs.YtbdkogimlbnlmaaGreat.Q
open Tryz
open Go.RowKit
variable {X:List Int}{C:List Value}{c cap g n sz:Nat}{a:Option Addr}{e:TypeId}{w w' wx:World}
def Gw(e:TypeId)(sz:Nat)(w:World)(a:Option Addr)(cap n:Nat)(C:List Value):Prop:=w.ownsRow 0 e sz (.slice a n cap) n C
theorem Gw.nil(e:TypeId)(sz:Nat)(w:World):Gw e sz w none 0 0 []:=fB w 0 e sz
theorem Gw.length(h:Gw e sz w a cap n C):C.length=n*sz:=h.1
theorem Gw.cases(h:Gw e sz w a cap n C):(a=none/\cap=0/\n=0/\C=[])\/
 ∃g cur,a=some ⟨g,0,none⟩/\w.heap[g]?=some (.cells cur e (0,0))/\n<=cap/\cap<=maxLen/\cur.size=cap*sz/\cur.toList.take (n*sz)=C:=by
 have f:=h.1;obtain⟨_,d⟩:=h;rcases d with⟨hv,h0⟩|⟨g,cap',cur,hv,_,hg,hn,hm,hs,ht⟩
 . simp only[bM] at hv;refine .inl ⟨hv.1,hv.2.2,h0,co.1 ?_⟩;rw[f,h0,eE]
 . simp only[bM] at hv;obtain⟨b,_,rfl⟩:=hv;exact .inr ⟨g,cur,b,hg,hn,hm,hs,ht⟩
theorem Gw.mk{cur:Array Value}(d:C.length=n*sz)(b:w.heap[g]?=some (.cells cur e (0,0)))(h:n<=cap)(f:cap<=maxLen)(i:cur.size=cap*sz)(j:cur.toList.take (n*sz)=C):Gw e sz w (some ⟨g,0,none⟩) cap n C:=
 ⟨d,.inr ⟨g,cap,cur,rfl,az _,b,h,f,i,j⟩⟩
theorem Gw.lt(h:Gw e sz w a cap n C){x:Addr}(b:a=some x):x.block<w.heap.size:=by
 rcases h.cases with⟨rfl,_⟩|⟨g,cur,rfl,hg,_⟩
 . cases b
 . cases b;exact(af.1 hg).1
theorem Gw.but{S:Nat->Prop}(h:Gw e sz w a cap n C)(hb:But S w w')(d:∀x,a=some x->¬S x.block):Gw e sz w' a cap n C:=by
 have b:=h.length;rcases h.cases with⟨rfl,rfl,rfl,rfl⟩|⟨g,cur,rfl,hg,h1,h2,h3,h4⟩
 . exact Gw.nil e sz w'
 . exact Gw.mk b (hb.same hg (d _ rfl)) h1 h2 h3 h4
theorem Gw.keep(h:Gw e sz w a cap n C)(hb:Below w.heap.size w w'):Gw e sz w' a cap n C:=
 h.but (S:=λ_=>False) (But.ofBelow hb) (λ_ _ b=>b)
theorem Gw.addr(h:Gw e sz w a cap n C)(b:0<n):∃g,a=some ⟨g,0,none⟩:=by
 rcases h.cases with⟨rfl,rfl,rfl,rfl⟩|⟨g,cur,rfl,hg,h1,h2,h3,h4⟩
 . omega
 . exact⟨g,rfl⟩
theorem Gw.cell(h:Gw e sz w (some ⟨g,0,none⟩) cap n C){i:Nat}{u:Value}(hi:C[i]?=some u):w.cell? ⟨g,i,none⟩=some u:=by
 rcases h.cases with⟨h0,_⟩|⟨g',cur,h0,hg,h1,h2,h3,h4⟩
 . cases h0
 . simp only[aE,Addr.mk.injEq,eH] at h0;subst h0;have b:=(bz.1 hi).1;rw[<-h4,cH] at hi;split at hi
   . rw[ay _ _ _ _ _ _ hg];simpa using hi
   . cases hi
theorem Gw.capLe(h:Gw e sz w a cap n C):n<=cap/\cap<=maxLen:=by
 rcases h.cases with⟨rfl,rfl,rfl,rfl⟩|⟨g,cur,rfl,hg,h1,h2,h3,h4⟩
 . exact⟨ai _,az _⟩
 . exact⟨h1,h2⟩
theorem qv{T e:TypeId}{sz b:Nat}{z:Value}(t:prog.underlying T=some (.slice e))(hi:(prog.info? e).map (λi=>(i.zero,i.size,i.bytes))=some (some z,sz,b))(H:z.cells.size=sz)(B:0<sz)
 (w:World) (m:TypeId) (a:Option Addr) (n cap:Nat) (C:List Value) (p:Gw e sz w a cap n C) (f:Addr) (c:Nat) (V:List Value) (q:V.length=sz) (r:∀j u,V[j]?=some u->w.cell? (f.add j)=some u) (h:∀u∈V,u.oneCell'=true) (I:n+1<=4398046511104) (A:b<=32):
 ∃g d w',(Builtin.append_ #[T,T] m #[.slice a n cap,.slice (some f) 1 c]).run prog w=.ok (.slice (some ⟨g,0,none⟩) (n+1) d) w'/\
  Gw e sz w' (some ⟨g,0,none⟩) d (n+1) (C++V)/\New w a (some ⟨g,0,none⟩)/\But (InA a) w w':=by
 obtain⟨x,hi,D,E,G⟩:=dr hi;have hb:(n+1)*b<=140737488355328:=aO (Nat.mul_le_mul I A) (by decide)
 obtain⟨g,d,w',s,h,k,h3,J⟩:=dW (P:=prog) w T m 0 e x z sz b t hi D E G H B (.slice a n cap) n C p f 1 c V (by rw[q,Nat.one_mul]) r h (by decide) (by unfold maxLen;omega) hb (az _) w.heap.size rfl
 rw[kA] at k h3;refine⟨g,d,w',s,h,?_,But.inA k⟩;intro y l;simp only[aE] at l;subst l;rcases h3 with h3|h3
 . obtain⟨z,v,e⟩:=map_some h3;exact .inl ⟨z,v,e⟩
 . exact .inr (by show _<=g;omega)
def cnt(r:Rn):Nat:=(r.2-r.1+1).toNat
def jC(x:Int)(c:Nat):List Int:=(List.range c).map λi=>x+((i:Nat):Int)
theorem xe(x:Int)(c:Nat):(jC x c).length=c:=by simp[jC]
theorem tK(x:Int)(c:Nat):jC x (c+1)=jC x c++[x+c]:=by simp[jC,gm]
theorem tI(x:Int)(c j:Nat)(h:j<=c):(jC x c).take j=jC x j:=by
 unfold jC;rw[<-List.map_take,List.take_range,dq h]
def jE(L:List Rn):List Int:=(L.map λr=>jC r.1 (cnt r)).flatten
theorem tG{L:List Rn}{k:Nat}(b:k<L.length):jE (L.take (k+1))=jE (L.take k)++jC (L.getD k Rn.zero).1 (cnt (L.getD k Rn.zero)):=by
 unfold jE;rw[jO L Rn.zero b,bP,gS];simp
def ic(X:List Int):List Value:=X.map λx=>Value.int .i64 x
theorem A9(X Y:List Int):ic (X++Y)=ic X++ic Y:=by simp[ic]
structure Xw(w wx:World)(a:Option Addr)(c:Nat)(X:List Int):Prop where
 row:Gw 3 1 wx a c X.length (ic X)
 na:New w none a
 b:Below w.heap.size w wx
theorem Xw.keep{b:World}(h:Xw w wx a c X)(hb:Below wx.heap.size wx b):Xw w b a c X:=⟨h.row.keep hb,h.na,bt h.b hb⟩
theorem ES:(prog.info? 3).map (λi=>(i.zero,i.size,i.bytes))=some (some (.int .i64 0),1,8):=by kernel_rfl
theorem Xw.next(h:Xw w wx a c X)(m:n=X.length)(x:Int)(l:n+1<=4294967296):
 ∃g f w',(Builtin.append_ #[35,35] 35 #[.slice a n c,.slice (some ⟨wx.heap.size,0,none⟩) 1 1]).run prog (wx.alloc (.cells #[.int .i64 x] 3))=.ok (.slice (some ⟨g,0,none⟩) (n+1) f) w'/\Xw w w' (some ⟨g,0,none⟩) f (X++[x]):=by
 subst m;have b:=h.keep (al wx (.cells #[.int .i64 x] 3))
 obtain⟨g,f,v,p,r,s,t⟩:=qv underlying35 ES rfl (by decide) (wx.alloc (.cells #[.int .i64 x] 3)) 35 a X.length c (ic X) b.row ⟨wx.heap.size,0,none⟩ 1 [.int .i64 x] rfl
  (by intro j u d
      match j,d with
      |0,d=>simp at d;subst d;exact jd wx _ _) (by intro u i;simp at i;subst i;rfl) (aO l (by decide)) (by decide)
 refine⟨g,f,v,p,⟨by rw[A9,ae];exact r,b.na.trans s b.b.size,?_⟩⟩
 refine((But.ofBelow (S:=λ_=>False) b.b).trans t (λk A ⟨y,q,e⟩=>?_)).below (λ_ _ h=>h)
 rcases b.na y q with⟨z,hz,_⟩|h2
 . cases hz
 . omega
end Go.Proofs.YtbdkogimlbnlmaaGreat.Q
namespace Go.Proofs.YtbdkogimlbnlmaaGreat.Q
open Tryz
open Go.RowKit Go.Shelf
attribute [local go_sem] Oper.semAt_some
def mq{β:Type}(n:Nat)(J:(Nat->Prop)->β->World->Prop):Prop:=∀F s A B,J F s A->But (λk=>¬F k/\n<=k) A B->J F s B
def oj{β:Type}(J:(Nat->Prop)->β->World->Prop):Prop:=∀F s A,J F s A->∀k,F k->k<A.heap.size
def YesF{α:Type}(F:Nat->Prop)(J Jx:(Nat->Prop)->List α->World->Prop)(pre:List α)(W:World)(e:Ending)(W':World):Prop:=
 ∃F':Nat->Prop,But F W W'/\(∀k,F' k->F k\/W.heap.size<=k)/\((e=.returned (.bool true)/\J F' pre W')\/(e=.returned (.bool false)/\Jx F' pre W'))
def yN{α:Type}(P:Program)(g:Nat)(lb:Array Value)(encs:α->Array Value)(xs:List α)(w:World)(X:Nat->Prop):Prop:=
 ∀(l:Nat)(J Jx:(Nat->Prop)->List α->World->Prop)(W:World)(F0:Nat->Prop),But (λk=>¬X k) w W->(∀k,F0 k->¬X k)->mq W.heap.size J->oj J->
  (∀F pre x rest W1,xs=pre++x::rest->J F pre W1->W.heap.size<=W1.heap.size->(∀k,F k->F0 k\/W.heap.size<=k)->YieldAt Fence.wide 0 P l (encs x) W1 (YesF F J Jx (pre++[x]) W1))->
  J F0 [] W->CallsIn Fence.wide 0 P g (#[.func (.yield l) #[] #[]]++lb) W λe W'=>∃F':Nat->Prop,(∃v,e=.returned v)/\But F0 W W'/\(∀k,F' k->F0 k\/W.heap.size<=k)/\(J F' xs W'\/∃pre rest,xs=pre++rest/\Jx F' pre W')
def zG{α:Type}(F:Nat->Prop)(I:(Nat->Prop)->List α->World->Prop)(Ix:Code->(Nat->Prop)->List α->World->Prop)(pre:List α)(W:World):Exit->Act->World->Prop
 | .normal,_,W'=>∃F':Nat->Prop,But F W W'/\(∀k,F' k->F k\/W.heap.size<=k)/\I F' pre W'
 | .ret,_,W'=>∃F':Nat->Prop,But F W W'/\(∀k,F' k->F k\/W.heap.size<=k)/\Ix .ret F' pre W'
 | .exit id,_,W'=>∃F':Nat->Prop,But F W W'/\(∀k,F' k->F k\/W.heap.size<=k)/\Ix (.exit id) F' pre W'
 | .goto t,_,W'=>∃F':Nat->Prop,But F W W'/\(∀k,F' k->F k\/W.heap.size<=k)/\Ix (.goto t) F' pre W'
 | .panic _,_,_=>False
 | .outgrown,_,_=>False
def _root_.Go.Proofs.YtbdkogimlbnlmaaGreat.YesG{α:Type}(F:Nat->Prop)(J Jx:(Nat->Prop)->List α->World->Prop)(pre:List α)(W0 W:World)(e:Ending)(W':World):Prop:=
 ∃F':Nat->Prop,But F W W'/\(∀k,F' k->F k\/W0.heap.size<=k)/\((e=.returned (.bool true)/\J F' pre W')\/(e=.returned (.bool false)/\Jx F' pre W'))
def _root_.Go.Proofs.YtbdkogimlbnlmaaGreat.roundEndG{α:Type}(F:Nat->Prop)(I:(Nat->Prop)->List α->World->Prop)(Ix:Code->(Nat->Prop)->List α->World->Prop)(pre:List α)(W0 W:World):Exit->Act->World->Prop
 | .normal,_,W'=>∃F':Nat->Prop,But F W W'/\(∀k,F' k->F k\/W0.heap.size<=k)/\I F' pre W'
 | .ret,_,W'=>∃F':Nat->Prop,But F W W'/\(∀k,F' k->F k\/W0.heap.size<=k)/\Ix .ret F' pre W'
 | .exit id,_,W'=>∃F':Nat->Prop,But F W W'/\(∀k,F' k->F k\/W0.heap.size<=k)/\Ix (.exit id) F' pre W'
 | .goto t,_,W'=>∃F':Nat->Prop,But F W W'/\(∀k,F' k->F k\/W0.heap.size<=k)/\Ix (.goto t) F' pre W'
 | .panic _,_,_=>False
 | .outgrown,_,_=>False
def _root_.Go.Proofs.YtbdkogimlbnlmaaGreat.SeqG{α:Type}(P:Program)(g:Nat)(lb:Array Value)(En:World->World->α->Array Value->Prop)(xs:List α)(w:World)(X:Nat->Prop):Prop:=
 ∀(l:Nat)(J Jx:(Nat->Prop)->List α->World->Prop)(W:World)(F0:Nat->Prop),But (λk=>¬X k) w W->(∀k,F0 k->¬X k)->Q.mq W.heap.size J->Q.oj J->
  (∀F pre x rest W0 W1 vals,xs=pre++x::rest->J F pre W0->Below W0.heap.size W0 W1->En W0 W1 x vals->W.heap.size<=W0.heap.size->(∀k,F k->F0 k\/W.heap.size<=k)->YieldAt Fence.wide 0 P l vals W1 (YesG F J Jx (pre++[x]) W0 W1))->
  J F0 [] W->CallsIn Fence.wide 0 P g (#[.func (.yield l) #[] #[]]++lb) W λe W'=>∃F':Nat->Prop,(∃v,e=.returned v)/\But F0 W W'/\(∀k,F' k->F0 k\/W.heap.size<=k)/\(J F' xs W'\/∃pre rest,xs=pre++rest/\Jx F' pre W')
theorem _root_.Go.Proofs.YtbdkogimlbnlmaaGreat.wp_rangeG{P:Program}{α:Type}{g:Operand}{ps:Array Tmp}{assign body:Code}{Qz:Exit->Act->World->Prop}{a:Act}{w:World}
 {gf:Nat} {lb:Array Value} (hg:a.eval g=.func (.func gf) #[] lb) (eg:∀args w,(callFunc gf args).run P w=.ok (.enter gf args) w)
 {En:World->World->α->Array Value->Prop} {xs:List α} {w0:World} {X:Nat->Prop} (aM:SeqG P gf lb En xs w0 X) (aE:But (λk=>¬X k) w0 w) (aq:∀k,X k->k<w.heap.size) (aK:∀j W x L,En j W x L->L.size=ps.size)
 (d:Nat->Prop) (hF:∀k,d k->¬X k) (I:(Nat->Prop)->List α->World->Prop) (Ix:Code->(Nat->Prop)->List α->World->Prop) (hI:Q.mq w.heap.size I) (sI:Q.oj I) (ae:∀c,Q.mq w.heap.size (Ix c)) (aT:∀c,Q.oj (Ix c)) (h0:I d [] w)
 (aB:∀(l:Nat)(F:Nat->Prop)(pre:List α)(x:α)(ac:List α)(j W:World)(L:Array Value),xs=pre++x::ac->I F pre j->Below j.heap.size j W->En j W x L->w.heap.size<=j.heap.size->(∀k,F k->d k\/w.heap.size<=k)->¬F l->w.heap.size<=l->l<j.heap.size->But d w j->
   assign.wpIn (Fence.wide.inRound l) 0 P (Exit.then (λa₁ W₁=>Below W.heap.size W W₁/\∀W₂,But (λk=>k=l) W₁ W₂->body.wpIn (Fence.wide.inRound l) 0 P (roundEndG F I Ix (pre++[x]) j W₂) a₁ W₂) (λ_ _ _=>False))
    {tmps:=(ps.zip L).foldl (λt (p,v)=>t.setIfInBounds p v) a.tmps,defers:=[]} W)
 (az:∀(D:Nat)(F:Nat->Prop)(W:World),w.heap.size<=D->¬F D->I F xs W->But d w W->(∀k,F k->d k\/w.heap.size<=k)->W.heap[D]?=some (.deferred (some []))->Qz .normal {a with defers:={target:=.collected D,args:=#[]}::a.defers} W)
 (aA:∀(D:Nat)(c:Code)(F:Nat->Prop)(pre ac:List α)(W:World),w.heap.size<=D->¬F D->xs=pre++ac->Ix c F pre W->But d w W->(∀k,F k->d k\/w.heap.size<=k)->W.heap[D]?=some (.deferred (some []))->c.wpIn Fence.wide 0 P Qz {a with defers:={target:=.collected D,args:=#[]}::a.defers} W):
 (Code.rangeFunc g ps assign body).wpIn Fence.wide 0 P Qz a w:=by
 refine wpIn_rangeFunc λfn aI=>?_
 obtain⟨m,J⟩:∃m:LoopState->Option Code->Loop,m=λst pe=>{state:=st,pending:=pe,fn,tmps:=a.tmps,params:=ps,assign,body,defers:=w.heap.size}:=⟨_,rfl⟩
 have am:=run_enterLoop_outer (P:=P) (w:=w) fn a.tmps ps assign body;obtain⟨V,hV⟩:∃V,(w.alloc (.deferred (some []))).alloc (.loop (m .ready none))=V:=⟨_,rfl⟩;have sV:V.heap.size=w.heap.size+2:=by rw[<-hV,size_alloc,size_alloc]
 have rV:V.heap[w.heap.size+1]?=some (.loop (m .ready none)):=by
  rw[<-hV];have:=aF (w.alloc (.deferred (some []))) (.loop (m .ready none));rwa [World.size_alloc] at this
 have dV:V.heap[w.heap.size]?=some (.deferred (some [])):=by
  rw[<-hV];exact(Below.heap_alloc _ _ _ (by simp)).trans (aF w _)
 have bV:Below w.heap.size w V:=by rw[<-hV];exact bt ((Below.refl _ _).alloc (ai _) _) ((Below.refl _ _).alloc (ai _) _)
 have O:∀k,d k->k<w.heap.size:=sI _ _ _ h0;have IV:I d [] V:=hI _ _ _ _ h0 (But.ofBelow bV);obtain⟨N,hN⟩:∃N:Nat,N=w.heap.size:=⟨_,rfl⟩;refine⟨w.heap.size+1,[{target:=.collected w.heap.size,args:=#[]}],V,{target:=.fn (.func gf) lb,args:=#[.func (.yield (w.heap.size+1)) #[] #[]]},V,gf,#[.func (.yield (w.heap.size+1)) #[] #[]]++lb,V,?_,?_,?_,?_,?_,?_⟩
 . rw[<-hV,J];exact am
 . simp only[resolve,hg];simp[go_sem]
 . intro f' _;trivial
 . simp[invoke,go_sem,eg]
 . intro h;cases h
 rw[<-hN] at sV rV dV O hI ae aB az aA J ⊢
 have step:=aM (N+1)
  (λF pre W=>∃b:Nat->Prop,(∀k,F k↔(b k\/k=N\/k=N+1))/\(∀k,b k->d k\/N+2<=k)/\I b pre W/\W.heap[N+1]?=some (.loop (m .ready none))/\W.heap[N]?=some (.deferred (some []))/\But d w W)
  (λF pre W=>∃c,∃b:Nat->Prop,(∀k,F k↔(b k\/k=N\/k=N+1))/\(∀k,b k->d k\/N+2<=k)/\Ix c b pre W/\W.heap[N+1]?=some (.loop (m .done (some c)))/\W.heap[N]?=some (.deferred (some []))/\But d w W)
  V (λk=>d k\/k=N\/k=N+1) (aE.andBelow bV)
  (λk f=>by
    rcases f with f|rfl|rfl
    . exact hF k f
    . exact λR=>by have:=aq _ R;omega
    . exact λR=>by have:=aq _ R;omega)
  (λF aD aC aO hs hb=>by
    obtain⟨b,h1,h2,h3,r,h5,h6⟩:=hs;exact⟨b,h1,h2,hI _ _ _ _ h3 (hb.mono λk _ f=>⟨λhf=>f.1 ((h1 k).2 (.inl hf)),by have:=f.2;omega⟩),hb.same r (λh=>h.1 ((h1 _).2 (.inr (.inr rfl)))),hb.same h5 (λh=>h.1 ((h1 _).2 (.inr (.inl rfl)))),h6.trans hb (λk f h=>by have:=h.2;omega)⟩)
  (λF aD aC hs k f=>by
    obtain⟨b,h1,h2,h3,r,h5,h6⟩:=hs;rcases (h1 k).1 f with h|rfl|rfl
    . exact sI _ _ _ h3 k h
    . exact(af.1 h5).1
    . exact(af.1 r).1)
  ?_ ⟨d,λk=>gF,λk f=>.inl f,IV,rV,dV,But.ofBelow bV⟩
 . refine CallsIn.mono step ?_;rintro ah W ⟨F',⟨v,rfl⟩,hB,aP,⟨b,H,q,hi,hl,hd,e⟩|⟨pre,ac,R,c,b,H,q,hi,hl,hd,e⟩⟩
   . have ap:∀(G:Nat->Prop) o,¬G (N+1)->But (λk=>¬G k/\N<=k) W (W.putObj (N+1) o):=λG o i=>(But.refl _ W).putObj (l:=N+1) (λ_=>⟨i,by omega⟩) o
     have T:¬b (N+1):=λh=>(q _ h).elim (λh=>by have:=O _ h;omega) (λh=>by omega)
     have n0:¬b N:=λh=>(q _ h).elim (λh=>by have:=O _ h;omega) (λh=>by omega)
     have ag:=run_endLoop (P:=P) hl (by rw[J];simp)
     rw[show(m .ready none).pending=none by rw[J]] at ag
     refine⟨none,_,ag,?_⟩;have:=e.size;refine az N b _ (ai _) n0 (hI _ _ _ _ hi (ap b _ T)) (e.putObj (λh=>by omega) _) (λk f=>(q k f).imp id (λh=>by omega)) ?_
     exact(dz (by omega)).trans hd
   . have ap:∀(G:Nat->Prop) o,¬G (N+1)->But (λk=>¬G k/\N<=k) W (W.putObj (N+1) o):=λG o i=>(But.refl _ W).putObj (l:=N+1) (λ_=>⟨i,by omega⟩) o
     have T:¬b (N+1):=λh=>(q _ h).elim (λh=>by have:=O _ h;omega) (λh=>by omega)
     have n0:¬b N:=λh=>(q _ h).elim (λh=>by have:=O _ h;omega) (λh=>by omega)
     have ag:=run_endLoop (P:=P) hl (by rw[J];simp)
     rw[show(m .done (some c)).pending=some c by rw[J]] at ag
     refine⟨some c,_,ag,?_⟩;have:=e.size;refine aA N c b pre ac _ (ai _) n0 R (ae c _ _ _ _ hi (ap b _ T)) (e.putObj (λh=>by omega) _) (λk f=>(q k f).imp id (λh=>by omega)) ?_
     exact(dz (by omega)).trans hd
 . rintro F pre x ac j W L R ⟨b,H,q,au,av,ar,ay⟩ ad am hW aQ;have hi:=hI _ _ _ _ au (But.ofBelow ad);have hl:=(ad.block (N+1) (af.1 av).1).trans av;have hd:=(ad.block N (af.1 ar).1).trans ar;have e:But d w W:=ay.trans (But.ofBelow (S:=d) ad) (λ_ _ h=>h)
   have aR:=ad.size;have T:¬b (N+1):=λh=>(q _ h).elim (λh=>by have:=O _ h;omega) (λh=>by omega)
   have n0:¬b N:=λh=>(q _ h).elim (λh=>by have:=O _ h;omega) (λh=>by omega)
   have hy:=run_yield (P:=P) (args:=L) hl (by rw[J];exact aK _ _ _ _ am)
   rw[J] at hy;refine⟨fn,_,assign,body,hy,roundIn_of_wpIn aI (wpIn_mono (aB (N+1) b pre x ac j W L R au ad am (by omega) (λk f=>(q k f).imp id (λh=>by omega)) T (by omega) (by omega) ay) ?_)⟩
   rintro ah a₁ W₁ n;cases ah with
   |normal=>
    obtain⟨al,aN⟩:=n;have aw:=(al.block (N+1) (by omega)).trans hl
    have aG:=(al.block N (by omega)).trans hd
    have aL:=run_beginRound (P:=P) aw (by rw[J])
    refine⟨_,aL,?_⟩;obtain⟨M,ao⟩:∃M,W₁.putObj (N+1) (.loop {m .ready none with state:=.busy})=M:=⟨_,rfl⟩;have l1:=(af.1 aw).1;have aj:But (λk=>k=N+1) W₁ M:=by rw[<-ao];exact(But.refl (λk=>k=N+1) _).putObj (λ_=>rfl) _
    have aJ:M.heap[N+1]?=some (.loop {m .ready none with state:=.busy}):=by rw[<-ao];exact gu l1
    have aH:M.heap[N]?=some (.deferred (some [])):=aj.same aG (by omega)
    have aS:=aj.size;have aU:=al.size;rw[ao];refine wpIn_mono (aN M aj) ?_
    have ak:∀(K:Option Code)(y:World)(G:Nat->Prop),But b M y->(∀k,G k->b k\/j.heap.size<=k)->
     ∃C,(Instr.endRound (N+1) K).run P y=.ok (.bool K.isNone) C/\But (λk=>¬G k/\N<=k) y C/\But F W C/\But d w C/\
     C.heap[N+1]?=some (.loop (m (if K.isNone then .ready else .done) K))/\C.heap[N]?=some (.deferred (some []))/\
     (∀k,(G k\/k=N\/k=N+1)->F k\/j.heap.size<=k)/\(∀k,G k->d k\/N+2<=k):=λK y G an i=>by
     have ax:=an.same aJ T;have l3:=(af.1 ax).1;have E:=run_endRound (P:=P) K ax;have e1:({ ({m .ready none with state:=.busy}:Loop) with state:=if K.isNone then .ready else .done,pending:=K}:Loop)=m (if K.isNone then .ready else .done) K:=by rw[J]
     rw[e1] at E;have g1:¬G (N+1):=λh=>(i _ h).elim T (λh=>by omega)
     have bF:But F W y:=((But.ofBelow (S:=F) al).trans aj (λx _ h=>(H x).2 (.inr (.inr h)))).trans an (λx _ h=>(H x).2 (.inl h))
     refine⟨_,E,(But.refl _ _).putObj (λ_=>⟨g1,by omega⟩) _,bF.putObj (λ_=>(H _).2 (.inr (.inr rfl))) _,?_,gu l3,(dz (by omega)).trans (an.same aH n0),?_,?_⟩
     . exact(e.trans (bF.putObj (λ_=>(H _).2 (.inr (.inr rfl))) _) (λk f h=>by
        rcases (H k).1 h with h|rfl|rfl
        . exact(q k h).elim id (λh=>by omega)
        . omega
        . omega))
     . rintro k (h|rfl|rfl)
       . exact(i k h).elim (λh=>.inl ((H k).2 (.inl h))) (λh=>.inr (by omega))
       . exact .inl ((H _).2 (.inr (.inl rfl)))
       . exact .inl ((H _).2 (.inr (.inr rfl)))
     . intro k h;exact(i k h).elim (q k) (λh=>.inr (by omega))
    rintro ah a3 y n;cases ah with
    |normal=>
     obtain⟨G,aa,i,s⟩:=n;obtain⟨C,E,Z,A,r,ab,B,U,Y⟩:=ak none y G aa i;exact⟨_,_,E,λk=>G k\/k=N\/k=N+1,A,U,.inl ⟨rfl,G,λk=>gF,Y,hI _ _ _ _ s Z,ab,B,r⟩⟩
    |ret=>
     obtain⟨G,aa,i,s⟩:=n;obtain⟨C,E,Z,A,r,ab,B,U,Y⟩:=ak (some .ret) y G aa i;exact⟨_,_,E,λk=>G k\/k=N\/k=N+1,A,U,.inr ⟨rfl,.ret,G,λk=>gF,Y,ae _ _ _ _ _ s Z,ab,B,r⟩⟩
    |exit id=>
     obtain⟨G,aa,i,s⟩:=n;obtain⟨C,E,Z,A,r,ab,B,U,Y⟩:=ak (some (.exit id)) y G aa i;exact⟨_,_,E,λk=>G k\/k=N\/k=N+1,A,U,.inr ⟨rfl,.exit id,G,λk=>gF,Y,ae _ _ _ _ _ s Z,ab,B,r⟩⟩
    |goto t=>
     obtain⟨G,aa,i,s⟩:=n;obtain⟨C,E,Z,A,r,ab,B,U,Y⟩:=ak (some (.goto t)) y G aa i;exact⟨_,_,E,λk=>G k\/k=N\/k=N+1,A,U,.inr ⟨rfl,.goto t,G,λk=>gF,Y,ae _ _ _ _ _ s Z,ab,B,r⟩⟩
    |panic ch=>exact n.elim
    |outgrown=>exact n.elim
   |ret=>exact n.elim
   |exit id=>exact n.elim
   |goto t=>exact n.elim
   |panic ch=>exact n.elim
   |outgrown=>exact n.elim
theorem wp_rangeF{P:Program}{α:Type}{g:Operand}{L:Array Tmp}{V T:Code}{A:Exit->Act->World->Prop}{a:Act}{w:World}
 {gf:Nat} {lb:Array Value} (hg:a.eval g=.func (.func gf) #[] lb) (eg:∀args w,(callFunc gf args).run P w=.ok (.enter gf args) w)
 {y:α->Array Value} {xs:List α} {S:World} {X:Nat->Prop} (af:yN P gf lb y xs S X) (aa:But (λk=>¬X k) S w) (ac:∀k,X k->k<w.heap.size) (ad:∀x,(y x).size=L.size)
 (d:Nat->Prop) (hF:∀k,d k->¬X k) (I:(Nat->Prop)->List α->World->Prop) (n:Code->(Nat->Prop)->List α->World->Prop) (hI:mq w.heap.size I) (sI:oj I) (ab:∀c,mq w.heap.size (n c)) (ae:∀c,oj (n c)) (h0:I d [] w)
 (ai:∀(l:Nat)(F:Nat->Prop)(pre:List α)(x:α)(m:List α)(W:World),xs=pre++x::m->I F pre W->w.heap.size<=W.heap.size->(∀k,F k->d k\/w.heap.size<=k)->¬F l->w.heap.size<=l->l<W.heap.size->But d w W->
   V.wpIn (Fence.wide.inRound l) 0 P (Exit.then (λO B=>Below W.heap.size W B/\∀q,But (λk=>k=l) B q->T.wpIn (Fence.wide.inRound l) 0 P (zG F I n (pre++[x]) q) O q) (λ_ _ _=>False))
    {tmps:=(L.zip (y x)).foldl (λt (p,v)=>t.setIfInBounds p v) a.tmps,defers:=[]} W)
 (ag:∀(D:Nat)(F:Nat->Prop)(W:World),w.heap.size<=D->¬F D->I F xs W->But d w W->(∀k,F k->d k\/w.heap.size<=k)->W.heap[D]?=some (.deferred (some []))->A .normal {a with defers:={target:=.collected D,args:=#[]}::a.defers} W)
 (ah:∀(D:Nat)(c:Code)(F:Nat->Prop)(pre m:List α)(W:World),w.heap.size<=D->¬F D->xs=pre++m->n c F pre W->But d w W->(∀k,F k->d k\/w.heap.size<=k)->W.heap[D]?=some (.deferred (some []))->c.wpIn Fence.wide 0 P A {a with defers:={target:=.collected D,args:=#[]}::a.defers} W):
 (Code.rangeFunc g L V T).wpIn Fence.wide 0 P A a w:=by
 refine wp_rangeG (En:=λM W x U=>W=M/\U=y x) hg eg (λl J Z W d C E R G H K=>af l J Z W d C E R G (λF pre x m N e1 j s f=>H F pre x m N N _ e1 j (Below.refl _ _) ⟨rfl,rfl⟩ s f) K) aa ac (λ_ _ x _ e=>by rw[e.2];exact ad x) d hF I n hI sI ab ae h0 (λl F pre x m M W U C E R e G H K h7 h8 h9=>?_) ag ah
 obtain⟨rfl,rfl⟩:=e;refine wpIn_mono (ai l F pre x m _ C E G H K h7 h8 h9) (λe O B r=>?_)
 cases e with
 |normal=>
  refine⟨r.1,λq hb=>wpIn_mono (r.2 q hb) (λe a w' h=>?_)⟩
  have s1:=r.1.size;have s2:=hb.size;cases e<;>first|exact h|(obtain⟨Y,b,f,i⟩:=h;exact⟨Y,b,λk hk=>(f k hk).imp id (λh=>by omega),i⟩)
 |_=>exact r
def low:List Rn->Int
 | []=>0
 |r::_=>r.1
def enI(x:Int):Array Value:=#[.int .i64 x]
theorem FY(l n:Nat)(g:Nat->Prop)(J U:(Nat->Prop)->List Int->World->Prop)(V:World)(pre:List Int)(r:Rn)(hr:r.1<=r.2)(X:Nm r.1)(Z:Nm r.2)(aJ:mq n J)(sJ:oj J)
 (hY:∀(F:Nat->Prop)(j:Nat)(A:World),j<cnt r->J F (pre++jC r.1 j) A->V.heap.size<=A.heap.size->(∀k,F k->g k\/V.heap.size<=k)->YieldAt Fence.wide 0 prog l (enI (r.1+j)) A (YesF F J U (pre++jC r.1 (j+1)) A))
 (W:J g pre V):
 CallsIn Fence.wide 0 prog 171 #[.agg (rcs r),.func (.yield l) #[] #[]] V λe H=>∃E:Nat->Prop,But g V H/\(∀k,E k->g k\/V.heap.size<=k)/\((e=.returned (.bool true)/\J E (pre++jC r.1 (cnt r)) H)\/(e=.returned (.bool false)/\∃j,j<=cnt r/\U E (pre++jC r.1 j) H)):=by
 have Y:=iJ hY;clear hY;have f0:=iJ (sJ _ _ _ W);obtain⟨b,d⟩:=r;simp only at hr X Z Y;have R:((cnt (b,d):Nat):Int)=d-b+1:=by show(((d-b+1).toNat:Nat):Int)=_;omega
 obtain⟨c,hc⟩:∃c:Nat,c=cnt (b,d):=⟨_,rfl⟩;rw[<-hc] at R Y ⊢;have x:=iJ R;obtain⟨ac,ad⟩:=X;obtain⟨ae,af⟩:=Z;clear hc;unfold rcs;refine gR func171 rfl trivial ?_ rfl;simp only[ntmps171,dm,bf,bj,Nat.reduceAdd,Nat.reduceSub,dG,dH,dY,dO,cY,dw];gi_wp2
 have K:=al V (.cells #[.int .i64 b,.int .i64 d] 171);have sV:=size_alloc V (.cells #[.int .i64 b,.int .i64 d] 171)
 have yV:(V.alloc (.cells #[.int .i64 b,.int .i64 d] 171)).cell? ⟨V.heap.size,1,none⟩=some (.int .i64 d):=by
  rw[ay _ _ _ _ _ _ (aF V _)];rfl
 have J1:=iJ (aJ _ _ _ _ W (But.ofBelow K));have T:=iJ (show But g V (V.alloc (.cells #[.int .i64 b,.int .i64 d] 171)) from But.ofBelow K)
 generalize ab:V.alloc (.cells #[.int .i64 b,.int .i64 d] 171)=m at *;clear K ab R;gi_loopw [5] (λi wr=>∃j:Nat,∃F:Nat->Prop,j<c/\i=.int .i64 (b+j)/\J F (pre++jC b j) wr/\But g m wr/\(∀k,F k->g k\/m.heap.size<=k)) (λi _=>c-(intOf i-b).toNat)
 case atStart=>exact⟨0,g,by have:=x.o;omega,by simp,by simpa[jC] using J1.o,But.refl _ _,λk f=>.inl f⟩
 case round=>
  obtain⟨j,F,hj,rfl,hJ,L,P⟩:=hrel;have ag:=L.size;obtain⟨fn,ai,aj,ah,N,M⟩:=Y.o F j wr hj hJ (by omega) (λk f=>(P k f).imp id (λh=>by omega))
  simp only[enI] at N;have aa:=iJ L;have D:=iJ P;clear hJ L P;gi_wp2
  refine⟨rfl,M.mono ?_⟩;rintro e I ⟨G,B,C,⟨rfl,q⟩|⟨rfl,q⟩⟩
  . have O:But g m I:=aa.o.trans B (λk f h=>(D.o k h).elim id (λh=>by omega))
    have v:=iJ (show ∀k,G k->g k\/m.heap.size<=k from λk f=>(C k f).elim (D.o k) (λh=>.inr (by omega)))
    have y3:I.cell? ⟨V.heap.size,1,none⟩=some (.int .i64 d):=(O.cell (p:=⟨V.heap.size,1,none⟩) (by show V.heap.size<m.heap.size;omega) (λh=>by have:=f0.o _ h;have e:({block:=V.heap.size,off:=1,spot:=none}:Addr).block=V.heap.size:=rfl;omega)).trans yV
    have t:=iJ O;have y:=iJ q;clear O q B M N C;by_cases s:b+(j:Int)=d
    . have e1:(b+(j:Int)==d)=true:=by simp[s]
      have e2:decide (b+(j:Int)=d)=true:=by simp[s]
      have S:=iJ (show j+1=c by have:=x.o;omega)
      clear s;gi_wp2
      refine bZ (results_tmp rfl _ _ _) rfl ?_;exact⟨G,T.o.trans t.o (λ_ _ h=>h),λk f=>(v.o k f).imp id (λh=>by omega),.inl ⟨rfl,by rw[<-S.o];exact y.o⟩⟩
    . have e1:(b+(j:Int)==d)=false:=by simp[s]
      have e2:decide (b+(j:Int)=d)=false:=by simp[s]
      have S:=iJ (show j+1<c by have:=x.o;omega)
      have hw:IntKind.i64.wrap (b+(j:Int)+1)=b+(j:Int)+1:=mi (by omega) (by have:=x.o;omega)
      gi_wp2
      go_roundw
      case rel=>exact⟨j+1,G,S.o,by simp;omega,y.o,t.o,v.o⟩
      case measure=>simp[intOf];omega
  . have t:=iJ (show But g m I from aa.o.trans B (λk f h=>(D.o k h).elim id (λh=>by omega)))
    have v:=iJ (show ∀k,G k->g k\/m.heap.size<=k from λk f=>(C k f).elim (D.o k) (λh=>.inr (by omega)))
    have y:=iJ q;clear q B M N C;gi_wp2
    refine bZ (results_tmp rfl _ _ _) rfl ?_;exact⟨G,T.o.trans t.o (λ_ _ h=>h),λk f=>(v.o k f).imp id (λh=>by omega),.inr ⟨rfl,j+1,by omega,y.o⟩⟩
theorem yp{L:List Rn}{k:Nat}(b:k<L.length)(j:Nat)(g:j<=cnt (L.getD k Rn.zero)):∃h,jE L=(jE (L.take k)++jC (L.getD k Rn.zero).1 j)++h:=by
 have e:=lu L Rn.zero b;have d:=tG b;refine⟨(jC (L.getD k Rn.zero).1 (cnt (L.getD k Rn.zero))).drop j++jE (L.drop (k+1)),?_⟩
 have f:jE L=jE (L.take (k+1))++jE (L.drop (k+1)):=by
  conv=>lhs;rw[<-cZ (k+1) L]
  unfold jE;rw[bP,gS]
 rw[f,d,<-tI _ _ _ g];rw[aU,aU,<-aU (List.take j _),cZ]
theorem zy(x:Int){c j:Nat}(h:j<c):∃b,jC x c=jC x j++(x+j)::b:=by
 refine⟨(jC x c).drop (j+1),?_⟩;have e:=(cZ (j+1) (jC x c)).symm;rw[tI x c (j+1) h,tK] at e;exact e.trans (by rw[aU];rfl)
theorem vZ(w:World)(E:Nat)(a:Option Addr)(cap:Nat)(L:List Rn)(P:w.cell? ⟨E,0,none⟩=some (.slice a L.length cap))(Y:Vs w a L)(am:L.length<=11000000000000)(Z:∀r∈L,r.1<=r.2/\Nm r.1/\Nm r.2):
 yN prog 170 #[.pointer (some ⟨E,0,none⟩)] enI (jE L) w (λk=>k=E\/∃x,a=some x/\x.block=k):=by
 intro ae J Jx W f l hS aJ sJ hY h0;have ah:W.cell? ⟨E,0,none⟩=some (.slice a L.length cap):=(l.cell (p:=⟨E,0,none⟩) (block_lt_of_cell P) (λh=>h (.inl rfl))).trans P
 have ag:Vs W a L:=Y.but l (λx S h=>h (.inr ⟨x,S,rfl⟩))
 clear P Y;have ad:=iJ hY;have HL:=iJ Z;have U:=iJ aJ;have SJ:=iJ sJ;clear hY Z;obtain⟨n,R⟩:∃n:Nat,n=L.length:=⟨_,rfl⟩;have ab:=iJ R;rw[<-R] at ah am;clear R;refine gR func170 rfl trivial ?_ rfl;simp only[ntmps170,dm,bf,bj,Nat.reduceAdd,Nat.reduceSub,dG,dH,dY,dO,cY,dw];gi_wp2
 gi_loopw [7] (λi wr=>∃k:Nat,∃F:Nat->Prop,k<=n/\i=.int .i64 k/\J F (jE (L.take k)) wr/\But f W wr/\(∀q,F q->f q\/W.heap.size<=q))
  (λi _=>n-(intOf i).toNat)
 case atStart=>exact⟨0,f,az _,rfl,h0,But.refl _ _,λq b=>.inl b⟩
 case round=>
  obtain⟨k,F,hk,rfl,B,A,D⟩:=hrel;by_cases aj:k<n
  . have H:k<L.length:=by rw[<-ab.o];exact aj
    have aa:Vs wr a L:=ag.but A (λx S h=>hS _ h (.inr ⟨x,S,rfl⟩))
    obtain⟨bb,o,rfl,d1,d2⟩:=aa.at H;have NS:=iJ (tG H);have X:=iJ λ(j:Nat)(m:j<=cnt (L.getD k Rn.zero))=>yp H j m
    obtain⟨r1,r2,r3⟩:=HL.o _ (kS H);generalize hr:L.getD k Rn.zero=r at *;have ao:=A.size;have O:=al wr (.cells #[.int .i64 r.1,.int .i64 r.2] 171);have sw:=size_alloc wr (.cells #[.int .i64 r.1,.int .i64 r.2] 171);have d:=iJ D
    have C:=iJ (FY ae W.heap.size F J Jx (wr.alloc (.cells #[.int .i64 r.1,.int .i64 r.2] 171)) (jE (L.take k)) r r1 r2 r3 U.o SJ.o (λG j W1 m af an g=>by
     obtain⟨I,T⟩:=zy r.1 m;obtain⟨ac,ak⟩:=X.o (cnt r) (ai _)
     have e:jE L=(jE (L.take k)++jC r.1 j)++(r.1+j)::(I++ac):=by
      rw[ak,T];simp
     have y:=ad.o G (jE (L.take k)++jC r.1 j) (r.1+j) (I++ac) W1 e af (by omega) (λq b=>(g q b).elim (d.o q) (λh=>.inr (by omega)))
     rw[aU,<-tK] at y;exact y) (U.o _ _ _ _ B (But.ofBelow O)))
    have V:=iJ (show But f W (wr.alloc (.cells #[.int .i64 r.1,.int .i64 r.2] 171)) from A.andBelow O)
    unfold rcs at C;clear B aa O hr r2 r3 D;gi_wp2_with fail
    refine⟨trivial,rfl,?_⟩;refine C.o.mono ?_;rintro e W3 ⟨G,v,g,⟨rfl,s⟩|⟨rfl,j,m,s⟩⟩
    . have N:=iJ s;have K:=iJ (V.o.trans v (λq b h=>(d.o q h).elim id (λh=>by omega)))
      have M:=iJ (show ∀q,G q->f q\/W.heap.size<=q from λq b=>(g q b).elim (d.o q) (λh=>.inr (by omega)))
      clear s v g;gi_wp2
      go_roundw
      case rel=>exact⟨k+1,G,by omega,by simp,by rw[NS.o];exact N.o,K.o,M.o⟩
      case measure=>simp[intOf];omega
    . have N:=iJ s;have K:=iJ (V.o.trans v (λq b h=>(d.o q h).elim id (λh=>by omega)))
      have M:=iJ (show ∀q,G q->f q\/W.heap.size<=q from λq b=>(g q b).elim (d.o q) (λh=>.inr (by omega)))
      have Q3:=iJ (X.o j m);clear s v g;gi_wp2
      refine bZ (eQ rfl _ _ _) rfl ?_;obtain⟨I,T⟩:=Q3.o;exact⟨G,⟨_,rfl⟩,K.o,M.o,.inr ⟨_,I,T,N.o⟩⟩
  . obtain rfl:k=n:=by omega
    have HJ:=iJ B;have d:=iJ D;clear B D;gi_wp2
    go_end0
    exact⟨F,⟨_,rfl⟩,A,d.o,.inl (by have t:=HJ.o;rw[ab.o,cJ] at t;exact t)⟩
theorem xM(w:World)(b:Nat)(a:Option Addr)(cap:Nat)(L:List Rn)(i:St w b a cap L):
 Calls prog 152 #[.pointer (some ⟨b,0,none⟩)] w λe d=>∃E g,e=.returned (.func (.func 170) #[] #[.pointer (some ⟨E,0,none⟩)])/\w.heap.size<=E/\w.heap.size<=g/\d.cell? ⟨E,0,none⟩=some (.slice (some ⟨g,0,none⟩) L.length L.length)/\Vs d (some ⟨g,0,none⟩) L/\g<d.heap.size/\Below w.heap.size w d:=by
 have C:=iJ (ry w b a cap L i);clear i;obtain⟨n,j⟩:∃n:Nat,n=L.length:=⟨_,rfl⟩;rw[<-j] at C ⊢;clear j;go_enter func152,ntmps152;go_wp2_with fail
 refine C.o.mono ?_;rintro e k ⟨rfl,h,hb⟩;have V:=iJ h.vs;have l:=iJ (h.lt rfl);have B:=iJ hb;clear h hb;go_wp2;go_ret;have f:=al k (.cells #[.slice (some ⟨w.heap.size,0,none⟩) n n] 169);exact⟨_,_,rfl,B.o.size,ai _,jd k _ _,V.o.keep f,be l.o f.size,bt B.o f⟩
theorem yL(w:World)(b:Nat)(a:Option Addr)(cap:Nat)(L:List Rn)(d:St w b a cap L):
 Calls prog 160 #[.pointer (some ⟨b,0,none⟩)] w λe h=>e=.returned (.tuple #[.int .i64 (low L),.bool (!L.isEmpty)])/\h=w:=by
 have f:=d.cell;cases L with
 |nil=>
  rw[bj] at f;clear d;go_enter func160,ntmps160;go_wp2;go_ret2
  exact⟨rfl,rfl⟩
 |cons r L=>
  obtain⟨k,p,rfl,j,l⟩:=d.row.vs.at (i:=0) (by simp)
  rw[eE,bY] at j;change w.cell? ⟨k,p,none⟩=some (.int .i64 r.1) at j;rw[bf] at f;obtain⟨n,g⟩:∃n:Nat,n=L.length+1:=⟨_,rfl⟩;have q:0<n:=by omega
  have m:=d.len;rw[bf,<-g] at m;rw[<-g] at f;clear d g l;show Calls prog 160 #[.pointer (some ⟨b,0,none⟩)] w λe h=>e=.returned (.tuple #[.int .i64 r.1,.bool true])/\h=w
  go_enter func160,ntmps160;go_wp2;go_ret2
  exact⟨rfl,rfl⟩
end Go.Proofs.YtbdkogimlbnlmaaGreat.Q
namespace Go.Proofs.YtbdkogimlbnlmaaGreat.Q
open Tryz
open Go.RowKit
variable {z:Int}{cap i:Nat}{col:Nat->Nat}{S:Nat->Prop}{a':Option Addr}{w w' w1 w2 wx wy:World}
theorem wF:∀{A B:List Int},A.Pairwise (· < ·)->B.Pairwise (· < ·)->(∀x,x∈A↔x∈B)->A=B
 | [],[],_,_,_=>rfl
 | [],b::B,_,_,h=>absurd ((h b).2 (by simp)) (by simp)
 |a::A,[],_,_,h=>absurd ((h a).1 (by simp)) (by simp)
 |a::A,b::B,hA,hB,h=>by
  have h1:=cQ.1 hA;have f:=cQ.1 hB
  have e:a=b:=by
   rcases cO.1 ((h a).1 (by simp)) with e|m
   . exact e
   . rcases cO.1 ((h b).2 (by simp)) with g|m'
     . exact g.symm
     . have:=f.1 a m;have:=h1.1 b m';omega
  subst e;rw[wF h1.2 f.2 λx=>?_]
  constructor
  . intro d;rcases cO.1 ((h x).1 (dJ _ d)) with e|m
    . subst e;have:=h1.1 x d;omega
    . exact m
  . intro d;rcases cO.1 ((h x).2 (dJ _ d)) with e|m
    . subst e;have:=f.1 x d;omega
    . exact m
theorem uQ(a x:Int)(c:Nat):x∈jC a c↔a<=x/\x<a+c:=by
 unfold jC;constructor
 . intro h;obtain⟨i,b,rfl⟩:=bH.1 h;have:=cw.1 b;omega
 . intro h;exact bH.2 ⟨(x-a).toNat,cw.2 (by omega),by omega⟩
theorem Aa(a:Int)(c:Nat):(jC a c).Pairwise (· < ·):=by
 unfold jC;rw[fO];exact List.pairwise_lt_range.imp λh=>by omega
theorem mN(r:Rn)(L:List Rn):jE (r::L)=jC r.1 (cnt r)++jE L:=by simp[jE]
theorem rg:∀(L:List Rn)(x:Int),x∈jE L↔has L x=true
 | [],x=>by simp[jE,has]
 |r::L,x=>by
  rw[mN,bq,rg L x,ki,uQ];unfold cnt;simp only[fw,bO,bE];constructor
  all_goals
   rintro(h|h)
   . exact .inl (by omega)
   . exact .inr h
theorem tW:∀{L:List Rn},Ris L->(jE L).Pairwise (· < ·)
 | [],_=>by simp[jE]
 |r::L,h=>by
  rw[mN,de];refine⟨Aa _ _,tW h.tail,λa d b hb=>?_⟩
  have h1:=(uQ _ _ _).1 d;obtain⟨q,e,f,g⟩:=(has_iff L b).1 ((rg L b).1 hb);have j:=(cQ.1 h.2).1 q e;unfold cnt at h1;have:=h.1 r (by simp)
  omega
theorem uI:∀(L:List Rn),(jE L).length=sz L
 | []=>rfl
 |r::L=>by rw[mN,ae,uI L,xe];rfl
theorem CW{L:List Rn}(h:∀r∈L,r.1<=r.2)(b:L≠[]):jE L=low L::(jE L).tail:=by
 cases L with
 |nil=>exact absurd rfl b
 |cons r L=>
  have e:=h r (by simp)
  obtain⟨c,d⟩:∃c,cnt r=c+1:=⟨cnt r-1,by unfold cnt;omega⟩
  rw[mN,d];unfold jC;rw[List.range_succ_eq_map];simp[low]
abbrev Pg:=Int×Bool
def Pg.zero:Pg:=(0,false)
def stt(x:Pg):Nat:=if x.1=0 then (if x.2 then 2 else 1) else (if x.2 then 4 else 3)
theorem nN(x:Pg):1<=stt x/\stt x<=4:=by unfold stt;split<;>split<;>omega
def iZ(P:List Pg)(s:Nat):List Int:=((List.range P.length).filter λi=>decide (stt (P.getD i Pg.zero)=s)).map λi=>((i:Nat):Int)+1
def inS(P:List Pg)(s:Nat)(z:Int):Bool:=decide (1<=z)&&decide (z<=P.length)&&decide (stt (P.getD (z-1).toNat Pg.zero)=s)
theorem kd{P:List Pg}{s:Nat}:inS P s z=true↔1<=z/\z<=P.length/\stt (P.getD (z-1).toNat Pg.zero)=s:=by
 unfold inS;simp only[bO,bE,and_assoc]
theorem jF(P:List Pg)(s:Nat)(z:Int):z∈iZ P s↔inS P s z=true:=by
 rw[kd];unfold iZ;constructor
 . intro h;obtain⟨i,f,rfl⟩:=bH.1 h;obtain⟨b,d⟩:=fb.1 f;have e:=cw.1 b;refine⟨by omega,by omega,?_⟩
   rw[show((i:Int)+1-1).toNat=i by omega]
   simpa using d
 . rintro⟨b,d,e⟩;exact bH.2 ⟨(z-1).toNat,fb.2 ⟨cw.2 (by omega),by simpa using e⟩,by omega⟩
theorem pK(P:List Pg)(s:Nat):(iZ P s).Pairwise (· < ·):=by
 unfold iZ;rw[fO];exact(List.pairwise_lt_range.filter _).imp λh=>by omega
theorem mo{L:List Rn}{P:List Pg}{s:Nat}(b:Can L)(h:∀z,has L z=inS P s z):jE L=iZ P s:=
 wF (tW b.ris) (pK P s) λx=>by rw[rg,jF,h]
theorem qO(P:List Pg)(s:Nat):(iZ P s).length<=P.length:=by
 unfold iZ;rw[aZ];exact aO (fK _ _) (by simp)
theorem xQ{P:List Pg}{n:Nat}{x:Pg}{s:Nat}(d:1<=n)(f:n<=P.length)(z:Int):inS (P.set (n-1) x) s z=if z=n then decide (stt x=s) else inS P s z:=by
 by_cases b:z=n
 . subst b;rw[if_pos rfl];unfold inS;rw[aM,show((n:Int)-1).toNat=n-1 by omega]
   have e:(P.set (n-1) x).getD (n-1) Pg.zero=x:=by
    rw[aq,eb (by omega)];rfl
   rw[e,ax (show(1:Int)<=n by omega),ax (show(n:Int)<=P.length by omega)]
   simp
 . rw[if_neg b];unfold inS;rw[aM];by_cases h:1<=z
   . have e:(P.set (n-1) x).getD (z-1).toNat Pg.zero=P.getD (z-1).toNat Pg.zero:=by
      rw[aq,bQ (by omega),<-aq]
     rw[e]
   . rw[au h];simp
structure Po where
 rf:Int
 pg:List Pg
 ac:List (Nat×Pg)
 fl:Nat
def Po.at(P:Po)(n:Nat):Pg:=P.pg.getD (n-1) Pg.zero
def Po.put(P:Po)(n:Nat)(x:Pg):Po:={P with pg:=P.pg.set (n-1) x}
def Po.act(P:Po)(n:Nat)(c:Int):Po:={P with pg:=P.pg.set (n-1) (c,(P.at n).2),ac:=P.ac++[(n,P.at n)]}
def Po.has(P:Po)(z:Int):Bool:=decide (1<=z)&&decide (z<=P.pg.length)
def Po.count(P:Po)(z:Int):Int:=if P.has z then (P.pg.getD (z-1).toNat Pg.zero).1 else 0
def Po.state(P:Po)(z:Int):Nat:=if P.has z then stt (P.pg.getD (z-1).toNat Pg.zero) else 0
def Po.mark(P:Po):Nat:=P.fl+P.ac.length
def Po.back:Nat->Po->Po
 |0,P=>P
 |j+1,P=>match P.ac.getLast? with
  |none=>P
  |some a=>Po.back j {P with pg:=P.pg.set (a.1-1) a.2,ac:=P.ac.dropLast}
def Po.settle(P:Po):Po:={P with pg:=P.pg.map (λx=>(x.1,decide (0<x.1))),ac:=[],fl:=P.mark}
structure Po.Ok(P:Po):Prop where
 l1:1<=P.pg.length
 l2:P.pg.length<=65536
 r1:2<=P.rf
 r2:P.rf<65536
 cs:∀x∈P.pg,0<=x.1/\x.1<=P.rf
 acs:∀a∈P.ac,(1<=a.1/\a.1<=P.pg.length)/\0<=a.2.1/\a.2.1<=P.rf
theorem kB{L:List Pg}(h:i<L.length):L.getD i Pg.zero∈L:=by simp[h]
theorem Po.Ok.put{P:Po}(h:P.Ok)(n:Nat)(x:Pg)(d:0<=x.1/\x.1<=P.rf):(P.put n x).Ok:=
 ⟨by show 1<=(P.pg.set _ _).length;rw[aM];exact h.l1,by show(P.pg.set _ _).length<=_;rw[aM];exact h.l2,h.r1,h.r2,
  λy f=>(eV f).elim (h.cs y) (λe=>by rw[e];exact d),
  λa b=>⟨⟨(h.acs a b).1.1,by show a.1<=(P.pg.set _ _).length;rw[aM];exact(h.acs a b).1.2⟩,(h.acs a b).2⟩⟩
theorem Po.Ok.at{P:Po}(h:P.Ok){n:Nat}(b:1<=n)(d:n<=P.pg.length):0<=(P.at n).1/\(P.at n).1<=P.rf:=h.cs _ (kB (by omega))
theorem Po.Ok.act{P:Po}(h:P.Ok){n:Nat}{c:Int}(b:1<=n)(d:n<=P.pg.length)(e:0<=c/\c<=P.rf):(P.act n c).Ok:=by
 have k:=h.put n (c,(P.at n).2) e;refine⟨k.l1,k.l2,k.r1,k.r2,k.cs,λa ha=>?_⟩
 rcases bq.1 ha with ha|ha
 . exact k.acs a ha
 . obtain rfl:=aQ.1 ha;exact⟨⟨b,by show n<=(P.pg.set _ _).length;rw[aM];exact d⟩,h.at b d⟩
theorem Po.Ok.settle{P:Po}(h:P.Ok):P.settle.Ok:=
 ⟨by show 1<=(P.pg.map _).length;rw[aZ];exact h.l1,by show(P.pg.map _).length<=_;rw[aZ];exact h.l2,h.r1,h.r2,
  λy e=>by obtain⟨x,d,rfl⟩:=bH.1 e;exact h.cs x d,λa b=>by cases b⟩
theorem Po.Ok.drop{P:Po}(h:P.Ok){A:List (Nat×Pg)}{n:Nat}{x:Pg}(e:P.ac=A++[(n,x)]):(⟨P.rf,P.pg.set (n-1) x,A,P.fl⟩:Po).Ok:=by
 have d:=h.acs (n,x) (by rw[e];simp)
 have k:=h.put n x d.2;exact⟨k.l1,k.l2,k.r1,k.r2,k.cs,λa b=>k.acs a (by show a∈P.ac;rw[e];simp[b])⟩
theorem Po.back_succ{P:Po}{A:List (Nat×Pg)}{n:Nat}{x:Pg}(e:P.ac=A++[(n,x)])(j:Nat):Po.back (j+1) P=Po.back j ⟨P.rf,P.pg.set (n-1) x,A,P.fl⟩:=by
 show(match P.ac.getLast? with|none=>P|some a=>Po.back j {P with pg:=P.pg.set (a.1-1) a.2,ac:=P.ac.dropLast})=_
 rw[e];simp
theorem Hp{P:Po}{n:Nat}(d:1<=n)(e:n<=P.pg.length)(y:Pg):(P.pg.set (n-1) y).set (n-1) (P.at n)=P.pg:=by
 rw[List.set_set];refine dX λi=>?_
 by_cases b:n-1=i
 . subst b;rw[eb (by omega)]
   unfold Po.at;rw[aq,aR (by omega)]
   rfl
 . rw[bQ b]
theorem Po.back_act{P:Po}{n:Nat}(b:1<=n)(d:n<=P.pg.length)(c:Int)(j:Nat):Po.back (j+1) (P.act n c)=Po.back j P:=by
 rw[Po.back_succ (A:=P.ac) (n:=n) (x:=P.at n) rfl];show Po.back j ⟨P.rf,(P.pg.set (n-1) (c,(P.at n).2)).set (n-1) (P.at n),P.ac,P.fl⟩=_;rw[Hp b d]
theorem drN(w:World)(n:Nat):Below w.heap.size w (w.drewN n):=⟨rfl,rfl,rfl,ai _,λ_ _=>rfl⟩
theorem ky{b:Nat}{t:TypeId}{n:Nat}{f:Nat->Value}(h:w.rowIs b t n f)(hb:Below w.heap.size w w'):w'.rowIs b t n f:=h.of_block (hb.block b h.lt)
theorem nH{T:Nat->Prop}{e s n:Nat}{a:Option Addr}{m c:Nat}{C:List Value}(h:w.ownsRow 0 e s (.slice a m c) n C)(hb:But T w w')(f:∀x,a=some x->¬T x.block):w'.ownsRow 0 e s (.slice a m c) n C:=by
 obtain⟨b,d⟩:=h;refine⟨b,?_⟩;rcases d with⟨hv,h0⟩|⟨g,cap',cur,hv,h3,hg,hr⟩
 . exact .inl ⟨hv,h0⟩
 . simp only[bM] at hv;exact .inr ⟨g,cap',cur,by simp only[bM];exact hv,h3,(hb.block g (af.1 hg).1 (f _ hv.1)).trans hg,hr⟩
def vi(l:List Int):List Value:=l.map λx=>Value.int .i64 x
theorem qc(a b:List Int):vi (a++b)=vi a++vi b:=by unfold vi;rw[bP]
theorem At(a:List Int):(vi a).length=a.length:=by unfold vi;rw[aZ]
theorem pD(l:List Int)(i:Nat)(hi:i<l.length):(vi l)[i]?=some (.int .i64 (l.getD i 0)):=by simp[vi,hi]
def Ig(w:World)(a:Option Addr)(cap:Nat)(l:List Int):Prop:=w.ownsRow 0 3 1 (.slice a l.length cap) l.length (vi l)
theorem nE:(prog.info? 3).map (λi=>(i.zero,i.size,i.bytes))=some (some (.int .i64 0),1,8):=by kernel_rfl
theorem Ig.keep{a:Option Addr}{l:List Int}(h:Ig w a cap l)(hb:Below w.heap.size w w'):Ig w' a cap l:=nH (T:=λ_=>False) h (But.ofBelow hb) (λ_ _ h=>h)
def Ir(w:World)(a:Option Addr)(l:List Int):Prop:=l=[]\/∃b off,a=some ⟨b,off,none⟩/\∀i,i<l.length->w.cell? ⟨b,off+i,none⟩=some (.int .i64 (l.getD i 0))
theorem Ir.keep{a:Option Addr}{l:List Int}(h:Ir w a l)(hb:Below w.heap.size w w'):Ir w' a l:=by
 rcases h with h|⟨b,off,rfl,d⟩
 . exact .inl h
 . exact .inr ⟨b,off,rfl,λi e=>(hb.cell (p:=⟨b,off+i,none⟩) (block_lt_of_cell (d i e))).trans (d i e)⟩
theorem Ig.but{a:Option Addr}{l:List Int}(h:Ig w a cap l)(hb:But S w w')(b:∀x,a=some x->¬S x.block):Ig w' a cap l:=nH h hb b
theorem Ir.at{a:Option Addr}{l:List Int}(h:Ir w a l){j:Nat}(d:j<l.length):∃b off,a=some ⟨b,off,none⟩/\w.cell? ⟨b,off+j,none⟩=some (.int .i64 (l.getD j 0)):=by
 rcases h with rfl|⟨b,off,rfl,e⟩
 . simp at d
 . exact⟨b,off,rfl,e j d⟩
theorem Ig.ir{a:Option Addr}{l:List Int}(h:Ig w a cap l):Ir w a l:=by
 obtain⟨_,d⟩:=h;rcases d with⟨_,h0⟩|⟨g,cap',cur,hv,h3,hg,hn,hm,hs,ht⟩
 . exact .inl (co.1 h0)
 . simp only[bM] at hv;obtain⟨b,_,rfl⟩:=hv;refine .inr ⟨g,0,b,λi e=>?_⟩
   rw[bN,ay _ _ _ _ _ _ hg,<-pD l i e,<-ht,cH,if_pos (by omega)]
   simp
theorem tm(w:World)(p:TypeId)(a:Option Addr)(n cap:Nat)(l:List Int)(A:n=l.length)(s:Ig w a cap l)(f:Addr)(c:Nat)(x:Int)(t:w.cell? f=some (.int .i64 x))(I:l.length+1<=17592186044416):
 ∃g d w',(Builtin.append_ #[35,35] p #[.slice a n cap,.slice (some f) 1 c]).run prog w=.ok (.slice (some ⟨g,0,none⟩) (n+1) d) w'/\
  Ig w' (some ⟨g,0,none⟩) d (l++[x])/\New w a (some ⟨g,0,none⟩)/\w.grownBy w' (a.map Addr.block)/\g<w'.heap.size:=by
 subst A;obtain⟨D,v,E,G,H⟩:=dr nE
 obtain⟨g,d,w',B,q,h,h3,r⟩:=dW (P:=prog) w 35 p 0 3 D (.int .i64 0) 1 8 underlying35 v E G H rfl (by decide) (.slice a l.length cap) l.length (vi l) s f 1 c [.int .i64 x] rfl
  (by intro j u b
      match j,b with
      |0,b=>simp at b;subst b;simpa[Addr.add] using t) (by intro u k;simp at k;subst k;rfl) (by decide) (by unfold maxLen;omega) (by omega) (az _) w.heap.size rfl
 rw[kA] at h h3;refine⟨g,d,w',B,?_,?_,h,r⟩
 . unfold Ig;rw[qc,ae];exact q
 . intro y m;simp only[aE] at m;subst m;rcases h3 with h3|h3
   . obtain⟨z,C,e⟩:=map_some h3;exact .inl ⟨z,C,e⟩
   . exact .inr (by show _<=g;omega)
theorem uY{w:World}{o:Oper}{a:Act}{K:Act->World->Prop}{Q:Exit->Act->World->Prop}(s x:Operand)
 (v:o.op=.call {callee:=.builtin .append,args:=#[s,x],argTypes:=#[35,35]}) (b:Option Addr) (n cap:Nat) (l:List Int) (A:a.eval s=.slice b n cap) (t:n=l.length) (q:Ig w b cap l)
 (e:Addr) (c:Nat) (f:Int) (B:a.eval x=.slice (some e) 1 c) (r:w.cell? e=some (.int .i64 f)) (C:l.length+1<=17592186044416)
 (h:∀g d w',Ig w' (some ⟨g,0,none⟩) d (l++[f])->New w b (some ⟨g,0,none⟩)->w.grownBy w' (b.map Addr.block)->g<w'.heap.size->K (a.put o.dst (.slice (some ⟨g,0,none⟩) (n+1) d)) w'):o.wp prog a w K Q:=by
 obtain⟨g,d,w',y,j,k,m,p⟩:=tm w o.type b n cap l t q e c f r C;unfold Oper.wp execOp;simp only[v,resolve,invoke,builtin,dE,dF,bT,cR,bL,dM,A,B,y];exact h g d w' j k m p
theorem jN{w:World}{j:Array Oper}{k:List Oper}{o:Oper}{a:Act}{Q:Exit->Act->World->Prop}(E:o.guard=none)(s x:Operand)
 (B:o.op=.call {callee:=.builtin .append,args:=#[s,x],argTypes:=#[35,35]}) (b:Option Addr) (n cap:Nat) (l:List Int) (C:a.eval s=.slice b n cap) (A:n=l.length) (v:Ig w b cap l)
 (e:Addr) (c:Nat) (f:Int) (D:a.eval x=.slice (some e) 1 c) (y:w.cell? e=some (.int .i64 f)) (G:l.length+1<=17592186044416)
 (h:∀g d w',Ig w' (some ⟨g,0,none⟩) d (l++[f])->New w b (some ⟨g,0,none⟩)->w.grownBy w' (b.map Addr.block)->g<w'.heap.size->wpList prog j Q k (a.put o.dst (.slice (some ⟨g,0,none⟩) (n+1) d)) w'):wpList prog j Q (o::k) a w:=
 e7 E λ_ t=>uY s x B b n cap l C A v e c f D y G λg d w' m p q r=>t _ _ (h g d w' m p q r)
theorem qF(w:World)(aa d:Option Addr)(n m ca r:Nat)(l:List Int)(f:Ir w aa l)(g:Ir w d l)(t:n=l.length)(s:m=l.length)(hb:l.length<=17592186044415):
 Calls prog 25 #[.slice aa n ca,.slice d m r] w λe w'=>e=.returned (.bool true)/\Below w.heap.size w w':=by
 subst t;subst s;have p:=iJ f;have q:=iJ g;clear f g;go_enter func25,ntmps25;go_wp2;go_loopw [5] (λi wx=>∃j:Nat,j<=l.length/\i=.int .i64 j/\(Below w.heap.size w wx)) (λi _=>l.length-(intOf i).toNat)
 case atStart=>exact⟨0,az _,rfl,Below.refl _ _⟩
 case round=>
  obtain⟨j,D,rfl,h⟩:=hrel;have b:=iJ h;clear h;by_cases k:j<l.length
  . have C:(j:Int)<(l.length:Int):=by omega
    obtain⟨v,E,rfl,A⟩:=(p.o.keep b.o).at k;obtain⟨y,G,rfl,B⟩:=(q.o.keep b.o).at k;generalize l.getD j 0=x at *;have H:(x==x)=true:=by simp
    go_wp2;go_quiet (fail)
    go_wp2;go_roundw
    case rel=>exact⟨j+1,by omega,by go_num,bt b.o (drN _ _)⟩
    case measure=>simp[intOf];omega
  . obtain rfl:j=l.length:=by omega
    go_wp2;go_ret;exact⟨rfl,b.o⟩
structure IOwn(w wx:World)(a:Option Addr)(cap:Nat)(l:List Int):Prop where
 r:Ig wx a cap l
 n:New w none a
 b:Below w.heap.size w wx
theorem IOwn.keep{a:Option Addr}{l:List Int}(h:IOwn w wx a cap l)(hb:Below wx.heap.size wx wy):IOwn w wy a cap l:=⟨h.r.keep hb,h.n,bt h.b hb⟩
theorem IOwn.step{a:Option Addr}{d:Nat}{l b:List Int}(h:IOwn w wx a cap l)(hb:Below wx.heap.size wx w1)(j:Ig wy a' d b)(g:New w1 a a')(m:w1.grownBy wy (a.map Addr.block)):IOwn w wy a' d b:=by
 refine⟨j,h.n.trans g (aO h.b.size hb.size),?_⟩;have f:=bt h.b hb
 have n:But (λ_=>False) w wy:=(But.ofBelow f).grown m λk p r=>by
  obtain⟨y,q,e⟩:=map_some p;rcases h.n y q with⟨z,hz,_⟩|h2
  . cases hz
  . omega
 exact n.below λ_ _ h=>h
theorem Ig.cases{a:Option Addr}{l:List Int}(h:Ig w a cap l):(a=none/\cap=0/\l=[])\/
 ∃g cur,a=some ⟨g,0,none⟩/\w.heap[g]?=some (.cells cur 3 (0,0))/\l.length<=cap/\cap<=maxLen/\cur.size=cap/\cur.toList.take l.length=vi l:=by
 obtain⟨_,d⟩:=h;rcases d with⟨hv,h0⟩|⟨g,cap',cur,hv,_,hg,hn,hm,hs,ht⟩
 . simp only[bM] at hv;exact .inl ⟨hv.1,hv.2.2,co.1 h0⟩
 . simp only[bM] at hv;obtain⟨b,_,rfl⟩:=hv;exact .inr ⟨g,cur,b,hg,hn,hm,by omega,by rw[ee] at ht;exact ht⟩
theorem Ig.mk{g:Nat}{cur:Array Value}{l:List Int}(b:w.heap[g]?=some (.cells cur 3 (0,0)))(e:l.length<=cap)(d:cap<=maxLen)(h:cur.size=cap)(f:cur.toList.take l.length=vi l):Ig w (some ⟨g,0,none⟩) cap l:=
 ⟨by rw[At,ee],.inr ⟨g,cap,cur,rfl,az _,b,e,d,by omega,by rw[ee];exact f⟩⟩
theorem Ig.lt{a:Option Addr}{l:List Int}(h:Ig w a cap l){x:Addr}(b:a=some x):x.block<w.heap.size:=by
 rcases h.cases with⟨rfl,_⟩|⟨g,cur,rfl,hg,_⟩
 . cases b
 . cases b;exact(af.1 hg).1
theorem Ig.cell{g:Nat}{l:List Int}(h:Ig w (some ⟨g,0,none⟩) cap l)(hi:i<l.length):w.cell? ⟨g,i,none⟩=some (.int .i64 (l.getD i 0)):=by
 rcases h.cases with⟨h0,_⟩|⟨g',cur,h0,hg,h1,h2,h3,h4⟩
 . cases h0
 . simp only[aE,Addr.mk.injEq] at h0;obtain⟨rfl,_⟩:=h0;rw[ay _ _ _ _ _ _ hg,<-pD l i hi,<-h4,cH,if_pos hi];simp
theorem Ig.set{g:Nat}{l:List Int}(h:Ig w (some ⟨g,0,none⟩) cap l)(k:Nat)(v:Int):Ig (w.setCell ⟨g,k,none⟩ (.int .i64 v)) (some ⟨g,0,none⟩) cap (l.set k v):=by
 rcases h.cases with⟨h0,_⟩|⟨g',cur,h0,hg,h1,h2,h3,h4⟩
 . cases h0
 . simp only[aE,Addr.mk.injEq] at h0;obtain⟨rfl,_⟩:=h0;refine Ig.mk (aY w g k _ _ _ hg) (by rw[aM];exact h1) h2 (by simpa using h3) ?_
   rw[aM,ew,fY,h4];simp only[vi,List.map_set]
theorem rm(n:Nat)(j:n<=17592186044416)(w:World):(Instr.makeSlice 35 (.int .i64 (n:Int)) (.int .i64 (n:Int))).run prog w=.ok (.slice (some ⟨w.heap.size,0,none⟩) n n) (w.alloc (.cells (madeCells #[.int .i64 0] n) 3)):=by
 obtain⟨e,d,f,g,h⟩:=dr nE;have b:=run_make (P:=prog) w 35 3 e (.int .i64 0) underlying35 d f .i64 .i64 n n (by omega) (by omega) (by rw[h];omega) (by omega)
 simp only[di,g,ee] at b;exact b
def spI(l:List Int)(i:Nat):Value:=if i<l.length then .int .i64 (l.getD i 0) else .int .i64 (-7-(i:Int))
theorem vF{g n:Nat}{l:List Int}(h:w.rowIs g 3 n (spI l))(d:l.length<=n):Ir w (some ⟨g,0,none⟩) l:=
 .inr ⟨g,0,rfl,λi b=>by
   have:=h.cell (i:=i) (by omega)
   unfold spI at this;rw[if_pos b] at this;rw[bN];exact this⟩
theorem uf(w:World)(aa:Option Addr)(n A:Nat)(l:List Int)(k:Ir w aa l)(t:n=l.length)(I:l.length+64<=17592186044416):
 Calls prog 12 #[.slice aa n A] w λx w'=>x=.returned (.slice (some ⟨w.heap.size,0,none⟩) l.length (l.length+64))/\w'.rowIs w.heap.size 3 (l.length+64) (spI l)/\Below w.heap.size w w':=by
 subst t;have G:=rm (l.length+64) (by omega)
 have H:IntKind.i64.wrap ((l.length:Int)+64)=((l.length+64:Nat):Int):=by rw[iT (by omega) (by omega)];omega
 have q:=iJ k;clear k;generalize p:l.length+64=N at *;have r:=iJ p;clear p;go_enter func12,ntmps12;go_wp2;go_loopw [4] (λi wx=>∃j:Nat,j<=N/\i=.int .i64 j/\(wx.rowIs w.heap.size 3 N (λi=>if i<j then spI l i else .int .i64 0)/\Below w.heap.size w wx)) (λi _=>N-(intOf i).toNat)
 case atStart=>exact⟨0,az _,rfl,(World.rowIs_made w (.int .i64 0) N 3).congr λi _=>by simp,(Below.refl _ _).alloc (ai _) _⟩
 case round=>
  obtain⟨j,C,rfl,m⟩:=hrel;have b:=iJ m;clear m;by_cases y:j<N
  . have f:(j:Int)<(N:Int):=by omega
    have s:=b.o.1.cell y;have B:=b.o.1.frozen j;simp only[eG,if_false] at s;by_cases h:j<l.length
    . have v:(j:Int)<(l.length:Int):=by omega
      obtain⟨bs,off,rfl,E⟩:=(q.o.keep b.o.2).at h;have g:Hid (spI l j=.int .i64 (l.getD j 0)):=by unfold spI;rw[if_pos h];exact rfl
      generalize l.getD j 0=x at *;go_wp2;go_roundw
      case rel=>
       refine⟨j+1,by omega,by go_num,(b.o.1.set j _).congr λi f=>?_,b.o.2.setCell (ai _) _⟩
       by_cases e:i=j
       . subst e;rw[if_pos rfl,if_pos (by omega),g.o]
       . rw[if_neg e];by_cases d:i<j
         . rw[if_pos d,if_pos (by omega)]
         . rw[if_neg d,if_neg (by omega)]
      case measure=>simp[intOf];omega
    . have v:¬(j:Int)<(l.length:Int):=by omega
      have g:Hid (spI l j=.int .i64 (-7-(j:Int))):=by unfold spI;rw[if_neg h];exact rfl
      go_wp2;go_roundw
      case rel=>
       refine⟨j+1,by omega,by go_num,(b.o.1.set j _).congr λi f=>?_,b.o.2.setCell (ai _) _⟩
       by_cases e:i=j
       . subst e;rw[if_pos rfl,if_pos (by omega),g.o]
       . rw[if_neg e];by_cases d:i<j
         . rw[if_pos d,if_pos (by omega)]
         . rw[if_neg d,if_neg (by omega)]
      case measure=>simp[intOf];omega
  . obtain rfl:N=j:=by omega
    have D:(l.length:Int)<=(N:Int):=by have:=r.o;omega
    go_wp2;go_ret;exact⟨rfl,b.o.1.congr λi f=>by rw[if_pos f],b.o.2⟩
theorem vX(w:World)(g N:Nat)(b:Option Addr)(n m q:Nat)(l:List Int)(d:w.rowIs g 3 N (spI l))(h:Ir w b l)(y:n=l.length)(v:m=l.length)(k:N=l.length+64)(I:l.length+64<=17592186044416):
 Calls prog 17 #[.slice (some ⟨g,0,none⟩) n N,.slice b m q] w λx w'=>x=.returned (.bool true)/\Below w.heap.size w w':=by
 subst y v;have H:IntKind.i64.wrap ((l.length:Int)+64)=(N:Int):=by rw[iT (by omega) (by omega)];omega
 have r:=iJ (qF w (some ⟨g,0,none⟩) b l.length l.length N q l (vF d (by omega)) h rfl rfl (by omega))
 have t:=iJ d;have s:=iJ k;have E:N<=17592186044416:=by omega
 clear h d k;have D:(0:Int)<=(N:Int):=by omega
 go_enter func17,ntmps17;go_wp2_with fail
 refine r.o.mono ?_;rintro e w1 ⟨rfl,p⟩;go_wp2;go_loopw [6] (λi wx=>∃j:Nat,l.length<=j/\j<=N/\i=.int .i64 j/\Below w.heap.size w wx) (λi _=>N-(intOf i).toNat)
 case atStart=>exact⟨l.length,ai _,by have:=s.o;omega,rfl,p⟩
 case round=>
  clear p;obtain⟨j,G,C,rfl,hb⟩:=hrel;by_cases A:j<N
  . have B:(j:Int)<(N:Int):=by omega
    have f:=(ky t.o hb).cell A;unfold spI at f;rw[if_neg (by omega)] at f
    go_wp2;go_roundw
    case rel=>exact⟨j+1,by omega,by omega,by go_num,hb⟩
    case measure=>simp[intOf];omega
  . obtain rfl:N=j:=by omega
    go_wp2;go_ret;exact⟨rfl,hb⟩
structure Pd where
 g:Nat
 s:Nat->Nat
 a:Nat->Option Addr
 c:Nat->Nat
 L:Nat->List Rn
 aa:Option Addr
 ac:Nat
 B:List (Nat×Nat×Nat)
def kL(P:Po)(D:Pd):Array Value:=#[.int .i64 P.rf,.slice (some ⟨D.g,0,none⟩) P.pg.length P.pg.length,.pointer (some ⟨D.s 0,0,none⟩),.pointer (some ⟨D.s 1,0,none⟩),.pointer (some ⟨D.s 2,0,none⟩),.pointer (some ⟨D.s 3,0,none⟩),.pointer (some ⟨D.s 4,0,none⟩),.slice D.aa P.ac.length D.ac,.int .i64 ((P.fl:Nat):Int)]
def pgc(L:List Pg):List Value:=(L.map λx=>[Value.int .i64 x.1,Value.bool x.2]).flatten
theorem kV(x:Pg)(L:List Pg):pgc (x::L)=.int .i64 x.1:: .bool x.2::pgc L:=by simp[pgc]
theorem nR:∀(L:List Pg),(pgc L).length=L.length*2
 | []=>rfl
 |x::L=>by rw[kV,bf,bf,nR L,bf];omega
theorem nQ:∀(L:List Pg)(i:Nat),i<L.length->(pgc L)[i*2]?=some (.int .i64 (L.getD i Pg.zero).1)/\(pgc L)[i*2+1]?=some (.bool (L.getD i Pg.zero).2)
 | [],i,h=>by simp at h
 |x::L,0,h=>by rw[kV];simp
 |x::L,i+1,h=>by
  rw[kV,show(i+1)*2=i*2+1+1 by omega]
  have:=nQ L i (by simpa using h)
  simpa using this
theorem sR:∀(L:List Pg)(i:Nat)(x:Pg),pgc (L.set i x)=((pgc L).set (i*2) (.int .i64 x.1)).set (i*2+1) (.bool x.2)
 | [],i,x=>by simp[pgc]
 |y::L,0,x=>by rw[eZ,kV,kV];simp
 |y::L,i+1,x=>by
  rw[g7,kV,kV,sR L i x,show(i+1)*2=i*2+1+1 by omega]
  simp
def clo(t:Nat×Nat×Nat):Value:=.func (.func 167) #[] #[.pointer (some ⟨t.1,0,none⟩),.pointer (some ⟨t.2.1,0,none⟩),.pointer (some ⟨t.2.2,0,none⟩)]
structure Cl(w:World)(b:Nat)(t:Nat×Nat×Nat)(x:Nat×Pg):Prop where
 p:w.cell? ⟨t.1,0,none⟩=some (.pointer (some ⟨b,0,none⟩))
 n:w.cell? ⟨t.2.1,0,none⟩=some (.int .i64 ((x.1:Nat):Int))
 c:w.cell? ⟨t.2.2,0,none⟩=some (.int .i64 x.2.1)
 l:w.cell? ⟨t.2.2,1,none⟩=some (.bool x.2.2)
theorem Cl.but{b:Nat}{t:Nat×Nat×Nat}{x:Nat×Pg}(h:Cl w b t x)(hb:But S w w')(e:¬S t.1)(f:¬S t.2.1)(d:¬S t.2.2):Cl w' b t x:=
 ⟨(hb.cell (p:=⟨t.1,0,none⟩) (block_lt_of_cell h.p) e).trans h.p,(hb.cell (p:=⟨t.2.1,0,none⟩) (block_lt_of_cell h.n) f).trans h.n,(hb.cell (p:=⟨t.2.2,0,none⟩) (block_lt_of_cell h.c) d).trans h.c,(hb.cell (p:=⟨t.2.2,1,none⟩) (block_lt_of_cell h.l) d).trans h.l⟩
structure Pq(w:World)(b:Nat)(P:Po)(D:Pd)(col:Nat->Nat):Prop where
 box:w.heap[b]?=some (.cells (kL P D) 131 (0,0))
 pgs:w.heap[D.g]?=some (.cells (pgc P.pg).toArray 133 (0,0))
 set:∀s,s<5->St w (D.s s) (D.a s) (D.c s) (D.L s)
 acr:Gw 191 1 w D.aa D.ac P.ac.length (D.B.map clo)
 acl:D.B.length=P.ac.length
 acb:∀q∈D.B.zip P.ac,Cl w b q.1 q.2
 cb:col b=1
 cg:col D.g=2
 cs:∀s,s<5->col (D.s s)=3+s
 ca:∀s,s<5->∀x,D.a s=some x->col x.block=3+s
 cc:∀x,D.aa=some x->col x.block=8
 cB:∀t∈D.B,col t.1=9/\col t.2.1=9/\col t.2.2=9
 lt:∀k,col k≠0->k<w.heap.size
theorem kR{α β:Type}:∀{A:List α}{B:List β}{q:α×β},q∈A.zip B->q.1∈A/\q.2∈B:=λ{A B q} h=>⟨(List.of_mem_zip h).1,(List.of_mem_zip h).2⟩
theorem Pq.but{b:Nat}{P:Po}{D:Pd}(h:Pq w b P D col)(hb:But S w w')(f:∀k,col k≠0->¬S k):Pq w' b P D col:=by
 have d:∀{k c:Nat},col k=c+1->¬S k:=λe=>f _ (by omega)
 refine⟨hb.same h.box (d (c:=0) h.cb),hb.same h.pgs (d (c:=1) h.cg),λs g=>(h.set s g).but hb (f _ (by rw[h.cs s g];omega)) (λx j=>f _ (by rw[h.ca s g x j];omega)),h.acr.but hb (λx j=>d (c:=7) (h.cc x j)),h.acl,λq l=>?_,h.cb,h.cg,h.cs,h.ca,h.cc,h.cB,λk m=>be (h.lt k m) hb.size⟩
 obtain⟨c1,c2,c3⟩:=h.cB _ (kR l).1;exact(h.acb q l).but hb (d (c:=8) c1) (d (c:=8) c2) (d (c:=8) c3)
theorem Pq.keep{b:Nat}{P:Po}{D:Pd}(h:Pq w b P D col)(hb:Below w.heap.size w w'):Pq w' b P D col:=h.but (S:=λ_=>False) (But.ofBelow hb) (λ_ _ h=>h)
theorem Pq.lb{b:Nat}{P:Po}{D:Pd}(h:Pq w b P D col):b<w.heap.size:=(af.1 h.box).1
theorem Pq.cell{b:Nat}{P:Po}{D:Pd}(h:Pq w b P D col){v:Value}(hi:(kL P D)[i]?=some v):w.cell? ⟨b,i,none⟩=some v:=by
 rw[ay _ _ _ _ _ _ h.box];exact hi
theorem Pq.free{b:Nat}{P:Po}{D:Pd}(h:Pq w b P D col)(i:Nat):w.frozen? ⟨b,i,none⟩=false:=by simp[World.frozen?,h.box]
theorem Pq.c0{b:Nat}{P:Po}{D:Pd}(h:Pq w b P D col):w.cell? ⟨b,0,none⟩=some (.int .i64 P.rf):=h.cell rfl
theorem Pq.c1{b:Nat}{P:Po}{D:Pd}(h:Pq w b P D col):w.cell? ⟨b,1,none⟩=some (.slice (some ⟨D.g,0,none⟩) P.pg.length P.pg.length):=h.cell rfl
theorem Pq.c7{b:Nat}{P:Po}{D:Pd}(h:Pq w b P D col):w.cell? ⟨b,7,none⟩=some (.slice D.aa P.ac.length D.ac):=h.cell rfl
theorem Pq.c8{b:Nat}{P:Po}{D:Pd}(h:Pq w b P D col):w.cell? ⟨b,8,none⟩=some (.int .i64 ((P.fl:Nat):Int)):=h.cell rfl
theorem lt5{s:Nat}(h:s<5):s=0\/s=1\/s=2\/s=3\/s=4:=by omega
theorem Pq.cin{b:Nat}{P:Po}{D:Pd}(h:Pq w b P D col){s:Nat}(d:s<5):w.cell? ⟨b,2+s,none⟩=some (.pointer (some ⟨D.s s,0,none⟩)):=by
 refine h.cell ?_;rcases lt5 d with rfl|rfl|rfl|rfl|rfl<;>rfl
theorem Pq.pgAt{b:Nat}{P:Po}{D:Pd}(h:Pq w b P D col)(hi:i<P.pg.length):w.cell? ⟨D.g,i*2,none⟩=some (.int .i64 (P.pg.getD i Pg.zero).1)/\w.cell? ⟨D.g,i*2+1,none⟩=some (.bool (P.pg.getD i Pg.zero).2):=by
 obtain⟨d,e⟩:=nQ P.pg i hi;rw[ay _ _ _ _ _ _ h.pgs,ay _ _ _ _ _ _ h.pgs];exact⟨by simpa using d,by simpa using e⟩
theorem Pq.pgf{b:Nat}{P:Po}{D:Pd}(h:Pq w b P D col)(i:Nat):w.frozen? ⟨D.g,i,none⟩=false:=by simp[World.frozen?,h.pgs]
theorem Pq.page{b:Nat}{P:Po}{D:Pd}(h:Pq w b P D col)(n:Nat)(x:Pg)(l:w'.heap[D.g]?=some (.cells (pgc (P.pg.set (n-1) x)).toArray 133 (0,0)))(hb:But (λk=>k=D.g) w w'):Pq w' b (P.put n x) D col:=by
 have ne:∀{k:Nat},col k≠2->¬(k=D.g):=λj e=>j (by rw[e];exact h.cg)
 have lb:=hb.same h.box (ne (by rw[h.cb];decide))
 refine⟨?_,l,λs d=>(h.set s d).but hb (ne (by rw[h.cs s d];omega)) (λy f=>ne (by rw[h.ca s d y f];omega)),h.acr.but hb (λy f=>ne (by rw[h.cc y f];decide)),h.acl,λq g=>?_,h.cb,h.cg,h.cs,h.ca,h.cc,h.cB,λk m=>be (h.lt k m) hb.size⟩
 . rw[lb];show some (Obj.cells (kL P D) _ _)=some (Obj.cells (kL (P.put n x) D) _ _);unfold kL Po.put;rw[aM]
 . obtain⟨c1,c2,c3⟩:=h.cB _ (kR g).1;exact(h.acb q g).but hb (ne (by rw[c1];decide)) (ne (by rw[c2];decide)) (ne (by rw[c3];decide))
def upd{α:Type}(f:Nat->α)(s:Nat)(v:α)(i:Nat):α:=if i=s then v else f i
theorem ji{α:Type}(f:Nat->α)(s:Nat)(v:α):upd f s v s=v:=if_pos rfl
theorem jt{α:Type}(f:Nat->α){s:Nat}(v:α)(h:i≠s):upd f s v i=f i:=if_neg h
def recol(col:Nat->Nat)(w w':World)(c k:Nat):Nat:=if k<w.heap.size then col k else if k<w'.heap.size then c else 0
theorem jP{c k:Nat}(h:k<w.heap.size):recol col w w' c k=col k:=if_pos h
theorem kW{c k:Nat}(h:w.heap.size<=k)(b:k<w'.heap.size):recol col w w' c k=c:=by unfold recol;rw[if_neg (by omega),if_pos b]
theorem oY{c k:Nat}(b:w.heap.size<=w'.heap.size)(h:recol col w w' c k≠0):k<w'.heap.size:=by
 unfold recol at h;split at h
 . omega
 . split at h
   . assumption
   . exact absurd rfl h
theorem Pq.oneSet{b:Nat}{P:Po}{D:Pd}(h:Pq w b P D col){s:Nat}(A:s<5){m:Nat}{l:List Rn}(r:St w' (D.s s) a' m l)(B:New w (D.a s) a')(hb:But (λk=>k=D.s s\/InA (D.a s) k) w w'):
 Pq w' b P {D with a:=upd D.a s a',c:=upd D.c s m,L:=upd D.L s l} (recol col w w' (3+s)):=by
 have ne:∀{k:Nat},col k≠3+s->¬(k=D.s s\/InA (D.a s) k):=λp e=>by
  rcases e with rfl|⟨x,d,rfl⟩
  . exact p (h.cs s A)
  . exact p (h.ca s A x d)
 have g:∀{k:Nat},col k≠0->recol col w w' (3+s) k=col k:=λn=>jP (h.lt _ n)
 refine⟨hb.same h.box (ne (by rw[h.cb];omega)),hb.same h.pgs (ne (by rw[h.cg];omega)),λt f=>?_,h.acr.but hb (λy j=>ne (by rw[h.cc y j];omega)),h.acl,λq v=>?_,(g (by rw[h.cb];decide)).trans h.cb,(g (by rw[h.cg];decide)).trans h.cg,λt f=>(g (by rw[h.cs t f];omega)).trans (h.cs t f),λt f x d=>?_,λx d=>(g (by rw[h.cc x d];decide)).trans (h.cc x d),λt f=>?_,λk n=>oY hb.size n⟩
 . show St w' (D.s t) (upd D.a s a' t) (upd D.c s m t) (upd D.L s l t);by_cases e:t=s
   . subst e;rw[ji,ji,ji];exact r
   . rw[jt _ _ e,jt _ _ e,jt _ _ e];exact(h.set t f).but hb (ne (by rw[h.cs t f];omega)) (λx d=>ne (by rw[h.ca t f x d];omega))
 . obtain⟨c1,c2,c3⟩:=h.cB _ (kR v).1;exact(h.acb q v).but hb (ne (by rw[c1];omega)) (ne (by rw[c2];omega)) (ne (by rw[c3];omega))
 . have d:upd D.a s a' t=some x:=d;by_cases e:t=s
   . subst e;rw[ji] at d;rcases B x d with⟨y,j,e⟩|h2
     . rw[<-e,g (by rw[h.ca t f y j];omega)];exact h.ca t f y j
     . exact kW h2 (r.row.lt d)
   . rw[jt _ _ e] at d;exact(g (by rw[h.ca t f x d];omega)).trans (h.ca t f x d)
 . obtain⟨c1,c2,c3⟩:=h.cB t f;exact⟨(g (by rw[c1];decide)).trans c1,(g (by rw[c2];decide)).trans c2,(g (by rw[c3];decide)).trans c3⟩
structure Fr(w:World)(col:Nat->Nat)(w':World)(col':Nat->Nat):Prop where
 b:But (λk=>col k≠0) w w'
 c:∀k,k<w.heap.size->col' k=col k
theorem Fr.refl(w:World)(col:Nat->Nat):Fr w col w col:=⟨But.refl _ _,λ_ _=>rfl⟩
theorem Fr.trans{c c1 c2:Nat->Nat}(h:Fr w c w1 c1)(k:Fr w1 c1 w2 c2):Fr w c w2 c2:=
 ⟨h.b.trans k.b (λx b d=>by rw[h.c x b] at d;exact d),λx b=>(k.c x (be b h.b.size)).trans (h.c x b)⟩
theorem Fr.keep{c:Nat->Nat}(h:Below w.heap.size w w'):Fr w c w' c:=⟨But.ofBelow h,λ_ _=>rfl⟩
theorem Fr.below{c b:Nat->Nat}(h:Fr w c w' b)(hb:Below w'.heap.size w' w2):Fr w c w2 b:=h.trans (Fr.keep hb)
structure Pm(w:World)(b:Nat)(P:Po)(col:Nat->Nat)(D:Pd):Prop where
 q:Pq w b P D col
 ok:P.Ok
 mem:∀s,s<5->∀z,has (D.L s) z=inS P.pg s z
def Pl(w:World)(b:Nat)(P:Po)(col:Nat->Nat):Prop:=∃D,Pm w b P col D
theorem Pl.keep{b:Nat}{P:Po}(h:Pl w b P col)(hb:Below w.heap.size w w'):Pl w' b P col:=by
 obtain⟨D,h⟩:=h;exact⟨D,h.q.keep hb,h.ok,h.mem⟩
theorem Pl.but{b:Nat}{P:Po}(h:Pl w b P col)(hb:But S w w')(d:∀k,col k≠0->¬S k):Pl w' b P col:=by
 obtain⟨D,h⟩:=h;exact⟨D,h.q.but hb d,h.ok,h.mem⟩
theorem Pl.lt{b:Nat}{P:Po}(h:Pl w b P col):∀k,col k≠0->k<w.heap.size:=by
 obtain⟨D,h⟩:=h;exact h.q.lt
theorem Pl.ok{b:Nat}{P:Po}(h:Pl w b P col):P.Ok:=by
 obtain⟨D,h⟩:=h;exact h.ok
theorem Pm.bnd{b:Nat}{P:Po}{D:Pd}(h:Pm w b P col D){s:Nat}(e:s<5):∀r∈D.L s,1<=r.1/\r.2<=65536:=λr d=>by
 have f:=(h.q.set s e).can.1 r d;have g:=(kd.1 ((h.mem s e r.1).symm.trans ((has_iff _ _).2 ⟨r,d,fd _,f⟩))).1;have j:=(kd.1 ((h.mem s e r.2).symm.trans ((has_iff _ _).2 ⟨r,d,f,fd _⟩))).2.1;have:=h.ok.l2;omega
theorem x8{L:List Rn}(b:Can L)(hb:∀r∈L,1<=r.1/\r.2<=65536):L.length<=65536:=by
 have:=xB 65536 L 1 b hb (by omega)
 omega
theorem Pm.few{b:Nat}{P:Po}{D:Pd}(h:Pm w b P col D){s:Nat}(d:s<5):(D.L s).length<=65536:=x8 (h.q.set s d).can (h.bnd d)
theorem tA(w:World)(x:Pg):Calls prog 112 #[.agg #[.int .i64 x.1,.bool x.2]] w λe w'=>e=.returned (.int .i64 ((stt x:Nat):Int))/\Below w.heap.size w w':=by
 obtain⟨c,l⟩:=x;by_cases b:c=0
 . subst b;cases l
   all_goals
    go_enter func112,ntmps112;go_wp2;go_ret;exact⟨rfl,al _ _⟩
 . have d:(c==0)=false:=by simp[b]
   have f:decide (c=0)=false:=by simp[b]
   cases l
   . have e:stt (c,false)=3:=by unfold stt;rw[if_neg b];rfl
     rw[e];go_enter func112,ntmps112;go_wp2;go_ret;exact⟨rfl,al _ _⟩
   . have e:stt (c,true)=4:=by unfold stt;rw[if_neg b];rfl
     rw[e];go_enter func112,ntmps112;go_wp2;go_ret;exact⟨rfl,al _ _⟩
theorem xC(w:World)(b:Nat)(P:Po)(D:Pd)(col:Nat->Nat)(h:Pq w b P D col)(z:Int):Calls prog 90 #[.pointer (some ⟨b,0,none⟩),.int .i64 z] w λe w'=>e=.returned (.bool (P.has z))/\w'=w:=by
 have c1:=h.c1;unfold Po.has;clear h;generalize P.pg.length=n at *;by_cases f:1<=z
 . have d:decide (1<=z)=true:=ax f;rw[d,fZ];go_enter func90,ntmps90;go_wp2;go_ret;exact⟨rfl,rfl⟩
 . have d:decide (1<=z)=false:=au f;rw[d,eU];go_enter func90,ntmps90;go_wp2;go_ret;exact⟨rfl,rfl⟩
theorem Po.has_iff{P:Po}:P.has z=true↔1<=z/\z<=P.pg.length:=by unfold Po.has;simp
theorem qi(w:World)(b:Nat)(P:Po)(D:Pd)(col:Nat->Nat)(h:Pq w b P D col)(m:P.pg.length<=65536)(z:Int):Calls prog 32 #[.pointer (some ⟨b,0,none⟩),.int .i64 z] w λe w'=>e=.returned (.int .i64 (P.count z))/\w'=w:=by
 have C:=iJ (xC w b P D col h z);by_cases d:P.has z=true
 . obtain⟨k,l⟩:=Po.has_iff.1 d;obtain⟨i,rfl⟩:∃i:Nat,z=(i:Int)+1:=⟨(z-1).toNat,by omega⟩
   have f:i<P.pg.length:=by omega
   obtain⟨g,j⟩:=h.pgAt f;have c1:=h.c1
   have e:P.count ((i:Int)+1)=(P.pg.getD i Pg.zero).1:=by
    unfold Po.count;rw[if_pos d,show((i:Int)+1-1).toNat=i by omega]
   rw[e];rw[d] at C;clear h d e;generalize (P.pg.getD i Pg.zero).1=c at *;generalize P.pg.length=n at *;have p:IntKind.i64.wrap ((i:Int)+1-1)=(i:Int):=by rw[iT (by omega) (by omega)];omega
   go_enter func32,ntmps32;go_wp2_with fail
   refine C.o.mono ?_;rintro _ _ ⟨rfl,rfl⟩;go_wp2;go_ret;exact⟨rfl,rfl⟩
 . have d:P.has z=false:=by simpa using d
   have e:P.count z=0:=by unfold Po.count;rw[d];rfl
   rw[e];rw[d] at C;clear h;go_enter func32,ntmps32;go_wp2_with fail
   refine C.o.mono ?_;rintro _ _ ⟨rfl,rfl⟩;go_wp2;go_ret;exact⟨rfl,rfl⟩
theorem tT(w:World)(b:Nat)(P:Po)(D:Pd)(col:Nat->Nat)(h:Pq w b P D col)(m:P.pg.length<=65536)(z:Int):Calls prog 47 #[.pointer (some ⟨b,0,none⟩),.int .i64 z] w λe w'=>e=.returned (.int .i64 ((P.state z:Nat):Int))/\Below w.heap.size w w':=by
 have C:=iJ (xC w b P D col h z);by_cases d:P.has z=true
 . obtain⟨k,l⟩:=Po.has_iff.1 d;obtain⟨i,rfl⟩:∃i:Nat,z=(i:Int)+1:=⟨(z-1).toNat,by omega⟩
   have f:i<P.pg.length:=by omega
   obtain⟨g,j⟩:=h.pgAt f;have c1:=h.c1
   have e:P.state ((i:Int)+1)=stt (P.pg.getD i Pg.zero):=by
    unfold Po.state;rw[if_pos d,show((i:Int)+1-1).toNat=i by omega]
   rw[e];rw[d] at C;clear h d e;have T:=iJ (tA w (P.pg.getD i Pg.zero));generalize P.pg.getD i Pg.zero=x at *;generalize P.pg.length=n at *;have p:IntKind.i64.wrap ((i:Int)+1-1)=(i:Int):=by rw[iT (by omega) (by omega)];omega
   go_enter func47,ntmps47;go_wp2_with fail
   refine C.o.mono ?_;rintro _ _ ⟨rfl,rfl⟩;go_wp2_with fail
   refine T.o.mono ?_;rintro _ w1 ⟨rfl,hb⟩;have B:=iJ hb;clear hb;go_wp2;go_ret;exact⟨rfl,B.o⟩
 . have d:P.has z=false:=by simpa using d
   have e:P.state z=0:=by unfold Po.state;rw[d];rfl
   rw[e];rw[d] at C;clear h;go_enter func47,ntmps47;go_wp2_with fail
   refine C.o.mono ?_;rintro _ _ ⟨rfl,rfl⟩;go_wp2;go_ret;exact⟨rfl,Below.refl _ _⟩
theorem Cu(w:World)(b:Nat)(P:Po)(D:Pd)(col:Nat->Nat)(h:Pq w b P D col):Calls prog 59 #[.pointer (some ⟨b,0,none⟩)] w λe w'=>e=.returned (.int .i64 ((P.pg.length:Nat):Int))/\w'=w:=by
 have c1:=h.c1;clear h;generalize P.pg.length=n at *;go_enter func59,ntmps59;go_wp2;go_ret;exact⟨rfl,rfl⟩
theorem Ap(w:World)(b:Nat)(P:Po)(D:Pd)(col:Nat->Nat)(h:Pq w b P D col):Calls prog 60 #[.pointer (some ⟨b,0,none⟩)] w λe w'=>e=.returned (.int .i64 P.rf)/\w'=w:=by
 have c1:=h.c0;clear h;go_enter func60,ntmps60;go_wp2;go_ret;exact⟨rfl,rfl⟩
theorem qT(w:World)(b:Nat)(P:Po)(D:Pd)(col:Nat->Nat)(h:Pq w b P D col)(d:P.mark<=9223372036854775807):Calls prog 142 #[.pointer (some ⟨b,0,none⟩)] w λe w'=>e=.returned (.int .i64 ((P.mark:Nat):Int))/\Below w.heap.size w w':=by
 have c1:=h.c7;have c2:=h.c8;clear h;unfold Po.mark at *;generalize P.ac.length=n at *;generalize P.fl=f at *;have e:IntKind.i64.wrap ((f:Int)+(n:Int))=((f+n:Nat):Int):=by rw[iT (by omega) (by omega)];omega
 go_enter func142,ntmps142;go_wp2;go_quiet (fail)
 go_wp2;go_ret;exact⟨rfl,drN _ _⟩
theorem qJ(w:World)(z:Int):Calls prog 113 #[.int .i64 z] w λe w'=>e=.returned (.bool (decide (1<=z)&&decide (z<=4)))/\w'=w:=by
 by_cases d:1<=z
 . have b:decide (1<=z)=true:=ax d;rw[b,fZ];go_enter func113,ntmps113;go_wp2;go_ret;exact⟨rfl,rfl⟩
 . have b:decide (1<=z)=false:=au d;rw[b,eU];go_enter func113,ntmps113;go_wp2;go_ret;exact⟨rfl,rfl⟩
def js(n r:Int):Bool:=decide (1<=n)&&decide (n<=65536)&&decide (2<=r)&&decide (r<65536)
theorem oH(w:World)(n r:Int):Calls prog 122 #[.int .i64 n,.int .i64 r] w λe w'=>e=.returned (.bool (js n r))/\w'=w:=by
 unfold js;by_cases g:1<=n
 . have b:decide (1<=n)=true:=ax g;by_cases h:n<=65536
   . have d:decide (n<=65536)=true:=ax h;by_cases j:2<=r
     . have f:decide (2<=r)=true:=ax j;rw[b,d,f];simp only[fZ,Bool.and_true];go_enter func122,ntmps122;go_wp2;go_ret;exact⟨rfl,rfl⟩
     . have f:decide (2<=r)=false:=au j;rw[b,d,f];simp only[Bool.and_true,ia,eU];go_enter func122,ntmps122;go_wp2;go_ret;exact⟨rfl,rfl⟩
   . have d:decide (n<=65536)=false:=au h;rw[b,d];simp only[ia,eU];go_enter func122,ntmps122;go_wp2;go_ret;exact⟨rfl,rfl⟩
 . have b:decide (1<=n)=false:=au g;rw[b];simp only[eU];go_enter func122,ntmps122;go_wp2;go_ret;exact⟨rfl,rfl⟩
theorem iX(w:World)(c:Int)(l:Bool):(w.alloc (.cells #[.int .i64 c,.bool l] 133)).cell? ⟨w.heap.size,0,none⟩=some (.int .i64 c)/\(w.alloc (.cells #[.int .i64 c,.bool l] 133)).cell? ⟨w.heap.size,1,none⟩=some (.bool l):=by
 rw[ay _ _ _ _ _ _ (aF w _),ay _ _ _ _ _ _ (aF w _)];exact⟨rfl,rfl⟩
theorem tS{W b:World}{g:Nat}{c:Int}{l:Bool}(h:W.cell? ⟨g,0,none⟩=some (.int .i64 c)/\W.cell? ⟨g,1,none⟩=some (.bool l))(hb:Below W.heap.size W b):b.cell? ⟨g,0,none⟩=some (.int .i64 c)/\b.cell? ⟨g,1,none⟩=some (.bool l):=
 ⟨(hb.cell (p:=⟨g,0,none⟩) (block_lt_of_cell h.1)).trans h.1,(hb.cell (p:=⟨g,1,none⟩) (block_lt_of_cell h.2)).trans h.2⟩
theorem vY{g:Nat}{L:List Pg}(h:w.heap[g]?=some (.cells (pgc L).toArray 133 (0,0)))(i:Nat)(x:Pg):((w.setCell ⟨g,i*2,none⟩ (.int .i64 x.1)).setCell ⟨g,i*2+1,none⟩ (.bool x.2)).drew.heap[g]?=some (.cells (pgc (L.set i x)).toArray 133 (0,0)):=by
 have d:=aY w g (i*2) _ _ (.int .i64 x.1) h;have b:=aY _ g (i*2+1) _ _ (.bool x.2) d
 have e:(((pgc L).toArray.setIfInBounds (i*2) (.int .i64 x.1)).setIfInBounds (i*2+1) (.bool x.2))=(pgc (L.set i x)).toArray:=by
  rw[sR];simp
 rw[e] at b;exact b
theorem rQ{P:List Pg}{n s:Nat}(b:1<=n)(d:n<=P.length):inS P s (n:Int)=decide (stt (P.getD (n-1) Pg.zero)=s):=by
 unfold inS;rw[ax (show(1:Int)<=n by omega),ax (show(n:Int)<=P.length by omega),show((n:Int)-1).toNat=n-1 by omega]
 simp
theorem Cw{P:List Pg}{n s:Nat}{x:Pg}(b:1<=n)(d:n<=P.length)(h:stt (P.getD (n-1) Pg.zero)=stt x)(z:Int):inS (P.set (n-1) x) s z=inS P s z:=by
 rw[xQ b d];split
 . rename_i e;rw[e,rQ b d,h]
 . rfl
theorem xF(w:World)(b:Nat)(P:Po)(D:Pd)(col:Nat->Nat)(h:Pm w b P col D)(n:Nat)(h1:1<=n)(R:n<=P.pg.length)(x:Pg)(hx:0<=x.1/\x.1<=P.rf):
 Calls prog 166 #[.pointer (some ⟨b,0,none⟩),.int .i64 ((n:Nat):Int),.agg #[.int .i64 x.1,.bool x.2]] w λe w'=>e=.returned (.tuple #[])/\∃col',Pl w' b (P.put n x) col'/\Fr w col w' col':=by
 obtain⟨i,rfl⟩:∃i:Nat,n=i+1:=⟨n-1,by omega⟩
 have hi:i<P.pg.length:=by omega
 have es:P.state (((i+1:Nat)):Int)=stt (P.pg.getD i Pg.zero):=by
  unfold Po.state;rw[if_pos (Po.has_iff.2 ⟨by omega,by omega⟩),show(((i+1:Nat):Int)-1).toNat=i by omega]
 have aw:=al w (.cells #[.int .i64 x.1,.bool x.2] 133);have X0:=iX w x.1 x.2;have N:=iJ λ(A:World)(hb:Below w.heap.size w A)=>tT A b P D col (h.q.keep hb) h.ok.l2 (((i+1:Nat)):Int)
 rw[es] at N;have g:=iJ h;have X:=iJ λ(A:World)(hb:Below (w.alloc (.cells #[.int .i64 x.1,.bool x.2] 133)).heap.size (w.alloc (.cells #[.int .i64 x.1,.bool x.2] 133)) A)=>tS X0 hb
 have ST:=iJ λ(A:World)=>tA A x
 have M:=iJ aw;obtain⟨y0,y1⟩:=X.o _ (drw _);have q:=iJ (drw (w.alloc (.cells #[.int .i64 x.1,.bool x.2] 133)));have r:=iJ h.ok.l2;clear h aw X0 es;obtain⟨f,T⟩:∃f,stt (P.pg.getD i Pg.zero)=f:=⟨_,rfl⟩;obtain⟨t,U⟩:∃t,stt x=t:=⟨_,rfl⟩;have f1:=nN (P.pg.getD i Pg.zero);have t1:=nN x;have HF:=iJ T;have H:=iJ U;have HX:=iJ hx;rw[T] at N f1;rw[U] at ST t1;obtain⟨c,l⟩:=x;clear T U hx;simp only at *;go_enter func166,ntmps166;go_wp2
 go_region_with (first
  |(go_at_call 47;refine(N.o _ (bt M.o q.o)).mono ?_;rintro _ m ⟨rfl,hb⟩;have q:=iJ (bt q.o hb);obtain⟨I,J⟩:=X.o _ q.o;clear hb)
  |(go_at_call 112;refine(ST.o _).mono ?_;rintro _ m ⟨rfl,hb⟩;have q:=iJ (bt q.o hb);obtain⟨I,J⟩:=X.o _ q.o;clear hb))
 all_goals
  have v:=iJ (g.o.q.keep (bt M.o q.o));have BZ:=iJ (bt M.o q.o);have c1:=(v.o.keep (drw _)).c1;have I:m.drew.cell? ⟨w.heap.size,0,none⟩=some (.int .i64 c):=I;have J:m.drew.cell? ⟨w.heap.size,1,none⟩=some (.bool l):=J;have g1:=v.o.pgf (i*2);have g2:=v.o.pgf (i*2+1);obtain⟨d1,d2⟩:=v.o.pgAt hi;have d3:m.drew.cell? ⟨D.g,i*2,none⟩=_:=d1;have d4:m.drew.cell? ⟨D.g,i*2+1,none⟩=_:=d2;have g3:m.drew.frozen? ⟨D.g,i*2,none⟩=false:=g1;have g4:m.drew.frozen? ⟨D.g,i*2+1,none⟩=false:=g2;have s1:IntKind.i64.wrap (i:Int)=(i:Int):=iT (by have:=r.o;omega) (by have:=r.o;omega)
  have s2:wrap64 (i:Int)=(i:Int):=by unfold wrap64;have:=r.o;omega
  have aj:(i:Int)<(P.pg.length:Int):=by omega
  clear q;go_wp2;go_region
 all_goals
  have hh:=vY v.o.pgs i (c,l);have Z:But (λk=>k=D.g) m ((m.setCell ⟨D.g,i*2,none⟩ (.int .i64 c)).setCell ⟨D.g,i*2+1,none⟩ (.bool l)).drew:=(((But.refl (λk=>k=D.g) m).setCell (p:=⟨D.g,i*2,none⟩) (λ_=>rfl) _).setCell (p:=⟨D.g,i*2+1,none⟩) (λ_=>rfl) _).drew
  have B:=iJ (v.o.page (i+1) (c,l) hh Z);have B2:=iJ Z;clear hh Z I J d1 d2 d3 d4 g1 g2 g3 g4 c1;generalize ((m.setCell ⟨D.g,i*2,none⟩ (.int .i64 c)).setCell ⟨D.g,i*2+1,none⟩ (.bool l)).drew=E at *;have cf:=B.o.cin (s:=f) (by omega)
  by_cases aa:f=t
  . subst aa;have ai:(f==f)=true:=by simp
    go_wp2;go_end0
    refine⟨rfl,col,⟨D,B.o,g.o.ok.put _ _ HX.o,λs G z=>?_⟩,(Fr.keep BZ.o).trans ⟨B2.o.mono λk _ j=>by rw[j,g.o.q.cg];decide,λ_ _=>rfl⟩⟩
    rw[g.o.mem s G z];exact(Cw (by omega) R (by rw[show i+1-1=i from rfl,HF.o,H.o]) z).symm
  . have ai:((f:Int)==(t:Int))=false:=by simp;omega
    have O:=B.o.cin (s:=t) (by omega)
    have RM:=iJ (yn E (D.s f) (D.a f) (D.c f) (D.L f) ((i:Int)+1) ((i:Int)+1) (B.o.set f (by omega)) (by have:=r.o;unfold Nm;omega) (by have:=r.o;unfold Nm;omega) (by have:=g.o.few (s:=f) (by omega);omega))
    go_wp2_with fail
    refine RM.o.mono ?_;rintro _ w3 ⟨rfl,a3,k3,L3,ag,ac,-,ae,W⟩;have C:=iJ (B.o.oneSet (s:=f) (by omega) ag ae W)
    have F3:=iJ (show Fr E col w3 (recol col E w3 (3+f)) from⟨W.mono λk _ j=>by
     rcases j with rfl|⟨y,V,rfl⟩
     . rw[g.o.q.cs f (by omega)];omega
     . rw[g.o.q.ca f (by omega) y V];omega,λk j=>jP j⟩)
    have H3:=iJ ac;clear ag ae W ac RM cf O;have O:=C.o.cin (s:=t) (by omega)
    have L:=iJ (sS w3 (D.s t) (upd D.a f a3 t) (upd D.c f k3 t) (upd D.L f L3 t) ((i:Int)+1) ((i:Int)+1) (C.o.set t (by omega)) (by have:=r.o;unfold Nm;omega) (by have:=r.o;unfold Nm;omega) (by rw[jt _ _ (λe=>aa e.symm)];have:=g.o.few (s:=t) (by omega);omega))
    rw[jt D.L _ (λe=>aa e.symm)] at L
    go_wp2_with fail
    refine L.o.mono ?_;rintro _ w4 ⟨rfl,a4,k4,L4,ah,ad,-,af,Y⟩;have Q4:=iJ (C.o.oneSet (s:=t) (by omega) ah af Y)
    have F4:=iJ (show Fr w3 (recol col E w3 (3+f)) w4 (recol (recol col E w3 (3+f)) w3 w4 (3+t)) from⟨Y.mono λk _ j=>by
     rcases j with rfl|⟨y,V,rfl⟩
     . rw[C.o.cs t (by omega)];omega
     . rw[C.o.ca t (by omega) y V];omega,λk j=>jP j⟩)
    have H4:=iJ ad;clear ah af Y ad L O;go_wp2;go_end0
    refine⟨rfl,_,⟨_,Q4.o,g.o.ok.put _ _ HX.o,λs G z=>?_⟩,(Fr.keep BZ.o).trans ((Fr.trans ⟨B2.o.mono λk _ j=>by rw[j,g.o.q.cg];decide,λ_ _=>rfl⟩ F3.o).trans F4.o)⟩
    show has (upd (upd D.L f L3) t L4 s) z=inS (P.pg.set (i+1-1) (c,l)) s z;rw[xQ (by omega) R]
    have ez:(decide ((i:Int)+1<=z)&&decide (z<=(i:Int)+1))=decide (z=((i+1:Nat):Int)):=by
     by_cases d:z=((i+1:Nat):Int)
     . rw[ax d,ax (by omega),ax (by omega)];rfl
     . rw[au d];by_cases h3:(i:Int)+1<=z
       . rw[au (show ¬z<=(i:Int)+1 by omega),ia]
       . rw[au h3,eU]
    have e0:inS P.pg s (((i+1:Nat)):Int)=decide (f=s):=by rw[rQ (by omega) R,show i+1-1=i from rfl,HF.o]
    by_cases K:s=t
    . subst K;rw[ji,H4.o,ez,g.o.mem s G];by_cases d:z=((i+1:Nat):Int)
      . rw[if_pos d,ax d,Bool.or_true,H.o];simp
      . rw[if_neg d,au d,fD]
    . rw[jt _ _ K];by_cases ab:s=f
      . subst ab;rw[ji,H3.o,ez,g.o.mem s G];by_cases d:z=((i+1:Nat):Int)
        . rw[if_pos d,ax d,H.o,au (λe=>K e.symm)];simp
        . rw[if_neg d,au d];simp
      . rw[jt _ _ ab,g.o.mem s G];by_cases d:z=((i+1:Nat):Int)
        . rw[if_pos d,d,e0,H.o,au (λe=>ab e.symm),au (λe=>K e.symm)]
        . rw[if_neg d]
end Go.Proofs.YtbdkogimlbnlmaaGreat.Q
