import Derived.Test.YtbdkogimlbnlmaaGreatWqB5
import Derived.Laws.ResultCell
import Derived.BigFrameIn
set_option linter.unusedVariables false
set_option linter.unusedSimpArgs false
set_option maxHeartbeats 4000000
set_option maxRecDepth 10000
namespace Go.Proofs.YtbdkogimlbnlmaaGreat.Q
open Go.RowKit
variable {X:List Int}{C:List Value}{c cap g n sz:Nat}{a:Option Addr}{e:TypeId}{w w' wx:World}
def Gw(e:TypeId)(sz:Nat)(w:World)(a:Option Addr)(cap n:Nat)(C:List Value):Prop:=w.ownsRow 0 e sz (.slice a n cap) n C
theorem Gw.nil(e:TypeId)(sz:Nat)(w:World):Gw e sz w none 0 0 []:=eQ w 0 e sz
theorem Gw.length(h:Gw e sz w a cap n C):C.length=n*sz:=h.1
theorem Gw.cases(h:Gw e sz w a cap n C):(a=none/\cap=0/\n=0/\C=[])\/
 ∃g cur,a=some ⟨g,0,none⟩/\w.heap[g]?=some (.cells cur e (0,0))/\n<=cap/\cap<=maxLen/\cur.size=cap*sz/\cur.toList.take (n*sz)=C:=by
 have hl:=h.1;obtain⟨_,h2⟩:=h;rcases h2 with⟨hv,h0⟩|⟨g,cap',cur,hv,_,hg,hn,hm,hs,ht⟩
 . simp only[bB] at hv;refine .inl ⟨hv.1,hv.2.2,h0,bR.1 ?_⟩;rw[hl,h0,dR]
 . simp only[bB] at hv;obtain⟨h1,_,rfl⟩:=hv;exact .inr ⟨g,cur,h1,hg,hn,hm,hs,ht⟩
theorem Gw.mk{cur:Array Value}(hl:C.length=n*sz)(hg:w.heap[g]?=some (.cells cur e (0,0)))(hn:n<=cap)(hm:cap<=maxLen)(hs:cur.size=cap*sz)(ht:cur.toList.take (n*sz)=C):Gw e sz w (some ⟨g,0,none⟩) cap n C:=
 ⟨hl,.inr ⟨g,cap,cur,rfl,aF _,hg,hn,hm,hs,ht⟩⟩
theorem Gw.lt(h:Gw e sz w a cap n C){x:Addr}(hx:a=some x):x.block<w.heap.size:=by
 rcases h.cases with⟨rfl,_⟩|⟨g,cur,rfl,hg,_⟩
 . cases hx
 . cases hx;exact(af.1 hg).1
theorem Gw.but{S:Nat->Prop}(h:Gw e sz w a cap n C)(hb:But S w w')(hn:∀x,a=some x->¬S x.block):Gw e sz w' a cap n C:=by
 have hl:=h.length;rcases h.cases with⟨rfl,rfl,rfl,rfl⟩|⟨g,cur,rfl,hg,h1,h2,h3,h4⟩
 . exact Gw.nil e sz w'
 . exact Gw.mk hl (hb.same hg (hn _ rfl)) h1 h2 h3 h4
theorem Gw.keep(h:Gw e sz w a cap n C)(hb:Below w.heap.size w w'):Gw e sz w' a cap n C:=
 h.but (S:=λ_=>False) (But.ofBelow hb) (λ_ _ hf=>hf)
theorem Gw.addr(h:Gw e sz w a cap n C)(h0:0<n):∃g,a=some ⟨g,0,none⟩:=by
 rcases h.cases with⟨rfl,rfl,rfl,rfl⟩|⟨g,cur,rfl,hg,h1,h2,h3,h4⟩
 . omega
 . exact⟨g,rfl⟩
theorem Gw.cell(h:Gw e sz w (some ⟨g,0,none⟩) cap n C){i:Nat}{u:Value}(hi:C[i]?=some u):w.cell? ⟨g,i,none⟩=some u:=by
 rcases h.cases with⟨h0,_⟩|⟨g',cur,h0,hg,h1,h2,h3,h4⟩
 . cases h0
 . simp only[aE,Addr.mk.injEq,dT] at h0;subst h0;have hlt:=(br.1 hi).1;rw[<-h4,bX] at hi;split at hi
   . rw[ax _ _ _ _ _ _ hg];simpa using hi
   . cases hi
theorem Gw.capLe(h:Gw e sz w a cap n C):n<=cap/\cap<=maxLen:=by
 rcases h.cases with⟨rfl,rfl,rfl,rfl⟩|⟨g,cur,rfl,hg,h1,h2,h3,h4⟩
 . exact⟨ai _,aF _⟩
 . exact⟨h1,h2⟩
theorem oQ{T e:TypeId}{sz by':Nat}{z:Value}(hu:Tryz.prog.underlying T=some (.slice e))(hi:(Tryz.prog.info? e).map (λi=>(i.zero,i.size,i.bytes))=some (some z,sz,by'))(hzs:z.cells.size=sz)(hsz:0<sz)
 (w:World) (ty:TypeId) (a:Option Addr) (n cap:Nat) (C:List Value) (hR:Gw e sz w a cap n C) (ad:Addr) (c:Nat) (V:List Value) (hV:V.length=sz) (hc:∀j u,V[j]?=some u->w.cell? (ad.add j)=some u) (h1:∀u∈V,u.oneCell'=true) (hlen:n+1<=4398046511104) (hby:by'<=32):
 ∃g cap' w',(Builtin.append_ #[T,T] ty #[.slice a n cap,.slice (some ad) 1 c]).run Tryz.prog w=.ok (.slice (some ⟨g,0,none⟩) (n+1) cap') w'/\
  Gw e sz w' (some ⟨g,0,none⟩) cap' (n+1) (C++V)/\New w a (some ⟨g,0,none⟩)/\But (InA a) w w':=by
 obtain⟨i0,hi,hz0,hz1,hz2⟩:=cZ hi;have hb:(n+1)*by'<=140737488355328:=aU (Nat.mul_le_mul hlen hby) (by decide)
 obtain⟨g,cap',w',hr,h1,h2,h3,h4⟩:=dz (P:=Tryz.prog) w T ty 0 e i0 z sz by' hu hi hz0 hz1 hz2 hzs hsz (.slice a n cap) n C hR ad 1 c V (by rw[hV,Nat.one_mul]) hc h1 (by decide) (by unfold maxLen;omega) hb (aF _) w.heap.size rfl
 rw[jG] at h2 h3;refine⟨g,cap',w',hr,h1,?_,But.inA h2⟩;intro y hy;simp only[aE] at hy;subst hy;rcases h3 with h3|h3
 . obtain⟨z,hz,e⟩:=map_some h3;exact .inl ⟨z,hz,e⟩
 . exact .inr (by show _<=g;omega)
def cnt(r:Rn):Nat:=(r.2-r.1+1).toNat
def iS(x:Int)(c:Nat):List Int:=(List.range c).map λi=>x+((i:Nat):Int)
theorem uC(x:Int)(c:Nat):(iS x c).length=c:=by simp[iS]
theorem rB(x:Int)(c:Nat):iS x (c+1)=iS x c++[x+c]:=by simp[iS,fF]
theorem rO(x:Int)(c j:Nat)(h:j<=c):(iS x c).take j=iS x j:=by
 unfold iS;rw[<-List.map_take,List.take_range,cY h]
def iW(L:List Rn):List Int:=(L.map λr=>iS r.1 (cnt r)).flatten
theorem rN{L:List Rn}{k:Nat}(hk:k<L.length):iW (L.take (k+1))=iW (L.take k)++iS (L.getD k Rn.zero).1 (cnt (L.getD k Rn.zero)):=by
 unfold iW;rw[jm L Rn.zero hk,bH,List.flatten_append];simp
def ic(X:List Int):List Value:=X.map λx=>Value.int .i64 x
theorem xW(X Y:List Int):ic (X++Y)=ic X++ic Y:=by simp[ic]
structure Xw(w wx:World)(a:Option Addr)(c:Nat)(X:List Int):Prop where
 row:Gw 3 1 wx a c X.length (ic X)
 na:New w none a
 b:Below w.heap.size w wx
theorem Xw.keep{wy:World}(h:Xw w wx a c X)(hb:Below wx.heap.size wx wy):Xw w wy a c X:=⟨h.row.keep hb,h.na,bt h.b hb⟩
theorem C9:(Tryz.prog.info? 3).map (λi=>(i.zero,i.size,i.bytes))=some (some (.int .i64 0),1,8):=by kernel_rfl
theorem Xw.next(h:Xw w wx a c X)(hn:n=X.length)(x:Int)(hl:n+1<=4294967296):
 ∃g cap' w',(Builtin.append_ #[35,35] 35 #[.slice a n c,.slice (some ⟨wx.heap.size,0,none⟩) 1 1]).run Tryz.prog (wx.alloc (.cells #[.int .i64 x] 3))=.ok (.slice (some ⟨g,0,none⟩) (n+1) cap') w'/\Xw w w' (some ⟨g,0,none⟩) cap' (X++[x]):=by
 subst hn;have h6:=h.keep (al wx (.cells #[.int .i64 x] 3))
 obtain⟨g,cap',w1,hr,v1,v2,v3⟩:=oQ Tryz.underlying35 C9 rfl (by decide) (wx.alloc (.cells #[.int .i64 x] 3)) 35 a X.length c (ic X) h6.row ⟨wx.heap.size,0,none⟩ 1 [.int .i64 x] rfl
  (by intro j u hj
      match j,hj with
      |0,hj=>simp at hj;subst hj;exact iC wx _ _) (by intro u hu;simp at hu;subst hu;rfl) (aU hl (by decide)) (by decide)
 refine⟨g,cap',w1,hr,⟨by rw[xW,ae];exact v1,h6.na.trans v2 h6.b.size,?_⟩⟩
 refine((But.ofBelow (S:=λ_=>False) h6.b).trans v3 (λk hk ⟨y,hy,e⟩=>?_)).below (λ_ _ h=>h)
 rcases h6.na y hy with⟨z,hz,_⟩|h2
 . cases hz
 . omega
end Go.Proofs.YtbdkogimlbnlmaaGreat.Q
namespace Go.Proofs.YtbdkogimlbnlmaaGreat.Q
open Go.RowKit Go.Shelf
attribute [local go_sem] Oper.semAt_some
def kP{β:Type}(n:Nat)(J:(Nat->Prop)->β->World->Prop):Prop:=∀F s A B,J F s A->But (λk=>¬F k/\n<=k) A B->J F s B
def mG{β:Type}(J:(Nat->Prop)->β->World->Prop):Prop:=∀F s A,J F s A->∀k,F k->k<A.heap.size
def YesF{α:Type}(F:Nat->Prop)(J Jx:(Nat->Prop)->List α->World->Prop)(pre:List α)(W:World)(e:Ending)(W':World):Prop:=
 ∃F':Nat->Prop,But F W W'/\(∀k,F' k->F k\/W.heap.size<=k)/\((e=.returned (.bool true)/\J F' pre W')\/(e=.returned (.bool false)/\Jx F' pre W'))
def wS{α:Type}(P:Program)(g:Nat)(lb:Array Value)(encs:α->Array Value)(xs:List α)(w:World)(X:Nat->Prop):Prop:=
 ∀(l:Nat)(J Jx:(Nat->Prop)->List α->World->Prop)(W:World)(F0:Nat->Prop),But (λk=>¬X k) w W->(∀k,F0 k->¬X k)->kP W.heap.size J->mG J->
  (∀F pre x rest W1,xs=pre++x::rest->J F pre W1->W.heap.size<=W1.heap.size->(∀k,F k->F0 k\/W.heap.size<=k)->YieldAt Fence.wide 0 P l (encs x) W1 (YesF F J Jx (pre++[x]) W1))->
  J F0 [] W->CallsIn Fence.wide 0 P g (#[.func (.yield l) #[] #[]]++lb) W λe W'=>∃F':Nat->Prop,(∃v,e=.returned v)/\But F0 W W'/\(∀k,F' k->F0 k\/W.heap.size<=k)/\(J F' xs W'\/∃pre rest,xs=pre++rest/\Jx F' pre W')
def yH{α:Type}(F:Nat->Prop)(I:(Nat->Prop)->List α->World->Prop)(Ix:Code->(Nat->Prop)->List α->World->Prop)(pre:List α)(W:World):Exit->Act->World->Prop
 | .normal,_,W'=>∃F':Nat->Prop,But F W W'/\(∀k,F' k->F k\/W.heap.size<=k)/\I F' pre W'
 | .ret,_,W'=>∃F':Nat->Prop,But F W W'/\(∀k,F' k->F k\/W.heap.size<=k)/\Ix .ret F' pre W'
 | .exit id,_,W'=>∃F':Nat->Prop,But F W W'/\(∀k,F' k->F k\/W.heap.size<=k)/\Ix (.exit id) F' pre W'
 | .goto t,_,W'=>∃F':Nat->Prop,But F W W'/\(∀k,F' k->F k\/W.heap.size<=k)/\Ix (.goto t) F' pre W'
 | .panic _,_,_=>False
 | .outgrown,_,_=>False
def _root_.Go.Proofs.YtbdkogimlbnlmaaGreat.YesG{α:Type}(F:Nat->Prop)(J Jx:(Nat->Prop)->List α->World->Prop)(pre:List α)(W0 W:World)(e:Ending)(W':World):Prop:=
 ∃F':Nat->Prop,But F W W'/\(∀k,F' k->F k\/W0.heap.size<=k)/\((e=.returned (.bool true)/\J F' pre W')\/(e=.returned (.bool false)/\Jx F' pre W'))
def _root_.Go.Proofs.YtbdkogimlbnlmaaGreat.roundEndG{α:Type}(F:Nat->Prop)(I:(Nat->Prop)->List α->World->Prop)(Ix:Code->(Nat->Prop)->List α->World->Prop)(pre:List α)(W0 W:World):Exit->Act->World->Prop
 | .normal,_,W'=>∃F':Nat->Prop,But F W W'/\(∀k,F' k->F k\/W0.heap.size<=k)/\I F' pre W'
 | .ret,_,W'=>∃F':Nat->Prop,But F W W'/\(∀k,F' k->F k\/W0.heap.size<=k)/\Ix .ret F' pre W'
 | .exit id,_,W'=>∃F':Nat->Prop,But F W W'/\(∀k,F' k->F k\/W0.heap.size<=k)/\Ix (.exit id) F' pre W'
 | .goto t,_,W'=>∃F':Nat->Prop,But F W W'/\(∀k,F' k->F k\/W0.heap.size<=k)/\Ix (.goto t) F' pre W'
 | .panic _,_,_=>False
 | .outgrown,_,_=>False
def _root_.Go.Proofs.YtbdkogimlbnlmaaGreat.SeqG{α:Type}(P:Program)(g:Nat)(lb:Array Value)(En:World->World->α->Array Value->Prop)(xs:List α)(w:World)(X:Nat->Prop):Prop:=
 ∀(l:Nat)(J Jx:(Nat->Prop)->List α->World->Prop)(W:World)(F0:Nat->Prop),But (λk=>¬X k) w W->(∀k,F0 k->¬X k)->Q.kP W.heap.size J->Q.mG J->
  (∀F pre x rest W0 W1 vals,xs=pre++x::rest->J F pre W0->Below W0.heap.size W0 W1->En W0 W1 x vals->W.heap.size<=W0.heap.size->(∀k,F k->F0 k\/W.heap.size<=k)->YieldAt Fence.wide 0 P l vals W1 (YesG F J Jx (pre++[x]) W0 W1))->
  J F0 [] W->CallsIn Fence.wide 0 P g (#[.func (.yield l) #[] #[]]++lb) W λe W'=>∃F':Nat->Prop,(∃v,e=.returned v)/\But F0 W W'/\(∀k,F' k->F0 k\/W.heap.size<=k)/\(J F' xs W'\/∃pre rest,xs=pre++rest/\Jx F' pre W')
theorem _root_.Go.Proofs.YtbdkogimlbnlmaaGreat.wp_rangeG{P:Program}{α:Type}{g:Operand}{ps:Array Tmp}{assign body:Code}{Qz:Exit->Act->World->Prop}{a:Act}{w:World}
 {gf:Nat} {lb:Array Value} (hg:a.eval g=.func (.func gf) #[] lb) (eg:∀args w,(callFunc gf args).run P w=.ok (.enter gf args) w)
 {En:World->World->α->Array Value->Prop} {xs:List α} {w0:World} {X:Nat->Prop} (hseq:SeqG P gf lb En xs w0 X) (h0X:But (λk=>¬X k) w0 w) (hXw:∀k,X k->k<w.heap.size) (hps:∀W0 W x vals,En W0 W x vals->vals.size=ps.size)
 (F0:Nat->Prop) (hF:∀k,F0 k->¬X k) (I:(Nat->Prop)->List α->World->Prop) (Ix:Code->(Nat->Prop)->List α->World->Prop) (hI:Q.kP w.heap.size I) (sI:Q.mG I) (hIx:∀c,Q.kP w.heap.size (Ix c)) (sIx:∀c,Q.mG (Ix c)) (h0:I F0 [] w)
 (hround:∀(l:Nat)(F:Nat->Prop)(pre:List α)(x:α)(rest:List α)(W0 W:World)(vals:Array Value),xs=pre++x::rest->I F pre W0->Below W0.heap.size W0 W->En W0 W x vals->w.heap.size<=W0.heap.size->(∀k,F k->F0 k\/w.heap.size<=k)->¬F l->w.heap.size<=l->l<W0.heap.size->But F0 w W0->
   assign.wpIn (Fence.wide.inRound l) 0 P (Exit.then (λa₁ W₁=>Below W.heap.size W W₁/\∀W₂,But (λk=>k=l) W₁ W₂->body.wpIn (Fence.wide.inRound l) 0 P (roundEndG F I Ix (pre++[x]) W0 W₂) a₁ W₂) (λ_ _ _=>False))
    {tmps:=(ps.zip vals).foldl (λt (p,v)=>t.setIfInBounds p v) a.tmps,defers:=[]} W)
 (hdone:∀(D:Nat)(F:Nat->Prop)(W:World),w.heap.size<=D->¬F D->I F xs W->But F0 w W->(∀k,F k->F0 k\/w.heap.size<=k)->W.heap[D]?=some (.deferred (some []))->Qz .normal {a with defers:={target:=.collected D,args:=#[]}::a.defers} W)
 (hstop:∀(D:Nat)(c:Code)(F:Nat->Prop)(pre rest:List α)(W:World),w.heap.size<=D->¬F D->xs=pre++rest->Ix c F pre W->But F0 w W->(∀k,F k->F0 k\/w.heap.size<=k)->W.heap[D]?=some (.deferred (some []))->c.wpIn Fence.wide 0 P Qz {a with defers:={target:=.collected D,args:=#[]}::a.defers} W):
 (Code.rangeFunc g ps assign body).wpIn Fence.wide 0 P Qz a w:=by
 refine wpIn_rangeFunc λfn hfn=>?_
 obtain⟨rec,hrec⟩:∃rec:LoopState->Option Code->Loop,rec=λst pe=>{state:=st,pending:=pe,fn,tmps:=a.tmps,params:=ps,assign,body,defers:=w.heap.size}:=⟨_,rfl⟩
 have hen:=run_enterLoop_outer (P:=P) (w:=w) fn a.tmps ps assign body;obtain⟨V,hV⟩:∃V,(w.alloc (.deferred (some []))).alloc (.loop (rec .ready none))=V:=⟨_,rfl⟩;have sV:V.heap.size=w.heap.size+2:=by rw[<-hV,size_alloc,size_alloc]
 have rV:V.heap[w.heap.size+1]?=some (.loop (rec .ready none)):=by
  rw[<-hV];have:=az (w.alloc (.deferred (some []))) (.loop (rec .ready none));rwa [World.size_alloc] at this
 have dV:V.heap[w.heap.size]?=some (.deferred (some [])):=by
  rw[<-hV];exact(Below.heap_alloc _ _ _ (by simp)).trans (az w _)
 have bV:Below w.heap.size w V:=by rw[<-hV];exact bt ((Below.refl _ _).alloc (ai _) _) ((Below.refl _ _).alloc (ai _) _)
 have f0:∀k,F0 k->k<w.heap.size:=sI _ _ _ h0;have IV:I F0 [] V:=hI _ _ _ _ h0 (But.ofBelow bV);obtain⟨N,hN⟩:∃N:Nat,N=w.heap.size:=⟨_,rfl⟩;refine⟨w.heap.size+1,[{target:=.collected w.heap.size,args:=#[]}],V,{target:=.fn (.func gf) lb,args:=#[.func (.yield (w.heap.size+1)) #[] #[]]},V,gf,#[.func (.yield (w.heap.size+1)) #[] #[]]++lb,V,?_,?_,?_,?_,?_,?_⟩
 . rw[<-hV,hrec];exact hen
 . simp only[resolve,hg];simp[go_sem]
 . intro f' _;trivial
 . simp[invoke,go_sem,eg]
 . intro h;cases h
 rw[<-hN] at sV rV dV f0 hI hIx hround hdone hstop hrec ⊢
 have step:=hseq (N+1)
  (λF pre W=>∃Fb:Nat->Prop,(∀k,F k↔(Fb k\/k=N\/k=N+1))/\(∀k,Fb k->F0 k\/N+2<=k)/\I Fb pre W/\W.heap[N+1]?=some (.loop (rec .ready none))/\W.heap[N]?=some (.deferred (some []))/\But F0 w W)
  (λF pre W=>∃c,∃Fb:Nat->Prop,(∀k,F k↔(Fb k\/k=N\/k=N+1))/\(∀k,Fb k->F0 k\/N+2<=k)/\Ix c Fb pre W/\W.heap[N+1]?=some (.loop (rec .done (some c)))/\W.heap[N]?=some (.deferred (some []))/\But F0 w W)
  V (λk=>F0 k\/k=N\/k=N+1) (h0X.andBelow bV)
  (λk hk=>by
    rcases hk with hk|rfl|rfl
    . exact hF k hk
    . exact λhx=>by have:=hXw _ hx;omega
    . exact λhx=>by have:=hXw _ hx;omega)
  (λF s A B hs hb=>by
    obtain⟨Fb,h1,h2,h3,h4,h5,h6⟩:=hs;exact⟨Fb,h1,h2,hI _ _ _ _ h3 (hb.mono λk _ hk=>⟨λhf=>hk.1 ((h1 k).2 (.inl hf)),by have:=hk.2;omega⟩),hb.same h4 (λh=>h.1 ((h1 _).2 (.inr (.inr rfl)))),hb.same h5 (λh=>h.1 ((h1 _).2 (.inr (.inl rfl)))),h6.trans hb (λk hk h=>by have:=h.2;omega)⟩)
  (λF s A hs k hk=>by
    obtain⟨Fb,h1,h2,h3,h4,h5,h6⟩:=hs;rcases (h1 k).1 hk with h|rfl|rfl
    . exact sI _ _ _ h3 k h
    . exact(af.1 h5).1
    . exact(af.1 h4).1)
  ?_ ⟨F0,λk=>fJ,λk hk=>.inl hk,IV,rV,dV,But.ofBelow bV⟩
 . refine CallsIn.mono step ?_;rintro e W ⟨F',⟨v,rfl⟩,hB,hF',⟨Fb,hFb,hsub,hi,hl,hd,hBw⟩|⟨pre,rest,hx,c,Fb,hFb,hsub,hi,hl,hd,hBw⟩⟩
   . have hput:∀(G:Nat->Prop) o,¬G (N+1)->But (λk=>¬G k/\N<=k) W (W.putObj (N+1) o):=λG o hG=>(But.refl _ W).putObj (l:=N+1) (λ_=>⟨hG,by omega⟩) o
     have n1:¬Fb (N+1):=λh=>(hsub _ h).elim (λh=>by have:=f0 _ h;omega) (λh=>by omega)
     have n0:¬Fb N:=λh=>(hsub _ h).elim (λh=>by have:=f0 _ h;omega) (λh=>by omega)
     have hen2:=run_endLoop (P:=P) hl (by rw[hrec];simp)
     rw[show(rec .ready none).pending=none by rw[hrec]] at hen2
     refine⟨none,_,hen2,?_⟩;have:=hBw.size;refine hdone N Fb _ (ai _) n0 (hI _ _ _ _ hi (hput Fb _ n1)) (hBw.putObj (λh=>by omega) _) (λk hk=>(hsub k hk).imp id (λh=>by omega)) ?_
     exact(dh (by omega)).trans hd
   . have hput:∀(G:Nat->Prop) o,¬G (N+1)->But (λk=>¬G k/\N<=k) W (W.putObj (N+1) o):=λG o hG=>(But.refl _ W).putObj (l:=N+1) (λ_=>⟨hG,by omega⟩) o
     have n1:¬Fb (N+1):=λh=>(hsub _ h).elim (λh=>by have:=f0 _ h;omega) (λh=>by omega)
     have n0:¬Fb N:=λh=>(hsub _ h).elim (λh=>by have:=f0 _ h;omega) (λh=>by omega)
     have hen2:=run_endLoop (P:=P) hl (by rw[hrec];simp)
     rw[show(rec .done (some c)).pending=some c by rw[hrec]] at hen2
     refine⟨some c,_,hen2,?_⟩;have:=hBw.size;refine hstop N c Fb pre rest _ (ai _) n0 hx (hIx c _ _ _ _ hi (hput Fb _ n1)) (hBw.putObj (λh=>by omega) _) (λk hk=>(hsub k hk).imp id (λh=>by omega)) ?_
     exact(dh (by omega)).trans hd
 . rintro F pre x rest W0 W vals hx ⟨Fb,hFb,hsub,hi0,hl0,hd0,hBw0⟩ hb01 hen hW hFs;have hi:=hI _ _ _ _ hi0 (But.ofBelow hb01);have hl:=(hb01.block (N+1) (af.1 hl0).1).trans hl0;have hd:=(hb01.block N (af.1 hd0).1).trans hd0;have hBw:But F0 w W:=hBw0.trans (But.ofBelow (S:=F0) hb01) (λ_ _ h=>h)
   have s01:=hb01.size;have n1:¬Fb (N+1):=λh=>(hsub _ h).elim (λh=>by have:=f0 _ h;omega) (λh=>by omega)
   have n0:¬Fb N:=λh=>(hsub _ h).elim (λh=>by have:=f0 _ h;omega) (λh=>by omega)
   have hy:=run_yield (P:=P) (args:=vals) hl (by rw[hrec];exact hps _ _ _ _ hen)
   rw[hrec] at hy;refine⟨fn,_,assign,body,hy,roundIn_of_wpIn hfn (wpIn_mono (hround (N+1) Fb pre x rest W0 W vals hx hi0 hb01 hen (by omega) (λk hk=>(hsub k hk).imp id (λh=>by omega)) n1 (by omega) (by omega) hBw0) ?_)⟩
   rintro e a₁ W₁ hp;cases e with
   |normal=>
    obtain⟨hb1,hbody⟩:=hp;have hl1:=(hb1.block (N+1) (by omega)).trans hl
    have hd1:=(hb1.block N (by omega)).trans hd
    have hrb:=run_beginRound (P:=P) hl1 (by rw[hrec])
    refine⟨_,hrb,?_⟩;obtain⟨W2,hW2⟩:∃W2,W₁.putObj (N+1) (.loop {rec .ready none with state:=.busy})=W2:=⟨_,rfl⟩;have l1:=(af.1 hl1).1;have b12:But (λk=>k=N+1) W₁ W2:=by rw[<-hW2];exact(But.refl (λk=>k=N+1) _).putObj (λ_=>rfl) _
    have hl2:W2.heap[N+1]?=some (.loop {rec .ready none with state:=.busy}):=by rw[<-hW2];exact fH l1
    have hd2:W2.heap[N]?=some (.deferred (some [])):=b12.same hd1 (by omega)
    have s12:=b12.size;have sb1:=hb1.size;rw[hW2];refine wpIn_mono (hbody W2 b12) ?_
    have fin:∀(jump:Option Code)(W3:World)(G:Nat->Prop),But Fb W2 W3->(∀k,G k->Fb k\/W0.heap.size<=k)->
     ∃W4,(Instr.endRound (N+1) jump).run P W3=.ok (.bool jump.isNone) W4/\But (λk=>¬G k/\N<=k) W3 W4/\But F W W4/\But F0 w W4/\
     W4.heap[N+1]?=some (.loop (rec (if jump.isNone then .ready else .done) jump))/\W4.heap[N]?=some (.deferred (some []))/\
     (∀k,(G k\/k=N\/k=N+1)->F k\/W0.heap.size<=k)/\(∀k,G k->F0 k\/N+2<=k):=λjump W3 G h23 hG=>by
     have hl3:=h23.same hl2 n1;have l3:=(af.1 hl3).1;have hr:=run_endRound (P:=P) jump hl3;have e1:({ ({rec .ready none with state:=.busy}:Loop) with state:=if jump.isNone then .ready else .done,pending:=jump}:Loop)=rec (if jump.isNone then .ready else .done) jump:=by rw[hrec]
     rw[e1] at hr;have g1:¬G (N+1):=λh=>(hG _ h).elim n1 (λh=>by omega)
     have bF:But F W W3:=((But.ofBelow (S:=F) hb1).trans b12 (λx _ h=>(hFb x).2 (.inr (.inr h)))).trans h23 (λx _ h=>(hFb x).2 (.inl h))
     refine⟨_,hr,(But.refl _ _).putObj (λ_=>⟨g1,by omega⟩) _,bF.putObj (λ_=>(hFb _).2 (.inr (.inr rfl))) _,?_,fH l3,(dh (by omega)).trans (h23.same hd2 n0),?_,?_⟩
     . exact(hBw.trans (bF.putObj (λ_=>(hFb _).2 (.inr (.inr rfl))) _) (λk hk h=>by
        rcases (hFb k).1 h with h|rfl|rfl
        . exact(hsub k h).elim id (λh=>by omega)
        . omega
        . omega))
     . rintro k (h|rfl|rfl)
       . exact(hG k h).elim (λh=>.inl ((hFb k).2 (.inl h))) (λh=>.inr (by omega))
       . exact .inl ((hFb _).2 (.inr (.inl rfl)))
       . exact .inl ((hFb _).2 (.inr (.inr rfl)))
     . intro k h;exact(hG k h).elim (hsub k) (λh=>.inr (by omega))
    rintro e a3 W3 hp;cases e with
    |normal=>
     obtain⟨G,hk3,hG,hi3⟩:=hp;obtain⟨W4,hr,h34,hF4,h4,hl4,hd4,s4,s5⟩:=fin none W3 G hk3 hG;exact⟨_,_,hr,λk=>G k\/k=N\/k=N+1,hF4,s4,.inl ⟨rfl,G,λk=>fJ,s5,hI _ _ _ _ hi3 h34,hl4,hd4,h4⟩⟩
    |ret=>
     obtain⟨G,hk3,hG,hi3⟩:=hp;obtain⟨W4,hr,h34,hF4,h4,hl4,hd4,s4,s5⟩:=fin (some .ret) W3 G hk3 hG;exact⟨_,_,hr,λk=>G k\/k=N\/k=N+1,hF4,s4,.inr ⟨rfl,.ret,G,λk=>fJ,s5,hIx _ _ _ _ _ hi3 h34,hl4,hd4,h4⟩⟩
    |exit id=>
     obtain⟨G,hk3,hG,hi3⟩:=hp;obtain⟨W4,hr,h34,hF4,h4,hl4,hd4,s4,s5⟩:=fin (some (.exit id)) W3 G hk3 hG;exact⟨_,_,hr,λk=>G k\/k=N\/k=N+1,hF4,s4,.inr ⟨rfl,.exit id,G,λk=>fJ,s5,hIx _ _ _ _ _ hi3 h34,hl4,hd4,h4⟩⟩
    |goto t=>
     obtain⟨G,hk3,hG,hi3⟩:=hp;obtain⟨W4,hr,h34,hF4,h4,hl4,hd4,s4,s5⟩:=fin (some (.goto t)) W3 G hk3 hG;exact⟨_,_,hr,λk=>G k\/k=N\/k=N+1,hF4,s4,.inr ⟨rfl,.goto t,G,λk=>fJ,s5,hIx _ _ _ _ _ hi3 h34,hl4,hd4,h4⟩⟩
    |panic ch=>exact hp.elim
    |outgrown=>exact hp.elim
   |ret=>exact hp.elim
   |exit id=>exact hp.elim
   |goto t=>exact hp.elim
   |panic ch=>exact hp.elim
   |outgrown=>exact hp.elim
theorem wp_rangeF{P:Program}{α:Type}{g:Operand}{ps:Array Tmp}{assign body:Code}{Qz:Exit->Act->World->Prop}{a:Act}{w:World}
 {gf:Nat} {lb:Array Value} (hg:a.eval g=.func (.func gf) #[] lb) (eg:∀args w,(callFunc gf args).run P w=.ok (.enter gf args) w)
 {encs:α->Array Value} {xs:List α} {w0:World} {X:Nat->Prop} (hseq:wS P gf lb encs xs w0 X) (h0X:But (λk=>¬X k) w0 w) (hXw:∀k,X k->k<w.heap.size) (hps:∀x,(encs x).size=ps.size)
 (F0:Nat->Prop) (hF:∀k,F0 k->¬X k) (I:(Nat->Prop)->List α->World->Prop) (Ix:Code->(Nat->Prop)->List α->World->Prop) (hI:kP w.heap.size I) (sI:mG I) (hIx:∀c,kP w.heap.size (Ix c)) (sIx:∀c,mG (Ix c)) (h0:I F0 [] w)
 (hround:∀(l:Nat)(F:Nat->Prop)(pre:List α)(x:α)(rest:List α)(W:World),xs=pre++x::rest->I F pre W->w.heap.size<=W.heap.size->(∀k,F k->F0 k\/w.heap.size<=k)->¬F l->w.heap.size<=l->l<W.heap.size->But F0 w W->
   assign.wpIn (Fence.wide.inRound l) 0 P (Exit.then (λa₁ W₁=>Below W.heap.size W W₁/\∀W₂,But (λk=>k=l) W₁ W₂->body.wpIn (Fence.wide.inRound l) 0 P (yH F I Ix (pre++[x]) W₂) a₁ W₂) (λ_ _ _=>False))
    {tmps:=(ps.zip (encs x)).foldl (λt (p,v)=>t.setIfInBounds p v) a.tmps,defers:=[]} W)
 (hdone:∀(D:Nat)(F:Nat->Prop)(W:World),w.heap.size<=D->¬F D->I F xs W->But F0 w W->(∀k,F k->F0 k\/w.heap.size<=k)->W.heap[D]?=some (.deferred (some []))->Qz .normal {a with defers:={target:=.collected D,args:=#[]}::a.defers} W)
 (hstop:∀(D:Nat)(c:Code)(F:Nat->Prop)(pre rest:List α)(W:World),w.heap.size<=D->¬F D->xs=pre++rest->Ix c F pre W->But F0 w W->(∀k,F k->F0 k\/w.heap.size<=k)->W.heap[D]?=some (.deferred (some []))->c.wpIn Fence.wide 0 P Qz {a with defers:={target:=.collected D,args:=#[]}::a.defers} W):
 (Code.rangeFunc g ps assign body).wpIn Fence.wide 0 P Qz a w:=by
 refine wp_rangeG (En:=λW0 W x vals=>W=W0/\vals=encs x) hg eg (λl J Jx W F0 h1 h2 h3 h4 h5 h6=>hseq l J Jx W F0 h1 h2 h3 h4 (λF pre x rest W1 e1 j s f=>h5 F pre x rest W1 W1 _ e1 j (Below.refl _ _) ⟨rfl,rfl⟩ s f) h6) h0X hXw (λ_ _ x _ e=>by rw[e.2];exact hps x) F0 hF I Ix hI sI hIx sIx h0 (λl F pre x rest W0 W vals h1 h2 h3 e h4 h5 h6 h7 h8 h9=>?_) hdone hstop
 obtain⟨rfl,rfl⟩:=e;refine wpIn_mono (hround l F pre x rest _ h1 h2 h4 h5 h6 h7 h8 h9) (λe a₁ W₁ hq=>?_)
 cases e with
 |normal=>
  refine⟨hq.1,λW₂ hb=>wpIn_mono (hq.2 W₂ hb) (λe a w' h=>?_)⟩
  have s1:=hq.1.size;have s2:=hb.size;cases e<;>first|exact h|(obtain⟨F',b,f,i⟩:=h;exact⟨F',b,λk hk=>(f k hk).imp id (λh=>by omega),i⟩)
 |_=>exact hq
def low:List Rn->Int
 | []=>0
 |r::_=>r.1
def enI(x:Int):Array Value:=#[.int .i64 x]
theorem BH(l n:Nat)(F0:Nat->Prop)(J Jx:(Nat->Prop)->List Int->World->Prop)(V:World)(pre:List Int)(r:Rn)(hr:r.1<=r.2)(h1:Nm r.1)(h2:Nm r.2)(aJ:kP n J)(sJ:mG J)
 (hY:∀(F:Nat->Prop)(j:Nat)(W1:World),j<cnt r->J F (pre++iS r.1 j) W1->V.heap.size<=W1.heap.size->(∀k,F k->F0 k\/V.heap.size<=k)->YieldAt Fence.wide 0 Tryz.prog l (enI (r.1+j)) W1 (YesF F J Jx (pre++iS r.1 (j+1)) W1))
 (h0:J F0 pre V):
 CallsIn Fence.wide 0 Tryz.prog 171 #[.agg (rcs r),.func (.yield l) #[] #[]] V λe V'=>∃F':Nat->Prop,But F0 V V'/\(∀k,F' k->F0 k\/V.heap.size<=k)/\((e=.returned (.bool true)/\J F' (pre++iS r.1 (cnt r)) V')\/(e=.returned (.bool false)/\∃j,j<=cnt r/\Jx F' (pre++iS r.1 j) V')):=by
 have Y:=gZ hY;clear hY;have f0:=gZ (sJ _ _ _ h0);obtain⟨x0,y0⟩:=r;simp only at hr h1 h2 Y;have hc0:((cnt (x0,y0):Nat):Int)=y0-x0+1:=by show(((y0-x0+1).toNat:Nat):Int)=_;omega
 obtain⟨c,hc⟩:∃c:Nat,c=cnt (x0,y0):=⟨_,rfl⟩;rw[<-hc] at hc0 Y ⊢;have HC:=gZ hc0;obtain⟨h11,h12⟩:=h1;obtain⟨h21,h22⟩:=h2;clear hc;unfold rcs;refine fU Tryz.func171 rfl trivial ?_ rfl;simp only[Tryz.ntmps171,cU,bf,bg,Nat.reduceAdd,Nat.reduceSub,dr,dt,dB,dv,cF,de];gi_wp2
 have aV:=al V (.cells #[.int .i64 x0,.int .i64 y0] 171);have sV:=size_alloc V (.cells #[.int .i64 x0,.int .i64 y0] 171)
 have yV:(V.alloc (.cells #[.int .i64 x0,.int .i64 y0] 171)).cell? ⟨V.heap.size,1,none⟩=some (.int .i64 y0):=by
  rw[ax _ _ _ _ _ _ (az V _)];rfl
 have J1:=gZ (aJ _ _ _ _ h0 (But.ofBelow aV));have AV:=gZ (show But F0 V (V.alloc (.cells #[.int .i64 x0,.int .i64 y0] 171)) from But.ofBelow aV)
 generalize hV1:V.alloc (.cells #[.int .i64 x0,.int .i64 y0] 171)=V1 at *;clear aV hV1 hc0;gi_loopw [5] (λi wr=>∃j:Nat,∃F:Nat->Prop,j<c/\i=.int .i64 (x0+j)/\J F (pre++iS x0 j) wr/\But F0 V1 wr/\(∀k,F k->F0 k\/V1.heap.size<=k)) (λi _=>c-(intOf i-x0).toNat)
 case atStart=>exact⟨0,F0,by have:=HC.o;omega,by simp,by simpa[iS] using J1.o,But.refl _ _,λk hk=>.inl hk⟩
 case round=>
  obtain⟨j,F,hj,rfl,hJ,hB,hFs⟩:=hrel;have hs2:=hB.size;obtain⟨fn,tmps,assign,body,hy,hR⟩:=Y.o F j wr hj hJ (by omega) (λk hk=>(hFs k hk).imp id (λh=>by omega))
  simp only[enI] at hy;have HBB:=gZ hB;have HFs:=gZ hFs;clear hJ hB hFs;gi_wp2
  refine⟨rfl,hR.mono ?_⟩;rintro e W3 ⟨G,h3,hG,⟨rfl,hJ3⟩|⟨rfl,hJ3⟩⟩
  . have hB3:But F0 V1 W3:=HBB.o.trans h3 (λk hk h=>(HFs.o k h).elim id (λh=>by omega))
    have G3:=gZ (show ∀k,G k->F0 k\/V1.heap.size<=k from λk hk=>(hG k hk).elim (HFs.o k) (λh=>.inr (by omega)))
    have y3:W3.cell? ⟨V.heap.size,1,none⟩=some (.int .i64 y0):=(hB3.cell (p:=⟨V.heap.size,1,none⟩) (by show V.heap.size<V1.heap.size;omega) (λh=>by have:=f0.o _ h;have e:({block:=V.heap.size,off:=1,spot:=none}:Addr).block=V.heap.size:=rfl;omega)).trans yV
    have B3:=gZ hB3;have J3:=gZ hJ3;clear hB3 hJ3 h3 hR hy hG;by_cases hend:x0+(j:Int)=y0
    . have e1:(x0+(j:Int)==y0)=true:=by simp[hend]
      have e2:decide (x0+(j:Int)=y0)=true:=by simp[hend]
      have hj1:=gZ (show j+1=c by have:=HC.o;omega)
      clear hend;gi_wp2
      refine bQ (results_tmp rfl _ _ _) rfl ?_;exact⟨G,AV.o.trans B3.o (λ_ _ h=>h),λk hk=>(G3.o k hk).imp id (λh=>by omega),.inl ⟨rfl,by rw[<-hj1.o];exact J3.o⟩⟩
    . have e1:(x0+(j:Int)==y0)=false:=by simp[hend]
      have e2:decide (x0+(j:Int)=y0)=false:=by simp[hend]
      have hj1:=gZ (show j+1<c by have:=HC.o;omega)
      have hw:IntKind.i64.wrap (x0+(j:Int)+1)=x0+(j:Int)+1:=kM (by omega) (by have:=HC.o;omega)
      gi_wp2
      go_roundw
      case rel=>exact⟨j+1,G,hj1.o,by simp;omega,J3.o,B3.o,G3.o⟩
      case measure=>simp[intOf];omega
  . have B3:=gZ (show But F0 V1 W3 from HBB.o.trans h3 (λk hk h=>(HFs.o k h).elim id (λh=>by omega)))
    have G3:=gZ (show ∀k,G k->F0 k\/V1.heap.size<=k from λk hk=>(hG k hk).elim (HFs.o k) (λh=>.inr (by omega)))
    have J3:=gZ hJ3;clear hJ3 h3 hR hy hG;gi_wp2
    refine bQ (results_tmp rfl _ _ _) rfl ?_;exact⟨G,AV.o.trans B3.o (λ_ _ h=>h),λk hk=>(G3.o k hk).imp id (λh=>by omega),.inr ⟨rfl,j+1,by omega,J3.o⟩⟩
theorem vV{L:List Rn}{k:Nat}(hk:k<L.length)(j:Nat)(hj:j<=cnt (L.getD k Rn.zero)):∃rest,iW L=(iW (L.take k)++iS (L.getD k Rn.zero).1 j)++rest:=by
 have e:=ki L Rn.zero hk;have h1:=rN hk;refine⟨(iS (L.getD k Rn.zero).1 (cnt (L.getD k Rn.zero))).drop j++iW (L.drop (k+1)),?_⟩
 have h2:iW L=iW (L.take (k+1))++iW (L.drop (k+1)):=by
  conv=>lhs;rw[<-cJ (k+1) L]
  unfold iW;rw[bH,List.flatten_append]
 rw[h2,h1,<-rO _ _ _ hj];rw[aM,aM,<-aM (List.take j _),cJ]
theorem xJ(x:Int){c j:Nat}(h:j<c):∃rest,iS x c=iS x j++(x+j)::rest:=by
 refine⟨(iS x c).drop (j+1),?_⟩;have e:=(cJ (j+1) (iS x c)).symm;rw[rO x c (j+1) h,rB] at e;exact e.trans (by rw[aM];rfl)
theorem uv(w:World)(E:Nat)(a:Option Addr)(cap:Nat)(L:List Rn)(hc:w.cell? ⟨E,0,none⟩=some (.slice a L.length cap))(hV:Vs w a L)(hlen:L.length<=11000000000000)(hL:∀r∈L,r.1<=r.2/\Nm r.1/\Nm r.2):
 wS Tryz.prog 170 #[.pointer (some ⟨E,0,none⟩)] enI (iW L) w (λk=>k=E\/∃x,a=some x/\x.block=k):=by
 intro l J Jx W F0 hW hS aJ sJ hY h0;have hcW:W.cell? ⟨E,0,none⟩=some (.slice a L.length cap):=(hW.cell (p:=⟨E,0,none⟩) (block_lt_of_cell hc) (λh=>h (.inl rfl))).trans hc
 have hVW:Vs W a L:=hV.but hW (λx hx h=>h (.inr ⟨x,hx,rfl⟩))
 clear hc hV;have Y:=gZ hY;have HL:=gZ hL;have AJ:=gZ aJ;have SJ:=gZ sJ;clear hY hL;obtain⟨n,hn⟩:∃n:Nat,n=L.length:=⟨_,rfl⟩;have hn':=gZ hn;rw[<-hn] at hcW hlen;clear hn;refine fU Tryz.func170 rfl trivial ?_ rfl;simp only[Tryz.ntmps170,cU,bf,bg,Nat.reduceAdd,Nat.reduceSub,dr,dt,dB,dv,cF,de];gi_wp2
 gi_loopw [7] (λi wr=>∃k:Nat,∃F:Nat->Prop,k<=n/\i=.int .i64 k/\J F (iW (L.take k)) wr/\But F0 W wr/\(∀q,F q->F0 q\/W.heap.size<=q))
  (λi _=>n-(intOf i).toNat)
 case atStart=>exact⟨0,F0,aF _,rfl,h0,But.refl _ _,λq hq=>.inl hq⟩
 case round=>
  obtain⟨k,F,hk,rfl,hJ,hB,hFs⟩:=hrel;by_cases hlt:k<n
  . have hkL:k<L.length:=by rw[<-hn'.o];exact hlt
    have hVr:Vs wr a L:=hVW.but hB (λx hx h=>hS _ h (.inr ⟨x,hx,rfl⟩))
    obtain⟨bb,o,rfl,d1,d2⟩:=hVr.at hkL;have NS:=gZ (rN hkL);have SP:=gZ λ(j:Nat)(hj:j<=cnt (L.getD k Rn.zero))=>vV hkL j hj
    obtain⟨r1,r2,r3⟩:=HL.o _ (jY hkL);generalize hr:L.getD k Rn.zero=r at *;have hsz:=hB.size;have aw:=al wr (.cells #[.int .i64 r.1,.int .i64 r.2] 171);have sw:=size_alloc wr (.cells #[.int .i64 r.1,.int .i64 r.2] 171);have HFs:=gZ hFs
    have C:=gZ (BH l W.heap.size F J Jx (wr.alloc (.cells #[.int .i64 r.1,.int .i64 r.2] 171)) (iW (L.take k)) r r1 r2 r3 AJ.o SJ.o (λG j W1 hj hJ1 hs1 hG=>by
     obtain⟨rest,hrest⟩:=xJ r.1 hj;obtain⟨rest2,hr2⟩:=SP.o (cnt r) (ai _)
     have e:iW L=(iW (L.take k)++iS r.1 j)++(r.1+j)::(rest++rest2):=by
      rw[hr2,hrest];simp
     have y:=Y.o G (iW (L.take k)++iS r.1 j) (r.1+j) (rest++rest2) W1 e hJ1 (by omega) (λq hq=>(hG q hq).elim (HFs.o q) (λh=>.inr (by omega)))
     rw[aM,<-rB] at y;exact y) (AJ.o _ _ _ _ hJ (But.ofBelow aw)))
    have BA:=gZ (show But F0 W (wr.alloc (.cells #[.int .i64 r.1,.int .i64 r.2] 171)) from hB.andBelow aw)
    unfold rcs at C;clear hJ hVr aw hr r2 r3 hFs;gi_wp2_with fail
    refine⟨trivial,rfl,?_⟩;refine C.o.mono ?_;rintro e W3 ⟨G,h3,hG,⟨rfl,hJ3⟩|⟨rfl,j,hj,hJ3⟩⟩
    . have J3:=gZ hJ3;have B3:=gZ (BA.o.trans h3 (λq hq h=>(HFs.o q h).elim id (λh=>by omega)))
      have G3:=gZ (show ∀q,G q->F0 q\/W.heap.size<=q from λq hq=>(hG q hq).elim (HFs.o q) (λh=>.inr (by omega)))
      clear hJ3 h3 hG;gi_wp2
      go_roundw
      case rel=>exact⟨k+1,G,by omega,by simp,by rw[NS.o];exact J3.o,B3.o,G3.o⟩
      case measure=>simp[intOf];omega
    . have J3:=gZ hJ3;have B3:=gZ (BA.o.trans h3 (λq hq h=>(HFs.o q h).elim id (λh=>by omega)))
      have G3:=gZ (show ∀q,G q->F0 q\/W.heap.size<=q from λq hq=>(hG q hq).elim (HFs.o q) (λh=>.inr (by omega)))
      have Q3:=gZ (SP.o j hj);clear hJ3 h3 hG;gi_wp2
      refine bQ (d9 rfl _ _ _) rfl ?_;obtain⟨rest,hrest⟩:=Q3.o;exact⟨G,⟨_,rfl⟩,B3.o,G3.o,.inr ⟨_,rest,hrest,J3.o⟩⟩
  . obtain rfl:k=n:=by omega
    have HJ:=gZ hJ;have HFs:=gZ hFs;clear hJ hFs;gi_wp2
    go_end0
    exact⟨F,⟨_,rfl⟩,hB,HFs.o,.inl (by have t:=HJ.o;rw[hn'.o,cM] at t;exact t)⟩
theorem vE(w:World)(b:Nat)(a:Option Addr)(cap:Nat)(L:List Rn)(hS:St w b a cap L):
 Calls Tryz.prog 152 #[.pointer (some ⟨b,0,none⟩)] w λe w'=>∃E g,e=.returned (.func (.func 170) #[] #[.pointer (some ⟨E,0,none⟩)])/\w.heap.size<=E/\w.heap.size<=g/\w'.cell? ⟨E,0,none⟩=some (.slice (some ⟨g,0,none⟩) L.length L.length)/\Vs w' (some ⟨g,0,none⟩) L/\g<w'.heap.size/\Below w.heap.size w w':=by
 have C:=gZ (pM w b a cap L hS);clear hS;obtain⟨n,hn⟩:∃n:Nat,n=L.length:=⟨_,rfl⟩;rw[<-hn] at C ⊢;clear hn;go_enter Tryz.func152,Tryz.ntmps152;go_wp2_with fail
 refine C.o.mono ?_;rintro e w1 ⟨rfl,hV,hb⟩;have V:=gZ hV.vs;have GL:=gZ (hV.lt rfl);have B:=gZ hb;clear hV hb;go_wp2;go_ret;have aw:=al w1 (.cells #[.slice (some ⟨w.heap.size,0,none⟩) n n] 169);exact⟨_,_,rfl,B.o.size,ai _,iC w1 _ _,V.o.keep aw,aZ GL.o aw.size,bt B.o aw⟩
theorem wQ(w:World)(b:Nat)(a:Option Addr)(cap:Nat)(L:List Rn)(hS:St w b a cap L):
 Calls Tryz.prog 160 #[.pointer (some ⟨b,0,none⟩)] w λe w'=>e=.returned (.tuple #[.int .i64 (low L),.bool (!L.isEmpty)])/\w'=w:=by
 have hc:=hS.cell;cases L with
 |nil=>
  rw[bg] at hc;clear hS;go_enter Tryz.func160,Tryz.ntmps160;go_wp2;go_ret2
  exact⟨rfl,rfl⟩
 |cons r L=>
  obtain⟨b1,o1,rfl,d1,d2⟩:=hS.row.vs.at (i:=0) (by simp)
  rw[dR,bY] at d1;change w.cell? ⟨b1,o1,none⟩=some (.int .i64 r.1) at d1;rw[bf] at hc;obtain⟨n,hn⟩:∃n:Nat,n=L.length+1:=⟨_,rfl⟩;have n0:0<n:=by omega
  have nl:=hS.len;rw[bf,<-hn] at nl;rw[<-hn] at hc;clear hS hn d2;show Calls Tryz.prog 160 #[.pointer (some ⟨b,0,none⟩)] w λe w'=>e=.returned (.tuple #[.int .i64 r.1,.bool true])/\w'=w
  go_enter Tryz.func160,Tryz.ntmps160;go_wp2;go_ret2
  exact⟨rfl,rfl⟩
end Go.Proofs.YtbdkogimlbnlmaaGreat.Q
namespace Go.Proofs.YtbdkogimlbnlmaaGreat.Q
open Go.RowKit
variable {z:Int}{cap i:Nat}{col:Nat->Nat}{S:Nat->Prop}{a':Option Addr}{w w' w1 w2 wx wy:World}
theorem tE:∀{A B:List Int},A.Pairwise (· < ·)->B.Pairwise (· < ·)->(∀x,x∈A↔x∈B)->A=B
 | [],[],_,_,_=>rfl
 | [],b::B,_,_,h=>absurd ((h b).2 (by simp)) (by simp)
 |a::A,[],_,_,h=>absurd ((h a).1 (by simp)) (by simp)
 |a::A,b::B,hA,hB,h=>by
  have h1:=co.1 hA;have h2:=co.1 hB
  have e:a=b:=by
   rcases bP.1 ((h a).1 (by simp)) with e|m
   . exact e
   . rcases bP.1 ((h b).2 (by simp)) with e'|m'
     . exact e'.symm
     . have:=h2.1 a m;have:=h1.1 b m';omega
  subst e;rw[tE h1.2 h2.2 λx=>?_]
  constructor
  . intro hx;rcases bP.1 ((h x).1 (dS _ hx)) with e|m
    . subst e;have:=h1.1 x hx;omega
    . exact m
  . intro hx;rcases bP.1 ((h x).2 (dS _ hx)) with e|m
    . subst e;have:=h2.1 x hx;omega
    . exact m
theorem ud(a x:Int)(c:Nat):x∈iS a c↔a<=x/\x<a+c:=by
 unfold iS;constructor
 . intro h;obtain⟨i,hi,rfl⟩:=bC.1 h;have:=cH.1 hi;omega
 . intro h;exact bC.2 ⟨(x-a).toNat,cH.2 (by omega),by omega⟩
theorem xP(a:Int)(c:Nat):(iS a c).Pairwise (· < ·):=by
 unfold iS;rw[gq];exact List.pairwise_lt_range.imp λh=>by omega
theorem lD(r:Rn)(L:List Rn):iW (r::L)=iS r.1 (cnt r)++iW L:=by simp[iW]
theorem pv:∀(L:List Rn)(x:Int),x∈iW L↔has L x=true
 | [],x=>by simp[iW,has]
 |r::L,x=>by
  rw[lD,bj,pv L x,jz,ud];unfold cnt;simp only[Bool.or_eq_true,bO,bL];constructor
  all_goals
   rintro(h|h)
   . exact .inl (by omega)
   . exact .inr h
theorem rM:∀{L:List Rn},Ris L->(iW L).Pairwise (· < ·)
 | [],_=>by simp[iW]
 |r::L,h=>by
  rw[lD,db];refine⟨xP _ _,rM h.tail,λa ha b hb=>?_⟩
  have h1:=(ud _ _ _).1 ha;obtain⟨q,hq,h2,h3⟩:=(has_iff L b).1 ((pv L b).1 hb);have h4:=(co.1 h.2).1 q hq;unfold cnt at h1;have:=h.1 r (by simp)
  omega
theorem tH:∀(L:List Rn),(iW L).length=sz L
 | []=>rfl
 |r::L=>by rw[lD,ae,tH L,uC];rfl
theorem zN{L:List Rn}(h:∀r∈L,r.1<=r.2)(h0:L≠[]):iW L=low L::(iW L).tail:=by
 cases L with
 |nil=>exact absurd rfl h0
 |cons r L=>
  have h1:=h r (by simp)
  obtain⟨c,hc⟩:∃c,cnt r=c+1:=⟨cnt r-1,by unfold cnt;omega⟩
  rw[lD,hc];unfold iS;rw[List.range_succ_eq_map];simp[low]
abbrev Pg:=Int×Bool
def Pg.zero:Pg:=(0,false)
def stt(x:Pg):Nat:=if x.1=0 then (if x.2 then 2 else 1) else (if x.2 then 4 else 3)
theorem mo(x:Pg):1<=stt x/\stt x<=4:=by unfold stt;split<;>split<;>omega
def ix(P:List Pg)(s:Nat):List Int:=((List.range P.length).filter λi=>decide (stt (P.getD i Pg.zero)=s)).map λi=>((i:Nat):Int)+1
def inS(P:List Pg)(s:Nat)(z:Int):Bool:=decide (1<=z)&&decide (z<=P.length)&&decide (stt (P.getD (z-1).toNat Pg.zero)=s)
theorem jt{P:List Pg}{s:Nat}:inS P s z=true↔1<=z/\z<=P.length/\stt (P.getD (z-1).toNat Pg.zero)=s:=by
 unfold inS;simp only[bO,bL,and_assoc]
theorem iX(P:List Pg)(s:Nat)(z:Int):z∈ix P s↔inS P s z=true:=by
 rw[jt];unfold ix;constructor
 . intro h;obtain⟨i,hi,rfl⟩:=bC.1 h;obtain⟨h1,h2⟩:=fb.1 hi;have h3:=cH.1 h1;refine⟨by omega,by omega,?_⟩
   rw[show((i:Int)+1-1).toNat=i by omega]
   simpa using h2
 . rintro⟨h1,h2,h3⟩;exact bC.2 ⟨(z-1).toNat,fb.2 ⟨cH.2 (by omega),by simpa using h3⟩,by omega⟩
theorem nm(P:List Pg)(s:Nat):(ix P s).Pairwise (· < ·):=by
 unfold ix;rw[gq];exact(List.pairwise_lt_range.filter _).imp λh=>by omega
theorem kR{L:List Rn}{P:List Pg}{s:Nat}(hL:Can L)(h:∀z,has L z=inS P s z):iW L=ix P s:=
 tE (rM hL.ris) (nm P s) λx=>by rw[pv,iX,h]
theorem oU(P:List Pg)(s:Nat):(ix P s).length<=P.length:=by
 unfold ix;rw[a7];exact aU (fd _ _) (by simp)
theorem vy{P:List Pg}{n:Nat}{x:Pg}{s:Nat}(h1:1<=n)(h2:n<=P.length)(z:Int):inS (P.set (n-1) x) s z=if z=n then decide (stt x=s) else inS P s z:=by
 by_cases hz:z=n
 . subst hz;rw[if_pos rfl];unfold inS;rw[aO,show((n:Int)-1).toNat=n-1 by omega]
   have e:(P.set (n-1) x).getD (n-1) Pg.zero=x:=by
    rw[aq,dF (by omega)];rfl
   rw[e,ay (show(1:Int)<=n by omega),ay (show(n:Int)<=P.length by omega)]
   simp
 . rw[if_neg hz];unfold inS;rw[aO];by_cases h:1<=z
   . have e:(P.set (n-1) x).getD (z-1).toNat Pg.zero=P.getD (z-1).toNat Pg.zero:=by
      rw[aq,bT (by omega),<-aq]
     rw[e]
   . rw[au h];simp
structure Po where
 rf:Int
 pg:List Pg
 ac:List (Nat×Pg)
 fl:Nat
def Po.at(P:Po)(n:Nat):Pg:=P.pg.getD (n-1) Pg.zero
def Po.put(P:Po)(n:Nat)(x:Pg):Po:={P with pg:=P.pg.set (n-1) x}
def Po.act(P:Po)(n:Nat)(c:Int):Po:={P with pg:=P.pg.set (n-1) (c,(P.at n).2),ac:=P.ac++[(n,P.at n)]}
def Po.has(P:Po)(z:Int):Bool:=decide (1<=z)&&decide (z<=P.pg.length)
def Po.count(P:Po)(z:Int):Int:=if P.has z then (P.pg.getD (z-1).toNat Pg.zero).1 else 0
def Po.state(P:Po)(z:Int):Nat:=if P.has z then stt (P.pg.getD (z-1).toNat Pg.zero) else 0
def Po.mark(P:Po):Nat:=P.fl+P.ac.length
def Po.back:Nat->Po->Po
 |0,P=>P
 |j+1,P=>match P.ac.getLast? with
  |none=>P
  |some a=>Po.back j {P with pg:=P.pg.set (a.1-1) a.2,ac:=P.ac.dropLast}
def Po.settle(P:Po):Po:={P with pg:=P.pg.map (λx=>(x.1,decide (0<x.1))),ac:=[],fl:=P.mark}
structure Po.Ok(P:Po):Prop where
 l1:1<=P.pg.length
 l2:P.pg.length<=65536
 r1:2<=P.rf
 r2:P.rf<65536
 cs:∀x∈P.pg,0<=x.1/\x.1<=P.rf
 acs:∀a∈P.ac,(1<=a.1/\a.1<=P.pg.length)/\0<=a.2.1/\a.2.1<=P.rf
theorem jK{L:List Pg}(h:i<L.length):L.getD i Pg.zero∈L:=by simp[h]
theorem Po.Ok.put{P:Po}(h:P.Ok)(n:Nat)(x:Pg)(hx:0<=x.1/\x.1<=P.rf):(P.put n x).Ok:=
 ⟨by show 1<=(P.pg.set _ _).length;rw[aO];exact h.l1,by show(P.pg.set _ _).length<=_;rw[aO];exact h.l2,h.r1,h.r2,
  λy hy=>(fo hy).elim (h.cs y) (λe=>by rw[e];exact hx),
  λa ha=>⟨⟨(h.acs a ha).1.1,by show a.1<=(P.pg.set _ _).length;rw[aO];exact(h.acs a ha).1.2⟩,(h.acs a ha).2⟩⟩
theorem Po.Ok.at{P:Po}(h:P.Ok){n:Nat}(h1:1<=n)(h2:n<=P.pg.length):0<=(P.at n).1/\(P.at n).1<=P.rf:=h.cs _ (jK (by omega))
theorem Po.Ok.act{P:Po}(h:P.Ok){n:Nat}{c:Int}(h1:1<=n)(h2:n<=P.pg.length)(hc:0<=c/\c<=P.rf):(P.act n c).Ok:=by
 have k:=h.put n (c,(P.at n).2) hc;refine⟨k.l1,k.l2,k.r1,k.r2,k.cs,λa ha=>?_⟩
 rcases bj.1 ha with ha|ha
 . exact k.acs a ha
 . obtain rfl:=aQ.1 ha;exact⟨⟨h1,by show n<=(P.pg.set _ _).length;rw[aO];exact h2⟩,h.at h1 h2⟩
theorem Po.Ok.settle{P:Po}(h:P.Ok):P.settle.Ok:=
 ⟨by show 1<=(P.pg.map _).length;rw[a7];exact h.l1,by show(P.pg.map _).length<=_;rw[a7];exact h.l2,h.r1,h.r2,
  λy hy=>by obtain⟨x,hx,rfl⟩:=bC.1 hy;exact h.cs x hx,λa ha=>by cases ha⟩
theorem Po.Ok.drop{P:Po}(h:P.Ok){A:List (Nat×Pg)}{n:Nat}{x:Pg}(e:P.ac=A++[(n,x)]):(⟨P.rf,P.pg.set (n-1) x,A,P.fl⟩:Po).Ok:=by
 have hx:=h.acs (n,x) (by rw[e];simp)
 have k:=h.put n x hx.2;exact⟨k.l1,k.l2,k.r1,k.r2,k.cs,λa ha=>k.acs a (by show a∈P.ac;rw[e];simp[ha])⟩
theorem Po.back_succ{P:Po}{A:List (Nat×Pg)}{n:Nat}{x:Pg}(e:P.ac=A++[(n,x)])(j:Nat):Po.back (j+1) P=Po.back j ⟨P.rf,P.pg.set (n-1) x,A,P.fl⟩:=by
 show(match P.ac.getLast? with|none=>P|some a=>Po.back j {P with pg:=P.pg.set (a.1-1) a.2,ac:=P.ac.dropLast})=_
 rw[e];simp
theorem EV{P:Po}{n:Nat}(h1:1<=n)(h2:n<=P.pg.length)(y:Pg):(P.pg.set (n-1) y).set (n-1) (P.at n)=P.pg:=by
 rw[List.set_set];refine dN λi=>?_
 by_cases hi:n-1=i
 . subst hi;rw[dF (by omega)]
   unfold Po.at;rw[aq,aS (by omega)]
   rfl
 . rw[bT hi]
theorem Po.back_act{P:Po}{n:Nat}(h1:1<=n)(h2:n<=P.pg.length)(c:Int)(j:Nat):Po.back (j+1) (P.act n c)=Po.back j P:=by
 rw[Po.back_succ (A:=P.ac) (n:=n) (x:=P.at n) rfl];show Po.back j ⟨P.rf,(P.pg.set (n-1) (c,(P.at n).2)).set (n-1) (P.at n),P.ac,P.fl⟩=_;rw[EV h1 h2]
theorem drN(w:World)(n:Nat):Below w.heap.size w (w.drewN n):=⟨rfl,rfl,rfl,ai _,λ_ _=>rfl⟩
theorem ma{T:Nat->Prop}{e s n:Nat}{a:Option Addr}{m c:Nat}{C:List Value}(h:w.ownsRow 0 e s (.slice a m c) n C)(hb:But T w w')(hn:∀x,a=some x->¬T x.block):w'.ownsRow 0 e s (.slice a m c) n C:=by
 obtain⟨h1,h2⟩:=h;refine⟨h1,?_⟩;rcases h2 with⟨hv,h0⟩|⟨g,cap',cur,hv,h3,hg,hr⟩
 . exact .inl ⟨hv,h0⟩
 . simp only[bB] at hv;exact .inr ⟨g,cap',cur,by simp only[bB];exact hv,h3,(hb.block g (af.1 hg).1 (hn _ hv.1)).trans hg,hr⟩
def vi(l:List Int):List Value:=l.map λx=>Value.int .i64 x
theorem nu(a b:List Int):vi (a++b)=vi a++vi b:=by unfold vi;rw[bH]
theorem xZ(a:List Int):(vi a).length=a.length:=by unfold vi;rw[a7]
theorem ot(l:List Int)(i:Nat)(hi:i<l.length):(vi l)[i]?=some (.int .i64 (l.getD i 0)):=by simp[vi,hi]
def Ig(w:World)(a:Option Addr)(cap:Nat)(l:List Int):Prop:=w.ownsRow 0 3 1 (.slice a l.length cap) l.length (vi l)
theorem mq:(Tryz.prog.info? 3).map (λi=>(i.zero,i.size,i.bytes))=some (some (.int .i64 0),1,8):=by kernel_rfl
theorem Ig.keep{a:Option Addr}{l:List Int}(h:Ig w a cap l)(hb:Below w.heap.size w w'):Ig w' a cap l:=ma (T:=λ_=>False) h (But.ofBelow hb) (λ_ _ h=>h)
def Ir(w:World)(a:Option Addr)(l:List Int):Prop:=l=[]\/∃b off,a=some ⟨b,off,none⟩/\∀i,i<l.length->w.cell? ⟨b,off+i,none⟩=some (.int .i64 (l.getD i 0))
theorem Ir.keep{a:Option Addr}{l:List Int}(h:Ir w a l)(hb:Below w.heap.size w w'):Ir w' a l:=by
 rcases h with h|⟨b,off,rfl,hc⟩
 . exact .inl h
 . exact .inr ⟨b,off,rfl,λi hi=>(hb.cell (p:=⟨b,off+i,none⟩) (block_lt_of_cell (hc i hi))).trans (hc i hi)⟩
theorem Ig.but{a:Option Addr}{l:List Int}(h:Ig w a cap l)(hb:But S w w')(hn:∀x,a=some x->¬S x.block):Ig w' a cap l:=ma h hb hn
theorem Ir.at{a:Option Addr}{l:List Int}(h:Ir w a l){j:Nat}(hj:j<l.length):∃b off,a=some ⟨b,off,none⟩/\w.cell? ⟨b,off+j,none⟩=some (.int .i64 (l.getD j 0)):=by
 rcases h with rfl|⟨b,off,rfl,hc⟩
 . simp at hj
 . exact⟨b,off,rfl,hc j hj⟩
theorem Ig.ir{a:Option Addr}{l:List Int}(h:Ig w a cap l):Ir w a l:=by
 obtain⟨_,h2⟩:=h;rcases h2 with⟨_,h0⟩|⟨g,cap',cur,hv,h3,hg,hn,hm,hs,ht⟩
 . exact .inl (bR.1 h0)
 . simp only[bB] at hv;obtain⟨e1,_,rfl⟩:=hv;refine .inr ⟨g,0,e1,λi hi=>?_⟩
   rw[bG,ax _ _ _ _ _ _ hg,<-ot l i hi,<-ht,bX,if_pos (by omega)]
   simp
theorem rm(w:World)(ty:TypeId)(a:Option Addr)(n cap:Nat)(l:List Int)(hn:n=l.length)(hR:Ig w a cap l)(ad:Addr)(c:Nat)(x:Int)(hc:w.cell? ad=some (.int .i64 x))(hlen:l.length+1<=17592186044416):
 ∃g cap' w',(Builtin.append_ #[35,35] ty #[.slice a n cap,.slice (some ad) 1 c]).run Tryz.prog w=.ok (.slice (some ⟨g,0,none⟩) (n+1) cap') w'/\
  Ig w' (some ⟨g,0,none⟩) cap' (l++[x])/\New w a (some ⟨g,0,none⟩)/\w.grownBy w' (a.map Addr.block)/\g<w'.heap.size:=by
 subst hn;obtain⟨i0,hi,hz0,hz1,hz2⟩:=cZ mq
 obtain⟨g,cap',w',hr,h1,h2,h3,h4⟩:=dz (P:=Tryz.prog) w 35 ty 0 3 i0 (.int .i64 0) 1 8 Tryz.underlying35 hi hz0 hz1 hz2 rfl (by decide) (.slice a l.length cap) l.length (vi l) hR ad 1 c [.int .i64 x] rfl
  (by intro j u hj
      match j,hj with
      |0,hj=>simp at hj;subst hj;simpa[Addr.add] using hc) (by intro u hu;simp at hu;subst hu;rfl) (by decide) (by unfold maxLen;omega) (by omega) (aF _) w.heap.size rfl
 rw[jG] at h2 h3;refine⟨g,cap',w',hr,?_,?_,h2,h4⟩
 . unfold Ig;rw[nu,ae];exact h1
 . intro y hy;simp only[aE] at hy;subst hy;rcases h3 with h3|h3
   . obtain⟨z,hz,e⟩:=map_some h3;exact .inl ⟨z,hz,e⟩
   . exact .inr (by show _<=g;omega)
theorem ub{w:World}{o:Oper}{a:Act}{K:Act->World->Prop}{Q:Exit->Act->World->Prop}(s x:Operand)
 (ho:o.op=.call {callee:=.builtin .append,args:=#[s,x],argTypes:=#[35,35]}) (ao:Option Addr) (n cap:Nat) (l:List Int) (hs:a.eval s=.slice ao n cap) (hn:n=l.length) (hR:Ig w ao cap l)
 (ad:Addr) (c:Nat) (xx:Int) (hx:a.eval x=.slice (some ad) 1 c) (hc:w.cell? ad=some (.int .i64 xx)) (hlen:l.length+1<=17592186044416)
 (h:∀g cap' w',Ig w' (some ⟨g,0,none⟩) cap' (l++[xx])->New w ao (some ⟨g,0,none⟩)->w.grownBy w' (ao.map Addr.block)->g<w'.heap.size->K (a.put o.dst (.slice (some ⟨g,0,none⟩) (n+1) cap')) w'):o.wp Tryz.prog a w K Q:=by
 obtain⟨g,cap',w',hr,h1,h2,h3,h4⟩:=rm w o.type ao n cap l hn hR ad c xx hc hlen;unfold Oper.wp execOp;simp only[ho,resolve,invoke,builtin,dl,dm,bN,cu,bz,cQ,hs,hx,hr];exact h g cap' w' h1 h2 h3 h4
theorem i9{w:World}{ops:Array Oper}{rest:List Oper}{o:Oper}{a:Act}{Q:Exit->Act->World->Prop}(hgd:o.guard=none)(s x:Operand)
 (ho:o.op=.call {callee:=.builtin .append,args:=#[s,x],argTypes:=#[35,35]}) (ao:Option Addr) (n cap:Nat) (l:List Int) (hs:a.eval s=.slice ao n cap) (hn:n=l.length) (hR:Ig w ao cap l)
 (ad:Addr) (c:Nat) (xx:Int) (hx:a.eval x=.slice (some ad) 1 c) (hc:w.cell? ad=some (.int .i64 xx)) (hlen:l.length+1<=17592186044416)
 (h:∀g cap' w',Ig w' (some ⟨g,0,none⟩) cap' (l++[xx])->New w ao (some ⟨g,0,none⟩)->w.grownBy w' (ao.map Addr.block)->g<w'.heap.size->wpList Tryz.prog ops Q rest (a.put o.dst (.slice (some ⟨g,0,none⟩) (n+1) cap')) w'):wpList Tryz.prog ops Q (o::rest) a w:=
 ee hgd λ_ hK=>ub s x ho ao n cap l hs hn hR ad c xx hx hc hlen λg cap' w' h1 h2 h3 h4=>hK _ _ (h g cap' w' h1 h2 h3 h4)
theorem ux(w:World)(aa ab:Option Addr)(n m ca cb:Nat)(l:List Int)(hA:Ir w aa l)(hB:Ir w ab l)(hn:n=l.length)(hm:m=l.length)(hb:l.length<=17592186044415):
 Calls Tryz.prog 25 #[.slice aa n ca,.slice ab m cb] w λe w'=>e=.returned (.bool true)/\Below w.heap.size w w':=by
 subst hn;subst hm;have HA:=gZ hA;have HB:=gZ hB;clear hA hB;go_enter Tryz.func25,Tryz.ntmps25;go_wp2;go_loopw [5] (λi wx=>∃j:Nat,j<=l.length/\i=.int .i64 j/\(Below w.heap.size w wx)) (λi _=>l.length-(intOf i).toNat)
 case atStart=>exact⟨0,aF _,rfl,Below.refl _ _⟩
 case round=>
  obtain⟨j,hj,rfl,hG⟩:=hrel;have HG:=gZ hG;clear hG;by_cases hlt:j<l.length
  . have hi:(j:Int)<(l.length:Int):=by omega
    obtain⟨b1,o1,rfl,cA⟩:=(HA.o.keep HG.o).at hlt;obtain⟨b2,o2,rfl,cB⟩:=(HB.o.keep HG.o).at hlt;generalize l.getD j 0=x at *;have q0:(x==x)=true:=by simp
    go_wp2;go_quiet (fail)
    go_wp2;go_roundw
    case rel=>exact⟨j+1,by omega,by go_num,bt HG.o (drN _ _)⟩
    case measure=>simp[intOf];omega
  . obtain rfl:j=l.length:=by omega
    go_wp2;go_ret;exact⟨rfl,HG.o⟩
structure IOwn(w wx:World)(a:Option Addr)(cap:Nat)(l:List Int):Prop where
 r:Ig wx a cap l
 n:New w none a
 b:Below w.heap.size w wx
theorem IOwn.keep{a:Option Addr}{l:List Int}(h:IOwn w wx a cap l)(hb:Below wx.heap.size wx wy):IOwn w wy a cap l:=⟨h.r.keep hb,h.n,bt h.b hb⟩
theorem IOwn.step{a:Option Addr}{cap':Nat}{l l':List Int}(h:IOwn w wx a cap l)(hb:Below wx.heap.size wx w1)(hR:Ig wy a' cap' l')(hN:New w1 a a')(hg:w1.grownBy wy (a.map Addr.block)):IOwn w wy a' cap' l':=by
 refine⟨hR,h.n.trans hN (aU h.b.size hb.size),?_⟩;have h1:=bt h.b hb
 have hh:But (λ_=>False) w wy:=(But.ofBelow h1).grown hg λk hk hlt=>by
  obtain⟨y,hy,e⟩:=map_some hk;rcases h.n y hy with⟨z,hz,_⟩|h2
  . cases hz
  . omega
 exact hh.below λ_ _ h=>h
theorem Ig.cases{a:Option Addr}{l:List Int}(h:Ig w a cap l):(a=none/\cap=0/\l=[])\/
 ∃g cur,a=some ⟨g,0,none⟩/\w.heap[g]?=some (.cells cur 3 (0,0))/\l.length<=cap/\cap<=maxLen/\cur.size=cap/\cur.toList.take l.length=vi l:=by
 obtain⟨_,h2⟩:=h;rcases h2 with⟨hv,h0⟩|⟨g,cap',cur,hv,_,hg,hn,hm,hs,ht⟩
 . simp only[bB] at hv;exact .inl ⟨hv.1,hv.2.2,bR.1 h0⟩
 . simp only[bB] at hv;obtain⟨h1,_,rfl⟩:=hv;exact .inr ⟨g,cur,h1,hg,hn,hm,by omega,by rw[dM] at ht;exact ht⟩
theorem Ig.mk{g:Nat}{cur:Array Value}{l:List Int}(hg:w.heap[g]?=some (.cells cur 3 (0,0)))(hn:l.length<=cap)(hm:cap<=maxLen)(hs:cur.size=cap)(ht:cur.toList.take l.length=vi l):Ig w (some ⟨g,0,none⟩) cap l:=
 ⟨by rw[xZ,dM],.inr ⟨g,cap,cur,rfl,aF _,hg,hn,hm,by omega,by rw[dM];exact ht⟩⟩
theorem Ig.lt{a:Option Addr}{l:List Int}(h:Ig w a cap l){x:Addr}(hx:a=some x):x.block<w.heap.size:=by
 rcases h.cases with⟨rfl,_⟩|⟨g,cur,rfl,hg,_⟩
 . cases hx
 . cases hx;exact(af.1 hg).1
theorem Ig.cell{g:Nat}{l:List Int}(h:Ig w (some ⟨g,0,none⟩) cap l)(hi:i<l.length):w.cell? ⟨g,i,none⟩=some (.int .i64 (l.getD i 0)):=by
 rcases h.cases with⟨h0,_⟩|⟨g',cur,h0,hg,h1,h2,h3,h4⟩
 . cases h0
 . simp only[aE,Addr.mk.injEq] at h0;obtain⟨rfl,_⟩:=h0;rw[ax _ _ _ _ _ _ hg,<-ot l i hi,<-h4,bX,if_pos hi];simp
theorem Ig.set{g:Nat}{l:List Int}(h:Ig w (some ⟨g,0,none⟩) cap l)(k:Nat)(v:Int):Ig (w.setCell ⟨g,k,none⟩ (.int .i64 v)) (some ⟨g,0,none⟩) cap (l.set k v):=by
 rcases h.cases with⟨h0,_⟩|⟨g',cur,h0,hg,h1,h2,h3,h4⟩
 . cases h0
 . simp only[aE,Addr.mk.injEq] at h0;obtain⟨rfl,_⟩:=h0;refine Ig.mk (aR w g k _ _ _ hg) (by rw[aO];exact h1) h2 (by simpa using h3) ?_
   rw[aO,dQ,fB,h4];simp only[vi,List.map_set]
theorem sS(n:Nat)(hc:n<=17592186044416)(w:World):(Instr.makeSlice 35 (.int .i64 (n:Int)) (.int .i64 (n:Int))).run Tryz.prog w=.ok (.slice (some ⟨w.heap.size,0,none⟩) n n) (w.alloc (.cells (madeCells #[.int .i64 0] n) 3)):=by
 obtain⟨i0,hi,hz0,hz1,hz2⟩:=cZ mq;have hr:=run_make (P:=Tryz.prog) w 35 3 i0 (.int .i64 0) Tryz.underlying35 hi hz0 .i64 .i64 n n (by omega) (by omega) (by rw[hz2];omega) (by omega)
 simp only[cR,hz1,dM] at hr;exact hr
structure Pd where
 g:Nat
 s:Nat->Nat
 a:Nat->Option Addr
 c:Nat->Nat
 L:Nat->List Rn
 aa:Option Addr
 ac:Nat
 B:List (Nat×Nat×Nat)
def jP(P:Po)(D:Pd):Array Value:=#[.int .i64 P.rf,.slice (some ⟨D.g,0,none⟩) P.pg.length P.pg.length,.pointer (some ⟨D.s 0,0,none⟩),.pointer (some ⟨D.s 1,0,none⟩),.pointer (some ⟨D.s 2,0,none⟩),.pointer (some ⟨D.s 3,0,none⟩),.pointer (some ⟨D.s 4,0,none⟩),.slice D.aa P.ac.length D.ac,.int .i64 ((P.fl:Nat):Int)]
def pgc(L:List Pg):List Value:=(L.map λx=>[Value.int .i64 x.1,Value.bool x.2]).flatten
theorem jW(x:Pg)(L:List Pg):pgc (x::L)=.int .i64 x.1:: .bool x.2::pgc L:=by simp[pgc]
theorem mK:∀(L:List Pg),(pgc L).length=L.length*2
 | []=>rfl
 |x::L=>by rw[jW,bf,bf,mK L,bf];omega
theorem mh:∀(L:List Pg)(i:Nat),i<L.length->(pgc L)[i*2]?=some (.int .i64 (L.getD i Pg.zero).1)/\(pgc L)[i*2+1]?=some (.bool (L.getD i Pg.zero).2)
 | [],i,h=>by simp at h
 |x::L,0,h=>by rw[jW];simp
 |x::L,i+1,h=>by
  rw[jW,show(i+1)*2=i*2+1+1 by omega]
  have:=mh L i (by simpa using h)
  simpa using this
theorem qW:∀(L:List Pg)(i:Nat)(x:Pg),pgc (L.set i x)=((pgc L).set (i*2) (.int .i64 x.1)).set (i*2+1) (.bool x.2)
 | [],i,x=>by simp[pgc]
 |y::L,0,x=>by rw[eJ,jW,jW];simp
 |y::L,i+1,x=>by
  rw[fY,jW,jW,qW L i x,show(i+1)*2=i*2+1+1 by omega]
  simp
def clo(t:Nat×Nat×Nat):Value:=.func (.func 167) #[] #[.pointer (some ⟨t.1,0,none⟩),.pointer (some ⟨t.2.1,0,none⟩),.pointer (some ⟨t.2.2,0,none⟩)]
structure Cl(w:World)(b:Nat)(t:Nat×Nat×Nat)(x:Nat×Pg):Prop where
 p:w.cell? ⟨t.1,0,none⟩=some (.pointer (some ⟨b,0,none⟩))
 n:w.cell? ⟨t.2.1,0,none⟩=some (.int .i64 ((x.1:Nat):Int))
 c:w.cell? ⟨t.2.2,0,none⟩=some (.int .i64 x.2.1)
 l:w.cell? ⟨t.2.2,1,none⟩=some (.bool x.2.2)
theorem Cl.but{b:Nat}{t:Nat×Nat×Nat}{x:Nat×Pg}(h:Cl w b t x)(hb:But S w w')(h1:¬S t.1)(h2:¬S t.2.1)(h3:¬S t.2.2):Cl w' b t x:=
 ⟨(hb.cell (p:=⟨t.1,0,none⟩) (block_lt_of_cell h.p) h1).trans h.p,(hb.cell (p:=⟨t.2.1,0,none⟩) (block_lt_of_cell h.n) h2).trans h.n,(hb.cell (p:=⟨t.2.2,0,none⟩) (block_lt_of_cell h.c) h3).trans h.c,(hb.cell (p:=⟨t.2.2,1,none⟩) (block_lt_of_cell h.l) h3).trans h.l⟩
structure Pq(w:World)(b:Nat)(P:Po)(D:Pd)(col:Nat->Nat):Prop where
 box:w.heap[b]?=some (.cells (jP P D) 131 (0,0))
 pgs:w.heap[D.g]?=some (.cells (pgc P.pg).toArray 133 (0,0))
 set:∀s,s<5->St w (D.s s) (D.a s) (D.c s) (D.L s)
 acr:Gw 191 1 w D.aa D.ac P.ac.length (D.B.map clo)
 acl:D.B.length=P.ac.length
 acb:∀q∈D.B.zip P.ac,Cl w b q.1 q.2
 cb:col b=1
 cg:col D.g=2
 cs:∀s,s<5->col (D.s s)=3+s
 ca:∀s,s<5->∀x,D.a s=some x->col x.block=3+s
 cc:∀x,D.aa=some x->col x.block=8
 cB:∀t∈D.B,col t.1=9/\col t.2.1=9/\col t.2.2=9
 lt:∀k,col k≠0->k<w.heap.size
theorem jX{α β:Type}:∀{A:List α}{B:List β}{q:α×β},q∈A.zip B->q.1∈A/\q.2∈B:=λ{A B q} h=>⟨(List.of_mem_zip h).1,(List.of_mem_zip h).2⟩
theorem Pq.but{b:Nat}{P:Po}{D:Pd}(h:Pq w b P D col)(hb:But S w w')(hn:∀k,col k≠0->¬S k):Pq w' b P D col:=by
 have nz:∀{k c:Nat},col k=c+1->¬S k:=λe=>hn _ (by omega)
 refine⟨hb.same h.box (nz (c:=0) h.cb),hb.same h.pgs (nz (c:=1) h.cg),λs hs=>(h.set s hs).but hb (hn _ (by rw[h.cs s hs];omega)) (λx hx=>hn _ (by rw[h.ca s hs x hx];omega)),h.acr.but hb (λx hx=>nz (c:=7) (h.cc x hx)),h.acl,λq hq=>?_,h.cb,h.cg,h.cs,h.ca,h.cc,h.cB,λk hk=>aZ (h.lt k hk) hb.size⟩
 obtain⟨c1,c2,c3⟩:=h.cB _ (jX hq).1;exact(h.acb q hq).but hb (nz (c:=8) c1) (nz (c:=8) c2) (nz (c:=8) c3)
theorem Pq.keep{b:Nat}{P:Po}{D:Pd}(h:Pq w b P D col)(hb:Below w.heap.size w w'):Pq w' b P D col:=h.but (S:=λ_=>False) (But.ofBelow hb) (λ_ _ h=>h)
theorem Pq.lb{b:Nat}{P:Po}{D:Pd}(h:Pq w b P D col):b<w.heap.size:=(af.1 h.box).1
theorem Pq.cell{b:Nat}{P:Po}{D:Pd}(h:Pq w b P D col){v:Value}(hi:(jP P D)[i]?=some v):w.cell? ⟨b,i,none⟩=some v:=by
 rw[ax _ _ _ _ _ _ h.box];exact hi
theorem Pq.free{b:Nat}{P:Po}{D:Pd}(h:Pq w b P D col)(i:Nat):w.frozen? ⟨b,i,none⟩=false:=by simp[World.frozen?,h.box]
theorem Pq.c0{b:Nat}{P:Po}{D:Pd}(h:Pq w b P D col):w.cell? ⟨b,0,none⟩=some (.int .i64 P.rf):=h.cell rfl
theorem Pq.c1{b:Nat}{P:Po}{D:Pd}(h:Pq w b P D col):w.cell? ⟨b,1,none⟩=some (.slice (some ⟨D.g,0,none⟩) P.pg.length P.pg.length):=h.cell rfl
theorem Pq.c7{b:Nat}{P:Po}{D:Pd}(h:Pq w b P D col):w.cell? ⟨b,7,none⟩=some (.slice D.aa P.ac.length D.ac):=h.cell rfl
theorem Pq.c8{b:Nat}{P:Po}{D:Pd}(h:Pq w b P D col):w.cell? ⟨b,8,none⟩=some (.int .i64 ((P.fl:Nat):Int)):=h.cell rfl
theorem lt5{s:Nat}(h:s<5):s=0\/s=1\/s=2\/s=3\/s=4:=by omega
theorem Pq.cin{b:Nat}{P:Po}{D:Pd}(h:Pq w b P D col){s:Nat}(hs:s<5):w.cell? ⟨b,2+s,none⟩=some (.pointer (some ⟨D.s s,0,none⟩)):=by
 refine h.cell ?_;rcases lt5 hs with rfl|rfl|rfl|rfl|rfl<;>rfl
theorem Pq.pgAt{b:Nat}{P:Po}{D:Pd}(h:Pq w b P D col)(hi:i<P.pg.length):w.cell? ⟨D.g,i*2,none⟩=some (.int .i64 (P.pg.getD i Pg.zero).1)/\w.cell? ⟨D.g,i*2+1,none⟩=some (.bool (P.pg.getD i Pg.zero).2):=by
 obtain⟨e1,e2⟩:=mh P.pg i hi;rw[ax _ _ _ _ _ _ h.pgs,ax _ _ _ _ _ _ h.pgs];exact⟨by simpa using e1,by simpa using e2⟩
theorem Pq.pgf{b:Nat}{P:Po}{D:Pd}(h:Pq w b P D col)(i:Nat):w.frozen? ⟨D.g,i,none⟩=false:=by simp[World.frozen?,h.pgs]
theorem Pq.page{b:Nat}{P:Po}{D:Pd}(h:Pq w b P D col)(n:Nat)(x:Pg)(hg:w'.heap[D.g]?=some (.cells (pgc (P.pg.set (n-1) x)).toArray 133 (0,0)))(hb:But (λk=>k=D.g) w w'):Pq w' b (P.put n x) D col:=by
 have ne:∀{k:Nat},col k≠2->¬(k=D.g):=λh1 e=>h1 (by rw[e];exact h.cg)
 have lb:=hb.same h.box (ne (by rw[h.cb];decide))
 refine⟨?_,hg,λs hs=>(h.set s hs).but hb (ne (by rw[h.cs s hs];omega)) (λy hy=>ne (by rw[h.ca s hs y hy];omega)),h.acr.but hb (λy hy=>ne (by rw[h.cc y hy];decide)),h.acl,λq hq=>?_,h.cb,h.cg,h.cs,h.ca,h.cc,h.cB,λk hk=>aZ (h.lt k hk) hb.size⟩
 . rw[lb];show some (Obj.cells (jP P D) _ _)=some (Obj.cells (jP (P.put n x) D) _ _);unfold jP Po.put;rw[aO]
 . obtain⟨c1,c2,c3⟩:=h.cB _ (jX hq).1;exact(h.acb q hq).but hb (ne (by rw[c1];decide)) (ne (by rw[c2];decide)) (ne (by rw[c3];decide))
def upd{α:Type}(f:Nat->α)(s:Nat)(v:α)(i:Nat):α:=if i=s then v else f i
theorem iF{α:Type}(f:Nat->α)(s:Nat)(v:α):upd f s v s=v:=if_pos rfl
theorem iM{α:Type}(f:Nat->α){s:Nat}(v:α)(h:i≠s):upd f s v i=f i:=if_neg h
def recol(col:Nat->Nat)(w w':World)(c k:Nat):Nat:=if k<w.heap.size then col k else if k<w'.heap.size then c else 0
theorem jc{c k:Nat}(h:k<w.heap.size):recol col w w' c k=col k:=if_pos h
theorem j9{c k:Nat}(h:w.heap.size<=k)(h2:k<w'.heap.size):recol col w w' c k=c:=by unfold recol;rw[if_neg (by omega),if_pos h2]
theorem mu{c k:Nat}(hs:w.heap.size<=w'.heap.size)(h:recol col w w' c k≠0):k<w'.heap.size:=by
 unfold recol at h;split at h
 . omega
 . split at h
   . assumption
   . exact absurd rfl h
theorem Pq.oneSet{b:Nat}{P:Po}{D:Pd}(h:Pq w b P D col){s:Nat}(hs:s<5){c':Nat}{L':List Rn}(hS:St w' (D.s s) a' c' L')(hN:New w (D.a s) a')(hb:But (λk=>k=D.s s\/InA (D.a s) k) w w'):
 Pq w' b P {D with a:=upd D.a s a',c:=upd D.c s c',L:=upd D.L s L'} (recol col w w' (3+s)):=by
 have ne:∀{k:Nat},col k≠3+s->¬(k=D.s s\/InA (D.a s) k):=λh1 e=>by
  rcases e with rfl|⟨x,hx,rfl⟩
  . exact h1 (h.cs s hs)
  . exact h1 (h.ca s hs x hx)
 have old:∀{k:Nat},col k≠0->recol col w w' (3+s) k=col k:=λhk=>jc (h.lt _ hk)
 refine⟨hb.same h.box (ne (by rw[h.cb];omega)),hb.same h.pgs (ne (by rw[h.cg];omega)),λt ht=>?_,h.acr.but hb (λy hy=>ne (by rw[h.cc y hy];omega)),h.acl,λq hq=>?_,(old (by rw[h.cb];decide)).trans h.cb,(old (by rw[h.cg];decide)).trans h.cg,λt ht=>(old (by rw[h.cs t ht];omega)).trans (h.cs t ht),λt ht x hx=>?_,λx hx=>(old (by rw[h.cc x hx];decide)).trans (h.cc x hx),λt ht=>?_,λk hk=>mu hb.size hk⟩
 . show St w' (D.s t) (upd D.a s a' t) (upd D.c s c' t) (upd D.L s L' t);by_cases e:t=s
   . subst e;rw[iF,iF,iF];exact hS
   . rw[iM _ _ e,iM _ _ e,iM _ _ e];exact(h.set t ht).but hb (ne (by rw[h.cs t ht];omega)) (λx hx=>ne (by rw[h.ca t ht x hx];omega))
 . obtain⟨c1,c2,c3⟩:=h.cB _ (jX hq).1;exact(h.acb q hq).but hb (ne (by rw[c1];omega)) (ne (by rw[c2];omega)) (ne (by rw[c3];omega))
 . have hx:upd D.a s a' t=some x:=hx;by_cases e:t=s
   . subst e;rw[iF] at hx;rcases hN x hx with⟨y,hy,e⟩|h2
     . rw[<-e,old (by rw[h.ca t ht y hy];omega)];exact h.ca t ht y hy
     . exact j9 h2 (hS.row.lt hx)
   . rw[iM _ _ e] at hx;exact(old (by rw[h.ca t ht x hx];omega)).trans (h.ca t ht x hx)
 . obtain⟨c1,c2,c3⟩:=h.cB t ht;exact⟨(old (by rw[c1];decide)).trans c1,(old (by rw[c2];decide)).trans c2,(old (by rw[c3];decide)).trans c3⟩
structure Fr(w:World)(col:Nat->Nat)(w':World)(col':Nat->Nat):Prop where
 b:But (λk=>col k≠0) w w'
 c:∀k,k<w.heap.size->col' k=col k
theorem Fr.refl(w:World)(col:Nat->Nat):Fr w col w col:=⟨But.refl _ _,λ_ _=>rfl⟩
theorem Fr.trans{c c1 c2:Nat->Nat}(h:Fr w c w1 c1)(k:Fr w1 c1 w2 c2):Fr w c w2 c2:=
 ⟨h.b.trans k.b (λx hx hn=>by rw[h.c x hx] at hn;exact hn),λx hx=>(k.c x (aZ hx h.b.size)).trans (h.c x hx)⟩
theorem Fr.keep{c:Nat->Nat}(h:Below w.heap.size w w'):Fr w c w' c:=⟨But.ofBelow h,λ_ _=>rfl⟩
theorem Fr.below{c c':Nat->Nat}(h:Fr w c w' c')(hb:Below w'.heap.size w' w2):Fr w c w2 c':=h.trans (Fr.keep hb)
structure Pm(w:World)(b:Nat)(P:Po)(col:Nat->Nat)(D:Pd):Prop where
 q:Pq w b P D col
 ok:P.Ok
 mem:∀s,s<5->∀z,has (D.L s) z=inS P.pg s z
def Pl(w:World)(b:Nat)(P:Po)(col:Nat->Nat):Prop:=∃D,Pm w b P col D
theorem Pl.keep{b:Nat}{P:Po}(h:Pl w b P col)(hb:Below w.heap.size w w'):Pl w' b P col:=by
 obtain⟨D,h⟩:=h;exact⟨D,h.q.keep hb,h.ok,h.mem⟩
theorem Pl.but{b:Nat}{P:Po}(h:Pl w b P col)(hb:But S w w')(hn:∀k,col k≠0->¬S k):Pl w' b P col:=by
 obtain⟨D,h⟩:=h;exact⟨D,h.q.but hb hn,h.ok,h.mem⟩
theorem Pl.lt{b:Nat}{P:Po}(h:Pl w b P col):∀k,col k≠0->k<w.heap.size:=by
 obtain⟨D,h⟩:=h;exact h.q.lt
theorem Pl.ok{b:Nat}{P:Po}(h:Pl w b P col):P.Ok:=by
 obtain⟨D,h⟩:=h;exact h.ok
theorem Pm.bnd{b:Nat}{P:Po}{D:Pd}(h:Pm w b P col D){s:Nat}(hs:s<5):∀r∈D.L s,1<=r.1/\r.2<=65536:=λr hr=>by
 have hle:=(h.q.set s hs).can.1 r hr;have h1:=(jt.1 ((h.mem s hs r.1).symm.trans ((has_iff _ _).2 ⟨r,hr,em _,hle⟩))).1;have h2:=(jt.1 ((h.mem s hs r.2).symm.trans ((has_iff _ _).2 ⟨r,hr,hle,em _⟩))).2.1;have:=h.ok.l2;omega
theorem vC{L:List Rn}(hc:Can L)(hb:∀r∈L,1<=r.1/\r.2<=65536):L.length<=65536:=by
 have:=vA 65536 L 1 hc hb (by omega)
 omega
theorem Pm.few{b:Nat}{P:Po}{D:Pd}(h:Pm w b P col D){s:Nat}(hs:s<5):(D.L s).length<=65536:=vC (h.q.set s hs).can (h.bnd hs)
theorem qO(w:World)(x:Pg):Calls Tryz.prog 112 #[.agg #[.int .i64 x.1,.bool x.2]] w λe w'=>e=.returned (.int .i64 ((stt x:Nat):Int))/\Below w.heap.size w w':=by
 obtain⟨c,l⟩:=x;by_cases hc:c=0
 . subst hc;cases l
   all_goals
    go_enter Tryz.func112,Tryz.ntmps112;go_wp2;go_ret;exact⟨rfl,al _ _⟩
 . have h1:(c==0)=false:=by simp[hc]
   have h2:decide (c=0)=false:=by simp[hc]
   cases l
   . have e:stt (c,false)=3:=by unfold stt;rw[if_neg hc];rfl
     rw[e];go_enter Tryz.func112,Tryz.ntmps112;go_wp2;go_ret;exact⟨rfl,al _ _⟩
   . have e:stt (c,true)=4:=by unfold stt;rw[if_neg hc];rfl
     rw[e];go_enter Tryz.func112,Tryz.ntmps112;go_wp2;go_ret;exact⟨rfl,al _ _⟩
theorem uU(w:World)(b:Nat)(P:Po)(D:Pd)(col:Nat->Nat)(h:Pq w b P D col)(z:Int):Calls Tryz.prog 90 #[.pointer (some ⟨b,0,none⟩),.int .i64 z] w λe w'=>e=.returned (.bool (P.has z))/\w'=w:=by
 have c1:=h.c1;unfold Po.has;clear h;generalize P.pg.length=n at *;by_cases h1:1<=z
 . have d1:decide (1<=z)=true:=ay h1;rw[d1,fC];go_enter Tryz.func90,Tryz.ntmps90;go_wp2;go_ret;exact⟨rfl,rfl⟩
 . have d1:decide (1<=z)=false:=au h1;rw[d1,eb];go_enter Tryz.func90,Tryz.ntmps90;go_wp2;go_ret;exact⟨rfl,rfl⟩
theorem Po.has_iff{P:Po}:P.has z=true↔1<=z/\z<=P.pg.length:=by unfold Po.has;simp
theorem oB(w:World)(b:Nat)(P:Po)(D:Pd)(col:Nat->Nat)(h:Pq w b P D col)(hl:P.pg.length<=65536)(z:Int):Calls Tryz.prog 32 #[.pointer (some ⟨b,0,none⟩),.int .i64 z] w λe w'=>e=.returned (.int .i64 (P.count z))/\w'=w:=by
 have C:=gZ (uU w b P D col h z);by_cases hz:P.has z=true
 . obtain⟨h1,h2⟩:=Po.has_iff.1 hz;obtain⟨i,rfl⟩:∃i:Nat,z=(i:Int)+1:=⟨(z-1).toNat,by omega⟩
   have hi:i<P.pg.length:=by omega
   obtain⟨d1,d2⟩:=h.pgAt hi;have c1:=h.c1
   have e:P.count ((i:Int)+1)=(P.pg.getD i Pg.zero).1:=by
    unfold Po.count;rw[if_pos hz,show((i:Int)+1-1).toNat=i by omega]
   rw[e];rw[hz] at C;clear h hz e;generalize (P.pg.getD i Pg.zero).1=c at *;generalize P.pg.length=n at *;have s1:IntKind.i64.wrap ((i:Int)+1-1)=(i:Int):=by rw[im (by omega) (by omega)];omega
   go_enter Tryz.func32,Tryz.ntmps32;go_wp2_with fail
   refine C.o.mono ?_;rintro _ _ ⟨rfl,rfl⟩;go_wp2;go_ret;exact⟨rfl,rfl⟩
 . have hz:P.has z=false:=by simpa using hz
   have e:P.count z=0:=by unfold Po.count;rw[hz];rfl
   rw[e];rw[hz] at C;clear h;go_enter Tryz.func32,Tryz.ntmps32;go_wp2_with fail
   refine C.o.mono ?_;rintro _ _ ⟨rfl,rfl⟩;go_wp2;go_ret;exact⟨rfl,rfl⟩
theorem rU(w:World)(b:Nat)(P:Po)(D:Pd)(col:Nat->Nat)(h:Pq w b P D col)(hl:P.pg.length<=65536)(z:Int):Calls Tryz.prog 47 #[.pointer (some ⟨b,0,none⟩),.int .i64 z] w λe w'=>e=.returned (.int .i64 ((P.state z:Nat):Int))/\Below w.heap.size w w':=by
 have C:=gZ (uU w b P D col h z);by_cases hz:P.has z=true
 . obtain⟨h1,h2⟩:=Po.has_iff.1 hz;obtain⟨i,rfl⟩:∃i:Nat,z=(i:Int)+1:=⟨(z-1).toNat,by omega⟩
   have hi:i<P.pg.length:=by omega
   obtain⟨d1,d2⟩:=h.pgAt hi;have c1:=h.c1
   have e:P.state ((i:Int)+1)=stt (P.pg.getD i Pg.zero):=by
    unfold Po.state;rw[if_pos hz,show((i:Int)+1-1).toNat=i by omega]
   rw[e];rw[hz] at C;clear h hz e;have T:=gZ (qO w (P.pg.getD i Pg.zero));generalize P.pg.getD i Pg.zero=x at *;generalize P.pg.length=n at *;have s1:IntKind.i64.wrap ((i:Int)+1-1)=(i:Int):=by rw[im (by omega) (by omega)];omega
   go_enter Tryz.func47,Tryz.ntmps47;go_wp2_with fail
   refine C.o.mono ?_;rintro _ _ ⟨rfl,rfl⟩;go_wp2_with fail
   refine T.o.mono ?_;rintro _ w1 ⟨rfl,hb⟩;have B:=gZ hb;clear hb;go_wp2;go_ret;exact⟨rfl,B.o⟩
 . have hz:P.has z=false:=by simpa using hz
   have e:P.state z=0:=by unfold Po.state;rw[hz];rfl
   rw[e];rw[hz] at C;clear h;go_enter Tryz.func47,Tryz.ntmps47;go_wp2_with fail
   refine C.o.mono ?_;rintro _ _ ⟨rfl,rfl⟩;go_wp2;go_ret;exact⟨rfl,Below.refl _ _⟩
theorem zb(w:World)(b:Nat)(P:Po)(D:Pd)(col:Nat->Nat)(h:Pq w b P D col):Calls Tryz.prog 59 #[.pointer (some ⟨b,0,none⟩)] w λe w'=>e=.returned (.int .i64 ((P.pg.length:Nat):Int))/\w'=w:=by
 have c1:=h.c1;clear h;generalize P.pg.length=n at *;go_enter Tryz.func59,Tryz.ntmps59;go_wp2;go_ret;exact⟨rfl,rfl⟩
theorem x9(w:World)(b:Nat)(P:Po)(D:Pd)(col:Nat->Nat)(h:Pq w b P D col):Calls Tryz.prog 60 #[.pointer (some ⟨b,0,none⟩)] w λe w'=>e=.returned (.int .i64 P.rf)/\w'=w:=by
 have c1:=h.c0;clear h;go_enter Tryz.func60,Tryz.ntmps60;go_wp2;go_ret;exact⟨rfl,rfl⟩
theorem py(w:World)(b:Nat)(P:Po)(D:Pd)(col:Nat->Nat)(h:Pq w b P D col)(hm:P.mark<=9223372036854775807):Calls Tryz.prog 142 #[.pointer (some ⟨b,0,none⟩)] w λe w'=>e=.returned (.int .i64 ((P.mark:Nat):Int))/\Below w.heap.size w w':=by
 have c1:=h.c7;have c2:=h.c8;clear h;unfold Po.mark at *;generalize P.ac.length=n at *;generalize P.fl=f at *;have e:IntKind.i64.wrap ((f:Int)+(n:Int))=((f+n:Nat):Int):=by rw[im (by omega) (by omega)];omega
 go_enter Tryz.func142,Tryz.ntmps142;go_wp2;go_quiet (fail)
 go_wp2;go_ret;exact⟨rfl,drN _ _⟩
theorem o9(w:World)(z:Int):Calls Tryz.prog 113 #[.int .i64 z] w λe w'=>e=.returned (.bool (decide (1<=z)&&decide (z<=4)))/\w'=w:=by
 by_cases h1:1<=z
 . have d1:decide (1<=z)=true:=ay h1;rw[d1,fC];go_enter Tryz.func113,Tryz.ntmps113;go_wp2;go_ret;exact⟨rfl,rfl⟩
 . have d1:decide (1<=z)=false:=au h1;rw[d1,eb];go_enter Tryz.func113,Tryz.ntmps113;go_wp2;go_ret;exact⟨rfl,rfl⟩
def jF(n r:Int):Bool:=decide (1<=n)&&decide (n<=65536)&&decide (2<=r)&&decide (r<65536)
theorem tK(w:World)(n r:Int):Calls Tryz.prog 122 #[.int .i64 n,.int .i64 r] w λe w'=>e=.returned (.bool (jF n r))/\w'=w:=by
 unfold jF;by_cases h1:1<=n
 . have d1:decide (1<=n)=true:=ay h1;by_cases h2:n<=65536
   . have d2:decide (n<=65536)=true:=ay h2;by_cases h3:2<=r
     . have d3:decide (2<=r)=true:=ay h3;rw[d1,d2,d3];simp only[fC,Bool.and_true];go_enter Tryz.func122,Tryz.ntmps122;go_wp2;go_ret;exact⟨rfl,rfl⟩
     . have d3:decide (2<=r)=false:=au h3;rw[d1,d2,d3];simp only[Bool.and_true,fZ,eb];go_enter Tryz.func122,Tryz.ntmps122;go_wp2;go_ret;exact⟨rfl,rfl⟩
   . have d2:decide (n<=65536)=false:=au h2;rw[d1,d2];simp only[fZ,eb];go_enter Tryz.func122,Tryz.ntmps122;go_wp2;go_ret;exact⟨rfl,rfl⟩
 . have d1:decide (1<=n)=false:=au h1;rw[d1];simp only[eb];go_enter Tryz.func122,Tryz.ntmps122;go_wp2;go_ret;exact⟨rfl,rfl⟩
theorem iq(w:World)(c:Int)(l:Bool):(w.alloc (.cells #[.int .i64 c,.bool l] 133)).cell? ⟨w.heap.size,0,none⟩=some (.int .i64 c)/\(w.alloc (.cells #[.int .i64 c,.bool l] 133)).cell? ⟨w.heap.size,1,none⟩=some (.bool l):=by
 rw[ax _ _ _ _ _ _ (az w _),ax _ _ _ _ _ _ (az w _)];exact⟨rfl,rfl⟩
theorem rQ{W W':World}{g:Nat}{c:Int}{l:Bool}(h:W.cell? ⟨g,0,none⟩=some (.int .i64 c)/\W.cell? ⟨g,1,none⟩=some (.bool l))(hb:Below W.heap.size W W'):W'.cell? ⟨g,0,none⟩=some (.int .i64 c)/\W'.cell? ⟨g,1,none⟩=some (.bool l):=
 ⟨(hb.cell (p:=⟨g,0,none⟩) (block_lt_of_cell h.1)).trans h.1,(hb.cell (p:=⟨g,1,none⟩) (block_lt_of_cell h.2)).trans h.2⟩
theorem ui{g:Nat}{L:List Pg}(h:w.heap[g]?=some (.cells (pgc L).toArray 133 (0,0)))(i:Nat)(x:Pg):((w.setCell ⟨g,i*2,none⟩ (.int .i64 x.1)).setCell ⟨g,i*2+1,none⟩ (.bool x.2)).drew.heap[g]?=some (.cells (pgc (L.set i x)).toArray 133 (0,0)):=by
 have h1:=aR w g (i*2) _ _ (.int .i64 x.1) h;have h2:=aR _ g (i*2+1) _ _ (.bool x.2) h1
 have e:(((pgc L).toArray.setIfInBounds (i*2) (.int .i64 x.1)).setIfInBounds (i*2+1) (.bool x.2))=(pgc (L.set i x)).toArray:=by
  rw[qW];simp
 rw[e] at h2;exact h2
theorem pX{P:List Pg}{n s:Nat}(h1:1<=n)(h2:n<=P.length):inS P s (n:Int)=decide (stt (P.getD (n-1) Pg.zero)=s):=by
 unfold inS;rw[ay (show(1:Int)<=n by omega),ay (show(n:Int)<=P.length by omega),show((n:Int)-1).toNat=n-1 by omega]
 simp
theorem zq{P:List Pg}{n s:Nat}{x:Pg}(h1:1<=n)(h2:n<=P.length)(h:stt (P.getD (n-1) Pg.zero)=stt x)(z:Int):inS (P.set (n-1) x) s z=inS P s z:=by
 rw[vy h1 h2];split
 . rename_i e;rw[e,pX h1 h2,h]
 . rfl
theorem vp(w:World)(b:Nat)(P:Po)(D:Pd)(col:Nat->Nat)(h:Pm w b P col D)(n:Nat)(h1:1<=n)(h2:n<=P.pg.length)(x:Pg)(hx:0<=x.1/\x.1<=P.rf):
 Calls Tryz.prog 166 #[.pointer (some ⟨b,0,none⟩),.int .i64 ((n:Nat):Int),.agg #[.int .i64 x.1,.bool x.2]] w λe w'=>e=.returned (.tuple #[])/\∃col',Pl w' b (P.put n x) col'/\Fr w col w' col':=by
 obtain⟨i,rfl⟩:∃i:Nat,n=i+1:=⟨n-1,by omega⟩
 have hi:i<P.pg.length:=by omega
 have es:P.state (((i+1:Nat)):Int)=stt (P.pg.getD i Pg.zero):=by
  unfold Po.state;rw[if_pos (Po.has_iff.2 ⟨by omega,by omega⟩),show(((i+1:Nat):Int)-1).toNat=i by omega]
 have aw:=al w (.cells #[.int .i64 x.1,.bool x.2] 133);have X0:=iq w x.1 x.2;have SA:=gZ λ(W1:World)(hb:Below w.heap.size w W1)=>rU W1 b P D col (h.q.keep hb) h.ok.l2 (((i+1:Nat)):Int)
 rw[es] at SA;have HM:=gZ h;have X:=gZ λ(W1:World)(hb:Below (w.alloc (.cells #[.int .i64 x.1,.bool x.2] 133)).heap.size (w.alloc (.cells #[.int .i64 x.1,.bool x.2] 133)) W1)=>rQ X0 hb
 have ST:=gZ λ(W1:World)=>qO W1 x
 have AW:=gZ aw;obtain⟨y0,y1⟩:=X.o _ (drw _);have HB:=gZ (drw (w.alloc (.cells #[.int .i64 x.1,.bool x.2] 133)));have HP2:=gZ h.ok.l2;clear h aw X0 es;obtain⟨f,hf⟩:∃f,stt (P.pg.getD i Pg.zero)=f:=⟨_,rfl⟩;obtain⟨t,ht⟩:∃t,stt x=t:=⟨_,rfl⟩;have f1:=mo (P.pg.getD i Pg.zero);have t1:=mo x;have HF:=gZ hf;have HT:=gZ ht;have HX:=gZ hx;rw[hf] at SA f1;rw[ht] at ST t1;obtain⟨c,l⟩:=x;clear hf ht hx;simp only at *;go_enter Tryz.func166,Tryz.ntmps166;go_wp2
 go_region_with (first
  |(go_at_call 47;refine(SA.o _ (bt AW.o HB.o)).mono ?_;rintro _ wz ⟨rfl,hb⟩;have HB:=gZ (bt HB.o hb);obtain⟨z0,z1⟩:=X.o _ HB.o;clear hb)
  |(go_at_call 112;refine(ST.o _).mono ?_;rintro _ wz ⟨rfl,hb⟩;have HB:=gZ (bt HB.o hb);obtain⟨z0,z1⟩:=X.o _ HB.o;clear hb))
 all_goals
  have QZ:=gZ (HM.o.q.keep (bt AW.o HB.o));have BZ:=gZ (bt AW.o HB.o);have c1:=(QZ.o.keep (drw _)).c1;have z0:wz.drew.cell? ⟨w.heap.size,0,none⟩=some (.int .i64 c):=z0;have z1:wz.drew.cell? ⟨w.heap.size,1,none⟩=some (.bool l):=z1;have g1:=QZ.o.pgf (i*2);have g2:=QZ.o.pgf (i*2+1);obtain⟨d1,d2⟩:=QZ.o.pgAt hi;have d3:wz.drew.cell? ⟨D.g,i*2,none⟩=_:=d1;have d4:wz.drew.cell? ⟨D.g,i*2+1,none⟩=_:=d2;have g3:wz.drew.frozen? ⟨D.g,i*2,none⟩=false:=g1;have g4:wz.drew.frozen? ⟨D.g,i*2+1,none⟩=false:=g2;have s1:IntKind.i64.wrap (i:Int)=(i:Int):=im (by have:=HP2.o;omega) (by have:=HP2.o;omega)
  have s2:wrap64 (i:Int)=(i:Int):=by unfold wrap64;have:=HP2.o;omega
  have hiI:(i:Int)<(P.pg.length:Int):=by omega
  clear HB;go_wp2;go_region
 all_goals
  have hh:=ui QZ.o.pgs i (c,l);have hbu:But (λk=>k=D.g) wz ((wz.setCell ⟨D.g,i*2,none⟩ (.int .i64 c)).setCell ⟨D.g,i*2+1,none⟩ (.bool l)).drew:=(((But.refl (λk=>k=D.g) wz).setCell (p:=⟨D.g,i*2,none⟩) (λ_=>rfl) _).setCell (p:=⟨D.g,i*2+1,none⟩) (λ_=>rfl) _).drew
  have Q2:=gZ (QZ.o.page (i+1) (c,l) hh hbu);have B2:=gZ hbu;clear hh hbu z0 z1 d1 d2 d3 d4 g1 g2 g3 g4 c1;generalize ((wz.setCell ⟨D.g,i*2,none⟩ (.int .i64 c)).setCell ⟨D.g,i*2+1,none⟩ (.bool l)).drew=W2 at *;have cf:=Q2.o.cin (s:=f) (by omega)
  by_cases hft:f=t
  . subst hft;have eft:(f==f)=true:=by simp
    go_wp2;go_end0
    refine⟨rfl,col,⟨D,Q2.o,HM.o.ok.put _ _ HX.o,λs hs z=>?_⟩,(Fr.keep BZ.o).trans ⟨B2.o.mono λk _ hk=>by rw[hk,HM.o.q.cg];decide,λ_ _=>rfl⟩⟩
    rw[HM.o.mem s hs z];exact(zq (by omega) h2 (by rw[show i+1-1=i from rfl,HF.o,HT.o]) z).symm
  . have eft:((f:Int)==(t:Int))=false:=by simp;omega
    have ct:=Q2.o.cin (s:=t) (by omega)
    have RM:=gZ (ww W2 (D.s f) (D.a f) (D.c f) (D.L f) ((i:Int)+1) ((i:Int)+1) (Q2.o.set f (by omega)) (by have:=HP2.o;unfold Nm;omega) (by have:=HP2.o;unfold Nm;omega) (by have:=HM.o.few (s:=f) (by omega);omega))
    go_wp2_with fail
    refine RM.o.mono ?_;rintro _ w3 ⟨rfl,a3,k3,L3,hS3,hH3,-,hN3,hB3⟩;have Q3:=gZ (Q2.o.oneSet (s:=f) (by omega) hS3 hN3 hB3)
    have F3:=gZ (show Fr W2 col w3 (recol col W2 w3 (3+f)) from⟨hB3.mono λk _ hk=>by
     rcases hk with rfl|⟨y,hy,rfl⟩
     . rw[HM.o.q.cs f (by omega)];omega
     . rw[HM.o.q.ca f (by omega) y hy];omega,λk hk=>jc hk⟩)
    have H3:=gZ hH3;clear hS3 hN3 hB3 hH3 RM cf ct;have ct:=Q3.o.cin (s:=t) (by omega)
    have AD:=gZ (qQ w3 (D.s t) (upd D.a f a3 t) (upd D.c f k3 t) (upd D.L f L3 t) ((i:Int)+1) ((i:Int)+1) (Q3.o.set t (by omega)) (by have:=HP2.o;unfold Nm;omega) (by have:=HP2.o;unfold Nm;omega) (by rw[iM _ _ (λe=>hft e.symm)];have:=HM.o.few (s:=t) (by omega);omega))
    rw[iM D.L _ (λe=>hft e.symm)] at AD
    go_wp2_with fail
    refine AD.o.mono ?_;rintro _ w4 ⟨rfl,a4,k4,L4,hS4,hH4,-,hN4,hB4⟩;have Q4:=gZ (Q3.o.oneSet (s:=t) (by omega) hS4 hN4 hB4)
    have F4:=gZ (show Fr w3 (recol col W2 w3 (3+f)) w4 (recol (recol col W2 w3 (3+f)) w3 w4 (3+t)) from⟨hB4.mono λk _ hk=>by
     rcases hk with rfl|⟨y,hy,rfl⟩
     . rw[Q3.o.cs t (by omega)];omega
     . rw[Q3.o.ca t (by omega) y hy];omega,λk hk=>jc hk⟩)
    have H4:=gZ hH4;clear hS4 hN4 hB4 hH4 AD ct;go_wp2;go_end0
    refine⟨rfl,_,⟨_,Q4.o,HM.o.ok.put _ _ HX.o,λs hs z=>?_⟩,(Fr.keep BZ.o).trans ((Fr.trans ⟨B2.o.mono λk _ hk=>by rw[hk,HM.o.q.cg];decide,λ_ _=>rfl⟩ F3.o).trans F4.o)⟩
    show has (upd (upd D.L f L3) t L4 s) z=inS (P.pg.set (i+1-1) (c,l)) s z;rw[vy (by omega) h2]
    have ez:(decide ((i:Int)+1<=z)&&decide (z<=(i:Int)+1))=decide (z=((i+1:Nat):Int)):=by
     by_cases hz:z=((i+1:Nat):Int)
     . rw[ay hz,ay (by omega),ay (by omega)];rfl
     . rw[au hz];by_cases h3:(i:Int)+1<=z
       . rw[au (show ¬z<=(i:Int)+1 by omega),fZ]
       . rw[au h3,eb]
    have e0:inS P.pg s (((i+1:Nat)):Int)=decide (f=s):=by rw[pX (by omega) h2,show i+1-1=i from rfl,HF.o]
    by_cases hst:s=t
    . subst hst;rw[iF,H4.o,ez,HM.o.mem s hs];by_cases hz:z=((i+1:Nat):Int)
      . rw[if_pos hz,ay hz,Bool.or_true,HT.o];simp
      . rw[if_neg hz,au hz,eV]
    . rw[iM _ _ hst];by_cases hsf:s=f
      . subst hsf;rw[iF,H3.o,ez,HM.o.mem s hs];by_cases hz:z=((i+1:Nat):Int)
        . rw[if_pos hz,ay hz,HT.o,au (λe=>hst e.symm)];simp
        . rw[if_neg hz,au hz];simp
      . rw[iM _ _ hsf,HM.o.mem s hs];by_cases hz:z=((i+1:Nat):Int)
        . rw[if_pos hz,hz,e0,HT.o,au (λe=>hsf e.symm),au (λe=>hst e.symm)]
        . rw[if_neg hz]
end Go.Proofs.YtbdkogimlbnlmaaGreat.Q
