import Derived.Test.YteaogidofpfmmaaGreatWaB20
set_option linter.all false
set_option maxHeartbeats 16000000
set_option maxRecDepth 16000
namespace Go.Proofs.YteaogidofpfmmaaGreat
open Go.Proofs.Tryz
open Go.RowKit
variable {rd:Int->Option Pg}{cO cT g k:Nat}{aO aT:Option Addr}{p:Pg}{W W' w:World}
def stR(rd:Int->Option Pg)(S:List (Int×Nat)):List It:=S.reverse.flatMap λx=>lits rd x.2 x.1
def stN(rd:Int->Option Pg)(S:List (Int×Nat)):Nat:=(S.flatMap λx=>nds rd x.2 x.1).length
def stO(rd:Int->Option Pg)(S:List (Int×Nat)):Prop:=∀x∈S,∃(root:Int)(a:Plx),a.no=x.1/\Sub rd root x.2 a
def lU(L:List It)(k m:Nat):List (Int×Nat):=((L.drop m).map λx=>(x.child,k)).reverse
theorem qj{S:List (Int×Nat)}{x:Int×Nat}:stR rd (S++[x])=lits rd x.2 x.1++stR rd S:=by unfold stR;simp
theorem oo{S:List (Int×Nat)}{x:Int×Nat}:stN rd (S++[x])=stN rd S+(nds rd x.2 x.1).length:=by unfold stN;simp
theorem CJ{S:List (Int×Nat)}{x:Int×Nat}(h:stO rd (S++[x])):stO rd S/\∃(root:Int)(a:Plx),a.no=x.1/\Sub rd root x.2 a:=
 ⟨λy b=>h y (eD _ b),h x (dQ _ (List.mem_singleton_self _))⟩
theorem Eb{L:List It}{m:Nat}(h:L.length<=m):lU L k m=[]:=by unfold lU;rw[dw h];rfl
theorem Au{L:List It}{i:Nat}(h:i<L.length):lU L k i=lU L k (i+1)++[((L.getD i It.zero).child,k)]:=by
 unfold lU;rw[df h,bT,List.reverse_cons];simp[h]
theorem Dz{S:List (Int×Nat)}{L:List It}:stR rd (S++lU L k 0)=(L.map It.child).flatMap (lits rd k)++stR rd S:=by
 unfold stR lU;simp[ic]
theorem Cw{S:List (Int×Nat)}{L:List It}:stN rd (S++lU L k 0)=stN rd S+((L.map It.child).flatMap (nds rd k)).length:=by
 unfold stN lU;simp only[eH,gu,af,Nat.add_left_cancel_iff];rw[<-gY,ic,List.length_flatMap,List.length_flatMap,List.map_map,gY];rw[show(List.map ((λx=>(nds rd k x).length)∘It.child) L)=List.map (λa=>(nds rd k a.child).length) L from rfl]
 exact(List.reverse_perm _).sum_nat
theorem Dh{S:List (Int×Nat)}{root:Int}{a:Plx}(h:stO rd S)(hk:∀c∈ben a p,Sub rd root k c):stO rd (S++lU p.items k 0):=λx hx=>by
 rcases bO.1 hx with hx|hx
 . exact h x hx
 . unfold lU at hx;rw[eH,gZ] at hx;obtain⟨y,d,rfl⟩:=bE.1 hx;obtain⟨i,b,rfl⟩:=go d;refine⟨root,⟨(p.at i).child,a.lv-1,wth p i a.keys⟩,?_,Sub.kid hk b⟩;show(p.at i).child=_;rw[oj b]
theorem Gn{rd:Int->Option Pg}:∀{S:List (Int×Nat)},stO rd S->S.length<=stN rd S:=by
 intro S;induction S with
 |nil=>exact λ_=>an _
 |cons x S ih=>
  intro h;have l:=ih λy j=>h y (br _ j)
  obtain⟨n,a,e,i⟩:=h x bG;obtain⟨p,d,_⟩:=i.page;have c:=mP (f:=x.2) (e▸d);have m:=List.length_pos_of_mem c;have b:stN rd (x::S)=(nds rd x.2 x.1).length+stN rd S:=by unfold stN;simp
  rw[b,a7];omega
theorem Fv{L:List It}{m:Nat}:(lU L k m).length=L.length-m:=by unfold lU;simp
structure Al1(w W:World)(aT:Option Addr)(cT:Nat)(S:List (Int×Nat))(aO:Option Addr)(cO:Nat)(C:List (Br×Br)):Prop where
 t:Q.Gw 3 1 W aT cT S.length (Q.vi (S.map Prod.fst))
 o:Prs W aO cO C
 b:Below w.heap.size w W
 nt:∀x,aT=some x->w.heap.size<=x.block
 no:∀k,prO aO C k->w.heap.size<=k
theorem kh{e:TypeId}{sz:Nat}{a:Option Addr}{cap n:Nat}{C:List Value}(h:Q.Gw e sz w a cap n C){x:Addr}(b:a=some x):∃cur,w.heap[x.block]?=some (.cells cur e (0,0)):=by
 rcases h.cases with⟨rfl,_⟩|⟨g,cur,rfl,hg,_⟩
 . cases b
 . cases b;exact⟨cur,hg⟩
theorem Al1.keep{S:List (Int×Nat)}{C:List (Br×Br)}(h:Al1 w W aT cT S aO cO C)(hb:Below W.heap.size W W'):Al1 w W' aT cT S aO cO C:=
 ⟨h.t.keep hb,h.o.keep5 hb,bt h.b hb,h.nt,h.no⟩
theorem Ha{C:List (Br×Br)}(h:Prs W aO cO C)(hk:prO aO C k):∃(cur:Array Value)(t:TypeId),W.heap[k]?=some (.cells cur t (0,0))/\(t=45\/t=5):=by
 rcases hk with⟨x,hx,rfl⟩|⟨t,ht,x,hx,rfl⟩
 . obtain⟨cur,a⟩:=kh h.row hx;exact⟨cur,_,a,.inl rfl⟩
 . obtain⟨cur,a⟩:=(h.ok t ht).1.blk hx;exact⟨cur,_,a,.inr rfl⟩
theorem Al1.push{c:Nat}{S:List (Int×Nat)}{C:List (Br×Br)}{x:Int×Nat}(h:Al1 w W aT cT S aO cO C)(i:Q.Gw 3 1 W' (some ⟨g,0,none⟩) c (S.length+1) (Q.vi (S.map Prod.fst)++[.int .i64 x.1]))(j:New W aT (some ⟨g,0,none⟩))(f:But (Q.InA aT) W W'):Al1 w W' (some ⟨g,0,none⟩) c (S++[x]) aO cO C:=by
 have l:∀k,prO aO C k->¬Q.InA aT k:=λk hk ⟨y,a,e⟩=>by
  obtain⟨n,t,b,h2⟩:=Ha h.o hk;obtain⟨m,d⟩:=kh h.t a;rw[e] at d;rw[d] at b;simp only[au,eK] at b;rcases h2 with h2|h2
  all_goals
   exact absurd (b.2.1.trans h2) (by decide)
 refine⟨?_,h.o.but f l,((But.ofBelow (S:=Q.InA aT) h.b).trans f (λ_ _ e=>e)).below (λk hk ⟨y,a,e⟩=>?_),λy a=>?_,h.no⟩
 . rw[af,dy];show Q.Gw 3 1 W' _ c (S.length+1) (Q.vi (S.map Prod.fst++[x.1]));rw[<-nU];exact i
 . have:=h.nt y a;omega
 . cases a;rcases j _ rfl with⟨z,hz,e⟩|e
   . have:=h.nt z hz;have e:z.block=g:=e;show _<=g;omega
   . exact ay h.b.size e
theorem Al1.pop{S:List (Int×Nat)}{C:List (Br×Br)}{x:Int×Nat}(h:Al1 w W aT cT (S++[x]) aO cO C):Al1 w W aT cT S aO cO C:=by
 refine⟨?_,h.o,h.b,h.nt,h.no⟩;have a:=h.t;rw[af,dy] at a;rcases a.cases with⟨_,_,e,_⟩|⟨g,cur,rfl,hg,hn,hm,hs,hc⟩
 . simp at e
 . refine Q.Gw.mk (by simp[Q.vi]) hg (by simp at hn;omega) hm hs ?_
   simp only[dR,eR] at hc ⊢;have e:=bf (List.take S.length) hc;rw[List.take_take,ee (eS _)] at e;rw[e];simp[Q.vi]
theorem Al1.top{S:List (Int×Nat)}{C:List (Br×Br)}{x:Int×Nat}(h:Al1 w W aT cT (S++[x]) aO cO C):∃g,aT=some ⟨g,0,none⟩/\W.cell? ⟨g,S.length,none⟩=some (.int .i64 x.1)/\S.length+1<=cT/\cT<=maxLen:=by
 have b:=h.t;obtain⟨g,rfl⟩:=b.addr (by simp)
 have a:=b.capLe;rw[af] at a;refine⟨g,rfl,b.cell ?_,a.1,a.2⟩;simp[Q.vi]
theorem Al1.tell{w W b W':World}{aT aO:Option Addr}{cT cO g c:Nat}{S:List (Int×Nat)}{C:List (Br×Br)}{K Vl:Br}(h:Al1 w W aT cT S aO cO C)(i:Own W b K.a K.c K.l/\B8 K.l)(j:Own W b Vl.a Vl.c Vl.l/\B8 Vl.l)(E:jE K Vl)(hb:Below W.heap.size W b)
 (v:Q.Gw 45 2 W' (some ⟨g,0,none⟩) c (C.length+1) (prv C++[Value.slice K.a K.l.length K.c,Value.slice Vl.a Vl.l.length Vl.c])) (s:New b aO (some ⟨g,0,none⟩)) (l:But (Q.InA aO) b W'):Al1 w W' aT cT S (some ⟨g,0,none⟩) c (C++[(K,Vl)]):=by
 have d:=h.keep hb;have D:∀k,prO aO C k->k<W.heap.size:=λk hk=>h.o.lt hk
 have r:∀{t:Br},Own W b t.a t.c t.l->∀k,prO aO C k->¬ ∃x,t.a=some x/\x.block=k:=λA k hk ⟨x,a,e⟩=>by
  have f:=A.fresh a;have n:=D k hk;omega
 have B:∀x,aT=some x->¬Q.InA aO x.block:=λx a ⟨y,m,e⟩=>by
  obtain⟨G,f⟩:=kh d.t a;obtain⟨F,q⟩:=kh d.o.row m;rw[e] at q;rw[q] at f;simp only[au,eK] at f;exact absurd f.2.1 (by decide)
 refine⟨d.t.but l B,d.o.app ⟨i.1.r,i.2⟩ ⟨j.1.r,j.2⟩ E (λk hk=>⟨r i.1 k hk,r j.1 k hk⟩) v l,((But.ofBelow (S:=Q.InA aO) d.b).trans l (λ_ _ e=>e)).below (λk hk ⟨y,m,e⟩=>?_),h.nt,λk hk=>?_⟩
 . have:=h.no k (.inl ⟨y,m,e⟩);omega
 . rcases oI.1 hk with⟨x,a,e⟩|hk|⟨x,a,e⟩|⟨x,a,e⟩
   . cases a;have e:g=k:=e;rcases s _ rfl with⟨z,hz,e2⟩|e2
     . have e2:z.block=g:=e2;have:=h.no k (.inl ⟨z,hz,e2.trans e⟩);omega
     . have e2:b.heap.size<=g:=e2;have:=d.b.size;omega
   . exact h.no k (.inr hk)
   . have f:=i.1.fresh a;have n:=h.b.size;omega
   . have f:=j.1.fresh a;have n:=h.b.size;omega
def Clo(rd:Int->Option Pg)(G:List Int):Prop:=∀x∈G,∃p,rd x=some p/\∀k∈p.kids,k∈G
theorem xM(c:iF rd){t:Tr}(h:chk rd t=0)(b:t.root≠0):∃G:List Int,Clo rd G/\G.Nodup/\t.root∈G:=by
 unfold chk at h;rw[if_neg (λe=>b e.1)] at h
 split at h
 . cases h
 . rename_i i;split at h
   . rename_i a;exact absurd h a
   . rename_i a;have a:(kO rd t).er=0:=by simpa using a
     have f:=xI (root:=t.root) c (t.height-1).toNat (ja t.root t.height) ⟨[],0,0⟩ (by show t.height-1<=_;omega) rfl a
     refine⟨(kO rd t).G,λx d=>?_,f.g.nd List.nodup_nil,f.me⟩
     rcases f.g.cl x d with h|h
     . cases h
     . exact h
theorem Hs(h:Sound p):p.kids.length<=8:=by
 unfold Pg.kids;by_cases b:p.kind=2
 . rw[if_pos b,bM];exact(h.node (.inr b)).2.2.1
 . rw[if_neg b];by_cases a:p.kind=1
   . rw[if_pos a];refine ay (fN _ _) ?_;rw[bM];exact(h.node (.inl a)).2.2.1
   . rw[if_neg a];split
     . exact ay (am 1) (by decide)
     . exact an _
structure Stq(w W:World)(bi bm N:Nat)(aT:Option Addr)(cT:Nat)(S:List Int)(I:List Int)(Gm:List Int):Prop where
 b:Below w.heap.size w W
 i:Q.Gw 3 1 W (some ⟨bi,0,none⟩) (N+1) (N+1) (Q.vi I)
 m:W.heap[bm]?=some (.cells (vbl (nN N Gm)).toArray 4 (0,0))
 t:Q.Gw 3 1 W aT cT S.length (Q.vi S)
 ni:w.heap.size<=bi
 nm:w.heap.size<=bm
 nt:∀x,aT=some x->w.heap.size<=x.block/\x.block≠bi
theorem uV(l:List Int):(Q.vi l).length=l.length:=by simp[Q.vi]
section
variable {w W W':World} {bi bm N:Nat} {aT:Option Addr} {cT:Nat} {S I Gm:List Int}
theorem Stq.len(h:Stq w W bi bm N aT cT S I Gm):I.length=N+1:=by
 have:=h.i.length;rw[uV] at this;omega
theorem Stq.keep(h:Stq w W bi bm N aT cT S I Gm)(hb:Below W.heap.size W W'):Stq w W' bi bm N aT cT S I Gm:=⟨bt h.b hb,h.i.keep hb,iJ h.m hb,h.t.keep hb,h.ni,h.nm,h.nt⟩
theorem Stq.mi(h:Stq w W bi bm N aT cT S I Gm):bm≠bi:=by
 obtain⟨b,a⟩:=kh h.i rfl;exact jd h.m a (by decide)
theorem Stq.iAt(h:Stq w W bi bm N aT cT S I Gm){k:Nat}(hk:k<N+1):W.cell? ⟨bi,k,none⟩=some (.int .i64 (I.getD k 0))/\W.frozen? ⟨bi,k,none⟩=false:=by
 obtain⟨b,a⟩:=kh h.i rfl;refine⟨h.i.cell ?_,by simp[World.frozen?,show W.heap[bi]?=_ from a]⟩
 have:=h.len;simp[Q.vi,show k<I.length by omega]
theorem Stq.mAt(h:Stq w W bi bm N aT cT S I Gm){k:Nat}(hk:k<N+1):W.cell? ⟨bm,k,none⟩=some (.bool (decide ((k:Int)∈Gm)))/\W.frozen? ⟨bm,k,none⟩=false:=by
 refine⟨?_,by simp[World.frozen?,h.m]⟩
 rw[ai _ _ _ _ _ _ h.m,fL];unfold vbl nN;simp[hk]
theorem Stq.setI(h:Stq w W bi bm N aT cT S I Gm)(k:Nat)(z:Int):Stq w (W.setCell ⟨bi,k,none⟩ (.int .i64 z)) bi bm N aT cT S (I.set k z) Gm:=by
 have bs:But (λk=>k=bi) W (W.setCell ⟨bi,k,none⟩ (.int .i64 z)):=(But.refl (λk=>k=bi) W).setCell (p:=⟨bi,k,none⟩) (λ_=>rfl) _
 refine⟨((But.ofBelow (S:=λk=>k=bi) h.b).trans bs (λ_ _ e=>e)).below (λk hk e=>by have e:k=bi:=e;have:=h.ni;omega),?_,bs.same h.m h.mi,h.t.but bs (λx a e=>(h.nt x a).2 e),h.ni,h.nm,h.nt⟩
 rw[<-ry];exact h.i.setc k _
theorem Stq.setM(h:Stq w W bi bm N aT cT S I Gm)(k:Nat):Stq w (W.setCell ⟨bm,k,none⟩ (.bool true)) bi bm N aT cT S I ((k:Int)::Gm):=by
 have bs:But (λk=>k=bm) W (W.setCell ⟨bm,k,none⟩ (.bool true)):=(But.refl (λk=>k=bm) W).setCell (p:=⟨bm,k,none⟩) (λ_=>rfl) _
 refine⟨((But.ofBelow (S:=λk=>k=bm) h.b).trans bs (λ_ _ e=>e)).below (λk hk e=>by have e:k=bm:=e;have:=h.nm;omega),h.i.but bs (λx a e=>by cases a;exact h.mi e.symm),?_,h.t.but bs (λx a e=>?_),h.ni,h.nm,h.nt⟩
 . rw[aE _ _ _ _ _ _ h.m,<-vz];simp[vbl,ij]
 . obtain⟨c,b⟩:=kh h.t a;exact jd b h.m (by decide) e
theorem Stq.push{g c:Nat}{x:Int}(h:Stq w W bi bm N aT cT S I Gm)(j:Q.Gw 3 1 W' (some ⟨g,0,none⟩) c (S.length+1) (Q.vi S++[.int .i64 x]))(l:New W aT (some ⟨g,0,none⟩))(b:But (Q.InA aT) W W'):Stq w W' bi bm N (some ⟨g,0,none⟩) c (S++[x]) I Gm:=by
 have nb:¬Q.InA aT bi:=λ⟨y,a,e⟩=>(h.nt y a).2 e
 have m:¬Q.InA aT bm:=λ⟨y,a,e⟩=>by
  obtain⟨n,d⟩:=kh h.t a;exact jd d h.m (by decide) e
 refine⟨((But.ofBelow (S:=Q.InA aT) h.b).trans b (λ_ _ e=>e)).below (λk hk ⟨y,a,e⟩=>?_),h.i.but b (λz f e=>by cases f;exact nb e),b.same h.m m,?_,h.ni,h.nm,λy a=>?_⟩
 . have:=(h.nt y a).1;omega
 . rw[af,<-nU];exact j
 . cases a;rcases l _ rfl with⟨z,f,e⟩|e
   . have i:=h.nt z f;have e:z.block=g:=e;rw[e] at i;exact i
   . have e:W.heap.size<=g:=e;have q:=h.b.size
     have r:bi<W.heap.size:=by
      obtain⟨n,d⟩:=kh h.i rfl;exact(ae.1 d).1
     exact⟨by show _<=g;omega,by show g≠bi;omega⟩
theorem Stq.pop{x:Int}(h:Stq w W bi bm N aT cT (S++[x]) I Gm):Stq w W bi bm N aT cT S I Gm:=by
 refine⟨h.b,h.i,h.m,?_,h.ni,h.nm,h.nt⟩;have a:=h.t;rw[af] at a;rcases a.cases with⟨_,_,e,_⟩|⟨g,cur,rfl,hg,hn,hm,hs,hc⟩
 . simp at e
 . refine Q.Gw.mk (by simp[Q.vi]) hg (by simp at hn;omega) hm hs ?_
   simp only[dR,eR] at hc ⊢;have e:=bf (List.take S.length) hc;rw[List.take_take,ee (eS _)] at e;rw[e];simp[Q.vi]
theorem Stq.top{x:Int}(h:Stq w W bi bm N aT cT (S++[x]) I Gm):∃g,aT=some ⟨g,0,none⟩/\W.cell? ⟨g,S.length,none⟩=some (.int .i64 x)/\S.length+1<=cT/\cT<=maxLen:=by
 have b:=h.t;obtain⟨g,rfl⟩:=b.addr (by simp)
 have a:=b.capLe;rw[af] at a;refine⟨g,rfl,b.cell ?_,a.1,a.2⟩;simp[Q.vi]
end
theorem zP(n:Nat)(m:n<=1000000)(w:World):(Instr.makeSlice 22 (.int .i64 (n:Int)) (.int .i64 (n:Int))).run prog w=.ok (.slice (some ⟨w.heap.size,0,none⟩) n n) (w.alloc (.cells (Q.vi (List.replicate n 0)).toArray 3)):=by
 obtain⟨c,b,d,f,h⟩:=eo li;have a:=run_make (P:=prog) w 22 3 c (.int .i64 0) underlying22 b d .i64 .i64 n n (by omega) (by omega) (by rw[h];omega) (by omega)
 simp only[e8,f,eR] at a;rw[a]
 have e:madeCells (Value.int .i64 0).cells n=(Q.vi (List.replicate n 0)).toArray:=by
  unfold madeCells Q.vi;apply Array.ext
  . simp
  . intro i j l;simp[Value.cells,Nat.mod_one]
 rw[e]
theorem qR{D:Rd}{n:Int}(h:rdR D n=some p):0<D.count n/\(D.on n).pg=p:=by
 unfold rdR at h;by_cases a:0<D.count n
 . rw[if_pos a] at h;exact⟨a,fC h⟩
 . rw[if_neg a] at h;cases h
theorem Aq{α:Type}(g h:α->List Int)(a:α->List It):∀L:List α,(∀x∈L,(a x).length<=8*(g x).length)->(L.flatMap a).length<=8*(L.flatMap g).length:=by
 intro L;induction L with
 |nil=>exact λ_=>an _
 |cons x L ih=>
  intro b;have d:=b x bG;have e:=ih λy c=>b y (br _ c)
  simp only[dS,af];omega
theorem ws{rd:Int->Option Pg}(a:iF rd):∀(f:Nat)(n:Int),(lits rd f n).length<=8*(nds rd f n).length:=by
 intro f;induction f with
 |zero=>
  intro n;unfold lits nds;cases hp:rd n with
  |none=>exact an _
  |some p=>
   simp only;by_cases hk:p.kind=1
   . rw[if_pos hk,if_pos hk];have:=((a n p hp).node (.inl hk)).2.2.1;simp;omega
   . rw[if_neg hk,if_neg hk];exact an _
 |succ f ih=>
  intro n;unfold lits nds;cases hp:rd n with
  |none=>exact an _
  |some p=>
   simp only;by_cases hk:p.kind=1
   . rw[if_pos hk,if_pos hk];have:=((a n p hp).node (.inl hk)).2.2.1;simp;omega
   . rw[if_neg hk,if_neg hk];have:=Aq (nds rd f) (nds rd f) (lits rd f) (p.items.map It.child) (λx _=>ih x)
     rw[a7];omega
theorem kY(P:Nat->Prop):∃n,(∃m,P m)->P n/\∀m,P m->n<=m:=by
 by_cases h:∃m,P m
 . obtain⟨m,b⟩:=h;induction m using Nat.strongRecOn with
   |ind m ih=>
    by_cases a:∃k,k<m/\P k
    . obtain⟨k,hk,c⟩:=a;exact ih k hk c
    . exact⟨m,λ_=>⟨b,λk hk=>ia λe=>a ⟨k,e,hk⟩⟩⟩
 . exact⟨0,λe=>absurd e h⟩
theorem wk{P Q:Nat->Prop}{m:Nat}(a:P m)(b:∃k,Q k)(h:∀k,Q k->m<k):(kY P).choose<(kY Q).choose:=by
 have c:=((kY P).choose_spec ⟨m,a⟩).2 m a;have d:=h _ ((kY Q).choose_spec b).1;omega
theorem wj{u v:Value}{t:TypeId}(h:W.heap[g]?=some (.cells #[u,v] t (0,0))):∀j x,[u,v][j]?=some x->W.cell? ((⟨g,0,none⟩:Addr).add j)=some x:=by
 intro j x a;rw[Addr.add_mid,de,ai _ _ _ _ _ _ h,<-a];simp
def Eh(w w':World)(e:Ending)(L:List (List Nat×List Nat)):Prop:=Below w.heap.size w w'/\∃(a:Option Addr)(c:Nat)(C:List (Br×Br)),e=.returned (.slice a C.length c)/\Prs w' a c C/\prl C=L/\∀k,prO a C k->w.heap.size<=k
def AlR(w:World)(rd:Int->Option Pg)(LL:List (List Nat×List Nat))(n:Nat)(vo vt:Value)(wx:World):Prop:=
 ∃(aT:Option Addr)(cT:Nat)(S:List (Int×Nat))(aO:Option Addr)(cO:Nat)(C:List (Br×Br)),vo=.slice aO C.length cO/\vt=.slice aT S.length cT/\Al1 w wx aT cT S aO cO C/\stO rd S/\prl C++(stR rd S).map (jQ rd)=LL/\stN rd S=n/\n<=65536
theorem BP(w W:World)(hb:Below w.heap.size w W)(root:Int)(f:Nat):Al1 w (W.alloc (.cells #[.int .i64 root] 3)) (some ⟨W.heap.size,0,none⟩) 1 [(root,f)] none 0 []:=
 ⟨Q.Gw.mk rfl (ag W _) (am _) (by unfold maxLen;omega) rfl rfl,Prs.nil _,bt hb (al _ _),λx a=>by cases a;exact hb.size,λk hk=>by
   rcases hk with⟨x,a,_⟩|⟨t,ht,_⟩
   . cases a
   . cases ht⟩
theorem DU(w:World)(rb:Nat)(D:Rd)(a9:Nat->Nat)(hR:Rq w rb D a9)(hA:iF (rdR D))(root aJ aI:Int)(f:Nat)(h0:root≠0)(hS:∃(rt:Int)(a:Plx),a.no=root/\Sub (rdR D) rt f a)(P:(nds (rdR D) f root).length<=65536):
 Calls prog 45 #[.pointer (some ⟨rb,0,none⟩),.agg #[.int .i64 root,.int .i64 aJ,.int .i64 aI]] w λe w'=>Eh w w' e ((lits (rdR D) f root).map (jQ (rdR D))):=by
 obtain⟨d,az⟩:∃d,(lits (rdR D) f root).map (jQ (rdR D))=d:=⟨_,rfl⟩
 have a8:Hid (d.length<=524288):=by
  show _<=_;rw[<-az,bM];have:=ws hA f root;omega
 have A0:=al w (.cells #[.int .i64 root,.int .i64 aJ,.int .i64 aI] 34);have X0:=ag w (.cells #[.int .i64 root,.int .i64 aJ,.int .i64 aI] 34);obtain⟨t0,t1,t2⟩:=iz X0
 have R0:Hid (AlR w (rdR D) d (nds (rdR D) f root).length (.slice none 0 0) (.slice (some ⟨w.heap.size+1,0,none⟩) 1 1) ((w.alloc (.cells #[.int .i64 root,.int .i64 aJ,.int .i64 aI] 34)).alloc (.cells #[.int .i64 root] 3))):=by
  refine⟨some ⟨w.heap.size+1,0,none⟩,1,[(root,f)],none,0,[],rfl,rfl,?_,λx B=>?_,?_,?_,P⟩
  . have h:=BP w _ A0 root f;rw[size_alloc] at h;exact h
  . rw[aZ.1 B];exact hS
  . rw[<-az];simp[stR,prl]
  . simp[stN]
 rw[az];have HR:=ix hR;have HA:=ix hA;clear az hS P hR hA A0 X0;have bW:(root==0)=false:=by simp[h0]
 go_enter func45,ntmps45;go_wp2_with fail
 clear t0 t1 t2;go_loopw [5,6] (λvo vt l=>∃n,AlR w (rdR D) d n vo vt l) (λvo vt l=>(kY λn=>AlR w (rdR D) d n vo vt l).choose)
 case atStart=>exact⟨_,R0.o⟩
 case round=>
  clear R0;obtain⟨M,bA,bn⟩:∃M,AlR w (rdR D) d M u5 u6 wr/\∀k,AlR w (rdR D) d k u5 u6 wr->M<=k:=⟨_,((kY λn=>AlR w (rdR D) d n u5 u6 wr).choose_spec hrel).1,((kY λn=>AlR w (rdR D) d n u5 u6 wr).choose_spec hrel).2⟩
  have EX:=ix hrel;have aw:=ix bn;clear hrel bn;obtain⟨aT,cT,S,aO,cO,C,rfl,rfl,A,J,hE,hn,h6⟩:=bA;have G:=ix A;have u:=ix hE;have y:=ix hn;have OO:=ix J;have N6:=ix h6;clear A hE hn J h6;rcases ie S with aA|⟨S',x,aA⟩
  . subst aA;have bu:Hid (Eh w wr (.returned (.slice aO C.length cO)) d):=⟨G.o.b,aO,cO,C,rfl,G.o.o,by simpa[stR] using u.o,G.o.no⟩
    clear G u y OO N6 EX aw;go_wp2_with fail
    go_ret;exact bu.o
  . rw[fO] at aA;subst aA;obtain⟨g,rfl,bb,bK,bC⟩:=G.o.top;obtain⟨OS,rt,ax,aB,aH⟩:=CJ OO.o;obtain⟨Y,fx⟩:=x;dsimp only at bb aB aH;have b8:=ix aH;obtain⟨p,hp,bg,_,bo,bk⟩:=aH.page;rw[aB] at hp;obtain⟨aG,aU⟩:=qR hp;have TH:=ix (mE wr rb D a9 (HR.o.keep G.o.b) Y);rw[ar aG] at TH;obtain⟨m,hm⟩:∃m,S'.length=m:=⟨_,rfl⟩;have HM:=ix hm;have bh:(S'++[(Y,fx)]).length=m+1:=by rw[af,hm];rfl
    rw[hm] at bb bK;simp only[bh] at EX aw ⊢;have b5:m+1<=65536:=by have:=Gn OO.o;rw[bh,y.o] at this;have:=N6.o;omega
    have cc:(0:Int)<((m+1:Nat):Int):=by omega
    have bI:((m+1:Nat):Int)-1=(m:Int):=by omega
    have b7:IntKind.i64.wrap (((m+1:Nat):Int)-1)=(m:Int):=by rw[bI];exact iQ (by omega) (by omega)
    have cb:(m:Int)<((m+1:Nat):Int):=by omega
    have b4:(0:Int)<=(m:Int):=by omega
    have b6:(m:Int)<=(cT:Int):=by omega
    have bO:=ix aB;have aP:=ix OS;clear hm OS aB aH bC;go_wp2_with fail
    refine TH.o.mono ?_;rintro _ wq ⟨rfl,bj⟩;obtain rfl:=bj.symm;clear bj TH;have RW:=ix (HR.o.keep G.o.b);obtain⟨i,g2,rfl,hi,bR,c3,hc⟩:=RW.o.page aG;have bl:=Rd.on_mem RW.o (jN aG);have PI:=ix λ(W:World)(hb:Below w.heap.size w W)=>((HR.o.keep hb).pz _ bl).pi
    obtain⟨aL,hq⟩:∃aL,D.on ((i:Int)+1)=aL:=⟨_,rfl⟩;rw[hq] at aU hc PI;have q:=ix (HA.o _ _ hp);have HP:=ix hp;have s:=ix aU;clear hq bl aG hp aU;have aN:=ix bo;have aM:=ix bk;have av:=ix bg;clear bo bk bg;have bX:(i:Int)<(D.C.length:Int):=by omega
    have bD:(i:Int)+1-1=(i:Int):=by omega
    have bY:IntKind.i64.wrap ((i:Int)+1-1)=(i:Int):=by rw[bD];exact iQ (by omega) (by omega)
    obtain⟨kq,lq,aq,cq,L,ad,cd,ai,Y⟩:=aL;have y0:=hc 0 _ (by decide) rfl
    have y1:=hc 1 _ (by decide) rfl
    have y2:=hc 2 _ (by decide) rfl
    have y3:=hc 3 _ (by decide) rfl
    have y4:=hc 4 _ (by decide) rfl
    rw[dp] at y0;have A3:=ix (al wr (.cells #[.int .i64 kq,.int .i64 lq,.slice aq L.length cq,.slice ad ai.length cd,.int .i64 Y] 77));have X3:=ix (ag wr (.cells #[.int .i64 kq,.int .i64 lq,.slice aq L.length cq,.slice ad ai.length cd,.int .i64 Y] 77))
    have bU:L.length<=8:=by
     have hk:p.kind=1\/p.kind=2:=by
      rcases q.o.kind with h|h|h
      . exact .inl h
      . exact .inr h
      . exact absurd h (jA.1 av.o).1
     have:=(q.o.node hk).2.2.1;rw[<-s.o] at this;simpa[Pv.pg] using this
    clear hc;go_upto_region 11 with fail
    have I3:=ix (G.o.keep A3.o);have P3:=ix (PI.o _ I3.o.b);generalize wr.alloc (.cells #[.int .i64 kq,.int .i64 lq,.slice aq L.length cq,.slice ad ai.length cd,.int .i64 Y] 77)=w3 at *;obtain⟨gp,bc⟩:∃g,wr.heap.size=g:=⟨_,rfl⟩;simp only[bc] at X3 ⊢;clear bc y0 y1 y2 y3 y4 c3 A3 G RW
    have bP:=ix (show(lits (rdR D) fx ((i:Int)+1)).length<=524288 by
     have h1:=bf List.length u.o;rw[qj,dy,af,af,bM] at h1;have h2:=a8.o;dsimp only at h1;omega)
    have bs:Hid (C.length<=524288):=by
     show _<=_;have h1:=bf List.length u.o;rw[af,i7] at h1;have:=a8.o;omega
    have b3:IntKind.i64.wrap ((L.length:Int)-1)=(L.length:Int)-1:=iQ (by omega) (by omega)
    obtain⟨R,T,U,V,X⟩:=i6 X3.o;by_cases hk:kq=2
    . subst hk;have ak:p.kind≠1:=by rw[<-s.o];show ¬(2:Int)=1;decide
      obtain⟨fk,rfl,bp⟩:=aM.o ak
      have bT:2<=L.length:=by
       have:=(q.o.idx (by rw[<-s.o];rfl)).2.2
       rw[<-s.o] at this;simpa[Pv.pg] using this
      have b9:(0:Int)<(L.length:Int):=by omega
      have ac:p.items=L.map Iv.it:=by rw[<-s.o];rfl
      have Z:=ix ac;have bw:=ix bp;have a6:=ix ak;clear ac bp aM aN av ak s q P3;go_wp2_with fail
      clear R T U V X;go_loopw [6,9] (λvt vi l=>∃(j:Nat)(aa:Option Addr)(ab:Nat)(t:List (Int×Nat)),j<=L.length/\vi=.int .i64 ((j:Int)-1)/\vt=.slice aa t.length ab/\t=S'++lU p.items fk j/\Al1 w l aa ab t aO cO C/\l.heap[gp]?=some (.cells #[.int .i64 2,.int .i64 lq,.slice aq L.length cq,.slice ad ai.length cd,.int .i64 Y] 77 (0,0))) (λ_ vi _=>(intOf vi+1).toNat)
      case atStart=>exact⟨L.length,some ⟨g,0,none⟩,cT,S',am _,rfl,by rw[HM.o],by rw[Eb (by rw[Z.o,bM];exact am _),dr],I3.o.pop,X3.o⟩
      case round=>
       obtain⟨j,aa,ab,t,hj,rfl,rfl,ba,A,hX⟩:=hrel;have v:=ix A;have X4:=ix hX;have ah:=ix ba;have P4:=ix (PI.o _ A.b);obtain⟨R,T,U,V,X⟩:=i6 hX;clear A hX ba
       have bJ:t.length<=65536+8:=by
        rw[ah.o,af,Fv,Z.o,bM,HM.o];omega
       rcases Nat.eq_zero_or_pos j with hj0|hj0
       . subst hj0;clear bJ
         have ay:Hid (AlR w (rdR D) d (M-1) (.slice aO C.length cO) (.slice aa t.length ab) wr):=by
          have O:=ll (f:=fk) HP.o (show p.kind≠1 from a6.o)
          have H:=u.o;have c:=y.o;rw[qj] at H;rw[oo] at c;dsimp only at H c;rw[O.2] at H;rw[O.1,a7] at c;refine⟨aa,ab,t,aO,cO,C,rfl,rfl,v.o,?_,?_,?_,by have:=N6.o;omega⟩
          . rw[ah.o];exact Dh aP.o bw.o
          . rw[ah.o,Dz];exact H
          . rw[ah.o,Cw];omega
         have aQ:Hid (1<=M):=by
          show _<=_;have O:=ll (f:=fk) HP.o (show p.kind≠1 from a6.o)
          have c:=y.o;rw[oo] at c;dsimp only at c;rw[O.1,a7] at c;omega
         go_wp2_with fail
         go_loopw [5,10] (λvo vi l=>vo=.slice aO C.length cO/\vi=.int .i64 0/\l=wr) (λ_ _ _=>0)
         case atStart=>exact⟨rfl,rfl,rfl⟩
         case round=>
          obtain⟨rfl,rfl,ap⟩:=hrel;obtain rfl:=ap.symm;clear ap;go_wp2_with fail
          go_roundw
          case rel=>exact⟨M-1,ay.o⟩
          case measure=>exact wk ay.o EX.o (λk hk=>by have:=aw.o k hk;have:=aQ.o;omega)
       . obtain⟨k,rfl⟩:∃k,j=k+1:=⟨j-1,by omega⟩
         have be:((k+1:Nat):Int)-1=(k:Int):=by omega
         have bd:k<L.length:=by omega
         have ca:(k:Int)<(L.length:Int):=by omega
         have b0:(0:Int)<=(k:Int):=by omega
         have b2:IntKind.i64.wrap ((k:Int)-1)=(k:Int)-1:=iQ (by omega) (by omega)
         obtain⟨b1,o1,rfl,hr⟩:=P4.o.it.at bd;obtain⟨k0,k1,k2,k3⟩:=jn hr;simp only[be];clear be hr;obtain⟨x,B⟩:∃x,L.getD k Iv.zero=x:=⟨_,rfl⟩;rw[B] at k2
         have KX:Hid ((p.items.getD k It.zero).child=x.child):=by
          show _=_;rw[Z.o,js,B];rfl
         clear B k0 k1 k3;have A5:=ix (al wr (.cells #[.int .i64 x.child] 3));have Y5:=ix (ag wr (.cells #[.int .i64 x.child] 3));have G5:=ix (v.o.keep A5.o);have aS:t.length+1<=maxLen:=by unfold maxLen;omega
         go_wp2_with (at_builtin;refine jq underlying22 li rfl (by decide) rfl _ _ rfl aa t.length ab (Q.vi (t.map Prod.fst)) rfl G5.o.t ⟨wr.heap.size,0,none⟩ 1 [Value.int .i64 x.child] rfl rfl (lF Y5.o) (λbq hu=>by rw[aZ.1 hu];rfl) aS (by omega) ?_)
         intro g5 c5 w5 hG P hB;have I5:=ix (G5.o.push (x:=(x.child,fk)) hG P hB)
         have X5:=ix (hB.same (iJ X4.o A5.o) (λ⟨a3,hy,e⟩=>by
          obtain⟨cu,h3⟩:=kh G5.o.t hy;rw[e,iJ X4.o A5.o] at h3;simp only[au,eK] at h3;exact absurd h3.2.1 (by decide)))
         clear hG P hB A5 Y5 G5 R T U V X k2;go_wp2_with fail
         go_roundw
         case rel=>exact⟨k,some ⟨g5,0,none⟩,c5,t++[(x.child,fk)],by omega,rfl,by simp,by rw[ah.o,Au (L:=p.items) (k:=fk) (i:=k) (by rw[Z.o,bM];exact bd),KX.o,aR],I5.o,X5.o⟩
         case measure=>first|(simp[intOf];done)|(simp[intOf];omega)
    . have ak:kq=1:=by
       rcases q.o.kind with h|h|h
       . rw[<-s.o] at h;exact h
       . rw[<-s.o] at h;exact absurd h hk
       . exact absurd h (jA.1 av.o).1
      subst ak;have ae:p.kind=1:=by rw[<-s.o];rfl
      have ac:p.items=L.map Iv.it:=by rw[<-s.o];rfl
      have Z:=ix ac;have bv:=ix ae
      have bS:1<=L.length:=by
       have:=(q.o.leaf0 ae).2;rw[ac] at this;simpa using this
      have bz:Hid (∀x∈L,(ldv (rdR D) x).1=0/\x.key.length<=24):=λx B=>by
       have hm:x.it∈p.items:=by rw[Z.o];exact bE.2 ⟨x,B,rfl⟩
       exact⟨(aN.o ae x.it hm).2,(q.o.fits hm).key⟩
      have ay:Hid (∀(E:Option Addr)(F:Nat)(b:List (Br×Br))(W:World),Al1 w W (some ⟨g,0,none⟩) cT S' E F b->prl b=prl C++p.items.map (jQ (rdR D))->AlR w (rdR D) d (M-1) (.slice E b.length F) (.slice (some ⟨g,0,none⟩) m cT) W):=λE F b W bB aj=>by
       have O:=kn (f:=fx) HP.o ae;have H:=u.o;have c:=y.o;rw[qj] at H;rw[oo] at c;dsimp only at H c;rw[O.2] at H;rw[O.1,dR] at c;refine⟨some ⟨g,0,none⟩,cT,S',E,F,b,rfl,by rw[HM.o],bB,aP.o,?_,by omega,by have:=N6.o;omega⟩
       rw[aj,aR,<-dy];exact H
      have aQ:Hid (1<=M):=by
       show _<=_;have O:=kn (f:=fx) HP.o ae;have c:=y.o;rw[oo] at c;dsimp only at c;rw[O.1,dR] at c;omega
      have bx:=ix I3.o.pop;have bV:(0:Int)<=(L.length:Int)-1:=by omega
      clear ac ae aM aN av s q P3 I3 u y OO aP HM HP bv;go_wp2_with fail
      go_loopw [6,9] (λvt vi l=>vt=.slice (some ⟨g,0,none⟩) m cT/\vi=.int .i64 ((L.length:Int)-1)/\l=w3) (λ_ _ _=>0)
      case atStart=>exact⟨rfl,rfl,rfl⟩
      case round=>
       obtain⟨rfl,rfl,ap⟩:=hrel;obtain rfl:=ap.symm;clear ap;go_wp2_with fail
       clear R T U V X;go_loopw [5,10] (λvo vi l=>∃(j:Nat)(E:Option Addr)(F:Nat)(b:List (Br×Br)),j<=L.length/\vi=.int .i64 (j:Int)/\vo=.slice E b.length F/\Al1 w l (some ⟨g,0,none⟩) cT S' E F b/\prl b=prl C++(p.items.take j).map (jQ (rdR D))/\l.heap[gp]?=some (.cells #[.int .i64 1,.int .i64 lq,.slice aq L.length cq,.slice ad ai.length cd,.int .i64 Y] 77 (0,0))) (λ_ vi _=>L.length-(intOf vi).toNat)
       case atStart=>exact⟨0,aO,cO,C,an _,rfl,rfl,bx.o,by simp,X3.o⟩
       case round=>
        obtain⟨j,E,F,b,hj,rfl,rfl,A,aj,hX⟩:=hrel;have v:=ix A;have X4:=ix hX;have a5:=ix aj;have P4:=ix (PI.o _ A.b);obtain⟨R,T,U,V,X⟩:=i6 hX
        have a4:Hid (b.length<=524296):=by
         show _<=_;have h1:=bf List.length aj;rw[af,i7,i7,bM,dm] at h1;have:=bs.o;omega
        clear A hX aj;by_cases ao:j<L.length
        . have bL:(j:Int)<(L.length:Int):=by omega
          have hj0:(0:Int)<=(j:Int):=by omega
          obtain⟨b1,o1,rfl,hr⟩:=P4.o.it.at ao;obtain⟨k0,k1,k2,k3⟩:=jn hr;have aD:=P4.o.it.1 _ (iH ao);have aW:=bz.o _ (iH ao)
          have PX:Hid (p.items.take (j+1)=p.items.take j++[(L.getD j Iv.zero).it]):=by
           show _=_;rw[Z.o,bZ (by rw[bM];exact ao)]
           simp[ao]
          have bG:L.getD j Iv.zero=L.getD j Iv.zero:=rfl;obtain⟨x,B⟩:∃x,L.getD j Iv.zero=x:=⟨_,rfl⟩;rw[B] at aD aW PX k0 k1 k2 k3;clear B bG hr;have LO:=ix (yF wr (.pointer (some ⟨rb,0,none⟩)) (rdR D) ((HR.o.keep v.o.b).reads) x aD);have XI:=ix aD;have X0:=ix aW;clear aD aW;obtain⟨aE,aF,r,aX,aY,a2,a0,a1⟩:=x;unfold Iv.vl at LO;simp only[Iv.cs] at LO;go_wp2_with fail
          refine LO.o.mono ?_;rintro _ w4 (⟨bH,_⟩|⟨_,aV,cV,rfl,J,h8⟩)
          . exact absurd X0.o.1 bH
          obtain⟨vv,aC⟩:∃br,(ldv (rdR D) ⟨aE,aF,r,aX,aY,a2,a0,a1⟩).2=br:=⟨_,rfl⟩
          have PO:Hid (jQ (rdR D) (⟨aE,aF,r,aX,aY,a2,a0,a1⟩:Iv).it=(r,vv)):=by
           show(r,(ldv (rdR D) ⟨aE,aF,r,aX,aY,a2,a0,a1⟩).2)=_;rw[aC]
          rw[aC] at J h8;simp only[aC];clear aC;have OV:=ix J;have V8:=ix h8;have X5:=ix (iJ X4.o J.b);have kk:=(J.b.cell (p:=⟨b1,o1+j*4,none⟩) (block_lt_of_cell k0)).trans k0;have CB:=ix (j9 w4 aE r.length aF r (XI.o.bk.keep J.b) rfl (by have:=X0.o.2;omega))
          clear J h8 k0 k1 k2 k3 R T U V X LO;obtain⟨R,T,U,V,X⟩:=i6 X5.o;go_wp2_with fail
          refine CB.o.mono ?_;rintro _ w6 ⟨aK,cK,rfl,hK⟩;have OK:=ix hK;have X6:=ix (iJ X5.o hK.b);clear hK CB R T U V X kk;have A7:=ix (al w6 (.cells #[.slice aK r.length cK,.slice aV vv.length cV] 45));have Y7:=ix (ag w6 (.cells #[.slice aK r.length cK,.slice aV vv.length cV] 45));have B6:=ix (bt (bt OV.o.b OK.o.b) A7.o);have G7:=ix (v.o.keep B6.o);have aS:b.length+1<=maxLen:=by have:=a4.o;unfold maxLen;omega
          have bN:(b.length+1)*48<=140737488355328:=by have:=a4.o;omega
          go_wp2_with (at_builtin;refine jq underlying60 pa rfl (by decide) rfl _ _ rfl E b.length F (prv b) rfl G7.o.o.row ⟨w6.heap.size,0,none⟩ 1 [.slice aK r.length cK,.slice aV vv.length cV] rfl rfl (wj Y7.o) (λbq hu=>by simp only[bQ,cf,fY] at hu;rcases hu with rfl|rfl<;>rfl) aS bN ?_)
          intro g5 c5 w7 hG P hB
          have I7:=ix (v.o.tell (K:=⟨aK,cK,r⟩) (Vl:=⟨aV,cV,vv⟩) ⟨((OK.o.pre OV.o.b).keep A7.o),(XI.o.bk).1⟩ ⟨((OV.o.keep OK.o.b).keep A7.o),V8.o⟩ (λa3 z hy hz e=>by
           have h1:=OK.o.fresh hy;have h2:=OV.o.r.lt hz;omega) B6.o hG P hB)
          have X7:=ix (hB.same (iJ X6.o A7.o) (λ⟨a3,hy,e⟩=>by
           obtain⟨cu,h3⟩:=kh G7.o.o.row hy;rw[e,iJ X6.o A7.o] at h3;simp only[au,eK] at h3;exact absurd h3.2.1 (by decide)))
          clear hG P hB A7 Y7 G7 B6;go_wp2_with fail
          go_roundw
          case rel=>exact⟨j+1,some ⟨g5,0,none⟩,c5,b++[(⟨aK,cK,r⟩,⟨aV,cV,vv⟩)],by omega,by first|(go_num;done)|exact bf (Value.int IntKind.i64) (by omega),by simp,I7.o,by rw[uQ,a5.o,PX.o,dy,List.map_singleton,PO.o,aR],X7.o⟩
          case measure=>(simp[intOf];omega)
        . have bF:j=L.length:=by omega
          subst bF;have FR:=ix (ay.o E F b wr v.o (by rw[a5.o,eU (by rw[Z.o,bM];exact am _)]))
          have bL:¬(L.length:Int)<(L.length:Int):=by omega
          go_wp2_with fail
          go_roundw
          case rel=>exact⟨M-1,FR.o⟩
          case measure=>exact wk FR.o EX.o (λk hk=>by have:=aw.o k hk;have:=aQ.o;omega)
end Go.Proofs.YteaogidofpfmmaaGreat
namespace Go.Proofs.YteaogidofpfmmaaGreat
open Go.Proofs.Tryz
open Go.RowKit Go.Shelf
attribute [local go_sem] Oper.semAt_some
theorem jM{gf:Nat}{lb:Array Value}(eg:∀args w,(callFunc gf args).run prog w=.ok (.enter gf args) w){w0 w:World}{X:Nat->Prop}{Fin:List (List Nat×List Nat)×Nat->Prop}{B:Nat}(hB:B<=1048576)
 (aG:mh prog gf lb Yl.ystp (EnR Yl (λc=>c.1.length) B) (λ_=>False) (λ_ _=>True) ([],0) Fin w0 X) (au:But (λk=>¬X k) w0 w) (ax:∀k,X k->k<w.heap.size):
 Calls prog 56 #[.func (.func gf) #[] lb] w λe w'=>Below w.heap.size w w'/\∃s,Fin s/\CoR w w' e s:=by
 have EG:=ix eg;have SQ:=ix aG;have XW:=ix ax;clear eg aG ax;refine(dc (n:=0)).1 ?_;refine dM func56 rfl trivial ?_ rfl;simp only[ntmps56,cR,a7,bg,Nat.reduceAdd,Nat.reduceSub,cx,cM,dg,c7,b9,b7];refine d6.2 ?_;go_wp2_with fail
 obtain⟨aW,hU,I0,A,sU⟩:=By w;rw[hU];have I0:=ix I0;have A:=ix A;have X0:=ix (au.andBelow A.o);clear hU au;refine(d6 (n:=0)).1 ?_
 refine jX (gf:=gf) (lb:=lb) rfl EG.o SQ.o X0.o (λk hk=>a6 (XW.o k hk) A.o.size)
  (by rintro s W0 W1 aU Z er P (⟨K,aq,rfl,_⟩|⟨e,rfl,_⟩)<;>rfl)
  (λk=>k=w.heap.size\/k=w.heap.size+1\/k=w.heap.size+2) (λk hk i=>by have:=XW.o k i;omega) (CoI w.heap.size) (λc F s W=>c=.ret/\CoX w.heap.size F s W)
  (λF s am B h hb=>h.but hb (λk hk e=>e.1 hk))
  (λF s am h=>h.siz)
  (λc F s am B h hb=>⟨h.1,h.2.but hb (λk hk e=>e.1 hk)⟩)
  (λc F s am h=>h.2.1)
  (λF s W h=>⟨trivial,λk h=>h.elim⟩)
  I0.o ?round ?done ?stop
 case round=>
  rintro l F s W0 W aU Z er P hI aF aS ao aZ aY av a0 a1 aX ⟨r0,aB⟩;have aw:=ix (hI.but aF (λk _ h=>h))
  have a9:=aF.size;clear hI;rcases aS with⟨K,aq,rfl,hK,hK8,hV,hV8,hKV,hs',rfl,hcn,hGe⟩|⟨e,rfl,he,hs',rfl,hGe⟩
  . have u:=ix hs';have CN:=ix hcn;have aJ:=ix hKV;have GE:=ix hGe;have aI:=ix hK8;have aN:=ix hV8;have aH:=ix ao;clear hs' hcn hKV hGe hK8 hV8 ao;obtain⟨d,q,t⟩:=K;obtain⟨f,r,v⟩:=aq;have HK:=ix hK;have HV:=ix hV;clear hK hV;simp only at HK HV u GE ⊢
    have KL:Hid (∀k,((∃x,d=some x/\x.block=k)\/∃x,f=some x/\x.block=k)->¬k=l):=ix (λk hk e=>by
     subst e;rcases hk with⟨x,i,e⟩|⟨x,i,e⟩
     . obtain⟨aO,hc⟩:=HK.o.blk i;rw[e,aB] at hc;cases hc
     . obtain⟨aO,hc⟩:=HV.o.blk i;rw[e,aB] at hc;cases hc)
    gi_wp2
    refine⟨al _ _,λb H r4 aT=>?_⟩
    have aa:=al W (.cells #[.slice d t.length q,.slice f v.length r] 45);have aD:=ag W (.cells #[.slice d t.length q,.slice f v.length r] 45);have a5:=size_alloc W (.cells #[.slice d t.length q,.slice f v.length r] 45);generalize W.alloc (.cells #[.slice d t.length q,.slice f v.length r] 45)=V3 at *;have a2:=H.size;have aP:∀x,d=some x->¬x.block=l:=λx i e=>KL.o x.block (.inl ⟨x,i,rfl⟩) e
    have aQ:∀x,f=some x->¬x.block=l:=λx i e=>KL.o x.block (.inr ⟨x,i,rfl⟩) e
    have B4:=ix ((But.ofBelow (S:=λk=>k=l) aa).trans H (λ_ _ e=>e))
    have x4:=H.same aD (λe=>by have e:W.heap.size=l:=e;omega)
    have I4:=ix (aw.o.but B4.o (λk hk e=>by have e:k=l:=e;rw[e] at hk;exact av hk))
    have k0:b.cell? ⟨W.heap.size,0,none⟩=some (.slice d t.length q):=by rw[ai _ _ _ _ _ _ x4];rfl
    have k1:b.cell? ⟨W.heap.size,1,none⟩=some (.slice f v.length r):=by rw[ai _ _ _ _ _ _ x4];rfl
    clear aD aa H x4
    have O:Hid (∃(a:Option Addr)(m c:Nat)(aj:List Value),b.cell? ⟨w.heap.size+2,0,none⟩=some (.slice a m c)/\m<1048576/\Q.Gw 45 2 (b.alloc (.cells #[.slice d t.length q,.slice f v.length r] 45)) a c m aj/\
     ∀g I G,Q.Gw 45 2 G (some ⟨g,0,none⟩) I (m+1) (aj++[.slice d t.length q,.slice f v.length r])->New (b.alloc (.cells #[.slice d t.length q,.slice f v.length r] 45)) a (some ⟨g,0,none⟩)->But (Q.InA a) (b.alloc (.cells #[.slice d t.length q,.slice f v.length r] 45)) G->
      G.cell? ⟨w.heap.size+2,0,none⟩=some (.slice a m c)/\G.frozen? ⟨w.heap.size+2,0,none⟩=false/\
      ∃J:Nat->Prop,But (λk=>F k\/P k) b (G.setCell ⟨w.heap.size+2,0,none⟩ (.slice (some ⟨g,0,none⟩) (m+1) I))/\(∀k,J k->F k\/P k\/W.heap.size<=k)/\(false=false->Yl.ystp Z=false)/\CoI w.heap.size J Z (G.setCell ⟨w.heap.size+2,0,none⟩ (.slice (some ⟨g,0,none⟩) (m+1) I))):=ix (by
     obtain⟨a,c,C,E,h2,L,H,h5,j,R⟩:=I4.o;have cn:(prl C).length<B:=by have:=CN.o;rw[L] at this;exact this
     rw[i7] at cn;have ab:=al b (.cells #[.slice d t.length q,.slice f v.length r] 45);have a8:=size_alloc b (.cells #[.slice d t.length q,.slice f v.length r] 45);refine⟨a,C.length,c,prv C,by rw[ai _ _ _ _ _ _ j];rfl,by omega,h2.row.keep ab,λg I G hR hN Y=>?_⟩
     generalize b.alloc (.cells #[.slice d t.length q,.slice f v.length r] 45)=V5 at *;have Y:But (Q.InA a) V5 G:=Y;have nA:∀k,Q.InA a k->w.heap.size+2<k:=λk ⟨x,i,e⟩=>R k (.inl ⟨x,i,e⟩)
     have b5:But (Q.InA a) b G:=(But.ofBelow (S:=Q.InA a) ab).trans Y (λ_ _ h=>h)
     have n4:=b5.same H (λh=>by have:=nA _ h;omega)
     have n5:=b5.same h5 (λh=>by have:=nA _ h;omega)
     have n6:=b5.same j (λh=>by have:=nA _ h;omega)
     have gb:w.heap.size+2<g/\(F g\/b.heap.size<=g):=by
      rcases hN ⟨g,0,none⟩ rfl with⟨y,hy,e⟩|h
      . have e:y.block=g:=e;exact⟨nA g ⟨y,hy,e⟩,.inl ((E g).2 (.inr (.inr (.inr (.inl ⟨y,hy,e⟩)))))⟩
      . have h:V5.heap.size<=g:=h;have l6:=(ae.1 j).1;exact⟨by omega,.inr (by omega)⟩
     have b6:But (λk=>k=w.heap.size+2) G (G.setCell ⟨w.heap.size+2,0,none⟩ (.slice (some ⟨g,0,none⟩) (C.length+1) I)):=(But.refl (λk=>k=w.heap.size+2) G).setCell (p:=⟨w.heap.size+2,0,none⟩) (λ_=>rfl) _
     have N:∀k,((∃x,d=some x/\x.block=k)\/∃x,f=some x/\x.block=k)->¬F k/\w.heap.size+2<k/\k<W.heap.size/\P k:=λk hk=>by
      have ay:=(GE.o k).2 hk;have:=aH.o k ay;exact⟨this.1,by omega,this.2.2,ay⟩
     have PP:Prs G (some ⟨g,0,none⟩) I (C++[(⟨d,q,t⟩,⟨f,r,v⟩)]):=(h2.keep5 ab).app (K:=⟨d,q,t⟩) (Vl:=⟨f,r,v⟩) ⟨(HK.o.but B4.o (λx i e=>by have e:x.block=l:=e;have:=(N x.block (.inl ⟨x,i,rfl⟩)).1;exact aP x i e)).keep ab,aI.o⟩ ⟨(HV.o.but B4.o (λx i e=>aQ x i e)).keep ab,aN.o⟩ aJ.o (λk hk=>⟨λh=>(N k (.inl h)).1 ((E k).2 (.inr (.inr (.inr hk)))),λh=>(N k (.inr h)).1 ((E k).2 (.inr (.inr (.inr hk))))⟩) hR Y
     have P6:Prs (G.setCell ⟨w.heap.size+2,0,none⟩ (.slice (some ⟨g,0,none⟩) (C.length+1) I)) (some ⟨g,0,none⟩) I (C++[(⟨d,q,t⟩,⟨f,r,v⟩)]):=PP.but b6 (λk hk e=>by
      have e:k=w.heap.size+2:=e;rcases oI.1 hk with⟨x,i,M⟩|h|h|h
      . cases i;have M:g=k:=M;omega
      . have:=R k (.inr h);omega
      . have:=(N k (.inl h)).2.1;omega
      . have:=(N k (.inr h)).2.1;omega)
     have hs:Z=(prl (C++[(⟨d,q,t⟩,⟨f,r,v⟩)]),0):=by rw[u.o,L,uQ];rfl
     refine⟨by rw[ai _ _ _ _ _ _ n6];rfl,bq G (w.heap.size+2) 0 _ _ n6,λk=>k=w.heap.size\/k=w.heap.size+1\/k=w.heap.size+2\/prO (some ⟨g,0,none⟩) (C++[(⟨d,q,t⟩,⟨f,r,v⟩)]) k,?_,?_,λ_=>by rw[hs];rfl,some ⟨g,0,none⟩,I,_,λk=>dT,P6,hs,b6.same n4 (λe=>by have e:w.heap.size=w.heap.size+2:=e;omega),b6.same n5 (λe=>by have e:w.heap.size+1=w.heap.size+2:=e;omega),by rw[af];exact aE G (w.heap.size+2) 0 _ _ _ n6,?_⟩
     . exact(b5.mono (T:=λk=>F k\/P k) λk _ ⟨x,i,e⟩=>.inl ((E k).2 (.inr (.inr (.inr (.inl ⟨x,i,e⟩)))))).trans b6 (λk _ e=>.inl ((E k).2 (.inr (.inr (.inl e)))))
     . rintro k (h|h|h|h)
       . exact .inl ((E k).2 (.inl h))
       . exact .inl ((E k).2 (.inr (.inl h)))
       . exact .inl ((E k).2 (.inr (.inr (.inl h))))
       . rcases oI.1 h with⟨x,i,M⟩|h|h|h
         . cases i;have M:g=k:=M;rw[<-M];rcases gb.2 with h|h
           . exact .inl h
           . exact .inr (.inr (by omega))
         . exact .inl ((E k).2 (.inr (.inr (.inr (.inr h)))))
         . exact .inr (.inl (N k (.inl h)).2.2.2)
         . exact .inr (.inl (N k (.inr h)).2.2.2)
     . intro k h;rcases oI.1 h with⟨x,i,M⟩|h|h|h
       . cases i;have M:g=k:=M;omega
       . exact R k (.inr h)
       . exact(N k (.inl h)).2.1
       . exact(N k (.inr h)).2.1)
    have NC:Hid (∀an ak,([.slice d t.length q,.slice f v.length r]:List Value)[an]?=some ak->(b.alloc (.cells #[.slice d t.length q,.slice f v.length r] 45)).cell? ((⟨b.heap.size,0,none⟩:Addr).add an)=some ak):=ix (λan ak hu=>by
     rw[Addr.add_mid,de,ai _ _ _ _ _ _ (ag b (.cells #[.slice d t.length q,.slice f v.length r] 45)),<-hu];simp)
    obtain⟨a,m,c,aj,o4,hm,G5,FN⟩:=O.o;have HM:=ix hm;have G5:=ix G5;have FN:=ix FN;clear hm O;have aA:m+1<=maxLen:=by have:=HM.o;unfold maxLen;omega
    have az:(m+1)*48<=140737488355328:=by have:=HM.o;omega
    have aM:=ix aA;have aL:=ix az;clear aA az;gi_wp2_with (refine uN underlying60 pa rfl (by decide) rfl _ _ rfl a m c aj (by simp[Act.eval]) G5.o ⟨b.heap.size,0,none⟩ 1 [.slice d t.length q,.slice f v.length r] (by simp[Act.eval]) rfl NC.o (λak hu=>by simp only[bQ,cf,fY] at hu;rcases hu with rfl|rfl<;>rfl) aM.o aL.o ?_;intro g I G hR hN Y;obtain⟨f5,f6,f7⟩:=FN.o g I G hR hN Y;have F7:=ix f7;clear f7 hR hN Y FN)
    obtain⟨J,q1,q2,q3,q4⟩:=F7.o;exact⟨J,q1,q2,λ_=>q3 trivial,q4⟩
  . have u:=ix hs';have HE:=ix he;clear hs' hGe ao;simp only at u ⊢;gi_wp2
    refine⟨al _ _,λb H aT=>?_⟩
    have aa:=al W (.cells #[.slice none 0 0,.slice none 0 0] 45);generalize W.alloc (.cells #[.slice none 0 0,.slice none 0 0] 45)=V3 at *;have B4:=ix ((But.ofBelow (S:=λk=>k=l) aa).trans H (λ_ _ e=>e))
    have I4:=ix (aw.o.but B4.o (λk hk e=>by have e:k=l:=e;rw[e] at hk;exact av hk))
    clear aa H
    have O:Hid (b.cell? ⟨w.heap.size,0,none⟩=some (.slice none 0 0)/\b.frozen? ⟨w.heap.size,0,none⟩=false/\(b.setCell ⟨w.heap.size,0,none⟩ (.slice none 0 0)).cell? ⟨w.heap.size+1,0,none⟩=some (.int .i64 0)/\(b.setCell ⟨w.heap.size,0,none⟩ (.slice none 0 0)).frozen? ⟨w.heap.size+1,0,none⟩=false/\
     ∃J:Nat->Prop,But (λk=>F k\/P k) b ((b.setCell ⟨w.heap.size,0,none⟩ (.slice none 0 0)).setCell ⟨w.heap.size+1,0,none⟩ (.int .i64 (e:Int)))/\(∀k,J k->F k\/P k\/W.heap.size<=k)/\Yl.ystp Z=true/\CoX w.heap.size J Z ((b.setCell ⟨w.heap.size,0,none⟩ (.slice none 0 0)).setCell ⟨w.heap.size+1,0,none⟩ (.int .i64 (e:Int)))):=ix (by
     have sz:=I4.o.siz;obtain⟨a,c,C,E,h2,L,H,h5,j,R⟩:=I4.o;have c1:But (λk=>k=w.heap.size) b (b.setCell ⟨w.heap.size,0,none⟩ (.slice none 0 0)):=(But.refl (λk=>k=w.heap.size) b).setCell (p:=⟨w.heap.size,0,none⟩) (λ_=>rfl) _
     have x1:=aE b w.heap.size 0 _ _ (.slice none 0 0) H;have U:=c1.same h5 (λe=>by have e:w.heap.size+1=w.heap.size:=e;omega)
     have c2:But (λk=>k=w.heap.size+1) (b.setCell ⟨w.heap.size,0,none⟩ (.slice none 0 0)) ((b.setCell ⟨w.heap.size,0,none⟩ (.slice none 0 0)).setCell ⟨w.heap.size+1,0,none⟩ (.int .i64 (e:Int))):=(But.refl (λk=>k=w.heap.size+1) _).setCell (p:=⟨w.heap.size+1,0,none⟩) (λ_=>rfl) _
     have y2:=aE _ (w.heap.size+1) 0 _ _ (.int .i64 (e:Int)) U;have bb:=(c1.mono (T:=F) λk _ e=>(E k).2 (.inl e)).trans c2 (λk _ e=>(E k).2 (.inr (.inl e)))
     have aC:Z.2=e:=by rw[u.o];rfl
     refine⟨by rw[ai _ _ _ _ _ _ H];rfl,bq b w.heap.size 0 _ _ H,by rw[ai _ _ _ _ _ _ U];rfl,bq _ (w.heap.size+1) 0 _ _ U,F,bb.ing,λk hk=>.inl hk,by rw[u.o];exact rC _ _ HE.o,λk hk=>a6 (sz k hk) bb.size,(E _).2 (.inl rfl),(E _).2 (.inr (.inl rfl)),by rw[aC];exact HE.o,c2.same x1 (λe=>by have e:w.heap.size=w.heap.size+1:=e;omega),by rw[aC];exact y2⟩)
    obtain⟨f1,f2,f3,f4,f5⟩:=O.o;have F5:=ix f5;have a3:((e:Int)==0)=false:=by simp[HE.o]
    have a4:¬(e:Int)=0:=by have:=HE.o;omega
    clear f5 O;gi_wp2
    obtain⟨J,q1,q2,q3,q4⟩:=F5.o;exact⟨J,q1,q2,q3,rfl,q4⟩
 case done=>
  rintro D F s W hD V hI ah ac hF ad;have ap:=ix ah
  have O:Hid (∃(a:Option Addr)(m c:Nat),W.cell? ⟨w.heap.size+2,0,none⟩=some (.slice a m c)/\W.cell? ⟨w.heap.size,0,none⟩=some (.slice none 0 0)/\W.frozen? ⟨w.heap.size,0,none⟩=false/\(W.setCell ⟨w.heap.size,0,none⟩ (.slice a m c)).cell? ⟨w.heap.size+1,0,none⟩=some (.int .i64 0)/\(W.setCell ⟨w.heap.size,0,none⟩ (.slice a m c)).frozen? ⟨w.heap.size+1,0,none⟩=false/\
   ((W.setCell ⟨w.heap.size,0,none⟩ (.slice a m c)).setCell ⟨w.heap.size+1,0,none⟩ (.int .i64 0)).heap[D]?=some (.deferred (some []))/\
   (((W.setCell ⟨w.heap.size,0,none⟩ (.slice a m c)).setCell ⟨w.heap.size+1,0,none⟩ (.int .i64 0)).putObj D (.deferred none)).cell? ⟨w.heap.size,0,none⟩=some (.slice a m c)/\
   (((W.setCell ⟨w.heap.size,0,none⟩ (.slice a m c)).setCell ⟨w.heap.size+1,0,none⟩ (.int .i64 0)).putObj D (.deferred none)).cell? ⟨w.heap.size+1,0,none⟩=some (.int .i64 0)/\
   Below w.heap.size w (((W.setCell ⟨w.heap.size,0,none⟩ (.slice a m c)).setCell ⟨w.heap.size+1,0,none⟩ (.int .i64 0)).putObj D (.deferred none))/\
   ∀e:Ending,e=.returned (.tuple #[.slice a m c,.int .i64 0])->CoR w (((W.setCell ⟨w.heap.size,0,none⟩ (.slice a m c)).setCell ⟨w.heap.size+1,0,none⟩ (.int .i64 0)).putObj D (.deferred none)) e s):=ix (by
   obtain⟨a,c,C,E,h2,L,H,h5,j,R⟩:=hI;have nD:D≠w.heap.size/\D≠w.heap.size+1:=⟨λe=>V ((E D).2 (.inl e)),λe=>V ((E D).2 (.inr (.inl e)))⟩
   have c1:But (λk=>k=w.heap.size) W (W.setCell ⟨w.heap.size,0,none⟩ (.slice a C.length c)):=(But.refl (λk=>k=w.heap.size) W).setCell (p:=⟨w.heap.size,0,none⟩) (λ_=>rfl) _
   have x1:=aE W w.heap.size 0 _ _ (.slice a C.length c) H;have U:=c1.same h5 (λe=>by have e:w.heap.size+1=w.heap.size:=e;omega)
   have c2:But (λk=>k=w.heap.size+1) (W.setCell ⟨w.heap.size,0,none⟩ (.slice a C.length c)) ((W.setCell ⟨w.heap.size,0,none⟩ (.slice a C.length c)).setCell ⟨w.heap.size+1,0,none⟩ (.int .i64 0)):=(But.refl (λk=>k=w.heap.size+1) _).setCell (p:=⟨w.heap.size+1,0,none⟩) (λ_=>rfl) _
   have x2:=c2.same x1 (λe=>by have e:w.heap.size=w.heap.size+1:=e;omega)
   have y2:=aE _ (w.heap.size+1) 0 _ _ (.int .i64 0) U;have d2:=c2.same (c1.same ad nD.1) nD.2;have c3:=(But.refl (λk=>k=D) ((W.setCell ⟨w.heap.size,0,none⟩ (.slice a C.length c)).setCell ⟨w.heap.size+1,0,none⟩ (.int .i64 0))).putObj (λ_=>rfl) (.deferred none)
   have x3:=c3.same x2 (λe=>nD.1 e.symm)
   have y3:=c3.same y2 (λe=>nD.2 e.symm)
   have bb:=((c1.mono (T:=λk=>k=w.heap.size\/k=w.heap.size+1\/k=D) λk _ e=>.inl e).trans c2 (λk _ e=>.inr (.inl e))).trans c3 (λk _ e=>.inr (.inr e))
   refine⟨a,C.length,c,by rw[ai _ _ _ _ _ _ j];rfl,by rw[ai _ _ _ _ _ _ H];rfl,bq W w.heap.size 0 _ _ H,by rw[ai _ _ _ _ _ _ U];rfl,bq _ (w.heap.size+1) 0 _ _ U,d2,by rw[ai _ _ _ _ _ _ x3];rfl,by rw[ai _ _ _ _ _ _ y3];rfl,?_,λe he=>.inr ⟨by rw[L],a,c,C,he,h2.but bb (λk hk e=>?_),by rw[L],λk hk=>by have:=R k hk;omega⟩⟩
   . exact(((But.ofBelow (S:=λk=>w.heap.size<=k) A.o).trans (ac.mono (T:=λk=>w.heap.size<=k) λk _ e=>by rcases e with e|e|e<;>omega) (λ_ _ e=>e)).trans (bb.mono (T:=λk=>w.heap.size<=k) λk _ e=>by rcases e with e|e|e<;>omega) (λ_ _ e=>e)).below (λk hk e=>by omega)
   . have:=R k hk;rcases e with e|e|e
     . omega
     . omega
     . exact V ((E D).2 (.inr (.inr (.inr (e▸hk))))))
  obtain⟨a,m,c,f1,f2,f3,f4,f5,f6,f7,f8,f9,ar⟩:=O.o;have F6:=ix f6;have F7:=ix f7;have F8:=ix f8;have F9:=ix f9;have FT:=ix ar;clear hI f6 f7 f8 f9 ar O ah ac hF ad;go_wp2_with fail
  refine⟨by simp,.inl ⟨_,_,rfl,cw F6.o,?_⟩⟩
  exact⟨_,qW results56 _ _ w.heap.size (w.heap.size+1) _ _ rfl rfl (rP _ _ _ F7.o) (jG _ _ _ F8.o),F9.o,s,ap.o,FT.o _ rfl⟩
 case stop=>
  rintro D c F s W hD V ⟨rfl,aR⟩ ah ac hF ad;have ap:=ix ah;obtain⟨g1,g2,g3,g4,g5,g6⟩:=aR;have bD:=(But.refl (λk=>k=D) W).putObj (λ_=>rfl) (.deferred none)
  have x5:=bD.same g5 (λe=>V (by have e:w.heap.size=D:=e;rw[<-e];exact g2))
  have x6:=bD.same g6 (λe=>V (by have e:w.heap.size+1=D:=e;rw[<-e];exact g3))
  have F7:Hid ((W.putObj D (.deferred none)).cell? ⟨w.heap.size,0,none⟩=some (.slice none 0 0)):=ix (by rw[ai _ _ _ _ _ _ x5];rfl)
  have F8:Hid ((W.putObj D (.deferred none)).cell? ⟨w.heap.size+1,0,none⟩=some (.int .i64 (s.2:Int))):=ix (by rw[ai _ _ _ _ _ _ x6];rfl)
  have F9:Hid (Below w.heap.size w (W.putObj D (.deferred none))):=ix ((((But.ofBelow (S:=λk=>w.heap.size<=k) A.o).trans (ac.mono (T:=λk=>w.heap.size<=k) λk _ e=>by rcases e with e|e|e<;>omega) (λ_ _ e=>e)).trans (bD.mono (T:=λk=>w.heap.size<=k) λk _ e=>by have e:k=D:=e;omega) (λ_ _ e=>e)).below (λk hk e=>by omega))
  have KD:=ix ad;have G4:=ix g4;clear g1 g2 g3 g4 g5 g6 bD x5 x6 ah ac hF ad;gi_wp2
  refine⟨by simp,.inl ⟨_,_,rfl,cw KD.o,?_⟩⟩
  exact⟨_,qW results56 _ _ w.heap.size (w.heap.size+1) _ _ rfl rfl (rP _ _ _ F7.o) (jG _ _ _ F8.o),F9.o,s,ap.o,.inl ⟨G4.o,rfl⟩⟩
theorem oD(w:World)(j k l m:Obj):∃U:World,(((w.alloc j).alloc k).alloc l).alloc m=U/\U.heap[w.heap.size]?=some j/\U.heap[w.heap.size+1]?=some k/\U.heap[w.heap.size+2]?=some l/\U.heap[w.heap.size+3]?=some m/\Below w.heap.size w U/\U.heap.size=w.heap.size+4:=by
 obtain⟨a,f⟩:∃U,w.alloc j=U:=⟨_,rfl⟩;obtain⟨b,g⟩:∃U,a.alloc k=U:=⟨_,rfl⟩;obtain⟨c,h⟩:∃U,b.alloc l=U:=⟨_,rfl⟩;obtain⟨d,i⟩:∃U,c.alloc m=U:=⟨_,rfl⟩;have q:a.heap.size=w.heap.size+1:=by rw[<-f,size_alloc]
 have r:b.heap.size=w.heap.size+2:=by rw[<-g,size_alloc,q]
 have s:c.heap.size=w.heap.size+3:=by rw[<-h,size_alloc,r]
 have v:d.heap.size=w.heap.size+4:=by rw[<-i,size_alloc,s]
 have t:Below w.heap.size w a:=by rw[<-f];exact al _ _
 have p:Below a.heap.size a b:=by rw[<-g];exact al _ _
 have n:Below b.heap.size b c:=by rw[<-h];exact al _ _
 have e:Below c.heap.size c d:=by rw[<-i];exact al _ _
 have x:a.heap[w.heap.size]?=some j:=by rw[<-f];exact ag _ _
 have y:b.heap[w.heap.size+1]?=some k:=by rw[<-q,<-g];exact ag _ _
 have A:c.heap[w.heap.size+2]?=some l:=by rw[<-r,<-h];exact ag _ _
 have B:d.heap[w.heap.size+3]?=some m:=by rw[<-s,<-i];exact ag _ _
 exact⟨d,by rw[f,g,h,i],((bt (bt p n) e).block _ (by omega)).trans x,((bt n e).block _ (by omega)).trans y,(e.block _ (by omega)).trans A,B,bt (bt (bt t p) n) e,v⟩
def PrM(w w':World)(b:Nat)(root height items:Int)(r:Rv)(ov:Int):Prop:=
 w'.cell? ⟨w.heap.size,0,none⟩=some (.pointer (some ⟨b,0,none⟩))/\w'.heap[w.heap.size+1]?=some (.cells #[.int .i64 root,.int .i64 height,.int .i64 items] 34 (0,0))/\w'.heap[w.heap.size+2]?=some (.cells r.cs 62 (0,0))/\w'.cell? ⟨w.heap.size+3,0,none⟩=some (.int .i64 ov)/\Below w.heap.size w w'/\w'.heap.size=w.heap.size+4
theorem jI(w:World)(b:Nat)(root d c:Int)(r:Rv)(a:Int):
 Calls prog 47 #[.pointer (some ⟨b,0,none⟩),.agg #[.int .i64 root,.int .i64 d,.int .i64 c],r.val,.int .i64 a] w λe p=>
  e=.returned (.func (.func 86) #[] #[.pointer (some ⟨w.heap.size+1,0,none⟩),.pointer (some ⟨w.heap.size+2,0,none⟩),.pointer (some ⟨w.heap.size,0,none⟩),.pointer (some ⟨w.heap.size+3,0,none⟩)])/\PrM w p b root d c r a:=by
 obtain⟨U,i,k,l,m,n,g,j⟩:=oD w (.cells #[.pointer (some ⟨b,0,none⟩)] 28) (.cells #[.int .i64 root,.int .i64 d,.int .i64 c] 34) (.cells r.cs 62) (.cells #[.int .i64 a] 104);have M:Hid (PrM w U b root d c r a):=ix ⟨by rw[ai _ _ _ _ _ _ k];rfl,l,m,by rw[ai _ _ _ _ _ _ n];rfl,g,j⟩
 have f:=ix i;clear i k l m n g j;unfold Rv.val;simp only[Rv.cs] at f ⊢;go_enter func47,ntmps47;go_wp2;go_ret;refine⟨rfl,?_⟩;have h:=M.o;rw[<-f.o] at h;exact h
theorem kZ{τ:Type}(Y:Yc τ)(n:τ->Nat)(B:Nat)(w:World)(c t2 t3 t4:Nat)
 (j:w.heap[c]?=some (.cells #[.int .i64 0,.int .i64 0,.int .i64 0] 34 (0,0))) (X:Nat->Prop) (q:X c) (b:τ):
 mh prog 86 #[.pointer (some ⟨c,0,none⟩),.pointer (some ⟨t2,0,none⟩),.pointer (some ⟨t3,0,none⟩),.pointer (some ⟨t4,0,none⟩)] Y.ystp (EnR Y n B) (λ_=>False) (λ_ _=>True) b (λs=>s=b) w X:=by
 intro l J C W d i p f t x A y r g;have e:=i.same j (λh=>h q)
 have a:=al W (.cells #[.func (.yield l) #[] #[]] 165);obtain⟨c1,c2,c3⟩:=je ((a.block c (ae.1 e).1).trans e);have v:=ix (f d b W _ g (But.ofBelow a));have m:=ix (But.ofBelow (S:=d) a);clear i j p f t x A y r g a e;refine dM func86 rfl trivial ?_ rfl;simp only[ntmps86,cR,a7,bg,Nat.reduceAdd,Nat.reduceSub,cx,cM,dg,c7,b9,b7];refine d6.2 ?_;go_upto_region 1 with fail
 refine wp_scope_straight ?_;have D:((decide ((0:Int)=0)&&(decide ((0:Int)=0)&&decide ((0:Int)=0))))=true:=rfl;go_wp2;exact⟨_,co rfl _ _ _,d,b,⟨_,rfl⟩,m.o,λk hk=>.inl hk,rfl,.inl v.o⟩
theorem vG(w:World)(b:Nat)(rd:Int->Option Pg)(E:iF rd)(N:Nat)(F:jx rd N)(af:N<=65536)(n:Nat->Prop)(g:i9 52 (.pointer (some ⟨b,0,none⟩)) rd n w)(G:∀k,n k->k<w.heap.size)(root d j:Int)(h2:1<=d)(h3:d<=12)(r:Rv)(S:Ri w r)(P:Rb r)(T:∀k,i5 r k->k<w.heap.size):
 Calls prog 26 #[.pointer (some ⟨b,0,none⟩),.agg #[.int .i64 root,.int .i64 d,.int .i64 j],r.val] w λe O=>Below w.heap.size w O/\CoR w O e (iE (prM Yl rd r.rg true) rd (iU r.rg) true (d-1).toNat ⟨[],([],0)⟩ (ja root d)).c:=by
 have m:=ix (λ(W:World)=>jI W b root d j r 0)
 obtain⟨v,x,i,s0⟩:=iS w (.cells #[.int .i64 root,.int .i64 d,.int .i64 j] 34) (.cells r.cs 62) (Below.refl _ _);have i:=ix i;have Y:=ix g;have Z:=ix G;have ac:=ix S;have ab:=ix P;have ad:=ix T;have V:=ix E;have X:=ix F;clear g G S P T E F;unfold Rv.val at m ⊢;simp only[Rv.cs] at m v x i s0 ⊢;obtain⟨t0,t1,t2⟩:=je v;obtain⟨r0,r1,r2⟩:=je x;go_enter func26,ntmps26;obtain⟨R,y⟩:∃R,(iE (prM Yl rd r.rg true) rd (iU r.rg) true (d-1).toNat ⟨[],([],0)⟩ (ja root d)).c=R:=⟨_,rfl⟩;rw[y];have aa:=ix y;clear y;go_wp2_with fail
 generalize (w.alloc (.cells #[.int .i64 root,.int .i64 d,.int .i64 j] 34)).alloc (.cells #[.slice r.aL r.lo.length r.cL,.slice r.aH r.hi.length r.cH,.bool r.op] 62)=f at *;refine(m.o _).mono ?_;rintro _ t ⟨rfl,I,J,K,L,M,ms⟩;have l:=ix (bt i.o M);have ag:w.heap.size<=f.heap.size:=i.o.size
 have q:Hid (∀k,(k=f.heap.size+1\/k=f.heap.size+2\/k=f.heap.size\/k=f.heap.size+3\/n k\/i5 r k)->k<t.heap.size):=ix (λk hk=>by
  rcases hk with h|h|h|h|h|h
  . omega
  . omega
  . omega
  . omega
  . have:=Z.o k h;omega
  . have:=ad.o k h;omega)
 have D:=ix (jM (B:=8*N) (enters_of func86 (by kernel_rfl) rfl) (by omega) (lI Yl rC rd V.o (λc=>c.1.length) yp N X.o b n t (f.heap.size+1) (f.heap.size+2) f.heap.size (f.heap.size+3) root d j h2 h3 r true J K I (by rw[if_pos rfl];exact L) (ac.o.keep l.o) ab.o (Y.o.keep l.o) (λk hk=>q.o k (.inr (.inr (.inr (.inr (.inl hk)))))) (λk hk=>q.o k (.inr (.inr (.inr (.inr (.inr hk)))))) ([],0) rfl rfl) (But.refl _ _) q.o)
 clear I J K L M ms t0 t1 t2 r0 r1 r2 v x m;go_wp2_with fail
 refine D.o.mono ?_;rintro e U3 ⟨U,s,H,hc⟩;have A:=ix (bt l.o U);have g:s=R:=H.trans aa.o;have ae:w.heap.size<=t.heap.size:=l.o.size;clear H D U;rcases hc with⟨hz,rfl⟩|⟨hz,a,c,C,rfl,hP,hl,hn⟩
 . have p:Hid (R.2≠0/\R.2=s.2):=ix ⟨by rw[<-g];exact hz,by rw[g]⟩
   clear hz g;go_wp2;go_ret2
   exact⟨A.o,.inl ⟨p.o.1,by rw[p.o.2];rfl⟩⟩
 . have p:Hid (CoR w U3 (.returned (.tuple #[.slice a C.length c,.int .i64 0])) R):=ix (.inr ⟨by rw[<-g];exact hz,a,c,C,rfl,hP,by rw[<-g];exact hl,λk hk=>ay ae (hn k hk)⟩)
   clear hz g hP hl hn;go_wp2;go_ret2
   exact⟨A.o,p.o⟩
end Go.Proofs.YteaogidofpfmmaaGreat
