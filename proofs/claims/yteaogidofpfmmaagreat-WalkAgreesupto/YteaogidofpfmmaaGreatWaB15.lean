import Derived.Test.YteaogidofpfmmaaGreatWaB11
import Derived.Test.YteaogidofpfmmaaGreatWaB14
set_option linter.all false
set_option maxHeartbeats 8000000
set_option maxRecDepth 8000
namespace Go.Proofs.YteaogidofpfmmaaGreat
open Go.Proofs.Tryz
variable {o:Bool}{rd:Int->Option Pg}{k:List Nat}{f i:Nat}{p:Pg}{r:Rg}
theorem Sub.page{rd:Int->Option Pg}{root:Int}{f:Nat}{a:Plx}(h:Sub rd root f a):∃p,rd a.no=some p/\lvl p a.lv=true/\(a.no=root\/4<=p.items.length)/\(p.kind=1->∀x∈p.items,has a.keys x.key=true/\(ldI rd x).1=0)/\(p.kind≠1->∃k,f=k+1/\∀c∈ben a p,Sub rd root k c):=by
 unfold Sub at h;obtain⟨p,b,d,e,g,j⟩:=h;refine⟨p,b,d,e,g,λhk=>?_⟩
 have:=j hk;cases f with
 |zero=>exact this.elim
 |succ k=>exact⟨k,rfl,this⟩
theorem Fk(h:has (wth p i r) k=true):has r k=true:=(nR.1 h).1
theorem DN{a:Plx}{x:It}(h:x∈(p.items.map It.child).flatMap (lits rd f)):∃i,i<p.items.length/\x∈lits rd f (p.at i).child:=by
 rw[<-oe a] at h;obtain⟨n,e,g⟩:=ib.1 h;obtain⟨c,b,rfl⟩:=bE.1 e;obtain⟨i,d,rfl⟩:=so b;exact⟨i,d,g⟩
theorem Sub.kid{root:Int}{a:Plx}(h:∀c∈ben a p,Sub rd root f c)(hi:i<p.items.length):Sub rd root f ⟨(p.at i).child,a.lv-1,wth p i a.keys⟩:=h _ (fg (sT hi))
theorem Sub.hk{rd:Int->Option Pg}{root:Int}(c:iF rd):∀{f:Nat}{a:Plx},Sub rd root f a->∀x∈lits rd f a.no,has a.keys x.key=true/\(ldI rd x).1=0
 |f,a,h=>by
  obtain⟨p,hp,hl,hr,h1,h2⟩:=h.page;by_cases hk:p.kind=1
  . rw[(kn hp hk).2];exact h1 hk
  . obtain⟨k,rfl,d⟩:=h2 hk;rw[(ll hp hk).2];intro x b;obtain⟨i,e,b⟩:=DN (a:=a) b;obtain⟨g,j⟩:=Sub.hk c (Sub.kid d e) x b;exact⟨Fk g,j⟩
theorem qg{α:Type}(r:α->α->Prop)(g:Nat->List α):∀(n:Nat),(∀i,i<n->(g i).Pairwise r)->(∀i j,i<j->j<n->∀x∈g i,∀y∈g j,r x y)->((List.range n).flatMap g).Pairwise r
 |0,_,_=>by simp
 |n+1,h1,h2=>by
  rw[List.range_succ,gu,dE];refine⟨qg r g n (λi hi=>h1 i (by omega)) (λi j hi c=>h2 i j hi (by omega)),by simpa using h1 n (by omega),λx a y b=>?_⟩
  obtain⟨i,hi,a⟩:=ib.1 a;have hi:=dB.1 hi;exact h2 i n hi (by omega) x a y (by simpa using b)
theorem qX(p:Pg){β:Type}(g:Int->List β):(p.items.map It.child).flatMap g=(List.range p.items.length).flatMap λi=>g (p.at i).child:=by
 have:p.items.map It.child=(List.range p.items.length).map λi=>(p.at i).child:=by
  apply fW
  . simp
  . intro i b a;simp at b a;simp[oj a]
 rw[this,ic]
theorem Sub.rise{rd:Int->Option Pg}{root:Int}(c:iF rd):∀{f:Nat}{a:Plx},Sub rd root f a->(lits rd f a.no).Pairwise λx y=>x.key<y.key
 |f,a,h=>by
  obtain⟨p,hp,hl,hr,h1,h2⟩:=h.page;have l:=c _ _ hp;by_cases hk:p.kind=1
  . rw[(kn hp hk).2,fh];intro i j g b m;have:=l.rise m b;rwa [oj g,oj b] at this
  . obtain⟨k,rfl,d⟩:=h2 hk;rw[(ll hp hk).2,qX];refine qg _ _ _ (λi g=>Sub.rise c (Sub.kid d g)) (λi j m b x n y q=>?_)
    have s:=(nR.1 ((Sub.kid d (show i<p.items.length by omega)).hk c x n).1).2.2 (by omega)
    have t:=(nR.1 ((Sub.kid d b).hk c y q).1).2.1
    have:(p.at (i+1)).key<=(p.at j).key:=by
     by_cases e:i+1=j
     . subst e;grind
     . have:=l.rise (show i+1<j by omega) b;grind
    grind
theorem yI(L:List It)(i:Nat):(L.drop 1).getD i It.zero=L.getD (i+1) It.zero:=by simp
theorem qi{L:List It}(h:0<L.length):jg k L<L.length:=by
 unfold jg;have:=pG k (L.drop 1);rw[dv] at this;omega
theorem qp(a:Sound p)(hk:p.kind=2)(k:List Nat):(p.at (jg k p.items)).key<=k/\(jg k p.items+1<p.items.length->k<(p.at (jg k p.items+1)).key):=by
 have b:=(a.idx hk).2.2;have e:∀i,p.at (i+1)=(p.items.drop 1).getD i It.zero:=λi=>(yI p.items i).symm
 constructor
 . cases hr:jg k p.items with
   |zero=>rw[a.key0 hk (by omega)];exact eI.1 (List.not_lt_nil _)
   |succ j=>
    rw[e];exact xr k (p.items.drop 1) j (by have:upto k (p.items.drop 1)=j+1:=hr;omega)
 . intro h;rw[e];have:=vw k (p.items.drop 1) (by rw[dv];unfold jg at h;omega)
   exact List.not_le.1 this
theorem Dq(a:Sound p)(hk:p.kind=2)(b:has r k=true):has (wth p (jg k p.items) r) k=true:=nR.2 ⟨b,(qp a hk k).1,(qp a hk k).2⟩
theorem AR(a:Sound p)(hk:p.kind=2)(hi:i<p.items.length)(h:has (wth p i r) k=true):i=jg k p.items:=by
 obtain⟨_,m,d⟩:=nR.1 h;obtain⟨l,c⟩:=qp a hk k;have g:=qi (k:=k) (show 0<p.items.length by omega)
 generalize jg k p.items=j at *;rcases Nat.lt_trichotomy i j with hij|hij|hij
 . have b:=d (by omega)
   have:(p.at (i+1)).key<=(p.at j).key:=by
    by_cases e:i+1=j
    . subst e;grind
    . have:=a.rise (show i+1<j by omega) g;grind
   grind
 . exact hij
 . have b:=c (by omega)
   have:(p.at (j+1)).key<=(p.at i).key:=by
    by_cases e:j+1=i
    . subst e;grind
    . have:=a.rise (show j+1<i by omega) hi;grind
   grind
def way(rd:Int->Option Pg)(k:List Nat):Nat->Int->List Int
 |0,n=>[n]
 |f+1,n=>n::(match rd n with
  |none=>[]
  |some p=>way rd k f (p.at (jg k p.items)).child)
def mB(rd:Int->Option Pg)(k:List Nat):Nat->Int->Int
 |0,n=>n
 |f+1,n=>(match rd n with
  |none=>n
  |some p=>mB rd k f (p.at (jg k p.items)).child)
theorem m9{α:Type}(q:α->Bool)(g:Nat->List α):∀(n j:Nat),j<n->(∀i,i<n->i≠j->∀x∈g i,q x=false)->((List.range n).flatMap g).filter q=(g j).filter q
 |0,j,h,_=>by omega
 |n+1,j,h,h2=>by
  rw[List.range_succ,gu,gF];have none:∀L:List α,(∀x∈L,q x=false)->L.filter q=[]:=λL d=>fF.2 λx a e=>by rw[d x a] at e;cases e
  by_cases e:j=n
  . subst e
    rw[none _ (λx a=>by
     obtain⟨i,b,a⟩:=ib.1 a;have b:=dB.1 b;exact h2 i (by omega) (by omega) x a)]
    simp
  . rw[m9 q g n j (by omega) (λi b=>h2 i (by omega))]
    rw[none ([n].flatMap g) (λx a=>h2 n (by omega) (λc=>e c.symm) x (by simpa using a))]
    simp
theorem Sub.find{rd:Int->Option Pg}{root:Int}(g:iF rd){k:List Nat}:∀{f:Nat}{a:Plx},Sub rd root f a->a.lv=f->has a.keys k=true->∃q,rd (mB rd k f a.no)=some q/\q.kind=1/\(lits rd f a.no).filter (λx=>decide (x.key=k))=q.items.filter (λx=>decide (x.key=k))
 |0,a,h,hl,hh=>by
  obtain⟨p,b,t,A,v,d⟩:=h.page
  have hk:p.kind=1:=by
   apply em;intro hk;obtain⟨k,e,_⟩:=d hk;cases e
  refine⟨p,b,hk,?_⟩;rw[(kn b hk).2]
 |f+1,a,h,hl,hh=>by
  obtain⟨p,b,t,A,v,d⟩:=h.page;have c:=g _ _ b;obtain⟨C,G⟩:=jA.1 t;have hk:p.kind≠1:=λe=>by have:=(c.leaf0 e).1;omega
  have l:p.kind=2:=by
   rcases c.kind with h|h|h
   . exact absurd h hk
   . exact h
   . exact absurd h C
  obtain⟨j,e,m⟩:=d hk;cases e;have s:=qi (k:=k) (show 0<p.items.length by have:=(c.idx l).2.2;omega)
  obtain⟨q,y,E,F⟩:=Sub.find g (Sub.kid m s) (by show a.lv-1=_;omega) (Dq c l hh)
  refine⟨q,?_,E,?_⟩
  . unfold mB;rw[b];exact y
  . rw[(ll b hk).2,qX,m9 _ _ _ (jg k p.items) s (λi n D x B=>?_)]
    . exact F
    . apply ah;intro e;have:=((Sub.kid m n).hk g x B).1;rw[e] at this;exact D (AR c l n this)
theorem sE{α σ:Type}(f:σ->α->σ)(a:σ->Bool)(s:σ):flw f a [] s=s:=rfl
theorem wv{α σ:Type}(f:σ->α->σ)(a:σ->Bool):∀(A B:List α)(s:σ),a s=false->flw f a (A++B) s=if a (flw f a A s)=true then flw f a A s else flw f a B (flw f a A s)
 | [],B,s,h=>by rw[sE,b9,if_neg (by rw[h];decide)]
 |x::A,B,s,h=>by
  rw[b7,jB,jB];by_cases e:a (f s x)=true
  . rw[if_pos e,if_pos e,if_pos e]
  . rw[if_neg e,if_neg e];exact wv f a A B _ (by simpa using e)
structure Yc(τ:Type) where
 yl:τ->List Nat×List Nat->τ
 ybad:τ->Nat->τ
 ystp:τ->Bool
structure Pst(τ:Type) where
 G:List Int
 c:τ
def jQ(rd:Int->Option Pg)(x:It):List Nat×List Nat:=(x.key,(ldI rd x).2)
def pit{τ:Type}(Y:Yc τ)(rd:Int->Option Pg)(r:Rg):List It->τ->τ
 | [],c=>c
 |x::L,c=>if has r x.key=false then pit Y rd r L c else
  if (ldI rd x).1≠0 then Y.ybad c (ldI rd x).1 else
  if Y.ystp (Y.yl c (jQ rd x))=true then Y.yl c (jQ rd x) else pit Y rd r L (Y.yl c (jQ rd x))
def prM{τ:Type}(Y:Yc τ)(rd:Int->Option Pg)(r:Rg)(o:Bool):Mc (Pst τ) where
 gone:=Pst.G
 ent:=λs n=>{s with G:=n::s.G}
 tel:=λs _ p=>if p.kind=1 then {s with c:=pit Y rd r (iW o p.items) s.c} else s
 bad:=λs=>{s with c:=Y.ybad s.c 15}
 stp:=λs=>Y.ystp s.c
def iU(r keys:Rg):Bool:=has (jK r keys) (jv (jK r keys).lo)
theorem rQ{τ:Type}{Y:Yc τ}{rd:Int->Option Pg}{r:Rg}:∀(L:List It)(c:τ),(∀x∈L,(ldI rd x).1=0)->Y.ystp c=false->pit Y rd r L c=flw Y.yl Y.ystp ((L.filter λx=>has r x.key).map (jQ rd)) c
 | [],c,_,_=>rfl
 |x::L,c,h,hc=>by
  unfold pit;have hL:=λy d=>h y (br _ d)
  by_cases b:has r x.key=false
  . rw[if_pos b,fu (by simp[b])]
    exact rQ L c hL hc
  . rw[if_neg b,if_neg (by rw[h x bG];simp),fw (by simpa using b),bT,jB]
    by_cases a:Y.ystp (Y.yl c (jQ rd x))=true
    . rw[if_pos a,if_pos a]
    . rw[if_neg a,if_neg a];exact rQ L _ hL (by simpa using a)
theorem qd{α:Type}(o:Bool)(L:List α)(q:α->Bool):(iW o L).filter q=iW o (L.filter q):=by
 unfold iW;split
 . rfl
 . rw[List.filter_reverse]
theorem qF{α:Type}{L:List α}{x:α}:x∈iW o L↔x∈L:=by
 unfold iW;split
 . rfl
 . exact gZ
theorem vD{α β:Type}(g:α->List β):∀L:List α,(L.flatMap g).reverse=L.reverse.flatMap λx=>(g x).reverse
 | []=>rfl
 |x::L=>by rw[dS,List.reverse_append,List.reverse_cons,gu,vD g L];simp
theorem zF{α β:Type}(o:Bool)(g:α->List β)(L:List α):iW o (L.flatMap g)=(iW o L).flatMap λx=>iW o (g x):=by
 unfold iW;cases o
 . simpa using vD g L
 . simp
theorem qc{α β:Type}(q:β->Bool)(g:α->List β):∀L:List α,(L.flatMap g).filter q=L.flatMap λx=>(g x).filter q
 | []=>rfl
 |x::L=>by rw[dS,gF,qc q g L,dS]
def mU(rd:Int->Option Pg):Prop:=∀n p,rd n=some p->p.b8
def inR(rd:Int->Option Pg)(r:Rg)(o:Bool)(f:Nat)(n:Int):List (List Nat×List Nat):=(iW o ((lits rd f n).filter λx=>has r x.key)).map (jQ rd)
theorem FX{a:Plx}(b:rd a.no=some p)(hk:p.kind≠1):inR rd r o (f+1) a.no=(iW o (ben a p)).flatMap λc=>inR rd r o f c.no:=by
 unfold inR;rw[(ll b hk).2,<-oe a,ic,qc,zF,List.map_flatMap]
theorem xn{k:Rg}(c:r.b8)(hk:k.b8):(jK r k).b8:=by
 have g:∀a b:List Nat,B8 a->B8 b->B8 (grt a b)/\B8 (lsr a b):=λa b d hb=>by unfold grt lsr;split<;>exact⟨‹_›,‹_›⟩
 refine⟨(g _ _ c.1 hk.1).1,?_⟩;unfold jK;show B8 (if _ then _ else _)
 split
 . split
   . exact B8.nil
   . exact hk.2
 . split
   . exact c.2
   . exact(g _ _ c.2 hk.2).2
theorem rG{a:Rg}(c:r.b8)(hk:a.b8)(h:iU r a=false)(b:KK k):¬(has r k=true/\has a k=true):=λe=>by
 have e:=(um r a k).2 e;have hb:=xn c hk;have:=Bg hb (by unfold form;unfold iU at h;rw[if_neg (by rw[h];simp)]) b
 rw[e] at this;cases this
theorem GC(c:r.b8)(b:p.b8):(wth p i r).b8:=by
 have a:∀j,B8 (p.at j).key:=λj=>by
  by_cases h:j<p.items.length
  . exact(b.1 _ (wh h)).1
  . unfold Pg.at;rw[aM,ep (by omega)]
    exact B8.nil
 exact xn c ⟨a i,by show B8 (if _ then _ else _);split;exact a _;exact B8.nil⟩
theorem xp{rd:Int->Option Pg}(d:iF rd)(e:mU rd):∀(f:Nat)(n:Int),∀x∈lits rd f n,KK x.key:=by
 intro f;induction f with
 |zero=>
  intro n x a;unfold lits at a;cases hp:rd n with
  |none=>rw[hp] at a;cases a
  |some p=>
   rw[hp] at a;simp only at a;split at a
   . rename_i hk;obtain⟨i,b,rfl⟩:=vm a;exact⟨(d _ _ hp).keyK b (.inl hk),((e _ _ hp).1 _ (wh b)).1⟩
   . cases a
 |succ f ih=>
  intro n x a;unfold lits at a;cases hp:rd n with
  |none=>rw[hp] at a;cases a
  |some p=>
   rw[hp] at a;simp only at a;split at a
   . rename_i hk;obtain⟨i,b,rfl⟩:=vm a;exact⟨(d _ _ hp).keyK b (.inl hk),((e _ _ hp).1 _ (wh b)).1⟩
   . obtain⟨c,_,a⟩:=ib.1 a;exact ih c x a
theorem tr{τ:Type}{Y:Yc τ}{rd:Int->Option Pg}{r:Rg}{o:Bool}{f:Nat}:∀(L:List Plx)(s:Pst τ),
 (∀a∈L,∀s:Pst τ,(∀x∈nds rd f a.no,x∉s.G)->Y.ystp s.c=false->(iE (prM Y rd r o) rd (iU r) o f s a).c=flw Y.yl Y.ystp (inR rd r o f a.no) s.c/\∀x∈(iE (prM Y rd r o) rd (iU r) o f s a).G,x∈s.G\/x∈nds rd f a.no)->
 ((L.map Plx.no).flatMap (nds rd f)).Nodup->(∀x∈(L.map Plx.no).flatMap (nds rd f),x∉s.G)->Y.ystp s.c=false->
 (flw (λs c=>iE (prM Y rd r o) rd (iU r) o f s c) (prM Y rd r o).stp L s).c=flw Y.yl Y.ystp (L.flatMap λa=>inR rd r o f a.no) s.c/\∀x∈(flw (λs c=>iE (prM Y rd r o) rd (iU r) o f s c) (prM Y rd r o).stp L s).G,x∈s.G\/x∈(L.map Plx.no).flatMap (nds rd f)
 | [],s,_,_,_,_=>⟨rfl,λx d=>.inl d⟩
 |a::L,s,H,hn,hd,h0=>by
  rw[bT,dS] at hn hd;obtain⟨n1,n2,n3⟩:=List.nodup_append.1 hn;obtain⟨j,t2⟩:=H a bG s (λx d=>hd x (eD _ d)) h0
  rw[jB,bT,dS,dS,wv _ _ _ _ _ h0];generalize iE (prM Y rd r o) rd (iU r) o f s a=l at *;have m:(prM Y rd r o).stp l=Y.ystp l.c:=rfl;rw[m,j];by_cases g:Y.ystp (flw Y.yl Y.ystp (inR rd r o f a.no) s.c)=true
  . rw[if_pos g,if_pos g];exact⟨j,λx d=>(t2 x d).imp id λh=>eD _ h⟩
  . rw[if_neg g,if_neg g]
    obtain⟨u1,u2⟩:=tr L l (λb hb=>H b (br _ hb)) n2 (λx d e=>by
     rcases t2 x e with e|e
     . exact hd x (dQ _ d) e
     . exact n3 x e x d rfl) (by rw[j];simpa using g)
    rw[j] at u1
    exact⟨u1,λx d=>by
     rcases u2 x d with h|h
     . exact(t2 x h).imp id λh=>eD _ h
     . exact .inr (dQ _ h)⟩
theorem mP{n:Int}(a:rd n=some p):n∈nds rd f n:=by
 unfold nds;rw[a];exact bG
theorem rm{α β:Type}(g:α->List β):∀{L:List α},(L.flatMap g).Nodup->∀x∈L,(g x).Nodup
 | [],_,_,h=>(cf h).elim
 |y::L,h,x,hx=>by
  rw[dS,List.nodup_append] at h;rcases bQ.1 hx with rfl|hx
  . exact h.1
  . exact rm g h.2.1 x hx
theorem oO{τ:Type}{Y:Yc τ}{rd:Int->Option Pg}{root:Int}{r:Rg}{o:Bool}(q:iF rd)(y:mU rd)(D:r.b8):∀(f:Nat)(a:Plx)(s:Pst τ),Sub rd root f a->a.keys.b8->(nds rd f a.no).Nodup->(∀x∈nds rd f a.no,x∉s.G)->Y.ystp s.c=false->
 (iE (prM Y rd r o) rd (iU r) o f s a).c=flw Y.yl Y.ystp (inR rd r o f a.no) s.c/\∀x∈(iE (prM Y rd r o) rd (iU r) o f s a).G,x∈s.G\/x∈nds rd f a.no:=by
 intro f;induction f with
 |zero=>
  intro a s l hb B m j;obtain⟨p,d,A,N,t,v⟩:=l.page
  have hk:p.kind=1:=by
   apply em;intro hk;obtain⟨k,e,_⟩:=v hk;cases e
  unfold iE;by_cases g:iU r a.keys=false
  . rw[if_pos g];refine⟨?_,λx hx=>.inl hx⟩
    have:inR rd r o 0 a.no=[]:=by
     unfold inR;rw[fF.2 λx hx e=>rG D hb g (xp q y _ _ x hx) ⟨e,(l.hk q x hx).1⟩]
     unfold iW;split<;>rfl
    rw[this,sE]
  . rw[if_neg g,d];simp only;rw[if_neg (show a.no∉(prM Y rd r o).gone s from m a.no (mP d)),if_neg (by rw[A];simp),if_pos (.inr hk)]
    show(if p.kind=1 then _ else _:Pst τ).c=_/\∀x∈(if p.kind=1 then _ else _:Pst τ).G,_
    rw[if_pos hk];refine⟨?_,λx hx=>?_⟩
    . show pit Y rd r (iW o p.items) s.c=_;rw[rQ _ _ (λx hx=>(t hk x (qF.1 hx)).2) j,qd]
      unfold inR;rw[(kn d hk).2]
    . rcases bQ.1 hx with rfl|hx
      . exact .inr (mP d)
      . exact .inl hx
 |succ f ih=>
  intro a s l hb B m j;obtain⟨p,d,A,N,t,v⟩:=l.page;generalize b:iE (prM Y rd r o) rd (iU r) o (f+1) s a=T;unfold iE at b;by_cases g:iU r a.keys=false
  . rw[if_pos g] at b;subst b;refine⟨?_,λx hx=>.inl hx⟩
    have:inR rd r o (f+1) a.no=[]:=by
     unfold inR;rw[fF.2 λx hx e=>rG D hb g (xp q y _ _ x hx) ⟨e,(l.hk q x hx).1⟩]
     unfold iW;split<;>rfl
    rw[this,sE]
  . rw[if_neg g,d] at b;simp only at b;rw[if_neg (show a.no∉(prM Y rd r o).gone s from m a.no (mP d)),if_neg (by rw[A];simp)] at b
    by_cases hk:p.kind=1
    . rw[if_pos (.inr hk)] at b;have b:(if p.kind=1 then { ({s with G:=a.no::s.G}:Pst τ) with c:=pit Y rd r (iW o p.items) s.c} else {s with G:=a.no::s.G}:Pst τ)=T:=b
      rw[if_pos hk] at b;subst b;refine⟨?_,λx hx=>?_⟩
      . show pit Y rd r (iW o p.items) s.c=_;rw[rQ _ _ (λx hx=>(t hk x (qF.1 hx)).2) j,qd]
        unfold inR;rw[(kn d hk).2]
      . rcases bQ.1 hx with rfl|hx
        . exact .inr (mP d)
        . exact .inl hx
    . obtain⟨k,e,I⟩:=v hk;cases e
      have H:(prM Y rd r o).tel ((prM Y rd r o).ent s a.no) a p={s with G:=a.no::s.G}:=by
       show(if p.kind=1 then _ else _:Pst τ)=_
       rw[if_neg hk];rfl
      rw[H] at b
      rw[if_neg (by
       rintro(e|e)
       . have e:Y.ystp s.c=true:=e;rw[j] at e;cases e
       . exact hk e)] at b
      have b:flw (λs c=>iE (prM Y rd r o) rd (iU r) o f s c) (prM Y rd r o).stp (iW o (ben a p)) {s with G:=a.no::s.G}=T:=b
      obtain⟨F,_⟩:=ll (f:=f) d hk;rw[F,<-oe a] at B m;obtain⟨J,E⟩:=e6.1 B
      have C:(((iW o (ben a p)).map Plx.no).flatMap (nds rd f)).Perm (((ben a p).map Plx.no).flatMap (nds rd f)):=by
       unfold iW;split
       . exact List.Perm.refl _
       . exact((List.reverse_perm _).map _).flatMap_right _
      obtain⟨u1,u2⟩:=tr (Y:=Y) (rd:=rd) (r:=r) (o:=o) (f:=f) (iW o (ben a p)) {s with G:=a.no::s.G} (λc n K M L=>by
       have n:=qF.1 n;obtain⟨i,O,rfl⟩:=so n;refine ih _ K (I _ n) (GC hb (y _ _ d)) ?_ M L;exact rm _ E _ (bE.2 ⟨_,n,rfl⟩)) (C.nodup_iff.2 E) (λx hx=>by
       have hx:=C.mem_iff.1 hx;rw[bQ];rintro(e|e)
       . rw[e] at hx;exact J hx
       . exact m x (br _ hx) e) j
      rw[b] at u1 u2;rw[FX d hk];refine⟨u1,λx hx=>?_⟩
      rw[F,<-oe a];rcases u2 x hx with h|h
      . rcases bQ.1 h with rfl|h
        . exact .inr bG
        . exact .inl h
      . exact .inr (br _ (C.mem_iff.1 h))
end Go.Proofs.YteaogidofpfmmaaGreat
namespace Go.Proofs.YteaogidofpfmmaaGreat
open Go.Proofs.Tryz
open Go.RowKit Go.Shelf
theorem tT{σ:Type}(M:Mc σ)(rd:Int->Option Pg)(r:iF rd)(b c a:Nat)(h:FuncId)(l:Array Value)(q:∀args w,(callFunc h args).run prog w=.ok (.enter h args) w)(o:Bool)(d:Nat->Prop)(wants:Rg->Bool)(g:Nat->Prop)(v:∀s n,M.gone (M.ent s n)=n::M.gone s)(t:∀s,M.stp (M.bad s)=true)(m:rX)(f:Nat):∀(w:World)(i t2:Nat)(p:Plv)(j:σ),p.lv<=(f:Int)->w.cell? ⟨i,0,none⟩=some (.pointer (some ⟨c,0,none⟩))->w.heap[t2]?=some (.cells p.cs 148 (0,0))->Ri w p.r->Rb p.r->N64 p.lv->Tou w c a b h l o rd d wants g->M.stp j=false->(∀k,XS c i t2 p d g k->k<w.heap.size)->mh prog 116 #[.pointer (some ⟨i,0,none⟩),.pointer (some ⟨t2,0,none⟩)] M.stp (EnS M rd a) (λk=>k=a) (λs W=>Mp W a (gnf (M.gone s))) j (λs=>s=iE M rd wants o f j p.px) w (XS c i t2 p d g):=by
 induction f with
 |zero=>exact ru M rd r b c a h l q o d wants g v t m 0 (λk e=>by omega)
 |succ f ih=>exact ru M rd r b c a h l q o d wants g v t m (f+1) (λk e=>by cases e;exact ih)
theorem us(w:World):vT 69 #[] (λ_=>true) (λ_=>False) w:=λW b r a hb=>by
 unfold Rv.val;simp only[Rv.cs];go_enter func69,ntmps69;go_wp2;go_ret;exact⟨rfl,al _ _⟩
theorem je{W:World}{b:Nat}{t:TypeId}{v0 a c:Value}(h:W.heap[b]?=some (.cells #[v0,a,c] t (0,0))):W.cell? ⟨b,0,none⟩=some v0/\W.cell? ⟨b,1,none⟩=some a/\W.cell? ⟨b,2,none⟩=some c:=by
 refine⟨?_,?_,?_⟩<;>(rw[ai _ _ _ _ _ _ h];rfl)
def i5(r:Rv)(k:Nat):Prop:=(∃x,r.aL=some x/\x.block=k)\/∃x,r.aH=some x/\x.block=k
theorem Ri.but{S:Nat->Prop}{w c:World}{r:Rv}(h:Ri w r)(hb:But S w c)(b:∀k,i5 r k->¬S k):Ri c r:=⟨h.bl.but hb (λx a _=>b _ (.inl ⟨x,a,rfl⟩)),h.cl,h.bh.but hb (λx a _=>b _ (.inr ⟨x,a,rfl⟩)),h.ch⟩
theorem xj(w:World)(c:Nat)(r:Rv)(v:w.heap[c]?=some (.cells r.cs 62 (0,0)))(t:Ri w r)(hb:Rb r):vT 87 #[.pointer (some ⟨c,0,none⟩)] (iU r.rg) (λk=>k=c\/i5 r k) w:=λW g q s y=>by
 have j:=g.same v (λh=>h (.inl rfl))
 have p:=ix (t.but g (λk hk h=>h (.inr hk)))
 have n:=ix s;have a:=ix (al W (.cells q.cs 62));have i:=(a.o.block c (ae.1 j).1).trans j;have e:=ix (qm _ r q (p.o.keep a.o) (n.o.keep a.o) hb y);have f:=ag W (.cells q.cs 62);have l:=ix λ(U:World)(m:Rv)(b:Ri U m)=>zI U m b
 clear v t hb g j s y;unfold Rv.val at *;obtain⟨L,c1,R,M,c2,S,X⟩:=r;obtain⟨N,c3,T,O,P,V,Y⟩:=q;simp only[Rv.cs] at i f a e ⊢;obtain⟨G,H,I⟩:=je i;obtain⟨D,E,F⟩:=je f;clear i f p n;go_enter func87,ntmps87;go_wp2_with fail
 refine e.o.mono ?_;rintro _ C ⟨m,rfl,b,x⟩;have A:=ix (bt a.o b.l.b);have d:=ix (l.o C m b.ri);have B:=ix x;clear e l b x G H I D E F;unfold Rv.val at d;simp only[Rv.cs] at d;go_wp2_with fail
 refine d.o.mono ?_;rintro _ K ⟨rfl,J⟩;go_wp2;go_ret;refine⟨?_,bt A.o J⟩;show Ending.returned (.bool (has m.rg (jv m.rg.lo)))=_;rw[B.o];rfl
end Go.Proofs.YteaogidofpfmmaaGreat
namespace Go.Proofs.YteaogidofpfmmaaGreat
open Go.Proofs.Tryz
open Go.RowKit
variable {rd:Int->Option Pg}{f:Int->Option Value}{G:List Int}{L:List Iv}{c g j:Nat}{a:Option Addr}{p:Pg}{w w' wx:World}
theorem Dl{rd:Int->Option Pg}{t:Nat}{G:List Int}{n l:Int}(h:l<=0):iX rd t G n l=(G,0):=by
 cases t with
 |zero=>rfl
 |succ t=>unfold iX;rw[if_pos h]
theorem zJ{t:Nat}{n l:Int}(d:rd n=some p)(b:n∉G)(e:0<l)(hk:p.kind=3):iX rd (t+1) G n l=if (p.data.length:Int)≠min l 480\/decide (p.next=0)≠decide (l<=480) then (n::G,5) else iX rd t (n::G) p.next (l-480):=by
 conv=>lhs;unfold iX
 rw[if_neg (by omega),d]
 simp only;rw[if_neg b,if_neg (by rw[hk];simp)]
theorem qS(w:World)(M s b:Nat)(wf:Value)(o:Bool)(rd:Int->Option Pg)(hA:iF rd)(X:Nat->Prop)(G:List Int)(x:Iv)(T:x.size<=3840)(ae:0<=x.size)(hT:w.heap[M]?=some (.cells (pE b s wf o) 143 (0,0)))(F:Mp w s (gnf G))(hR:i9 52 (.pointer (some ⟨b,0,none⟩)) rd X w)(hX:¬X s)(aj:M≠s):
 Calls prog 120 #[.pointer (some ⟨M,0,none⟩),x.vl] w λe w'=>e=.returned (.int .i64 (((iX rd 8 G x.child x.size).2:Nat):Int))/\But (λk=>k=s) w w'/\Mp w' s (gnf (iX rd 8 G x.child x.size).1):=by
 have A0:=ix (al w (.cells x.cs 89));have X0:=ag w (.cells x.cs 89);have HT:=ix hT;have HM:=ix (F.keep A0.o);have HR:=ix hR;obtain⟨aK,cK,am,aV,cV,val,child,I⟩:=x;have T:I<=3840:=T;have ae:0<=I:=ae;unfold Iv.vl;simp only[Iv.cs] at *;obtain⟨k0,k1,k2,k3⟩:=jJ X0;clear hT F hR X0;obtain⟨R,Y⟩:∃R,iX rd 8 G child I=R:=⟨_,rfl⟩;rw[Y];have RR:=ix Y;clear Y;go_enter func120,ntmps120;go_wp2;generalize ak:w.alloc (.cells #[.slice aK am.length cK,.slice aV val.length cV,.int .i64 child,.int .i64 I] 89)=w1 at *;clear ak k0 k1 k2 k3;go_loopw [5,6] (λp q wr=>∃(t:Nat)(i:List Int)(n l:Int),p=.int .i64 n/\q=.int .i64 l/\l<=480*t/\l<=3840/\ -480<=l/\But (λk=>k=s) w wr/\Mp wr s (gnf i)/\iX rd t i n l=R) (λ_ q _=>(intOf q+480).toNat)
 case atStart=>exact⟨8,G,child,I,rfl,rfl,by omega,T,by omega,But.ofBelow A0.o,HM.o,RR.o⟩
 case round=>
  obtain⟨t,i,n,l,rfl,rfl,au,av,aw,hB,F,hc⟩:=hrel;have C:=ix hB;have J:=ix F;have D:=ix hc;clear hB F hc;by_cases ai:0<l
  . have O:=ix (tx wr M s b wf o rd X i n (C.o.same HT.o aj) J.o (HR.o.but C.o (λk e h=>by have e:k=s:=e;rw[e] at h;exact hX h)))
    go_wp2_with fail
    obtain⟨A,rfl⟩:∃A,t=A+1:=⟨t-1,by omega⟩
    refine O.o.mono ?_;rintro e U (⟨rfl,af,H⟩|⟨q,Z,ad,rfl,hP,H,ab⟩)
    . have m:Hid (R=(i,15)):=by
       show _=_;rw[<-D.o];unfold iX;rw[if_neg (by omega)]
       cases hp:rd n with
       |none=>rfl
       |some p=>
        rcases af with h|h
        . rw[hp] at h;cases h
        . simp only;rw[if_pos h]
      have B2:=ix (bt H (al U (.cells #[.int .i64 0,.int .i64 0,.slice none 0 0,.slice none 0 0,.int .i64 0] 77)));clear af H O;simp only[Pv.vl,Pv.cs,Pv.zero,bg];go_wp2;go_ret;rw[m.o];exact⟨rfl,C.o.andBelow B2.o,J.o.keep B2.o⟩
    . have W:=ix Z;have V:=ix ad;have aa:=ix (hA _ _ Z);have P:=ag U (.cells #[.int .i64 q.kind,.int .i64 q.level,.slice q.aI q.items.length q.cI,.slice q.aD q.data.length q.cD,.int .i64 q.next] 77);have N:=al U (.cells #[.int .i64 q.kind,.int .i64 q.level,.slice q.aI q.items.length q.cI,.slice q.aD q.data.length q.cD,.int .i64 q.next] 77);have y:=ix ((C.o.trans H (λ_ _ e=>e)).andBelow N)
      have v:=ix (ab.keep N);clear Z ad hP H ab O N;obtain⟨kq,lq,aq,cq,iq,an,ao,S,nq⟩:=q;simp only[Pv.vl,Pv.cs];simp only at P y v;obtain⟨j0,j1,j2,j3,j4⟩:=i6 P;clear P;by_cases h3:kq=3
      . subst h3;have ac:=ix ((aa.o.blob rfl).2.2)
        have r:Hid ((if (S.length:Int)≠min l 480\/decide (nq=0)≠decide (l<=480) then (n::i,5) else iX rd A (n::i) nq (l-480))=R):=by
         show _=_;rw[<-D.o];exact(zJ W.o V.o ai rfl).symm
        have ap:S.length<=480:=ac.o.2.1;clear W V aa ac D J;generalize S.length=d at *;by_cases K:l<=480
        . by_cases E:(d:Int)=l
          . subst E;have hm:min (d:Int) 480=(d:Int):=by omega
            by_cases B:nq=0
            . subst B
              have m:Hid (iX rd A (n::i) 0 ((d:Int)-480)=R):=by
               show _=_;rw[<-r.o];exact(if_neg (λh=>by rcases h with h|h;exact h (by omega);exact h (by rw[ar (rfl:(0:Int)=0),ar K]))).symm
              clear r;have hw:wrap64 ((d:Int)-480)=(d:Int)-480:=by unfold wrap64;omega
              go_wp2;go_roundw
              case rel=>exact⟨A,n::i,0,(d:Int)-480,rfl,by first|rfl|go_num,by omega,by omega,by omega,y.o,v.o,m.o⟩
              case measure=>simp[intOf];omega
            . have m:Hid (R=(n::i,5)):=by
               show _=_;rw[<-r.o];exact if_pos (.inr (λh=>by rw[ah B,ar K] at h;cases h))
              clear r;have hq:(nq==0)=false:=by simp[B]
              go_wp2;go_ret;rw[m.o];exact⟨rfl,y.o,v.o⟩
          . have m:Hid (R=(n::i,5)):=by
             show _=_;rw[<-r.o];exact if_pos (.inl (λh=>E (by omega)))
            clear r;go_wp2;go_ret;rw[m.o];exact⟨rfl,y.o,v.o⟩
        . by_cases E:(d:Int)=480
          . obtain rfl:d=480:=by omega
            clear E;have hm:min l 480=480:=by omega
            by_cases B:nq=0
            . subst B
              have m:Hid (R=(n::i,5)):=by
               show _=_;rw[<-r.o];exact if_pos (.inr (λh=>by rw[ar (rfl:(0:Int)=0),ah K] at h;cases h))
              clear r;go_wp2;go_ret;rw[m.o];exact⟨rfl,y.o,v.o⟩
            . have m:Hid (iX rd A (n::i) nq (l-480)=R):=by
               show _=_;rw[<-r.o];exact(if_neg (λh=>by rcases h with h|h;exact h (by omega);exact h (by rw[ah B,ah K]))).symm
              clear r;have hw:wrap64 (l-480)=l-480:=by unfold wrap64;omega
              go_wp2;go_roundw
              case rel=>exact⟨A,n::i,nq,l-480,rfl,by first|rfl|go_num,by omega,by omega,by omega,y.o,v.o,m.o⟩
              case measure=>simp[intOf];omega
          . have m:Hid (R=(n::i,5)):=by
             show _=_;rw[<-r.o];exact if_pos (.inl (λh=>E (by omega)))
            clear r;go_wp2;go_ret;rw[m.o];exact⟨rfl,y.o,v.o⟩
      . have m:Hid (R=(n::i,15)):=by
         show _=_;rw[<-D.o];unfold iX;rw[if_neg (by omega),W.o]
         simp only;rw[if_neg V.o];exact if_pos (show(kq:Int)≠3 from h3)
        go_wp2;go_ret;rw[m.o];exact⟨rfl,y.o,v.o⟩
  . go_wp2;go_ret;have:=D.o;rw[Dl (by omega)] at this
    rw[<-this];exact⟨rfl,C.o,J.o⟩
theorem Mp.not_cell{b:Nat}(h:Mp w b f){o:Nat}{v:Value}(d:w.cell? ⟨b,o,none⟩=some v):False:=by
 obtain⟨i,k,e,_⟩:=h;rw[World.cell?,e] at d;simp at d
theorem Bs.mp{b:Nat}(h:Mp w b f){l:List Nat}(m:Bs w a l)(hb:But (λk=>k=b) w w'):Bs w' a l:=
 ⟨m.1,m.2.1,m.2.2.imp id (λ⟨c,o,e,n⟩=>⟨c,o,e,λi q=>by
   have k:=n i q;exact(hb.cell (block_lt_of_cell k) (λd=>by have d:c=b:=d;subst d;exact h.not_cell k)).trans k⟩)⟩
theorem Ii.mp{b:Nat}(h:Mp w b f){x:Iv}(d:Ii w x)(hb:But (λk=>k=b) w w'):Ii w' x:=⟨d.bk.mp h hb,d.ck,d.bv.mp h hb,d.cv,d.nc,d.ns⟩
theorem Js.mp{b:Nat}(h:Mp w b f)(i:Js w a L)(hb:But (λk=>k=b) w w'):Js w' a L:=
 ⟨λx q=>(i.1 x q).mp h hb,i.2.1,i.2.2.imp id (λ⟨c,o,e,l⟩=>⟨c,o,e,λr m j v n=>by
   have k:=l r m j v n;exact(hb.cell (block_lt_of_cell k) (λd=>by have d:c=b:=d;subst d;exact h.not_cell k)).trans k⟩)⟩
theorem Ri.mp{b:Nat}(h:Mp w b f){r:Rv}(d:Ri w r)(hb:But (λk=>k=b) w w'):Ri w' r:=⟨d.bl.mp h hb,d.cl,d.bh.mp h hb,d.ch⟩
theorem EJ{r:Rg}(h:j<L.length):jb rd r ((L.drop j).map Iv.it) G=
 if has r (L.getD j Iv.zero).key=false then (G,11) else
 if (L.getD j Iv.zero).size<=32 then jb rd r ((L.drop (j+1)).map Iv.it) G else
 if (iX rd 8 G (L.getD j Iv.zero).child (L.getD j Iv.zero).size).2≠0 then iX rd 8 G (L.getD j Iv.zero).child (L.getD j Iv.zero).size else jb rd r ((L.drop (j+1)).map Iv.it) (iX rd 8 G (L.getD j Iv.zero).child (L.getD j Iv.zero).size).1:=by
 have e:L.getD j Iv.zero=L[j]:=by simp[h]
 rw[df h,bT,e];rfl
theorem sL(w:World)(J d b:Nat)(wf:Value)(o:Bool)(rd:Int->Option Pg)(hA:iF rd)(X:Nat->Prop)(G:List Int)(p:Plv)(q:Pv)(ai:Ri w p.r)(hJ:Js w q.aI q.items)(ak:∀x∈q.items,0<=x.size/\x.size<=3840)(hT:w.heap[J]?=some (.cells (pE b d wf o) 143 (0,0)))(F:Mp w d (gnf G))(hR:i9 52 (.pointer (some ⟨b,0,none⟩)) rd X w)(hX:¬X d)(O:J≠d):
 Calls prog 72 #[.pointer (some ⟨J,0,none⟩),.agg (kU p q)] w λe w'=>e=.returned (.int .i64 (((jb rd p.r.rg (q.items.map Iv.it) G).2:Nat):Int))/\But (λk=>k=d) w w'/\Mp w' d (gnf (jb rd p.r.rg (q.items.map Iv.it) G).1):=by
 have D:=ix (al w (.cells (kU p q) 151));have h:=ag w (.cells (kU p q) 151);have Y:=ix (F.keep D.o);have HT:=ix ((But.ofBelow (S:=λk=>k=d) D.o).same hT O)
 have HR:=ix (hR.keep D.o);have HJ:=ix (hJ.keep D.o);have RI:=ix (ai.keep D.o);have SZ:=ix ak;obtain⟨no,lv,r⟩:=p;obtain⟨kind,aC,aI,cI,L,aD,cD,aA,next⟩:=q
 obtain⟨R,ac⟩:∃R,jb rd r.rg (L.map Iv.it) G=R:=⟨_,rfl⟩;have hn:L.length<=2199023255520:=hJ.2.1;simp only[ac];simp only[kU] at *;have RR:=ix ac;obtain⟨k0,k1,k2,k3,k4,k5,k6,k7,k8,k9⟩:=lg h;have aw:d<w.heap.size:=F.lt;clear hT F hR ac ai hJ ak;go_enter func72,ntmps72;go_wp2;generalize av:w.alloc _=w1 at *;have h:=ix (show w1.heap[w.heap.size]?=_ from h)
 have ax:d<w.heap.size:=aw;have am:=ix (But.ofBelow (S:=λk=>k=d) D.o)
 clear av k0 k1 k2 k3 k4 k5 k6 k7 k8 k9;go_loopw [12] (λq wr=>∃(j:Nat)(l:List Int),q=.int .i64 j/\j<=L.length/\But (λk=>k=d) w1 wr/\Mp wr d (gnf l)/\jb rd r.rg ((L.drop j).map Iv.it) l=R) (λq _=>L.length-(intOf q).toNat)
 case atStart=>exact⟨0,G,rfl,an _,But.refl _ _,Y.o,RR.o⟩
 case round=>
  obtain⟨j,l,rfl,hj,I,F,hc⟩:=hrel;have t:=ix I;have H:=ix F;have HC:=ix hc;have ah:=ix (I.same HT.o O);have af:=ix (HR.o.but I (λk e ae=>by have e:k=d:=e;rw[e] at ae;exact hX ae))
  obtain⟨k0,k1,k2,k3,k4,k5,k6,k7,k8,k9⟩:=lg (I.same h.o (λe=>by have e:w.heap.size=d:=e;omega))
  clear I F hc;by_cases aa:j<L.length
  . have aB:(j:Int)<(L.length:Int):=by omega
    obtain⟨b1,o1,rfl,cA⟩:=(HJ.o.mp Y.o t.o).at aa;have B:=ix ((EJ aa).symm.trans HC.o);have v:=ix (λ(W:World)(hb:Below wr.heap.size wr W)=>sh W r (L.getD j Iv.zero).aK _ (L.getD j Iv.zero).cK (L.getD j Iv.zero).key ((RI.o.mp Y.o t.o).keep hb) ((((HJ.o.mp Y.o t.o).1 _ (iH aa)).bk).keep hb) rfl)
    have ab:=SZ.o _ (iH aa);clear HC;generalize L.getD j Iv.zero=x at *;obtain⟨aK,cK,V,aV,cV,val,child,s⟩:=x;simp only[Iv.cs] at *;obtain⟨i0,i1,i2,i3⟩:=zi cA;clear cA;have E:=ix (λ(W:World)(A:W.heap[J]?=some (.cells (pE b d wf o) 143 (0,0)))(h2:Mp W d (gnf l))(h3:i9 52 (.pointer (some ⟨b,0,none⟩)) rd X W)=>qS W J d b wf o rd hA X l ⟨aK,cK,V,aV,cV,val,child,s⟩ ab.2 ab.1 A h2 h3 hX O)
    simp only at ab B v E;have m:=ix (al wr (.cells #[.slice aK V.length cK,.slice aV val.length cV,.int .i64 child,.int .i64 s] 89));have m2:=(m.o.cell (p:=⟨w.heap.size,2,none⟩) (block_lt_of_cell k2)).trans k2;have m3:=(m.o.cell (p:=⟨w.heap.size,3,none⟩) (block_lt_of_cell k3)).trans k3;have m4:=(m.o.cell (p:=⟨w.heap.size,4,none⟩) (block_lt_of_cell k4)).trans k4;have N1:=ag wr (.cells #[.slice aK V.length cK,.slice aV val.length cV,.int .i64 child,.int .i64 s] 89);have BE:=ix (am.o.trans t.o (λ_ _ e=>e))
    by_cases A:has r.rg V=false
    . have n:Hid ((l,11)=R):=(ix ((if_pos A).symm.trans B.o));rw[A] at v;clear B E;go_wp2_with (go_at_call 91;refine(v.o _ m.o).mono ?_;rintro y K ⟨rfl,hb⟩;have i:=ix (bt m.o hb);clear hb)
      go_ret;rw[<-n.o];exact⟨rfl,BE.o.andBelow i.o,H.o.keep i.o⟩
    . have ap:has r.rg V=true:=by simpa using A
      rw[ap] at v;by_cases h2:s<=32
      . have n:Hid (jb rd r.rg ((L.drop (j+1)).map Iv.it) l=R):=(ix (((if_neg A).trans (if_pos h2)).symm.trans B.o));clear B E;obtain⟨P,T,U,C⟩:=jJ N1;go_wp2_with (go_at_call 91;refine(v.o _ m.o).mono ?_;rintro y K ⟨rfl,hb⟩;have i:=ix (bt m.o hb);have aj:=(hb.cell (p:=⟨wr.heap.size,3,none⟩) (block_lt_of_cell C)).trans C;clear hb)
        go_roundw
        case rel=>exact⟨j+1,l,by go_num,by omega,t.o.andBelow i.o,H.o.keep i.o,n.o⟩
        case measure=>simp[intOf];omega
      . have n:Hid ((if (iX rd 8 l child s).2≠0 then iX rd 8 l child s else jb rd r.rg ((L.drop (j+1)).map Iv.it) (iX rd 8 l child s).1)=R):=(ix (((if_neg A).trans (if_neg h2)).symm.trans B.o))
        clear B;obtain⟨P,T,U,C⟩:=jJ N1;generalize iX rd 8 l child s=ao at *;obtain⟨Z1,Z⟩:=ao;simp only at n E;by_cases hz:Z=0
        . subst hz;have ad:Hid (jb rd r.rg ((L.drop (j+1)).map Iv.it) Z1=R):=ix ((if_neg (by simp)).symm.trans n.o)
          clear n;go_wp2_with (first|(go_at_call 91;refine(v.o _ m.o).mono ?_;rintro y K ⟨rfl,hb⟩;have i:=ix (bt m.o hb);have aq:=(hb.cell (p:=⟨wr.heap.size,0,none⟩) (block_lt_of_cell P)).trans P;have ar:=(hb.cell (p:=⟨wr.heap.size,1,none⟩) (block_lt_of_cell T)).trans T;have au:=(hb.cell (p:=⟨wr.heap.size,2,none⟩) (block_lt_of_cell U)).trans U;have aj:=(hb.cell (p:=⟨wr.heap.size,3,none⟩) (block_lt_of_cell C)).trans C;have C2:=ix (E.o K ((But.ofBelow (S:=λk=>k=d) i.o).same ah.o O) (H.o.keep i.o) (af.o.keep i.o));clear hb)|(go_at_call 120;refine C2.o.mono ?_;rintro y w3 ⟨rfl,N,M⟩;have B3:=ix N;have M3:=ix M;clear N M))
          go_roundw
          case rel=>exact⟨j+1,Z1,by go_num,by omega,(t.o.andBelow i.o).trans B3.o (λ_ _ e=>e),M3.o,ad.o⟩
          case measure=>simp[intOf];omega
        . have ad:Hid ((Z1,Z)=R):=ix ((if_pos hz).symm.trans n.o);clear n;have ay:((Z:Int)==0)=false:=by simp[hz]
          have az:¬(Z:Int)=0:=by omega
          go_wp2_with (first|(go_at_call 91;refine(v.o _ m.o).mono ?_;rintro y K ⟨rfl,hb⟩;have i:=ix (bt m.o hb);have aq:=(hb.cell (p:=⟨wr.heap.size,0,none⟩) (block_lt_of_cell P)).trans P;have ar:=(hb.cell (p:=⟨wr.heap.size,1,none⟩) (block_lt_of_cell T)).trans T;have au:=(hb.cell (p:=⟨wr.heap.size,2,none⟩) (block_lt_of_cell U)).trans U;have aj:=(hb.cell (p:=⟨wr.heap.size,3,none⟩) (block_lt_of_cell C)).trans C;have C2:=ix (E.o K ((But.ofBelow (S:=λk=>k=d) i.o).same ah.o O) (H.o.keep i.o) (af.o.keep i.o));clear hb)|(go_at_call 120;refine C2.o.mono ?_;rintro y w3 ⟨rfl,N,M⟩;have B3:=ix N;have M3:=ix M;clear N M))
          go_ret;rw[<-ad.o];exact⟨rfl,(BE.o.andBelow i.o).trans B3.o (λ_ _ e=>e),M3.o⟩
  . obtain rfl:j=L.length:=by omega
    have n:Hid ((l,0)=R):=by
     show _=_;rw[<-HC.o,fR];rfl
    go_wp2;go_ret;rw[<-n.o];exact⟨rfl,am.o.trans t.o (λ_ _ e=>e),H.o⟩
def mg(L:List Plv):List Value:=(L.map λp=>p.cs.toList).flatten
theorem At(L:List Plv)(x:Plv):mg L++x.cs.toList=mg (L++[x]):=by simp[mg]
theorem we:∀(L:List Plv)(i k:Nat)(x:Plv),L[i]?=some x->k<5->(mg L)[i*5+k]?=x.cs.toList[k]?
 | [],i,k,x,h,_=>by simp at h
 |y::L,0,k,x,h,hk=>by
  simp only[List.getElem?_cons_zero,au] at h;subst h;simp only[mg,bT,dY,eV,de];rw[db (by simp[Plv.cs];omega)]
 |y::L,i+1,k,x,h,hk=>by
  simp only[eE] at h;have:=we L i k x h hk;simp only[mg,bT,dY] at this ⊢;rw[bP (by simp[Plv.cs];omega),<-this]
  congr 1
  simp[Plv.cs];omega
theorem xC:(prog.info? 148).map (λi=>(i.zero,i.size,i.bytes))=some (some (.agg #[.int .i64 0,.int .i64 0,.slice none 0 0,.slice none 0 0,.bool false]),5,72):=by kernel_rfl
theorem xT{W:World}{x:Plv}{t:TypeId}(h:W.heap[g]?=some (.cells x.cs t (0,0))):∀j u,x.cs.toList[j]?=some u->W.cell? ((⟨g,0,none⟩:Addr).add j)=some u:=by
 intro j u b;rw[Addr.add_mid,de,ai _ _ _ _ _ _ h,<-b];simp
theorem xw{x:Plv}:∀u∈x.cs.toList,u.oneCell'=true:=by
 intro u b;simp only[Plv.cs,bQ,cf,fY] at b;rcases b with rfl|rfl|rfl|rfl|rfl<;>rfl
theorem Q.Gw.rrow{L:List Plv}(h:Q.Gw 148 5 w a c L.length (mg L)):kg w a Plv.cs 5 L:=by
 rcases h.cases with⟨_,_,h0,_⟩|⟨g,cur,rfl,hg,h1,h2,h3,h4⟩
 . exact .inl (dz.1 h0)
 . refine .inr ⟨g,0,rfl,λi x d j v b=>?_⟩
   have k:i<L.length:=by rcases Nat.lt_or_ge i L.length with h|h;exact h;rw[ep h] at d;cases d
   have e:j<5:=by rcases Nat.lt_or_ge j 5 with h|h;exact h;rw[ep (by simp[Plv.cs];omega)] at b;cases b
   rw[de,ai _ _ _ _ _ _ hg,<-b,<-we L i j x d e,<-h4,d5,if_pos (by omega)]
   simp
structure Bn(w wx:World)(B:List Plx)(j:Nat)(a:Option Addr)(c:Nat)(L:List Plv):Prop where
 gw:Q.Gw 148 5 wx a c j (mg L)
 ln:L.length=j
 pl:L.map Plv.px=B.take j
 el:∀x∈L,Ro w wx x.r/\Rb x.r
 nw:∀x,a=some x->w.heap.size<=x.block
 b:Below w.heap.size w wx
theorem Bn.keep{d:World}{B:List Plx}{L:List Plv}(h:Bn w wx B j a c L)(hb:Below wx.heap.size wx d):Bn w d B j a c L:=
 ⟨h.gw.keep hb,h.ln,h.pl,λx b=>⟨(h.el x b).1.keep hb,(h.el x b).2⟩,h.nw,bt h.b hb⟩
theorem Bn.app{b:World}{B:List Plx}{L:List Plv}(h:Bn w wx B j a c L){x:Plv}(H:Ro w wx x.r)(I:Rb x.r)(F:B[j]?=some x.px){n:Nat}(A:Q.Gw 148 5 b (some ⟨g,0,none⟩) n (j+1) (mg L++x.cs.toList))(C:New wx a (some ⟨g,0,none⟩))(q:But (Q.InA a) wx b):Bn w b B (j+1) (some ⟨g,0,none⟩) n (L++[x]):=by
 have v:Below w.heap.size w b:=((But.ofBelow (S:=Q.InA a) h.b).trans q (λ_ _ e=>e)).below (λk hk ⟨y,hy,e⟩=>by have:=h.nw y hy;omega)
 have own:∀{i:Option Addr}{c2:Nat}{m:List Nat},Own w wx i c2 m->Own w b i c2 m:=λ{i c2 m} s=>s.but q v (λy hy ⟨z,l,e⟩=>by
  obtain⟨J,D⟩:=h.gw.blk l;rcases s.r.cases with⟨e1,_⟩|⟨g2,cur2,e1,hg2,_⟩
  . rw[e1] at hy;cases hy
  . rw[e1] at hy;cases hy;exact jd D hg2 (by decide) e)
 have t:∀{r:Rv},Ro w wx r->Ro w b r:=λd=>⟨own d.l,own d.h,d.apart,d.l8,d.h8⟩
 refine⟨by rw[<-At];exact A,by rw[af,h.ln];rfl,?_,?_,?_,v⟩
 . rw[dy,h.pl,bT,eG];obtain⟨E,e⟩:=bA.1 F;rw[bZ E,e]
 . intro y hy;rcases bO.1 hy with hy|hy
   . exact⟨t (h.el y hy).1,(h.el y hy).2⟩
   . rw[aZ.1 hy];exact⟨t H,I⟩
 . intro y hy;rcases C y hy with⟨z,l,e⟩|h2
   . rw[<-e];exact h.nw z l
   . exact ay h.b.size h2
theorem Hh{at_:Plx}(h:j<p.items.length):(ben at_ p)[j]?=some ⟨(p.at j).child,at_.lv-1,wth p j at_.keys⟩:=by
 unfold ben;rw[ed,List.getElem?_range h];rfl
theorem Bn.done{p:Plv}{q:Pv}{L:List Plv}(h:Bn w wx (ben p.px q.pg) q.items.length a c L):Ex w wx (.returned (.slice a q.items.length c)) p q:=by
 have d:=h.ln;refine⟨a,c,L,by rw[d],?_,by have:=h.gw;rw[<-d] at this;exact this.rrow,λx b=>⟨h.nw x b,h.gw.lt b⟩,λx b=>⟨(h.el x b).1.ri,(h.el x b).2,λy hy=>?_⟩,h.b⟩
 . rw[h.pl,eU (by simp[ben,Pv.pg])]
 . rcases hy with hy|hy
   . exact⟨(h.el x b).1.l.fresh hy,(h.el x b).1.l.r.lt hy⟩
   . exact⟨(h.el x b).1.h.fresh hy,(h.el x b).1.h.r.lt hy⟩
end Go.Proofs.YteaogidofpfmmaaGreat
