import Derived.Test.YteaogidofpfmmaaGreatWaB8
set_option linter.all false
set_option maxHeartbeats 6400000
set_option maxRecDepth 10000
namespace Go.Proofs.YteaogidofpfmmaaGreat
open Go.Proofs.Tryz
open Go.RowKit
variable {a b:List Nat}{n:Nat}
def grt(a b:List Nat):List Nat:=if iy a b<0 then b else a
def lsr(a b:List Nat):List Nat:=if iy a b<0 then a else b
def jK(a b:Rg):Rg:=⟨grt a.lo b.lo,if a.op then (if b.op then [] else b.hi) else (if b.op then a.hi else lsr a.hi b.hi),a.op&&b.op⟩
theorem wM(w:World)(a b:Option Addr)(n c m d:Nat)(l k:List Nat)(g:Bs w a l)(i:Bs w b k)(A:n=l.length)(y:m=k.length)(v:l.length<=c)(x:k.length<=d):
 Calls prog 132 #[.slice a n c,.slice b m d] w λe B=>∃q r,e=.returned (.slice q (grt l k).length r)/\Bs w q (grt l k)/\(grt l k).length<=r/\B=w:=by
 subst A y;have p:=ix (kf w a b l.length c k.length d l k g i rfl rfl);have s:=ix g;have t:=ix i;clear g i;by_cases h:iy l k<0
 . have f:Hid (grt l k=k):=by show _=_;unfold grt;rw[if_pos h]
   generalize iy l k=z at *;go_enter func132,ntmps132;go_wp2_with fail
   refine p.o.mono ?_;rintro e C ⟨rfl,j⟩;obtain rfl:=j.symm;go_wp2;go_ret;exact⟨b,d,by rw[f.o];rfl,by rw[f.o];exact t.o,by rw[f.o];exact x,rfl⟩
 . have f:Hid (grt l k=l):=by show _=_;unfold grt;rw[if_neg h]
   generalize iy l k=z at *;go_enter func132,ntmps132;go_wp2_with fail
   refine p.o.mono ?_;rintro e C ⟨rfl,j⟩;obtain rfl:=j.symm;go_wp2;go_ret;exact⟨a,c,by rw[f.o];rfl,by rw[f.o];exact s.o,by rw[f.o];exact v,rfl⟩
theorem yE(w:World)(a b:Option Addr)(n c m d:Nat)(l k:List Nat)(g:Bs w a l)(i:Bs w b k)(A:n=l.length)(y:m=k.length)(v:l.length<=c)(x:k.length<=d):
 Calls prog 133 #[.slice a n c,.slice b m d] w λe B=>∃q r,e=.returned (.slice q (lsr l k).length r)/\Bs w q (lsr l k)/\(lsr l k).length<=r/\B=w:=by
 subst A y;have p:=ix (kf w a b l.length c k.length d l k g i rfl rfl);have s:=ix g;have t:=ix i;clear g i;by_cases h:iy l k<0
 . have f:Hid (lsr l k=l):=by show _=_;unfold lsr;rw[if_pos h]
   generalize iy l k=z at *;go_enter func133,ntmps133;go_wp2_with fail
   refine p.o.mono ?_;rintro e C ⟨rfl,j⟩;obtain rfl:=j.symm;go_wp2;go_ret;exact⟨a,c,by rw[f.o];rfl,by rw[f.o];exact s.o,by rw[f.o];exact v,rfl⟩
 . have f:Hid (lsr l k=k):=by show _=_;unfold lsr;rw[if_neg h]
   generalize iy l k=z at *;go_enter func133,ntmps133;go_wp2_with fail
   refine p.o.mono ?_;rintro e C ⟨rfl,j⟩;obtain rfl:=j.symm;go_wp2;go_ret;exact⟨b,d,by rw[f.o];rfl,by rw[f.o];exact t.o,by rw[f.o];exact x,rfl⟩
def Rb(r:Rv):Prop:=r.lo.length<=140737488355328/\r.hi.length<=140737488355328
theorem pC(c:a.length<=n)(hb:b.length<=n):(grt a b).length<=n:=by unfold grt;split<;>assumption
theorem pH(c:a.length<=n)(hb:b.length<=n):(lsr a b).length<=n:=by unfold lsr;split<;>assumption
theorem AX(c:B8 a)(hb:B8 b):B8 (grt a b):=by unfold grt;split<;>assumption
theorem AM(c:B8 a)(hb:B8 b):B8 (lsr a b):=by unfold lsr;split<;>assumption
theorem mX(w:World)(o p q:Obj){c:World}(hb:Below (((w.alloc o).alloc p).alloc q).heap.size (((w.alloc o).alloc p).alloc q) c):c.heap[w.heap.size]?=some o/\c.heap[w.heap.size+1]?=some p/\c.heap[w.heap.size+2]?=some q/\Below w.heap.size w c/\w.heap.size+3<=c.heap.size:=by
 have e:(((w.alloc o).alloc p).alloc q).heap.size=w.heap.size+3:=by rw[size_alloc,size_alloc,size_alloc]
 have d:=iS w o p (bt (al ((w.alloc o).alloc p) q) hb);refine⟨d.1,d.2.1,(hb.block _ (by rw[e];omega)).trans ?_,d.2.2.1,by have:=hb.size;omega⟩
 have:=bj ((w.alloc o).alloc p) q;rw[size_alloc,size_alloc] at this;exact this
theorem Own.setCell{w c:World}{a:Option Addr}{cap:Nat}{l:List Nat}(h:Own w c a cap l){p:Addr}(d:w.heap.size<=p.block)(f:∀x,a=some x->x.block≠p.block)(v:Value):Own w (c.setCell p v) a cap l:=
 ⟨h.r.but (S:=λk=>k=p.block) ⟨rfl,rfl,rfl,by simp[World.setCell],λk _ hk=>Below.heap_setCell _ _ _ _ (by simpa using hk)⟩ (λx g e=>f x g e),h.n,h.b.setCell d v⟩
set_option maxRecDepth 100000 in
theorem qm(w:World)(r s:Rv)(C:Ri w r)(D:Ri w s)(N:Rb r)(O:Rb s):
 Calls prog 89 #[r.val,s.val] w λe w'=>∃q:Rv,e=.returned q.val/\Ro w w' q/\q.rg=jK r.rg s.rg:=by
 have h:=ix λd (hb:Below w.heap.size w d)=>wM d r.aL s.aL r.lo.length r.cL s.lo.length s.cL r.lo s.lo (C.bl.keep hb) (D.bl.keep hb) rfl rfl C.cl D.cl
 have LH:=ix λd (hb:Below w.heap.size w d)=>yE d r.aH s.aH r.hi.length r.cH s.hi.length s.cH r.hi s.hi (C.bh.keep hb) (D.bh.keep hb) rfl rfl C.ch D.ch
 have K:=ix λ(d:World) a c l (hB:Bs d a l)(ah:l.length<=140737488355328)=>mJ d a l.length c l hB rfl (by omega)
 have L:=ix (AX C.bl.1 D.bl.1);have S8:=ix (AM C.bh.1 D.bh.1);have GN:=ix (pC N.1 O.1);have SN:=ix (pH N.2 O.2);have HR:=ix C;have HS:=ix D;have ae:=ix N;have af:=ix O;clear C D N O;obtain⟨aL,cL,lo,aH,cH,M,op⟩:=r;obtain⟨bL,dL,ko,bH,dH,P,oq⟩:=s;unfold Rv.val;dsimp only[Rv.cs,Rv.rg,jK] at *;generalize grt lo ko=g at *;generalize lsr M P=Z at *;go_enter func89,ntmps89;go_wp2_with fail
 refine(h.o _ (bt (bt (al _ _) (al _ _)) (al _ _))).mono ?_;rintro e d ⟨a1,c1,rfl,I,ag,S⟩;obtain rfl:=S.symm;have aa:=ix I;clear I;go_wp2_with fail
 refine(K.o _ a1 c1 g aa.o GN.o).mono ?_;rintro e d ⟨rfl,R⟩;rw[size_alloc,size_alloc,size_alloc] at R ⊢;obtain⟨m0,m1,m2,I,ac⟩:=mX _ _ _ _ R.b;obtain⟨T,U,V⟩:=iz m0;obtain⟨W,X,Y⟩:=iz m1;have E:=ix (Own.pre (bt (bt (al _ _) (al _ _)) (al _ _)) R);have G:Hid (∀o,(d.alloc o).heap[w.heap.size+1+1]?=some (.cells #[.slice none 0 0,.slice none 0 0,.bool false] 62 (0,0))):=λo=>((al d o).block _ (by omega)).trans m2
 have F:Hid (∀o,Below w.heap.size w (d.alloc o)):=λo=>bt I (al _ _)
 have t:=ix ac;have aj:w.heap.size<d.heap.size:=by omega
 have ak:w.heap.size+1<d.heap.size:=by omega
 clear R m0 m1 m2 I ac h ag aa;cases op with
 |true=>
  cases oq with
  |true=>
   go_wp2_with (refine bz rfl 62 _ _ rfl (w.heap.size+1+1) _ rfl rfl 62 _ (G.o _) iY rfl (by simp[Value.oneCell']) ?_)
   refine az (v:=.agg _) (dG results89 _ _ (w.heap.size+1+1) 62 _ (0,0) _ rfl (bu _ _ _ _ _ _ (G.o _)) underlying62 rfl iY) rfl ?_;refine⟨⟨some ⟨w.heap.size+1+1+1,0,none⟩,g.length,g,none,0,[],true⟩,rfl,⟨(E.o.keep (al _ _)).setRow (by omega) (λx f e=>?_) _,Own.nil w (below_setRow (F.o _) (by omega) _),(λx y _ k=>by cases k),L.o,B8.nil⟩,by simp⟩
   simp only[au] at f;subst f;simp at e
  |false=>
   go_wp2_with fail
   refine(K.o _ bH dH P ((HS.o.keep (F.o _)).bh) af.o.2).mono ?_;rintro e m ⟨rfl,i⟩;have B:=ix (Own.pre (F.o _) i);have A:Hid (∀v,(m.setCell ⟨d.heap.size,1,none⟩ v).heap[w.heap.size+1+1]?=some (.cells #[.slice none 0 0,.slice none 0 0,.bool false] 62 (0,0))):=λv=>(Below.heap_setCell _ _ _ _ (by have:=t.o;show _≠d.heap.size;omega)).trans ((i.b.block _ (by rw[size_alloc];have:=t.o;omega)).trans (G.o _))
   have j:=(i.b.block d.heap.size (by rw[size_alloc];omega)).trans (bj _ _)
   obtain⟨n0,n1,n2⟩:=iz j;have nf:=bq m d.heap.size 1 _ _ j;have H:=ix ((E.o.keep (al _ _)).keep i.b);rw[size_alloc] at B ⊢;clear i j T U V W X Y;go_wp2_with (refine bz rfl 62 _ _ rfl (w.heap.size+1+1) _ rfl rfl 62 _ (A.o _) iY rfl (by simp[Value.oneCell']) ?_)
   refine az (v:=.agg _) (dG results89 _ _ (w.heap.size+1+1) 62 _ (0,0) _ rfl (bu _ _ _ _ _ _ (A.o _)) underlying62 rfl iY) rfl ?_;have J:=E.o.r.lt rfl;dsimp only at J;refine⟨⟨some ⟨w.heap.size+1+1+1,0,none⟩,g.length,g,some ⟨d.heap.size+1,0,none⟩,(P).length,P,false⟩,rfl,⟨(H.o.setCell (p:=⟨d.heap.size,1,none⟩) (by show _<=d.heap.size;omega) (λx f e=>?_) _).setRow (by omega) (λx f e=>?_) _,(B.o.setCell (p:=⟨d.heap.size,1,none⟩) (by show _<=d.heap.size;omega) (λx f e=>?_) _).setRow (by omega) (λx f e=>?_) _,λx y f k e=>?_,L.o,HS.o.bh.1⟩,by simp⟩
   all_goals (simp only[au] at f;subst f)
   all_goals (try (simp only[au] at k;subst k))
   all_goals (dsimp only at e;have:=t.o;omega)
 |false=>
  cases oq with
  |true=>
   go_wp2_with fail
   refine(K.o _ aH cH M ((HR.o.keep (F.o _)).bh) ae.o.2).mono ?_;rintro e m ⟨rfl,i⟩;have B:=ix (Own.pre (F.o _) i);have A:Hid (∀v,(m.setCell ⟨d.heap.size,1,none⟩ v).heap[w.heap.size+1+1]?=some (.cells #[.slice none 0 0,.slice none 0 0,.bool false] 62 (0,0))):=λv=>(Below.heap_setCell _ _ _ _ (by have:=t.o;show _≠d.heap.size;omega)).trans ((i.b.block _ (by rw[size_alloc];have:=t.o;omega)).trans (G.o _))
   have j:=(i.b.block d.heap.size (by rw[size_alloc];omega)).trans (bj _ _)
   obtain⟨n0,n1,n2⟩:=iz j;have nf:=bq m d.heap.size 1 _ _ j;have H:=ix ((E.o.keep (al _ _)).keep i.b);rw[size_alloc] at B ⊢;clear i j T U V W X Y;go_wp2_with (refine bz rfl 62 _ _ rfl (w.heap.size+1+1) _ rfl rfl 62 _ (A.o _) iY rfl (by simp[Value.oneCell']) ?_)
   refine az (v:=.agg _) (dG results89 _ _ (w.heap.size+1+1) 62 _ (0,0) _ rfl (bu _ _ _ _ _ _ (A.o _)) underlying62 rfl iY) rfl ?_;have J:=E.o.r.lt rfl;dsimp only at J;refine⟨⟨some ⟨w.heap.size+1+1+1,0,none⟩,g.length,g,some ⟨d.heap.size+1,0,none⟩,(M).length,M,false⟩,rfl,⟨(H.o.setCell (p:=⟨d.heap.size,1,none⟩) (by show _<=d.heap.size;omega) (λx f e=>?_) _).setRow (by omega) (λx f e=>?_) _,(B.o.setCell (p:=⟨d.heap.size,1,none⟩) (by show _<=d.heap.size;omega) (λx f e=>?_) _).setRow (by omega) (λx f e=>?_) _,λx y f k e=>?_,L.o,HR.o.bh.1⟩,by simp⟩
   all_goals (simp only[au] at f;subst f)
   all_goals (try (simp only[au] at k;subst k))
   all_goals (dsimp only at e;have:=t.o;omega)
  |false=>
   go_wp2_with fail
   refine(LH.o _ (F.o _)).mono ?_;rintro e m ⟨a2,c2,rfl,ab,ai,S⟩;obtain rfl:=S.symm;have ad:=ix ab;clear ab;go_wp2_with fail
   refine(K.o _ a2 c2 Z ad.o SN.o).mono ?_;rintro e m ⟨rfl,i⟩;have B:=ix (Own.pre (F.o _) i);have A:Hid (∀v,(m.setCell ⟨d.heap.size,1,none⟩ v).heap[w.heap.size+1+1]?=some (.cells #[.slice none 0 0,.slice none 0 0,.bool false] 62 (0,0))):=λv=>(Below.heap_setCell _ _ _ _ (by have:=t.o;show _≠d.heap.size;omega)).trans ((i.b.block _ (by rw[size_alloc];have:=t.o;omega)).trans (G.o _))
   have j:=(i.b.block d.heap.size (by rw[size_alloc];omega)).trans (bj _ _)
   obtain⟨n0,n1,n2⟩:=iz j;have nf:=bq m d.heap.size 1 _ _ j;have H:=ix ((E.o.keep (al _ _)).keep i.b);rw[size_alloc] at B ⊢;clear i j T U V W X Y;go_wp2_with (refine bz rfl 62 _ _ rfl (w.heap.size+1+1) _ rfl rfl 62 _ (A.o _) iY rfl (by simp[Value.oneCell']) ?_)
   refine az (v:=.agg _) (dG results89 _ _ (w.heap.size+1+1) 62 _ (0,0) _ rfl (bu _ _ _ _ _ _ (A.o _)) underlying62 rfl iY) rfl ?_;have J:=E.o.r.lt rfl;dsimp only at J;refine⟨⟨some ⟨w.heap.size+1+1+1,0,none⟩,g.length,g,some ⟨d.heap.size+1,0,none⟩,(Z).length,Z,false⟩,rfl,⟨(H.o.setCell (p:=⟨d.heap.size,1,none⟩) (by show _<=d.heap.size;omega) (λx f e=>?_) _).setRow (by omega) (λx f e=>?_) _,(B.o.setCell (p:=⟨d.heap.size,1,none⟩) (by show _<=d.heap.size;omega) (λx f e=>?_) _).setRow (by omega) (λx f e=>?_) _,λx y f k e=>?_,L.o,S8.o⟩,by simp⟩
   all_goals (simp only[au] at f;subst f)
   all_goals (try (simp only[au] at k;subst k))
   all_goals (dsimp only at e;have:=t.o;omega)
end Go.Proofs.YteaogidofpfmmaaGreat
namespace Go.Proofs.YteaogidofpfmmaaGreat
open Go.Proofs.Tryz
structure Plx where
 no:Int
 lv:Int
 keys:Rg
def lvl(p:Pg)(lv:Int):Bool:=decide (p.kind≠3)&&decide (p.level=lv)
def wth(p:Pg)(i:Nat)(r:Rg):Rg:=jK r ⟨(p.at i).key,if i+1<p.items.length then (p.at (i+1)).key else [],decide (¬i+1<p.items.length)⟩
def ben(at_:Plx)(p:Pg):List Plx:=(List.range p.items.length).map λi=>⟨(p.at i).child,at_.lv-1,wth p i at_.keys⟩
def ja(n h:Int):Plx:=⟨n,h-1,⟨[],[],true⟩⟩
def flw{α σ:Type}(f:σ->α->σ)(stp:σ->Bool):List α->σ->σ
 | [],s=>s
 |x::L,s=>if stp (f s x)=true then f s x else flw f stp L (f s x)
theorem jB{α σ:Type}(f:σ->α->σ)(a:σ->Bool)(x:α)(L:List α)(s:σ):flw f a (x::L) s=if a (f s x)=true then f s x else flw f a L (f s x):=rfl
structure Mc(σ:Type) where
 gone:σ->List Int
 ent:σ->Int->σ
 tel:σ->Plx->Pg->σ
 bad:σ->σ
 stp:σ->Bool
def iW{α:Type}(o:Bool)(l:List α):List α:=if o=true then l else l.reverse
def iE{σ:Type}(M:Mc σ)(rd:Int->Option Pg)(wants:Rg->Bool)(o:Bool):Nat->σ->Plx->σ
 |fuel,s,at_=>
  if wants at_.keys=false then s else
  match rd at_.no with
  |none=>M.bad s
  |some p=>
   if at_.no∈M.gone s then M.bad s else
   if lvl p at_.lv=false then M.bad (M.ent s at_.no) else
   if M.stp (M.tel (M.ent s at_.no) at_ p)=true\/p.kind=1 then M.tel (M.ent s at_.no) at_ p else
   match fuel with
   |0=>M.tel (M.ent s at_.no) at_ p
   |n+1=>flw (λs c=>iE M rd wants o n s c) M.stp (iW o (ben at_ p)) (M.tel (M.ent s at_.no) at_ p)
section
variable {σ:Type} {M:Mc σ} {rd:Int->Option Pg} {wants:Rg->Bool} {o:Bool} {f:Nat} {s:σ} {a:Plx} {p:Pg}
theorem FG(h:wants a.keys=false):iE M rd wants o f s a=s:=by unfold iE;rw[if_pos h]
theorem oM(h:wants a.keys=true)(h1:rd a.no=none\/a.no∈M.gone s):iE M rd wants o f s a=M.bad s:=by
 unfold iE;rw[if_neg (by rw[h];decide)]
 cases hp:rd a.no with
 |none=>rfl
 |some p=>
  rcases h1 with h1|h1
  . rw[hp] at h1;cases h1
  . simp only;rw[if_pos h1]
theorem mT(h:wants a.keys=true)(d:rd a.no=some p)(b:a.no∉M.gone s)(c:lvl p a.lv=false):iE M rd wants o f s a=M.bad (M.ent s a.no):=by
 unfold iE;rw[if_neg (by rw[h];decide),d]
 simp only;rw[if_neg b,if_pos c]
theorem oR(h:wants a.keys=true)(e:rd a.no=some p)(b:a.no∉M.gone s)(c:lvl p a.lv=true)(d:M.stp (M.tel (M.ent s a.no) a p)=true\/p.kind=1):iE M rd wants o f s a=M.tel (M.ent s a.no) a p:=by
 unfold iE;rw[if_neg (by rw[h];decide),e]
 simp only;rw[if_neg b,if_neg (by rw[c];decide),if_pos d]
theorem sX(h:wants a.keys=true)(j:rd a.no=some p)(b:a.no∉M.gone s)(d:lvl p a.lv=true)(g:M.stp (M.tel (M.ent s a.no) a p)=false)(i:p.kind≠1):iE M rd wants o (f+1) s a=flw (λs c=>iE M rd wants o f s c) M.stp (iW o (ben a p)) (M.tel (M.ent s a.no) a p):=by
 conv=>lhs;unfold iE
 rw[if_neg (by rw[h];decide),j]
 simp only;rw[if_neg b,if_neg (by rw[d];decide),if_neg (by rintro(e|e);rw[g] at e;cases e;exact i e)]
end
structure Cst where
 G:List Int
 ks:Nat
 er:Nat
def iX(rd:Int->Option Pg):Nat->List Int->Int->Int->List Int×Nat
 |0,G,_,_=>(G,0)
 |t+1,G,n,l=>
  if l<=0 then (G,0) else
  match rd n with
  |none=>(G,15)
  |some p=>
   if n∈G then (G,15) else
   if p.kind≠3 then (n::G,15) else
   if (p.data.length:Int)≠min l 480\/decide (p.next=0)≠decide (l<=480) then (n::G,5) else
   iX rd t (n::G) p.next (l-480)
def jb(rd:Int->Option Pg)(r:Rg):List It->List Int->List Int×Nat
 | [],G=>(G,0)
 |x::L,G=>
  if has r x.key=false then (G,11) else
  if x.size<=32 then jb rd r L G else
  if (iX rd 8 G x.child x.size).2≠0 then iX rd 8 G x.child x.size else jb rd r L (iX rd 8 G x.child x.size).1
def ju(rd:Int->Option Pg)(root:Int)(s:Cst)(at_:Plx)(p:Pg):Cst:=
 if at_.no≠root/\p.items.length<4 then {s with er:=5} else
 if p.kind=1 then
  (if (jb rd at_.keys p.items s.G).2≠0 then ⟨(jb rd at_.keys p.items s.G).1,s.ks,(jb rd at_.keys p.items s.G).2⟩
   else ⟨(jb rd at_.keys p.items s.G).1,s.ks+p.items.length,0⟩)
 else s
def iM(rd:Int->Option Pg)(root:Int):Mc Cst where
 gone:=Cst.G
 ent:=λs n=>{s with G:=n::s.G}
 tel:=ju rd root
 bad:=λs=>{s with er:=15}
 stp:=λs=>decide (s.er≠0)
def iF(rd:Int->Option Pg):Prop:=∀n p,rd n=some p->Sound p
structure Tr where
 root:Int
 height:Int
 items:Int
def kO(rd:Int->Option Pg)(t:Tr):Cst:=iE (iM rd t.root) rd (λ_=>true) true (t.height-1).toNat ⟨[],0,0⟩ (ja t.root t.height)
def chk(rd:Int->Option Pg)(t:Tr):Nat:=
 if t.root=0/\t.height=0/\t.items=0 then 0 else
 if t.root=0\/t.height<1\/12<t.height\/t.items<1 then 5 else
 if (kO rd t).er≠0 then (kO rd t).er else
 if ((kO rd t).ks:Int)≠t.items then 4 else 0
end Go.Proofs.YteaogidofpfmmaaGreat
namespace Go.Proofs.YteaogidofpfmmaaGreat
open Go.Proofs.Tryz
open Go.RowKit Go.Shelf
attribute [local go_sem] Oper.semAt_some
variable {m o:Nat}{a:Option Addr}{t:TypeId}{v0 v1 v2 v3 v4:Value}{W w:World}
structure Plv where
 no:Int
 lv:Int
 r:Rv
def Plv.cs(p:Plv):Array Value:=#[.int .i64 p.no,.int .i64 p.lv,.slice p.r.aL p.r.lo.length p.r.cL,.slice p.r.aH p.r.hi.length p.r.cH,.bool p.r.op]
def Plv.vl(p:Plv):Value:=.agg p.cs
def Plv.px(p:Plv):Plx:=⟨p.no,p.lv,p.r.rg⟩
theorem EF:(prog.info? 148).map (·.size)=some 5:=by kernel_rfl
def kg{α:Type}(w:World)(a:Option Addr)(cs:α->Array Value)(sz:Nat)(xs:List α):Prop:=xs=[]\/∃b off,a=some ⟨b,off,none⟩/\∀i x,xs[i]?=some x->w.rangeAt b (off+i*sz) (cs x).toList
theorem kg.but{α:Type}{S:Nat->Prop}{f:World}{cs:α->Array Value}{sz:Nat}{xs:List α}(h:kg w a cs sz xs)(hb:But S w f)(g:∀x,a=some x->¬S x.block):kg f a cs sz xs:=by
 rcases h with h|⟨b,c,rfl,h⟩
 . exact .inl h
 . exact .inr ⟨b,c,rfl,λi x e j v d=>(hb.cell (p:=⟨b,c+i*sz+j,none⟩) (block_lt_of_cell (h i x e j v d)) (g ⟨b,c,none⟩ rfl)).trans (h i x e j v d)⟩
theorem kg.at{α:Type}{cs:α->Array Value}{sz:Nat}{xs:List α}(h:kg w a cs sz xs){i:Nat}{x:α}(d:xs[i]?=some x):∃b c,a=some ⟨b,c,none⟩/\w.rangeAt b (c+i*sz) (cs x).toList:=by
 rcases h with rfl|⟨b,c,e,h⟩
 . cases d
 . exact⟨b,c,e,h i x d⟩
theorem Bi{b:Nat}(h:w.rangeAt b o #[v0,v1,v2,v3,v4].toList):w.cell? ⟨b,o,none⟩=some v0/\w.cell? ⟨b,o+1,none⟩=some v1/\w.cell? ⟨b,o+2,none⟩=some v2/\w.cell? ⟨b,o+3,none⟩=some v3/\w.cell? ⟨b,o+4,none⟩=some v4:=
 ⟨h 0 _ rfl,h 1 _ rfl,h 2 _ rfl,h 3 _ rfl,h 4 _ rfl⟩
theorem zi{b:Nat}(h:w.rangeAt b o #[v0,v1,v2,v3].toList):w.cell? ⟨b,o,none⟩=some v0/\w.cell? ⟨b,o+1,none⟩=some v1/\w.cell? ⟨b,o+2,none⟩=some v2/\w.cell? ⟨b,o+3,none⟩=some v3:=
 ⟨h 0 _ rfl,h 1 _ rfl,h 2 _ rfl,h 3 _ rfl⟩
def sH{α τ:Type}(P:Program)(g:Nat)(lb:Array Value)(enc:α->Array Value)(xs:List α)(st:τ->α->τ)(stp:τ->Bool)(t0:τ)(w:World)(X:Nat->Prop):Prop:=
 mh P g lb (λs:List α×τ=>stp s.2) (λs _ _ vals s' er Gv=>∃x rest,s.1=x::rest/\vals=enc x/\s'=(rest,st s.2 x)/\er=false/\∀k,¬Gv k) (λ_=>False) (λ_ _=>True) (xs,t0) (λs=>s.2=flw st stp xs t0) w X
theorem my{α σ:Type}{f:σ->α->σ}{b:σ->Bool}{x:α}{L:List α}{s:σ}(h:b (f s x)=false):flw f b (x::L) s=flw f b L (f s x):=by rw[jB,if_neg (by rw[h];decide)]
theorem mu{α σ:Type}{f:σ->α->σ}{b:σ->Bool}{x:α}{L:List α}{s:σ}(h:b (f s x)=true):flw f b (x::L) s=f s x:=by rw[jB,if_pos h]
theorem s9{α:Type}{xs:List α}{k:Nat}{x:α}(h:xs[k]?=some x):xs.drop k=x::xs.drop (k+1):=by
 obtain⟨hk,e⟩:=bA.1 h;rw[df hk,e]
def rW(x:Plv):Array Value:=#[.agg x.cs]
theorem zS{τ:Type}(st:τ->Plv->τ)(S:τ->Bool)(t0:τ)(w:World)(E:Nat)(a:Option Addr)(cap:Nat)(xs:List Plv)(X:w.cell? ⟨E,0,none⟩=some (.slice a xs.length cap))(e:kg w a Plv.cs 5 xs)(ap:xs.length<=1099511627776):
 sH prog 184 #[.pointer (some ⟨E,0,none⟩)] rW xs st S t0 w (λk=>k=E\/∃x,a=some x/\x.block=k):=by
 intro ar af Jx W d V J aJ sJ au aw B l h0;have aj:W.cell? ⟨E,0,none⟩=some (.slice a xs.length cap):=(V.cell (p:=⟨E,0,none⟩) (block_lt_of_cell X) (λh=>h (.inl rfl))).trans X
 have aa:kg W a Plv.cs 5 xs:=e.but V (λx D h=>h (.inr ⟨x,D,rfl⟩))
 clear X e;have ag:=ix l;have AJ:=ix aJ;clear l B;obtain⟨n,Z⟩:∃n:Nat,n=xs.length:=⟨_,rfl⟩;have ad:=ix Z;rw[<-Z] at aj ap;clear Z;obtain⟨R,B⟩:∃R,flw st S xs t0=R:=⟨_,rfl⟩;rw[B];have HR:=ix B;have VW:=ix aa;have HS:=ix J;clear B aa J V;refine fA func184 rfl trivial ?_ rfl;simp only[ntmps184,cR,a7,bg,Nat.reduceAdd,Nat.reduceSub,cx,cM,dg,c7,b9,b7];gi_wp2
 gi_loopw [7] (λi wr=>∃k:Nat,∃F:Nat->Prop,∃t:τ,k<=n/\i=.int .i64 k/\af F (xs.drop k,t) wr/\But d W wr/\(∀q,F q->d q\/W.heap.size<=q)/\flw st S (xs.drop k) t=R)
  (λi _=>n-(intOf i).toNat)
 case atStart=>exact⟨0,d,t0,an _,rfl,h0,But.refl _ _,λq f=>.inl f,HR.o⟩
 case round=>
  obtain⟨k,F,t,hk,rfl,j,g,I,s⟩:=hrel;by_cases ac:k<n
  . have ab:k<xs.length:=by rw[<-ad.o];exact ac
    obtain⟨x,D⟩:∃x,xs[k]?=some x:=⟨_,bX ab⟩;obtain⟨ah,ao,rfl,b⟩:=(VW.o.but g (λai H h=>HS.o _ h (.inr ⟨ai,H,rfl⟩))).at D
    have C:=s9 D;rw[C] at j s;have ae:wr.rangeAt ah (ao+k*5) #[.int .i64 x.no,.int .i64 x.lv,.slice x.r.aL x.r.lo.length x.r.cL,.slice x.r.aH x.r.hi.length x.r.cH,.bool x.r.op].toList:=b;obtain⟨k0,k1,k2,k3,k4⟩:=Bi ae;have ak:=g.size;obtain⟨fn,ay,aA,ax,H,P⟩:=ag.o F _ wr (wr.alloc (.cells x.cs 148)) _ _ _ (λ_=>False) j (But.ofBelow (al _ _)) ⟨x,xs.drop (k+1),rfl,rfl,rfl,rfl,λ_ h=>h⟩ (λ_ h=>h.elim) (by omega) I
    simp only[rW,Plv.cs] at H P;have c:=ix g;have r:=ix I;have O:=ix s;have v:=ix (al wr (.cells x.cs 148));have sw:=size_alloc wr (.cells x.cs 148);simp only[Plv.cs] at v sw;clear j g I s b ae C D ab ak;have av:(k:Int)<(n:Int):=by omega
    gi_wp2
    refine⟨rfl,P.mono ?_⟩;rintro aq y ⟨G,M,N,⟨rfl,L,K⟩|⟨rfl,L,K⟩⟩
    . have A:=ix K;have T:=ix (show But d W y from(c.o.andBelow v.o).trans M.nog (λq f h=>(r.o q h).elim id (λh=>by have:=c.o.size;omega)))
      have U:=ix (show ∀q,G q->d q\/W.heap.size<=q from λq f=>by
       rcases N q f with h|h|h
       . exact r.o q h
       . exact h.elim
       . exact .inr (by have:=c.o.size;have:=v.o.size;omega))
      have Y:=ix (show flw st S (xs.drop (k+1)) (st t x)=R from by rw[<-O.o,my (L rfl)])
      clear K M N L H P;gi_wp2
      go_roundw
      case rel=>exact⟨k+1,G,st t x,by omega,by go_num,A.o,T.o,U.o,Y.o⟩
      case measure=>simp[intOf];omega
    . have A:=ix K;have T:=ix (show But d W y from(c.o.andBelow v.o).trans M.nog (λq f h=>(r.o q h).elim id (λh=>by have:=c.o.size;omega)))
      have U:=ix (show ∀q,G q->d q\/W.heap.size<=q from λq f=>by
       rcases N q f with h|h|h
       . exact r.o q h
       . exact h.elim
       . exact .inr (by have:=c.o.size;have:=v.o.size;omega))
      have Y:=ix (show st t x=R from by rw[<-O.o,mu L])
      clear K M N L H P;gi_wp2
      refine az (co rfl _ _ _) rfl ?_;exact⟨G,(xs.drop (k+1),st t x),⟨_,rfl⟩,T.o,U.o,Y.o,.inr A.o⟩
  . obtain rfl:k=n:=by omega
    have C:xs.drop k=[]:=dw (by rw[ad.o];exact am _)
    rw[C] at j s;have A:=ix j;have c:=ix g;have r:=ix I;have O:=ix s;clear j g I s C ac;gi_wp2
    go_end0
    exact⟨F,([],t),⟨_,rfl⟩,c.o,r.o,O.o,.inl A.o⟩
def tf(x:Iv):Array Value:=#[.agg x.cs]
theorem zX{τ:Type}(st:τ->Iv->τ)(S:τ->Bool)(t0:τ)(w:World)(E:Nat)(a:Option Addr)(cap:Nat)(xs:List Iv)(X:w.cell? ⟨E,0,none⟩=some (.slice a xs.length cap))(e:kg w a Iv.cs 4 xs)(ap:xs.length<=1099511627776):
 sH prog 171 #[.pointer (some ⟨E,0,none⟩)] tf xs st S t0 w (λk=>k=E\/∃x,a=some x/\x.block=k):=by
 intro ar af Jx W d V J aJ sJ au aw B l h0;have aj:W.cell? ⟨E,0,none⟩=some (.slice a xs.length cap):=(V.cell (p:=⟨E,0,none⟩) (block_lt_of_cell X) (λh=>h (.inl rfl))).trans X
 have aa:kg W a Iv.cs 4 xs:=e.but V (λx D h=>h (.inr ⟨x,D,rfl⟩))
 clear X e;have ag:=ix l;have AJ:=ix aJ;clear l B;obtain⟨n,Z⟩:∃n:Nat,n=xs.length:=⟨_,rfl⟩;have ad:=ix Z;rw[<-Z] at aj ap;clear Z;obtain⟨R,B⟩:∃R,flw st S xs t0=R:=⟨_,rfl⟩;rw[B];have HR:=ix B;have VW:=ix aa;have HS:=ix J;clear B aa J V;refine fA func171 rfl trivial ?_ rfl;simp only[ntmps171,cR,a7,bg,Nat.reduceAdd,Nat.reduceSub,cx,cM,dg,c7,b9,b7];gi_wp2
 gi_loopw [7] (λi wr=>∃k:Nat,∃F:Nat->Prop,∃t:τ,k<=n/\i=.int .i64 k/\af F (xs.drop k,t) wr/\But d W wr/\(∀q,F q->d q\/W.heap.size<=q)/\flw st S (xs.drop k) t=R)
  (λi _=>n-(intOf i).toNat)
 case atStart=>exact⟨0,d,t0,an _,rfl,h0,But.refl _ _,λq f=>.inl f,HR.o⟩
 case round=>
  obtain⟨k,F,t,hk,rfl,j,g,I,s⟩:=hrel;by_cases ac:k<n
  . have ab:k<xs.length:=by rw[<-ad.o];exact ac
    obtain⟨x,D⟩:∃x,xs[k]?=some x:=⟨_,bX ab⟩;obtain⟨ah,ao,rfl,b⟩:=(VW.o.but g (λai H h=>HS.o _ h (.inr ⟨ai,H,rfl⟩))).at D
    have C:=s9 D;rw[C] at j s;have ae:wr.rangeAt ah (ao+k*4) #[.slice x.aK x.key.length x.cK,.slice x.aV x.val.length x.cV,.int .i64 x.child,.int .i64 x.size].toList:=b;obtain⟨k0,k1,k2,k3⟩:=zi ae;have ak:=g.size;obtain⟨fn,ay,aA,ax,H,P⟩:=ag.o F _ wr (wr.alloc (.cells x.cs 89)) _ _ _ (λ_=>False) j (But.ofBelow (al _ _)) ⟨x,xs.drop (k+1),rfl,rfl,rfl,rfl,λ_ h=>h⟩ (λ_ h=>h.elim) (by omega) I
    simp only[tf,Iv.cs] at H P;have c:=ix g;have r:=ix I;have O:=ix s;have v:=ix (al wr (.cells x.cs 89));have sw:=size_alloc wr (.cells x.cs 89);simp only[Iv.cs] at v sw;clear j g I s b ae C D ab ak;have av:(k:Int)<(n:Int):=by omega
    gi_wp2
    refine⟨rfl,P.mono ?_⟩;rintro aq y ⟨G,M,N,⟨rfl,L,K⟩|⟨rfl,L,K⟩⟩
    . have A:=ix K;have T:=ix (show But d W y from(c.o.andBelow v.o).trans M.nog (λq f h=>(r.o q h).elim id (λh=>by have:=c.o.size;omega)))
      have U:=ix (show ∀q,G q->d q\/W.heap.size<=q from λq f=>by
       rcases N q f with h|h|h
       . exact r.o q h
       . exact h.elim
       . exact .inr (by have:=c.o.size;have:=v.o.size;omega))
      have Y:=ix (show flw st S (xs.drop (k+1)) (st t x)=R from by rw[<-O.o,my (L rfl)])
      clear K M N L H P;gi_wp2
      go_roundw
      case rel=>exact⟨k+1,G,st t x,by omega,by go_num,A.o,T.o,U.o,Y.o⟩
      case measure=>simp[intOf];omega
    . have A:=ix K;have T:=ix (show But d W y from(c.o.andBelow v.o).trans M.nog (λq f h=>(r.o q h).elim id (λh=>by have:=c.o.size;omega)))
      have U:=ix (show ∀q,G q->d q\/W.heap.size<=q from λq f=>by
       rcases N q f with h|h|h
       . exact r.o q h
       . exact h.elim
       . exact .inr (by have:=c.o.size;have:=v.o.size;omega))
      have Y:=ix (show st t x=R from by rw[<-O.o,mu L])
      clear K M N L H P;gi_wp2
      refine az (co rfl _ _ _) rfl ?_;exact⟨G,(xs.drop (k+1),st t x),⟨_,rfl⟩,T.o,U.o,Y.o,.inr A.o⟩
  . obtain rfl:k=n:=by omega
    have C:xs.drop k=[]:=dw (by rw[ad.o];exact am _)
    rw[C] at j s;have A:=ix j;have c:=ix g;have r:=ix I;have O:=ix s;clear j g I s C ac;gi_wp2
    go_end0
    exact⟨F,([],t),⟨_,rfl⟩,c.o,r.o,O.o,.inl A.o⟩
theorem Ak(w:World)(a:Option Addr)(n cap:Nat):Calls prog 156 #[.slice a n cap] w λe b=>e=.returned (.func (.func 184) #[] #[.pointer (some ⟨w.heap.size,0,none⟩)])/\b=w.alloc (.cells #[.slice a n cap] 203):=by
 go_enter func156,ntmps156;go_wp2;go_ret;exact⟨rfl,rfl⟩
theorem Bf(w:World)(a:Option Addr)(n cap:Nat):Calls prog 158 #[.slice a n cap] w λe b=>e=.returned (.func (.func 185) #[] #[.pointer (some ⟨w.heap.size,0,none⟩)])/\b=w.alloc (.cells #[.slice a n cap] 203):=by
 go_enter func158,ntmps158;go_wp2;go_ret;exact⟨rfl,rfl⟩
def EnBP{τ:Type}(st:τ->Plv->τ)(xs:List Plv)(s:Nat×τ)(W0 W1:World)(vals:Array Value)(s':Nat×τ)(er:Bool)(Gv:Nat->Prop):Prop:=
 ∃m x,s.1=m+1/\xs[m]?=some x/\vals=#[.int .i64 (m:Int),.agg x.cs]/\s'=(m,st s.2 x)/\er=false/\∀k,¬Gv k
theorem tW{xs:List Plv}{x:Plv}(h:xs[m]?=some x):(xs.take (m+1)).reverse=x::(xs.take m).reverse:=by
 obtain⟨b,e⟩:=bA.1 h;rw[bZ b,e];simp
theorem zY{τ:Type}(st:τ->Plv->τ)(v:τ->Bool)(t0:τ)(w:World)(E:Nat)(a:Option Addr)(cap:Nat)(xs:List Plv)(X:w.cell? ⟨E,0,none⟩=some (.slice a xs.length cap))(hV:kg w a Plv.cs 5 xs)(ak:xs.length<=1099511627776):
 mh prog 185 #[.pointer (some ⟨E,0,none⟩)] (λs:Nat×τ=>v s.2) (EnBP st xs) (λ_=>False) (λ_ _=>True) (xs.length,t0) (λs=>s.2=flw st v xs.reverse t0) w (λk=>k=E\/∃x,a=some x/\x.block=k):=by
 intro an af Jx W d V hS aJ sJ ao aq B hY h0;have I:W.cell? ⟨E,0,none⟩=some (.slice a xs.length cap):=(V.cell (p:=⟨E,0,none⟩) (block_lt_of_cell X) (λh=>h (.inl rfl))).trans X
 have aa:kg W a Plv.cs 5 xs:=hV.but V (λx j h=>h (.inr ⟨x,j,rfl⟩))
 clear X hV;have ag:=ix hY;clear hY B;obtain⟨n,Z⟩:∃n:Nat,n=xs.length:=⟨_,rfl⟩;have ac:=ix Z;rw[<-Z] at I ak h0;clear Z;obtain⟨R,B⟩:∃R,flw st v xs.reverse t0=R:=⟨_,rfl⟩;rw[B];have HR:=ix (show flw st v (xs.take n).reverse t0=R from by rw[ac.o,du];exact B)
 have VW:=ix aa;have y:=ix hS;have CW:=ix I;have ai:=block_lt_of_cell I;clear B aa hS V;refine fA func185 rfl trivial ?_ rfl;simp only[ntmps185,cR,a7,bg,Nat.reduceAdd,Nat.reduceSub,cx,cM,dg,c7,b9,b7];gi_wp2
 gi_loopw [3] (λi wr=>∃m:Nat,∃F:Nat->Prop,∃t:τ,m<=n/\i=.int .i64 ((m:Int)-1)/\af F (m,t) wr/\But d W wr/\(∀q,F q->d q\/W.heap.size<=q)/\flw st v (xs.take m).reverse t=R)
  (λi _=>(intOf i+1).toNat)
 case atStart=>exact⟨n,d,t0,am _,rfl,h0,But.refl _ _,λq g=>.inl g,HR.o⟩
 case round=>
  obtain⟨k,F,t,hk,rfl,O,f,D,K⟩:=hrel;cases k with
  |succ k=>
   have ab:k<xs.length:=by rw[<-ac.o];omega
   obtain⟨x,j⟩:∃x,xs[k]?=some x:=⟨_,bX ab⟩;obtain⟨b,ae,rfl,hr⟩:=(VW.o.but f (λah C h=>y.o _ h (.inr ⟨ah,C,rfl⟩))).at j
   have e:wr.cell? ⟨E,0,none⟩=some (.slice (some ⟨b,ae,none⟩) n cap):=(f.cell (p:=⟨E,0,none⟩) ai (λh=>y.o _ h (.inl rfl))).trans CW.o
   rw[tW j] at K;have ad:wr.rangeAt b (ae+k*5) #[.int .i64 x.no,.int .i64 x.lv,.slice x.r.aL x.r.lo.length x.r.cL,.slice x.r.aH x.r.hi.length x.r.cH,.bool x.r.op].toList:=hr;obtain⟨k0,k1,k2,k3,k4⟩:=Bi ad;have aj:=f.size;obtain⟨fn,au,av,ar,C,S⟩:=ag.o F _ wr wr _ _ _ (λ_=>False) O (But.refl _ _) ⟨k,x,rfl,j,rfl,rfl,rfl,λ_ h=>h⟩ (λ_ h=>h.elim) (by omega) D
   simp only[Plv.cs] at C S;have c:=ix f;have r:=ix D;have P:=ix K;have ap:(k:Int)<(n:Int):=by omega
   have l:((k+1:Nat):Int)-1=(k:Int):=by omega
   rw[l];clear O f D K hr ad j ab aj I l;gi_wp2
   refine⟨rfl,S.mono ?_⟩;rintro al J ⟨G,M,N,⟨rfl,L,H⟩|⟨rfl,L,H⟩⟩
   . have A:=ix H;have T:=ix (show But d W J from c.o.trans M.nog (λq g h=>(r.o q h).elim id (λh=>by have:=c.o.size;omega)))
     have U:=ix (show ∀q,G q->d q\/W.heap.size<=q from λq g=>by
      rcases N q g with h|h|h
      . exact r.o q h
      . exact h.elim
      . exact .inr (by have:=c.o.size;omega))
     have Y:=ix (show flw st v (xs.take k).reverse (st t x)=R from by rw[<-P.o,my (L rfl)])
     clear H M N L C S e k0 k1 k2 k3;gi_wp2
     go_roundw
     case rel=>exact⟨k,G,st t x,by omega,by go_num,A.o,T.o,U.o,Y.o⟩
     case measure=>simp[intOf]
   . have A:=ix H;have T:=ix (show But d W J from c.o.trans M.nog (λq g h=>(r.o q h).elim id (λh=>by have:=c.o.size;omega)))
     have U:=ix (show ∀q,G q->d q\/W.heap.size<=q from λq g=>by
      rcases N q g with h|h|h
      . exact r.o q h
      . exact h.elim
      . exact .inr (by have:=c.o.size;omega))
     have Y:=ix (show st t x=R from by rw[<-P.o,mu L])
     clear H M N L C S e k0 k1 k2 k3;gi_wp2
     refine az (co rfl _ _ _) rfl ?_;exact⟨G,(k,st t x),⟨_,rfl⟩,T.o,U.o,Y.o,.inr A.o⟩
  |zero=>
   have A:=ix O;have c:=ix f;have r:=ix D;have P:=ix (show t=R from K)
   clear O f D K I;gi_wp2
   go_end0
   exact⟨F,(0,t),⟨_,rfl⟩,c.o,r.o,P.o,.inl A.o⟩
theorem zV(w:World)(a:Option Addr)(n cap:Nat):Calls prog 134 #[.slice a n cap] w λe b=>e=.returned (.func (.func 171) #[] #[.pointer (some ⟨w.heap.size,0,none⟩)])/\b=w.alloc (.cells #[.slice a n cap] 75):=by
 go_enter func134,ntmps134;go_wp2;go_ret;exact⟨rfl,rfl⟩
theorem Az(w:World)(a:Option Addr)(n cap:Nat):Calls prog 136 #[.slice a n cap] w λe b=>e=.returned (.func (.func 172) #[] #[.pointer (some ⟨w.heap.size,0,none⟩)])/\b=w.alloc (.cells #[.slice a n cap] 75):=by
 go_enter func136,ntmps136;go_wp2;go_ret;exact⟨rfl,rfl⟩
def EnBI{τ:Type}(st:τ->Iv->τ)(xs:List Iv)(s:Nat×τ)(W0 W1:World)(vals:Array Value)(s':Nat×τ)(er:Bool)(Gv:Nat->Prop):Prop:=
 ∃m x,s.1=m+1/\xs[m]?=some x/\vals=#[.int .i64 (m:Int),.agg x.cs]/\s'=(m,st s.2 x)/\er=false/\∀k,¬Gv k
theorem tm{xs:List Iv}{x:Iv}(h:xs[m]?=some x):(xs.take (m+1)).reverse=x::(xs.take m).reverse:=by
 obtain⟨b,e⟩:=bA.1 h;rw[bZ b,e];simp
theorem zM{τ:Type}(st:τ->Iv->τ)(v:τ->Bool)(t0:τ)(w:World)(E:Nat)(a:Option Addr)(cap:Nat)(xs:List Iv)(X:w.cell? ⟨E,0,none⟩=some (.slice a xs.length cap))(hV:kg w a Iv.cs 4 xs)(ak:xs.length<=1099511627776):
 mh prog 172 #[.pointer (some ⟨E,0,none⟩)] (λs:Nat×τ=>v s.2) (EnBI st xs) (λ_=>False) (λ_ _=>True) (xs.length,t0) (λs=>s.2=flw st v xs.reverse t0) w (λk=>k=E\/∃x,a=some x/\x.block=k):=by
 intro an af Jx W d V hS aJ sJ ao aq B hY h0;have I:W.cell? ⟨E,0,none⟩=some (.slice a xs.length cap):=(V.cell (p:=⟨E,0,none⟩) (block_lt_of_cell X) (λh=>h (.inl rfl))).trans X
 have aa:kg W a Iv.cs 4 xs:=hV.but V (λx j h=>h (.inr ⟨x,j,rfl⟩))
 clear X hV;have ag:=ix hY;clear hY B;obtain⟨n,Z⟩:∃n:Nat,n=xs.length:=⟨_,rfl⟩;have ac:=ix Z;rw[<-Z] at I ak h0;clear Z;obtain⟨R,B⟩:∃R,flw st v xs.reverse t0=R:=⟨_,rfl⟩;rw[B];have HR:=ix (show flw st v (xs.take n).reverse t0=R from by rw[ac.o,du];exact B)
 have VW:=ix aa;have y:=ix hS;have CW:=ix I;have ai:=block_lt_of_cell I;clear B aa hS V;refine fA func172 rfl trivial ?_ rfl;simp only[ntmps172,cR,a7,bg,Nat.reduceAdd,Nat.reduceSub,cx,cM,dg,c7,b9,b7];gi_wp2
 gi_loopw [3] (λi wr=>∃m:Nat,∃F:Nat->Prop,∃t:τ,m<=n/\i=.int .i64 ((m:Int)-1)/\af F (m,t) wr/\But d W wr/\(∀q,F q->d q\/W.heap.size<=q)/\flw st v (xs.take m).reverse t=R)
  (λi _=>(intOf i+1).toNat)
 case atStart=>exact⟨n,d,t0,am _,rfl,h0,But.refl _ _,λq g=>.inl g,HR.o⟩
 case round=>
  obtain⟨k,F,t,hk,rfl,O,f,D,K⟩:=hrel;cases k with
  |succ k=>
   have ab:k<xs.length:=by rw[<-ac.o];omega
   obtain⟨x,j⟩:∃x,xs[k]?=some x:=⟨_,bX ab⟩;obtain⟨b,ae,rfl,hr⟩:=(VW.o.but f (λah C h=>y.o _ h (.inr ⟨ah,C,rfl⟩))).at j
   have e:wr.cell? ⟨E,0,none⟩=some (.slice (some ⟨b,ae,none⟩) n cap):=(f.cell (p:=⟨E,0,none⟩) ai (λh=>y.o _ h (.inl rfl))).trans CW.o
   rw[tm j] at K;have ad:wr.rangeAt b (ae+k*4) #[.slice x.aK x.key.length x.cK,.slice x.aV x.val.length x.cV,.int .i64 x.child,.int .i64 x.size].toList:=hr;obtain⟨k0,k1,k2,k3⟩:=zi ad;have aj:=f.size;obtain⟨fn,au,av,ar,C,S⟩:=ag.o F _ wr wr _ _ _ (λ_=>False) O (But.refl _ _) ⟨k,x,rfl,j,rfl,rfl,rfl,λ_ h=>h⟩ (λ_ h=>h.elim) (by omega) D
   simp only[Iv.cs] at C S;have c:=ix f;have r:=ix D;have P:=ix K;have ap:(k:Int)<(n:Int):=by omega
   have l:((k+1:Nat):Int)-1=(k:Int):=by omega
   rw[l];clear O f D K hr ad j ab aj I l;gi_wp2
   refine⟨rfl,S.mono ?_⟩;rintro al J ⟨G,M,N,⟨rfl,L,H⟩|⟨rfl,L,H⟩⟩
   . have A:=ix H;have T:=ix (show But d W J from c.o.trans M.nog (λq g h=>(r.o q h).elim id (λh=>by have:=c.o.size;omega)))
     have U:=ix (show ∀q,G q->d q\/W.heap.size<=q from λq g=>by
      rcases N q g with h|h|h
      . exact r.o q h
      . exact h.elim
      . exact .inr (by have:=c.o.size;omega))
     have Y:=ix (show flw st v (xs.take k).reverse (st t x)=R from by rw[<-P.o,my (L rfl)])
     clear H M N L C S e k0 k1 k2 k3;gi_wp2
     go_roundw
     case rel=>exact⟨k,G,st t x,by omega,by go_num,A.o,T.o,U.o,Y.o⟩
     case measure=>simp[intOf]
   . have A:=ix H;have T:=ix (show But d W J from c.o.trans M.nog (λq g h=>(r.o q h).elim id (λh=>by have:=c.o.size;omega)))
     have U:=ix (show ∀q,G q->d q\/W.heap.size<=q from λq g=>by
      rcases N q g with h|h|h
      . exact r.o q h
      . exact h.elim
      . exact .inr (by have:=c.o.size;omega))
     have Y:=ix (show st t x=R from by rw[<-P.o,mu L])
     clear H M N L C S e k0 k1 k2 k3;gi_wp2
     refine az (co rfl _ _ _) rfl ?_;exact⟨G,(k,st t x),⟨_,rfl⟩,T.o,U.o,Y.o,.inr A.o⟩
  |zero=>
   have A:=ix O;have c:=ix f;have r:=ix D;have P:=ix (show t=R from K)
   clear O f D K I;gi_wp2
   go_end0
   exact⟨F,(0,t),⟨_,rfl⟩,c.o,r.o,P.o,.inl A.o⟩
theorem i6{b:Nat}(h:W.heap[b]?=some (.cells #[v0,v1,v2,v3,v4] t (0,0))):W.cell? ⟨b,0,none⟩=some v0/\W.cell? ⟨b,1,none⟩=some v1/\W.cell? ⟨b,2,none⟩=some v2/\W.cell? ⟨b,3,none⟩=some v3/\W.cell? ⟨b,4,none⟩=some v4:=by
 refine⟨?_,?_,?_,?_,?_⟩<;>(rw[ai _ _ _ _ _ _ h];rfl)
theorem jJ{b:Nat}(h:W.heap[b]?=some (.cells #[v0,v1,v2,v3] t (0,0))):W.cell? ⟨b,0,none⟩=some v0/\W.cell? ⟨b,1,none⟩=some v1/\W.cell? ⟨b,2,none⟩=some v2/\W.cell? ⟨b,3,none⟩=some v3:=by
 refine⟨?_,?_,?_,?_⟩<;>(rw[ai _ _ _ _ _ _ h];rfl)
structure Kpt(F0:Nat->Prop)(V:World)(F:Nat->Prop)(W:World):Prop where
 f:∀k,F k->F0 k\/V.heap.size<=k
 b:But F0 V W
theorem Kpt.abid{b F:Nat->Prop}{V A B:World}{n:Nat}(h:Kpt b V F A)(hb:But (λk=>¬F k/\n<=k) A B)(c:V.heap.size<=n):Kpt b V F B:=⟨h.f,h.b.trans hb (λk hk e=>by have:=e.2;omega)⟩
theorem zK{τ:Type}(st:τ->Plv->τ)(av:τ->Bool)(t0:τ)(w:World)(E:Nat)(a:Option Addr)(cap:Nat)(xs:List Plv)(hc:w.cell? ⟨E,0,none⟩=some (.slice a xs.length cap))(hV:kg w a Plv.cs 5 xs)(aG:xs.length<=1099511627776)(ha:∀x,a=some x->x.block<w.heap.size):
 sH prog 157 #[.pointer (some ⟨E,0,none⟩)] rW xs.reverse st av t0 w (λk=>k=E\/∃x,a=some x/\x.block=k):=by
 intro l J Jx W r P hS aJ sJ ao au hR hY Y;have ac:W.cell? ⟨E,0,none⟩=some (.slice a xs.length cap):=(P.cell (p:=⟨E,0,none⟩) (block_lt_of_cell hc) (λh=>h (.inl rfl))).trans hc
 have VW:Hid (kg W a Plv.cs 5 xs):=hV.but P (λx d h=>h (.inr ⟨x,d,rfl⟩))
 have aA:Hid (∀x,a=some x->x.block<W.heap.size):=λx d=>by have:=ha x d;have:=P.size;omega
 have ax:=ix hY;have N:=ix aJ;have SJ:=ix sJ;have ak:=ix ao;have ay:=ix au;have HS:=ix hS;have an:=ix (sJ _ _ _ Y);have A1:=ix (al W (.cells #[.func (.yield l) #[] #[]] 235));have X1:=ix (Q.iT W (.func (.yield l) #[] #[]) 235);have s1:=size_alloc W (.cells #[.func (.yield l) #[] #[]] 235);have aB:(W.alloc (.cells #[.func (.yield l) #[] #[]] 235)).cell? ⟨E,0,none⟩=some (.slice a xs.length cap):=(A1.o.cell (p:=⟨E,0,none⟩) (block_lt_of_cell ac)).trans ac;have BA:=ix (Bf (W.alloc (.cells #[.func (.yield l) #[] #[]] 235)) a xs.length cap);have H0:=ix Y;obtain⟨n,hn⟩:∃n:Nat,n=xs.length:=⟨_,rfl⟩;have ad:=ix hn;rw[<-hn] at aB BA;clear hc hV ha hY hR hS P aJ sJ ao au Y ac hn;refine dM func157 rfl trivial ?_ rfl;simp only[ntmps157,cR,a7,bg,Nat.reduceAdd,Nat.reduceSub,cx,cM,dg,c7,b9,b7];gi_wp2_with (refine⟨trivial,rfl,?_⟩;refine(CallsIn.mono (dc.2 BA.o) ?_);rintro _ _ ⟨rfl,rfl⟩)
 generalize aL:W.alloc (.cells #[.func (.yield l) #[] #[]] 235)=v at *;have A2:=ix (al v (.cells #[.slice a n cap] 203));have X2:=ix (Q.iT v (.slice a n cap) 203);have s2:=size_alloc v (.cells #[.slice a n cap] 203);generalize aM:v.alloc (.cells #[.slice a n cap] 203)=j at *;have M:=ix (bt A1.o A2.o);have aE:(xs.take n)=xs:=by rw[ad.o,du]
 refine jX (gf:=185) (lb:=#[.pointer (some ⟨W.heap.size+1,0,none⟩)]) rfl (enters_of func185 (by kernel_rfl) rfl)
  (zY st av t0 j (W.heap.size+1) a cap xs (by rw[<-ad.o,<-s1];exact X2.o) (VW.o.but (But.ofBelow (S:=λ_=>False) M.o) (λ_ _ h=>h)) aG) (But.refl _ _)
  (λk hk=>by
    rcases hk with rfl|⟨x,d,rfl⟩
    . omega
    . have:=aA.o x d;omega)
  (by rintro s y f aH s' er Gv ⟨m,x,_,_,rfl,_⟩;rfl)
  r
  (λk hk d=>by
    rcases d with rfl|⟨x,d,rfl⟩
    . have:=an.o _ hk;omega
    . exact HS.o _ hk (.inr ⟨x,d,rfl⟩))
  (λF s V=>J F ((xs.take s.1).reverse,s.2) V/\Kpt r j F V)
  (λc F s V=>c=.ret/\Jx F ((xs.take s.1).reverse,s.2) V)
  (λF s A B b hb=>⟨N.o F _ A B b.1 (hb.mono λk _ h=>⟨h.1,by have:=h.2;omega⟩),b.2.abid hb (am _)⟩)
  (λF s A b=>SJ.o _ _ _ b.1)
  (λc F s A B b hb=>⟨b.1,ak.o F _ A B b.2 (hb.mono λk _ h=>⟨h.1,by have:=h.2;omega⟩)⟩)
  (λc F s A b=>ay.o _ _ _ b.2)
  (λF s A b=>⟨trivial,λk h=>h.elim⟩)
  ⟨N.o _ _ _ _ (by simpa[aE,<-ad.o] using H0.o) (But.ofBelow M.o),λk hk=>.inl hk,But.refl _ _⟩ ?round ?done ?stop
 case round=>
  rintro K F s y f aH s' er Gv ⟨g,hK⟩ ah ⟨m,x,b,d,rfl,rfl,rfl,aI⟩ aK aN q ar aO aP ap _;obtain⟨aF,t⟩:=s;obtain rfl:aF=m+1:=b;have g:J F ((xs.take (m+1)).reverse,t) y:=g;rw[tW d] at g;have R:Below y.heap.size y f:=ah.below (λ_ _ h=>h)
  have O:f.cell? ⟨W.heap.size,0,none⟩=some (.func (.yield l) #[] #[]):=by
   refine((ap.trans ah (λ_ _ h=>h.elim)).cell (p:=⟨W.heap.size,0,none⟩) (by show W.heap.size<j.heap.size;omega) (λh=>?_)).trans ((A2.o.cell (p:=⟨W.heap.size,0,none⟩) (by show W.heap.size<v.heap.size;omega)).trans X1.o)
   have:=an.o _ h;have e:W.heap.size<W.heap.size:=this;omega
  simp only[Plv.cs];gi_wp2
  refine⟨al _ _,λi H r3 aC=>?_⟩
  have Z:=al f (.cells #[.int .i64 x.no,.int .i64 x.lv,.slice x.r.aL x.r.lo.length x.r.cL,.slice x.r.aH x.r.hi.length x.r.cH,.bool x.r.op] 148);have nw:=ag f (.cells #[.int .i64 x.no,.int .i64 x.lv,.slice x.r.aL x.r.lo.length x.r.cL,.slice x.r.aH x.r.hi.length x.r.cH,.bool x.r.op] 148);have sw:=size_alloc f (.cells #[.int .i64 x.no,.int .i64 x.lv,.slice x.r.aL x.r.lo.length x.r.cL,.slice x.r.aH x.r.hi.length x.r.cH,.bool x.r.op] 148);generalize f.alloc (.cells #[.int .i64 x.no,.int .i64 x.lv,.slice x.r.aL x.r.lo.length x.r.cL,.slice x.r.aH x.r.hi.length x.r.cH,.bool x.r.op] 148)=W2 at *;have aQ:=R.size;have c3:i.cell? ⟨W.heap.size,0,none⟩=some (.func (.yield l) #[] #[]):=(H.cell (p:=⟨W.heap.size,0,none⟩) (by have:=block_lt_of_cell O;have e:W.heap.size<f.heap.size:=this;show W.heap.size<W2.heap.size;omega) (λe=>by have e:W.heap.size=K:=e;omega)).trans ((Z.cell (p:=⟨W.heap.size,0,none⟩) (block_lt_of_cell O)).trans O)
  have n3:=H.same nw (λe=>by have e:f.heap.size=K:=e;omega)
  have J3:J F (x::(xs.take m).reverse,t) i:=N.o F _ y i g (((But.ofBelow (S:=λk=>¬F k/\W.heap.size<=k) R).andBelow Z).trans H (λk _ e=>by have e:k=K:=e;rw[e];exact⟨ar,by omega⟩))
  have aR:=H.size;have aq:∀k,F k->r k\/W.heap.size<=k:=λk hk=>(q k hk).imp id (λh=>by omega)
  obtain⟨fn,aT,aU,aS,hy,T⟩:=ax.o F _ i i _ _ _ (λ_=>False) J3 (But.refl _ _) ⟨x,(xs.take m).reverse,rfl,rfl,rfl,rfl,λ_ h=>h⟩ (λ_ h=>h.elim) (by omega) aq
  simp only[rW,Plv.cs] at hy T;obtain⟨k0,k1,k2,k3,k4⟩:=i6 n3;have U:=ix (hK.abid (B:=i) (n:=j.heap.size) (((But.ofBelow (S:=λk=>¬F k/\j.heap.size<=k) R).andBelow Z).trans H (λk _ e=>by have e:k=K:=e;rw[e];exact⟨ar,by omega⟩)) (am _))
  have X:=ix (show j.heap.size<=i.heap.size/\f.heap.size<=i.heap.size from⟨by omega,by omega⟩)
  clear g hK d ap ah R O q aC J3 aq;gi_wp2
  refine⟨rfl,RoundIn.mono (F:=Fence.wide.inRound K) T ?_⟩;rintro e W4 ⟨aj,G,hG,⟨rfl,af,ab⟩|⟨rfl,af,ab⟩⟩
  . clear hy T k0 k1 k2 k3 k4;gi_wp2
    exact⟨aj,G.nog.ing,λk hk=>(hG k hk).imp id (λh=>h.imp (λh:False=>h.elim) (λh=>by have:=X.o.2;omega)),λ_=>af trivial,ab,λk hk=>by
     rcases hG k hk with h|h|h
     . exact U.o.f k h
     . exact h.elim
     . exact .inr (by have:=X.o.1;omega),U.o.b.trans G.nog (λk hk h=>(U.o.f k h).elim id (λh=>by omega))⟩
  . clear hy T k0 k1 k2 k3 k4;gi_wp2
    exact⟨aj,G.nog.ing,λk hk=>(hG k hk).imp id (λh=>h.imp (λh:False=>h.elim) (λh=>by have:=X.o.2;omega)),af,rfl,ab⟩
 case done=>
  rintro D F s V hD aa ⟨g,hK⟩ ai I q L;gi_wp2
  refine⟨by simp,.inl ⟨_,_,rfl,cw L,?_⟩⟩
  have C:=(But.refl (λk=>k=D) V).putObj (λ_=>rfl) (.deferred none)
  have az:D<V.heap.size:=(ae.1 L).1;have aD:=I.size;refine⟨_,co rfl _ _ _,F,((xs.take s.1).reverse,s.2),⟨_,rfl⟩,(((But.ofBelow (S:=r) M.o).trans I (λ_ _ h=>h))).trans C (λk hk e=>by have e:k=D:=e;omega),λk hk=>(q k hk).imp id (λh=>by omega),ai,.inl (N.o F _ V _ g (C.mono λk _ e=>by have e:k=D:=e;rw[e];exact⟨aa,by omega⟩))⟩
 case stop=>
  rintro D c F s V hD aa ⟨rfl,g⟩ ai I q L;gi_wp2
  refine⟨by simp,.inl ⟨_,_,rfl,cw L,?_⟩⟩
  have C:=(But.refl (λk=>k=D) V).putObj (λ_=>rfl) (.deferred none)
  have az:D<V.heap.size:=(ae.1 L).1;have aD:=I.size;refine⟨_,co rfl _ _ _,F,((xs.take s.1).reverse,s.2),⟨_,rfl⟩,(((But.ofBelow (S:=r) M.o).trans I (λ_ _ h=>h))).trans C (λk hk e=>by have e:k=D:=e;omega),λk hk=>(q k hk).imp id (λh=>by omega),ai,.inr (ak.o F _ V _ g (C.mono λk _ e=>by have e:k=D:=e;rw[e];exact⟨aa,by omega⟩))⟩
theorem CX(w:World)(a:Option Addr)(cap:Nat)(xs:List Plv)(l:kg w a Plv.cs 5 xs)(p:xs.length<=1099511627776)(n:∀x,a=some x->x.block<w.heap.size)(o:Bool):
 Calls prog 118 #[.slice a xs.length cap,.int .i64 (if o=true then 0 else 1)] w λe g=>∃(gf:Nat)(lb:Array Value)(X:Nat->Prop),e=.returned (.func (.func gf) #[] lb)/\(∀args w,(callFunc gf args).run prog w=.ok (.enter gf args) w)/\Below w.heap.size w g/\(∀k,X k->(w.heap.size<=k\/∃x,a=some x/\x.block=k)/\k<g.heap.size)/\∀{τ:Type}(st:τ->Plv->τ)(c:τ->Bool)(t0:τ),sH prog gf lb rW (iW o xs) st c t0 g X:=by
 have d:=ix (al w (.cells #[.slice a xs.length cap] 203));have r:=ix (Q.iT w (.slice a xs.length cap) 203);have q:=ix (Ak (w.alloc (.cells #[.slice a xs.length cap] 203)) a xs.length cap);have i:=ix (al (w.alloc (.cells #[.slice a xs.length cap] 203)) (.cells #[.slice a xs.length cap] 203));have s:=ix (Q.iT (w.alloc (.cells #[.slice a xs.length cap] 203)) (.slice a xs.length cap) 203);have v:=size_alloc w (.cells #[.slice a xs.length cap] 203);have y:=size_alloc (w.alloc (.cells #[.slice a xs.length cap] 203)) (.cells #[.slice a xs.length cap] 203);have j:=ix l;have f:=ix n;clear l n;cases o with
 |true=>
  simp only[if_true];go_enter func118,ntmps118;go_wp2_with fail
  refine q.o.mono ?_;rintro _ A ⟨rfl,rfl⟩;go_wp2;go_ret;refine⟨_,_,λk=>k=w.heap.size+1\/∃x,a=some x/\x.block=k,rfl,enters_of func184 (by kernel_rfl) rfl,bt d.o i.o,λk hk=>?_,λ{τ} st c t0=>?_⟩
  . rcases hk with hk|⟨x,b,rfl⟩
    . exact⟨.inl (by omega),by omega⟩
    . exact⟨.inr ⟨x,b,rfl⟩,by have:=f.o x b;omega⟩
  . exact zS st c t0 _ (w.heap.size+1) a cap xs (by rw[<-v];exact s.o) (j.o.but (But.ofBelow (S:=λ_=>False) (bt d.o i.o)) (λ_ _ h=>h)) p
 |false=>
  simp only[if_neg (show ¬(false=true) by decide)]
  go_enter func118,ntmps118;go_wp2;go_ret;refine⟨_,_,λk=>k=w.heap.size\/∃x,a=some x/\x.block=k,rfl,enters_of func157 (by kernel_rfl) rfl,d.o,λk hk=>?_,λ{τ} st c t0=>?_⟩
  . rcases hk with hk|⟨x,b,rfl⟩
    . exact⟨.inl (by omega),by omega⟩
    . exact⟨.inr ⟨x,b,rfl⟩,by have:=f.o x b;omega⟩
  . exact zK st c t0 _ _ a cap xs r.o (j.o.but (But.ofBelow (S:=λ_=>False) d.o) (λ_ _ h=>h)) p (λx b=>by have:=f.o x b;omega)
theorem zy{τ:Type}(st:τ->Iv->τ)(av:τ->Bool)(t0:τ)(w:World)(E:Nat)(a:Option Addr)(cap:Nat)(xs:List Iv)(hc:w.cell? ⟨E,0,none⟩=some (.slice a xs.length cap))(hV:kg w a Iv.cs 4 xs)(aG:xs.length<=1099511627776)(ha:∀x,a=some x->x.block<w.heap.size):
 sH prog 135 #[.pointer (some ⟨E,0,none⟩)] tf xs.reverse st av t0 w (λk=>k=E\/∃x,a=some x/\x.block=k):=by
 intro l J Jx W r P hS aJ sJ ao au hR hY Y;have ac:W.cell? ⟨E,0,none⟩=some (.slice a xs.length cap):=(P.cell (p:=⟨E,0,none⟩) (block_lt_of_cell hc) (λh=>h (.inl rfl))).trans hc
 have VW:Hid (kg W a Iv.cs 4 xs):=hV.but P (λx d h=>h (.inr ⟨x,d,rfl⟩))
 have aA:Hid (∀x,a=some x->x.block<W.heap.size):=λx d=>by have:=ha x d;have:=P.size;omega
 have ax:=ix hY;have N:=ix aJ;have SJ:=ix sJ;have ak:=ix ao;have ay:=ix au;have HS:=ix hS;have an:=ix (sJ _ _ _ Y);have A1:=ix (al W (.cells #[.func (.yield l) #[] #[]] 210));have X1:=ix (Q.iT W (.func (.yield l) #[] #[]) 210);have s1:=size_alloc W (.cells #[.func (.yield l) #[] #[]] 210);have aB:(W.alloc (.cells #[.func (.yield l) #[] #[]] 210)).cell? ⟨E,0,none⟩=some (.slice a xs.length cap):=(A1.o.cell (p:=⟨E,0,none⟩) (block_lt_of_cell ac)).trans ac;have BA:=ix (Az (W.alloc (.cells #[.func (.yield l) #[] #[]] 210)) a xs.length cap);have H0:=ix Y;obtain⟨n,hn⟩:∃n:Nat,n=xs.length:=⟨_,rfl⟩;have ad:=ix hn;rw[<-hn] at aB BA;clear hc hV ha hY hR hS P aJ sJ ao au Y ac hn;refine dM func135 rfl trivial ?_ rfl;simp only[ntmps135,cR,a7,bg,Nat.reduceAdd,Nat.reduceSub,cx,cM,dg,c7,b9,b7];gi_wp2_with (refine⟨trivial,rfl,?_⟩;refine(CallsIn.mono (dc.2 BA.o) ?_);rintro _ _ ⟨rfl,rfl⟩)
 generalize aL:W.alloc (.cells #[.func (.yield l) #[] #[]] 210)=v at *;have A2:=ix (al v (.cells #[.slice a n cap] 75));have X2:=ix (Q.iT v (.slice a n cap) 75);have s2:=size_alloc v (.cells #[.slice a n cap] 75);generalize aM:v.alloc (.cells #[.slice a n cap] 75)=j at *;have M:=ix (bt A1.o A2.o);have aE:(xs.take n)=xs:=by rw[ad.o,du]
 refine jX (gf:=172) (lb:=#[.pointer (some ⟨W.heap.size+1,0,none⟩)]) rfl (enters_of func172 (by kernel_rfl) rfl)
  (zM st av t0 j (W.heap.size+1) a cap xs (by rw[<-ad.o,<-s1];exact X2.o) (VW.o.but (But.ofBelow (S:=λ_=>False) M.o) (λ_ _ h=>h)) aG) (But.refl _ _)
  (λk hk=>by
    rcases hk with rfl|⟨x,d,rfl⟩
    . omega
    . have:=aA.o x d;omega)
  (by rintro s y f aH s' er Gv ⟨m,x,_,_,rfl,_⟩;rfl)
  r
  (λk hk d=>by
    rcases d with rfl|⟨x,d,rfl⟩
    . have:=an.o _ hk;omega
    . exact HS.o _ hk (.inr ⟨x,d,rfl⟩))
  (λF s V=>J F ((xs.take s.1).reverse,s.2) V/\Kpt r j F V)
  (λc F s V=>c=.ret/\Jx F ((xs.take s.1).reverse,s.2) V)
  (λF s A B b hb=>⟨N.o F _ A B b.1 (hb.mono λk _ h=>⟨h.1,by have:=h.2;omega⟩),b.2.abid hb (am _)⟩)
  (λF s A b=>SJ.o _ _ _ b.1)
  (λc F s A B b hb=>⟨b.1,ak.o F _ A B b.2 (hb.mono λk _ h=>⟨h.1,by have:=h.2;omega⟩)⟩)
  (λc F s A b=>ay.o _ _ _ b.2)
  (λF s A b=>⟨trivial,λk h=>h.elim⟩)
  ⟨N.o _ _ _ _ (by simpa[aE,<-ad.o] using H0.o) (But.ofBelow M.o),λk hk=>.inl hk,But.refl _ _⟩ ?round ?done ?stop
 case round=>
  rintro K F s y f aH s' er Gv ⟨g,hK⟩ ah ⟨m,x,b,d,rfl,rfl,rfl,aI⟩ aK aN q ar aO aP ap _;obtain⟨aF,t⟩:=s;obtain rfl:aF=m+1:=b;have g:J F ((xs.take (m+1)).reverse,t) y:=g;rw[tm d] at g;have R:Below y.heap.size y f:=ah.below (λ_ _ h=>h)
  have O:f.cell? ⟨W.heap.size,0,none⟩=some (.func (.yield l) #[] #[]):=by
   refine((ap.trans ah (λ_ _ h=>h.elim)).cell (p:=⟨W.heap.size,0,none⟩) (by show W.heap.size<j.heap.size;omega) (λh=>?_)).trans ((A2.o.cell (p:=⟨W.heap.size,0,none⟩) (by show W.heap.size<v.heap.size;omega)).trans X1.o)
   have:=an.o _ h;have e:W.heap.size<W.heap.size:=this;omega
  simp only[Iv.cs];gi_wp2
  refine⟨al _ _,λi H r3 aC=>?_⟩
  have Z:=al f (.cells #[.slice x.aK x.key.length x.cK,.slice x.aV x.val.length x.cV,.int .i64 x.child,.int .i64 x.size] 89);have nw:=ag f (.cells #[.slice x.aK x.key.length x.cK,.slice x.aV x.val.length x.cV,.int .i64 x.child,.int .i64 x.size] 89);have sw:=size_alloc f (.cells #[.slice x.aK x.key.length x.cK,.slice x.aV x.val.length x.cV,.int .i64 x.child,.int .i64 x.size] 89);generalize f.alloc (.cells #[.slice x.aK x.key.length x.cK,.slice x.aV x.val.length x.cV,.int .i64 x.child,.int .i64 x.size] 89)=W2 at *;have aQ:=R.size;have c3:i.cell? ⟨W.heap.size,0,none⟩=some (.func (.yield l) #[] #[]):=(H.cell (p:=⟨W.heap.size,0,none⟩) (by have:=block_lt_of_cell O;have e:W.heap.size<f.heap.size:=this;show W.heap.size<W2.heap.size;omega) (λe=>by have e:W.heap.size=K:=e;omega)).trans ((Z.cell (p:=⟨W.heap.size,0,none⟩) (block_lt_of_cell O)).trans O)
  have n3:=H.same nw (λe=>by have e:f.heap.size=K:=e;omega)
  have J3:J F (x::(xs.take m).reverse,t) i:=N.o F _ y i g (((But.ofBelow (S:=λk=>¬F k/\W.heap.size<=k) R).andBelow Z).trans H (λk _ e=>by have e:k=K:=e;rw[e];exact⟨ar,by omega⟩))
  have aR:=H.size;have aq:∀k,F k->r k\/W.heap.size<=k:=λk hk=>(q k hk).imp id (λh=>by omega)
  obtain⟨fn,aT,aU,aS,hy,T⟩:=ax.o F _ i i _ _ _ (λ_=>False) J3 (But.refl _ _) ⟨x,(xs.take m).reverse,rfl,rfl,rfl,rfl,λ_ h=>h⟩ (λ_ h=>h.elim) (by omega) aq
  simp only[tf,Iv.cs] at hy T;obtain⟨k0,k1,k2,k3⟩:=jJ n3;have U:=ix (hK.abid (B:=i) (n:=j.heap.size) (((But.ofBelow (S:=λk=>¬F k/\j.heap.size<=k) R).andBelow Z).trans H (λk _ e=>by have e:k=K:=e;rw[e];exact⟨ar,by omega⟩)) (am _))
  have X:=ix (show j.heap.size<=i.heap.size/\f.heap.size<=i.heap.size from⟨by omega,by omega⟩)
  clear g hK d ap ah R O q aC J3 aq;gi_wp2
  refine⟨rfl,RoundIn.mono (F:=Fence.wide.inRound K) T ?_⟩;rintro e W4 ⟨aj,G,hG,⟨rfl,af,ab⟩|⟨rfl,af,ab⟩⟩
  . clear hy T k0 k1 k2 k3;gi_wp2
    exact⟨aj,G.nog.ing,λk hk=>(hG k hk).imp id (λh=>h.imp (λh:False=>h.elim) (λh=>by have:=X.o.2;omega)),λ_=>af trivial,ab,λk hk=>by
     rcases hG k hk with h|h|h
     . exact U.o.f k h
     . exact h.elim
     . exact .inr (by have:=X.o.1;omega),U.o.b.trans G.nog (λk hk h=>(U.o.f k h).elim id (λh=>by omega))⟩
  . clear hy T k0 k1 k2 k3;gi_wp2
    exact⟨aj,G.nog.ing,λk hk=>(hG k hk).imp id (λh=>h.imp (λh:False=>h.elim) (λh=>by have:=X.o.2;omega)),af,rfl,ab⟩
 case done=>
  rintro D F s V hD aa ⟨g,hK⟩ ai I q L;gi_wp2
  refine⟨by simp,.inl ⟨_,_,rfl,cw L,?_⟩⟩
  have C:=(But.refl (λk=>k=D) V).putObj (λ_=>rfl) (.deferred none)
  have az:D<V.heap.size:=(ae.1 L).1;have aD:=I.size;refine⟨_,co rfl _ _ _,F,((xs.take s.1).reverse,s.2),⟨_,rfl⟩,(((But.ofBelow (S:=r) M.o).trans I (λ_ _ h=>h))).trans C (λk hk e=>by have e:k=D:=e;omega),λk hk=>(q k hk).imp id (λh=>by omega),ai,.inl (N.o F _ V _ g (C.mono λk _ e=>by have e:k=D:=e;rw[e];exact⟨aa,by omega⟩))⟩
 case stop=>
  rintro D c F s V hD aa ⟨rfl,g⟩ ai I q L;gi_wp2
  refine⟨by simp,.inl ⟨_,_,rfl,cw L,?_⟩⟩
  have C:=(But.refl (λk=>k=D) V).putObj (λ_=>rfl) (.deferred none)
  have az:D<V.heap.size:=(ae.1 L).1;have aD:=I.size;refine⟨_,co rfl _ _ _,F,((xs.take s.1).reverse,s.2),⟨_,rfl⟩,(((But.ofBelow (S:=r) M.o).trans I (λ_ _ h=>h))).trans C (λk hk e=>by have e:k=D:=e;omega),λk hk=>(q k hk).imp id (λh=>by omega),ai,.inr (ak.o F _ V _ g (C.mono λk _ e=>by have e:k=D:=e;rw[e];exact⟨aa,by omega⟩))⟩
theorem Dd(w:World)(a:Option Addr)(cap:Nat)(xs:List Iv)(l:kg w a Iv.cs 4 xs)(p:xs.length<=1099511627776)(n:∀x,a=some x->x.block<w.heap.size)(o:Bool):
 Calls prog 90 #[.slice a xs.length cap,.int .i64 (if o=true then 0 else 1)] w λe g=>∃(gf:Nat)(lb:Array Value)(X:Nat->Prop),e=.returned (.func (.func gf) #[] lb)/\(∀args w,(callFunc gf args).run prog w=.ok (.enter gf args) w)/\Below w.heap.size w g/\(∀k,X k->(w.heap.size<=k\/∃x,a=some x/\x.block=k)/\k<g.heap.size)/\∀{τ:Type}(st:τ->Iv->τ)(c:τ->Bool)(t0:τ),sH prog gf lb tf (iW o xs) st c t0 g X:=by
 have d:=ix (al w (.cells #[.slice a xs.length cap] 75));have r:=ix (Q.iT w (.slice a xs.length cap) 75);have q:=ix (zV (w.alloc (.cells #[.slice a xs.length cap] 75)) a xs.length cap);have i:=ix (al (w.alloc (.cells #[.slice a xs.length cap] 75)) (.cells #[.slice a xs.length cap] 75));have s:=ix (Q.iT (w.alloc (.cells #[.slice a xs.length cap] 75)) (.slice a xs.length cap) 75);have v:=size_alloc w (.cells #[.slice a xs.length cap] 75);have y:=size_alloc (w.alloc (.cells #[.slice a xs.length cap] 75)) (.cells #[.slice a xs.length cap] 75);have j:=ix l;have f:=ix n;clear l n;cases o with
 |true=>
  simp only[if_true];go_enter func90,ntmps90;go_wp2_with fail
  refine q.o.mono ?_;rintro _ A ⟨rfl,rfl⟩;go_wp2;go_ret;refine⟨_,_,λk=>k=w.heap.size+1\/∃x,a=some x/\x.block=k,rfl,enters_of func171 (by kernel_rfl) rfl,bt d.o i.o,λk hk=>?_,λ{τ} st c t0=>?_⟩
  . rcases hk with hk|⟨x,b,rfl⟩
    . exact⟨.inl (by omega),by omega⟩
    . exact⟨.inr ⟨x,b,rfl⟩,by have:=f.o x b;omega⟩
  . exact zX st c t0 _ (w.heap.size+1) a cap xs (by rw[<-v];exact s.o) (j.o.but (But.ofBelow (S:=λ_=>False) (bt d.o i.o)) (λ_ _ h=>h)) p
 |false=>
  simp only[if_neg (show ¬(false=true) by decide)]
  go_enter func90,ntmps90;go_wp2;go_ret;refine⟨_,_,λk=>k=w.heap.size\/∃x,a=some x/\x.block=k,rfl,enters_of func135 (by kernel_rfl) rfl,d.o,λk hk=>?_,λ{τ} st c t0=>?_⟩
  . rcases hk with hk|⟨x,b,rfl⟩
    . exact⟨.inl (by omega),by omega⟩
    . exact⟨.inr ⟨x,b,rfl⟩,by have:=f.o x b;omega⟩
  . exact zy st c t0 _ _ a cap xs r.o (j.o.but (But.ofBelow (S:=λ_=>False) d.o) (λ_ _ h=>h)) p (λx b=>by have:=f.o x b;omega)
end Go.Proofs.YteaogidofpfmmaaGreat
