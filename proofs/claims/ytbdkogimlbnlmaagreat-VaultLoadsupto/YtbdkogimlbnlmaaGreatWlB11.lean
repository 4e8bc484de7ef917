import Derived.Test.YtbdkogimlbnlmaaGreatWlB10
import Derived.Defers
import Derived.Recover
import Derived.Lib.SlBytesConst
import Derived.ProofKit
import Derived.OpenShut
import Derived.ShutString
import Derived.ChangeOld
import Derived.Deep.Slices
import Derived.SizedLaws
import Derived.JoinedCond
import Derived.Deep.CutRange
set_option linter.all false
set_option maxHeartbeats 12800000
set_option maxRecDepth 16000
namespace Go.Proofs.YtbdkogimlbnlmaaGreat
open Tryz
section
open Go.RowKit
variable {T:TypeId} {w w':World} {b:Nat} {a:Option Addr} {cap:Nat}
theorem But.cell1(w:World)(b i:Nat)(u:Value):But (λk=>k=b) w (w.setCell ⟨b,i,none⟩ u):=(But.refl (λk=>k=b) w).setCell (p:=⟨b,i,none⟩) (λ_=>rfl) u
end
section
open Go.RowKit
variable {w w':World} {b:Nat} {a:Option Addr} {cap:Nat} {s:RS}
end
section
open Go.RowKit
variable {v w:World} {G:Nat->Prop} {b:Nat} {l:List Nat}
end
section
open Go.RowKit
variable {v w w':World} {b:Nat} {s s':RS}
end
section
open Go.RowKit
theorem bx2(w:World)(d e:TypeId)(c1 c2:Array Value):Bx ((w.alloc (.cells c1 d)).alloc (.cells c2 e)) d w.heap.size c1/\Bx ((w.alloc (.cells c1 d)).alloc (.cells c2 e)) e (w.heap.size+1) c2:=by
 refine⟨(Bx.new w d c1).keep (al _ _),?_⟩;have:=Bx.new (w.alloc (.cells c1 d)) e c2;rwa [size_alloc] at this
end
section
open Go.RowKit
structure Jo(w w':World)(x:Iv):Prop where
 k:Rw w' x.aK x.cK x.key
 kn:New w none x.aK
 v:Rw w' x.aV x.cV x.val
 vn:New w none x.aV
 ap:∀p q,x.aK=some p->x.aV=some q->p.block≠q.block
 k8:B8 x.key
 v8:B8 x.val
 nc:N64 x.child
 ns:N64 x.size
theorem Bx.setc{w:World}{t:TypeId}{g:Nat}{cs:Array Value}(h:Bx w t g cs)(i:Nat)(u:Value):Bx (w.setCell ⟨g,i,none⟩ u) t g (cs.setIfInBounds i u):=aY w g i _ _ _ h
theorem Rw.nty{w:World}{a:Option Addr}{c:Nat}{l:List Nat}(h:Rw w a c l){t:TypeId}{g:Nat}{cs:Array Value}(d:Bx w t g cs)(i:t≠5){x:Addr}(f:a=some x):x.block≠g:=by
 intro e;rcases h.cases with⟨rfl,_⟩|⟨g',cur,rfl,hg',_⟩
 . cases f
 . cases f;dsimp only at e;subst e;unfold Bx at d;rw[hg'] at d;simp only[aE,dU] at d;exact absurd d.2.1.symm i
theorem rX(w:World)(g:Nat)(cs:Array Value):But (λk=>k=g) w (w.setRow g cs):=by
 have h:=uG (Below.refl 0 w) (az g) cs;exact⟨h.os,h.tape,h.output,h.size,λk _ d=>setRow_other _ _ _ _ d⟩
end
section
open Go.RowKit
theorem vI(n:Nat):∀i,i<n*4->(Jc (List.replicate n Iv.zero))[i]?=Iv.zero.cs.toList[i%4]?:=by
 intro i d;have h:=mH (List.replicate n Iv.zero) (i/4) (i%4) (by rw[bh];omega) (by omega)
 rw[show i/4*4+i%4=i by omega] at h
 rw[h];congr 1
 have:(List.replicate n Iv.zero).getD (i/4) Iv.zero=Iv.zero:=by
  rw[aq,ig];split<;>rfl
 rw[this]
theorem Aq(n:Nat):(madeCells Iv.zero.cs (n*4)).toList=Jc (List.replicate n Iv.zero):=by
 apply dX;intro i;by_cases d:i<n*4
 . rw[vI n i d,fk];unfold madeCells;simp[d,Iv.zero,Iv.cs];have:i%4=0\/i%4=1\/i%4=2\/i%4=3:=by omega
   rcases this with h|h|h|h<;>rw[h]<;>rfl
 . rw[cM (by simp[gG];omega),cM (by rw[kC,bh];omega)]
theorem Jw.start{W:World}{n:Nat}(d:n<=1048579):Jw (W.alloc (.cells (madeCells Iv.zero.cs (n*4)) 51)) (some ⟨W.heap.size,0,none⟩) n (List.replicate n Iv.zero):=by
 refine Jw.mk (aH _ _) (by simp) (by unfold maxLen;omega) (by simp[gG]) ?_
 rw[bh,db (by simp[gG]),Aq]
theorem zu(n:Nat)(j:n<=1048579)(w:World):(Instr.makeSlice 28 (.int .i64 (n:Int)) (.int .i64 (n:Int))).run prog w=.ok (.slice (some ⟨w.heap.size,0,none⟩) n n) (w.alloc (.cells (madeCells Iv.zero.cs (n*4)) 51)):=by
 obtain⟨f,e,g,h,i⟩:=dr mD;have d:=run_make (P:=prog) w 28 51 f (.agg Iv.zero.cs) underlying28 e g .i64 .i64 n n (by omega) (by omega) (by rw[i];omega) (by omega)
 simp only[di,h] at d;exact d
theorem Dm{D:List Iv}{n j:Nat}(d:D.length=j)(e:j<n)(v:Iv):(D++List.replicate (n-j) Iv.zero).set j v=(D++[v])++List.replicate (n-(j+1)) Iv.zero:=by
 subst d;rw[ed _ _ (ai _),df,show n-D.length=(n-(D.length+1))+1 by omega,gU,eZ,aU]
 rfl
theorem Jw.four{w:World}{g cap:Nat}{L:List Iv}(h:Jw w (some ⟨g,0,none⟩) cap L){k:Nat}(e:k<L.length):w.there g (k*4) 4:=by
 have:=h.there;intro i f;have d:=this (k*4+i) (by have:(k+1)*4<=L.length*4:=dT _ e;omega)
 simpa using d
theorem jr(g:Nat):∀(vs:List Value)(w:World)(o:Nat),But (λk=>k=g) w (w.setCells g o vs)
 | [],_,_=>But.refl _ _
 |v::vs,w,o=>((But.refl (λk=>k=g) w).setCell (p:=⟨g,o,none⟩) (λ_=>rfl) v).trans (jr g vs _ (o+1)) λ_ _ h=>h
end
section
open Go.RowKit
structure Pn(v wx:World)(P:Pv):Prop where
 it:Jw wx P.aI P.cI P.items
 itn:New v none P.aI
 d:Rw wx P.aD P.cD P.data
 dn:New v none P.aD
 fr:∀t∈i7 P.items,Rw wx t.a t.c t.l/\New v none t.a/\B8 t.l
 dist:((⟨P.aD,P.cD,P.data⟩:Br)::i7 P.items).Pairwise lD
 d8:B8 P.data
 ns:∀r∈P.items,N64 r.child/\N64 r.size
 nk:N64 P.kind
 nl:N64 P.level
 nn:N64 P.next
theorem Jw.nty{w:World}{a:Option Addr}{c:Nat}{L:List Iv}(h:Jw w a c L){t:TypeId}{g:Nat}{cs:Array Value}(d:Bx w t g cs)(i:t≠51){x:Addr}(f:a=some x):x.block≠g:=by
 intro e;rcases h.cases with⟨rfl,_⟩|⟨g',cur,rfl,hg',_⟩
 . cases f
 . cases f;dsimp only at e;subst e;unfold Bx at d;rw[hg'] at d;simp only[aE,dU] at d;exact absurd d.2.1.symm i
theorem Pn.but{S:Nat->Prop}{v wx i:World}{P:Pv}(h:Pn v wx P)(hb:But S wx i)(n:∀k,S k->∃t cs,Bx wx t k cs/\t≠5/\t≠51):Pn v i P:=by
 have d:∀{a c l},Rw wx a c l->Rw i a c l:=λd=>d.but hb λx g f=>by
  obtain⟨t,cs,e,j,m⟩:=n _ f;exact d.nty e j g rfl
 exact⟨h.it.but hb λx g f=>by
  obtain⟨t,cs,e,j,m⟩:=n _ f;exact h.it.nty e m g rfl,h.itn,d h.d,h.dn,λt p=>⟨d (h.fr t p).1,(h.fr t p).2⟩,h.dist,h.d8,h.ns,h.nk,h.nl,h.nn⟩
theorem Pn.keep{v wx d:World}{P:Pv}(h:Pn v wx P)(hb:Below wx.heap.size wx d):Pn v d P:=h.but (S:=λ_=>False) (But.ofBelow hb) λ_ h=>h.elim
theorem dr2(w:World):Below w.heap.size w w.drew:=(Below.refl _ _).drew
theorem vK{L:List Iv}{k:Nat}(d:k<L.length)(x:Iv):(i7 (L.set k x)).Perm (x.rows++i7 (L.take k++L.drop (k+1))):=by
 have e:L.set k x=L.take k++x::L.drop (k+1):=by
  rw[List.set_eq_take_append_cons_drop,if_pos d]
 rw[e,jA,lL,jA,<-aU,<-aU];exact List.Perm.append_right _ List.perm_append_comm
theorem qb{L:List Iv}{k:Nat}(d:k<L.length):(i7 (L.take k++L.drop (k+1))).Sublist (i7 L):=by
 conv=>rhs;rw[<-cZ k L,cF d,jA,lL]
 rw[jA];exact List.Sublist.append (List.Sublist.refl _) (List.sublist_append_right _ _)
theorem Pn.item{v w wx:World}{J K next:Int}{g n:Nat}{L:List Iv}{E:Option Addr}{m:Nat}{B:List Nat}{x:Iv}{k:Nat}(M:Pn v w ⟨J,K,some ⟨g,0,none⟩,n,L,E,m,B,next⟩)(h:Pn v wx ⟨J,K,some ⟨g,0,none⟩,n,L,E,m,B,next⟩)(W:v.heap.size<=w.heap.size)(f:Jo w wx x)(j:k<L.length):
 Pn v (wx.setCells g (k*4) x.cs.toList) ⟨J,K,some ⟨g,0,none⟩,n,L.set k x,E,m,B,next⟩:=by
 have hb:=jr g x.cs.toList wx (k*4);have I:∀{a c l},Rw wx a c l->Rw (wx.setCells g (k*4) x.cs.toList) a c l:=λA=>A.but hb λy X e=>h.it.ne A rfl X e.symm
 have P:∀t,t∈i7 (L.set k x)->t∈x.rows\/t∈i7 L:=λt d=>by
  rcases bq.1 ((vK j x).subset d) with h1|h1
  . exact .inl h1
  . exact .inr ((qb j).subset h1)
 have O:∀t∈x.rows,Rw wx t.a t.c t.l/\New w none t.a/\B8 t.l:=λt d=>by
  simp only[Iv.rows,cO,bm,gO] at d;rcases d with rfl|rfl
  . exact⟨f.k,f.kn,f.k8⟩
  . exact⟨f.v,f.vn,f.v8⟩
 refine⟨h.it.setv k x,h.itn,I h.d,h.dn,λt d=>?_,?_,h.d8,λr A=>?_,h.nk,h.nl,h.nn⟩
 . rcases P t d with h1|h1
   . obtain⟨i,C,D⟩:=O t h1;exact⟨I i,C.mono W,D⟩
   . obtain⟨i,C,D⟩:=h.fr t h1;exact⟨I i,C,D⟩
 . have N:∀t∈x.rows,∀u:Br,(∃c l,Rw w u.a c l)->lD u t:=λt d u ⟨c,l,H⟩ p q U V e=>by
    have h1:=H.lt U;rcases (O t d).2.1 q V with⟨_,h,_⟩|h2
    . cases h
    . omega
   obtain⟨R,S⟩:=cQ.1 h.dist;refine cQ.2 ⟨λt d=>?_,?_⟩
   . rcases P t d with h1|h1
     . exact N t h1 _ ⟨m,B,M.d⟩
     . exact R t h1
   . refine((vK j x).pairwise_iff λh=>lD.symm h).2 (de.2 ⟨?_,S.sublist (qb j),λt d u H=>(N t d u ?_).symm⟩)
     . exact cQ.2 ⟨λt d=>by rw[aQ.1 d];exact f.ap,dy _ _⟩
     . obtain⟨i,_⟩:=M.fr u ((qb j).subset H);exact⟨_,_,i⟩
 . rcases eV A with h1|rfl
   . exact h.ns r h1
   . exact⟨f.nc,f.ns⟩
end
section
open Go.RowKit
theorem Pn.zero(v w:World):Pn v w Pv.zero:=⟨Jw.nil _,New.none _ _,Rw.nil _,New.none _ _,(λ_ h=>by cases h),dy _ _,B8.nil,(λ_ h=>by cases h),by simp[N64,Pv.zero],by simp[N64,Pv.zero],by simp[N64,Pv.zero]⟩
theorem Pn.pre{v v' w:World}{P:Pv}(h:Pn v w P)(e:v'.heap.size<=v.heap.size):Pn v' w P:=⟨h.it,h.itn.mono e,h.d,h.dn.mono e,λt d=>⟨(h.fr t d).1,(h.fr t d).2.1.mono e,(h.fr t d).2.2⟩,h.dist,h.d8,h.ns,h.nk,h.nl,h.nn⟩
theorem Pn.row{v w:World}{P:Pv}(h:Pn v w P){t:TypeId}{g:Nat}{cs:Array Value}(f:Bx w t g cs)(d:t≠5)(e:t≠51)(j:Array Value):Pn v (w.setRow g j) P:=
 h.but (rX _ _ _) λk i=>by subst i;exact⟨t,cs,f,d,e⟩
theorem Pn.pi{v w:World}{P:Pv}(h:Pn v w P)(m:P.items.length<=2199023255489):Pi w P:=by
 have j:P.items.length<=P.cI:=by
  rcases h.it.cases with⟨_,h1,h2⟩|⟨g,cur,_,_,h1,_⟩
  . rw[h1,h2];simp
  . exact h1
 have k:∀r∈P.items,Ii w r:=λr d=>by
  have i:=(kT d).subset;obtain⟨e,q,n⟩:=h.fr ⟨r.aK,r.cK,r.key⟩ (i (by simp[Iv.rows]))
  obtain⟨f,t,p⟩:=h.fr ⟨r.aV,r.cV,r.val⟩ (i (by simp[Iv.rows]))
  exact⟨e.bs n e.len_le,e.cap,f.bs p f.len_le,f.cap,(h.ns r d).1,(h.ns r d).2⟩
 exact⟨h.it.qs k m,j,h.d.bs h.d8 h.d.len_le,h.d.cap,h.nk,h.nl,h.nn⟩
end
section
open Go.RowKit
theorem wQ(w:World)(x y:Iv)(t:Ii w x)(A:Ii w y)(D:x.it=y.it):Calls prog 28 #[x.vl,y.vl] w λe w'=>e=.returned (.bool true)/\Below w.heap.size w w':=by
 obtain⟨i,n,d,j,p,val,h,g⟩:=x;obtain⟨k,q,U,m,r,V,X,W⟩:=y;simp only[Iv.it,It.mk.injEq] at D;obtain⟨rfl,rfl,rfl,rfl⟩:=D;have K:=iJ λ(f:World)(hb:Below w.heap.size w f)=>lh f i k d.length d.length n q d (t.bk.keep hb) (A.bk.keep hb) rfl rfl
 have L:=iJ λ(f:World)(hb:Below w.heap.size w f)=>lh f j m val.length val.length p r val (t.bv.keep hb) (A.bv.keep hb) rfl rfl
 obtain⟨E,H⟩:=bx2 w 51 51 (Iv.cs ⟨i,n,d,j,p,val,h,g⟩) (Iv.cs ⟨k,q,d,m,r,val,h,g⟩);have J:=iJ λ(f:World)(hb:Below ((w.alloc (.cells (Iv.cs ⟨i,n,d,j,p,val,h,g⟩) 51)).alloc (.cells (Iv.cs ⟨k,q,d,m,r,val,h,g⟩) 51)).heap.size ((w.alloc (.cells (Iv.cs ⟨i,n,d,j,p,val,h,g⟩) 51)).alloc (.cells (Iv.cs ⟨k,q,d,m,r,val,h,g⟩) 51)) f)=>And.intro (Bx.item (E.keep hb)) (Bx.item (H.keep hb))
 clear t A E H;unfold Iv.vl;simp only[Iv.cs] at *;go_enter func28,ntmps28;go_wp2_with fail
 refine(K.o _ (bt (al _ _) (al _ _))).mono ?_;rintro y f ⟨rfl,B⟩;obtain⟨⟨c0,c1,c2,c3⟩,N,O,P,R⟩:=J.o _ B;have C:=iJ (bt (bt (al w _) (al _ _)) B);clear B;go_wp2_with fail
 refine(L.o _ C.o).mono ?_;rintro y S ⟨rfl,I⟩;have M:=iJ (bt C.o I);clear I;go_wp2;go_ret;exact⟨by simp,M.o⟩
theorem mY(w:World)(p q:Pv)(V:Pi w p)(hq:Pi w q)(B:p.pg=q.pg):Calls prog 69 #[p.vl,q.vl] w λe w'=>e=.returned (.bool true)/\Below w.heap.size w w':=by
 have ar:p.items.length<=2199023255489:=V.it.2.1;have I:=iJ V;have J:=iJ hq;obtain⟨Y,Z⟩:=bx2 w 31 31 p.cs q.cs;have t:=iJ (bt (al w (.cells p.cs 31)) (al _ (.cells q.cs 31)));obtain⟨v,W⟩:∃v,(w.alloc (.cells p.cs 31)).alloc (.cells q.cs 31)=v:=⟨_,rfl⟩;rw[W] at Y Z t;have m:=iJ λ(f:World)(hb:Below v.heap.size v f)=>And.intro (Bx.page (Y.keep hb)) (Bx.page (Z.keep hb))
 have L:Hid (p.items.map Iv.it=q.items.map Iv.it):=a7 Pg.items B;have ai:q.items.length=p.items.length:=by have:=a7 List.length L.o;simpa using this.symm
 have aa:=iJ λ(k:Nat)(hk:k<p.items.length)(f:World)(hb:Below v.heap.size v f)=>wQ f (p.items.getD k Iv.zero) (q.items.getD k Iv.zero) ((I.o.it.keep (bt t.o hb)).1 _ (ja hk)) ((J.o.it.keep (bt t.o hb)).1 _ (ja (by omega))) (by
  have R:=a7 (λad=>ad.getD k It.zero) L.o
  have N:=Pv.at p k;have A:=Pv.at q k;unfold Pg.at at N A;rw[<-N,<-A];exact R)
 have K:=iJ λ(f:World)(hb:Below v.heap.size v f)=>I.o.it.keep (bt t.o hb)
 have x:=iJ λ(f:World)(hb:Below v.heap.size v f)=>J.o.it.keep (bt t.o hb)
 have U:q.data=p.data:=(a7 Pg.data B).symm;have ED:=iJ λ(f:World)(hb:Below v.heap.size v f)=>lh f p.aD q.aD p.data.length q.data.length p.cD q.cD p.data (I.o.bd.keep (bt t.o hb)) (U▸J.o.bd.keep (bt t.o hb)) rfl (by rw[U])
 have R:q.kind=p.kind:=(a7 Pg.kind B).symm;have h2:q.level=p.level:=(a7 Pg.level B).symm;have h3:q.next=p.next:=(a7 Pg.next B).symm;clear B V hq Y Z L U I J;obtain⟨aw,aA,aI,cI,items,aD,cD,au,next⟩:=p
 obtain⟨ay,aC,af,dI,aq,bD,dD,ax,aB⟩:=q;unfold Pv.vl;simp only[Pv.cs] at *;subst R h2 h3;rw[ai] at W m ⊢;obtain⟨⟨b0,b1,C,b3,b4⟩,e0,N,A,e3,e4⟩:=m.o _ (Below.refl _ _);go_enter func69,ntmps69;go_wp2_with fail
 refine(ED.o _ (Below.refl _ _)).mono ?_;rintro y f ⟨rfl,ab⟩;have d:=iJ ab;clear ab W b0 b1 C b3 b4 e0 N A e3 e4;obtain⟨⟨c0,c1,c2,c3,c4⟩,d0,d1,d2,d3,d4⟩:=m.o _ d.o;go_wp2;go_loopw [5] (λi wx=>∃k:Nat,k<=items.length/\i=.int .i64 k/\Below v.heap.size v wx) (λi _=>items.length-(intOf i).toNat)
 case atStart=>exact⟨0,az _,rfl,d.o⟩
 case round=>
  clear d c0 c1 c2 c3 c4 d0 d1 d2 d3 d4;obtain⟨k,hk,rfl,hT⟩:=hrel;have d:=iJ hT;clear hT;obtain⟨⟨c0,c1,c2,c3,c4⟩,d0,d1,d2,d3,d4⟩:=m.o _ d.o;by_cases H:k<items.length
  . have av:(k:Int)<(items.length:Int):=by omega
    have ag:=w64 (j:=k) (by omega)
    have EI:=iJ (aa.o k H);obtain⟨g,h,rfl⟩:∃g h,aI=some ⟨g,h,none⟩:=by obtain⟨C,X,A,_⟩:=(K.o _ (Below.refl _ _)).at H;exact⟨C,X,A⟩
    obtain⟨D,E,rfl⟩:∃g h,af=some ⟨g,h,none⟩:=by obtain⟨C,X,A,_⟩:=(x.o _ (Below.refl _ _)).at (r:=k) (by omega);exact⟨C,X,A⟩
    have O:=iJ λ(f:World)(hb:Below v.heap.size v f)=>ur (K.o f hb) H
    have P:=iJ λ(f:World)(hb:Below v.heap.size v f)=>ur (x.o f hb) (k:=k) (by omega)
    clear aa K x;generalize items.getD k Iv.zero=ae at *;generalize aq.getD k Iv.zero=y at *;generalize items.length=n at *;obtain⟨aK,cK,ah,aV,cV,val,an,ak⟩:=ae;obtain⟨bK,dK,aj,bV,dV,am,ap,ao⟩:=y;simp only[Iv.vl,Iv.cs] at EI O P;go_wp2;have d:=iJ (bt d.o (dr2 _));have M:=And.intro (And.intro (m.o _ d.o).1.2.2.1 (m.o _ d.o).2.2.2.1) (And.intro (O.o _ d.o) (P.o _ d.o));refine bC (S:=λw'=>(w'.cell? ⟨w.heap.size,2,none⟩=some (.slice (some ⟨g,h,none⟩) n cI)/\w'.cell? ⟨w.heap.size+1,2,none⟩=some (.slice (some ⟨D,E,none⟩) n dI))/\(w'.cell? ⟨g,h+k*4,none⟩=some (.slice aK ah.length cK)/\w'.cell? ⟨g,h+k*4+1,none⟩=some (.slice aV val.length cV)/\w'.cell? ⟨g,h+k*4+2,none⟩=some (.int .i64 an)/\w'.cell? ⟨g,h+k*4+3,none⟩=some (.int .i64 ak))/\(w'.cell? ⟨D,E+k*4,none⟩=some (.slice bK aj.length dK)/\w'.cell? ⟨D,E+k*4+1,none⟩=some (.slice bV am.length dV)/\w'.cell? ⟨D,E+k*4+2,none⟩=some (.int .i64 ap)/\w'.cell? ⟨D,E+k*4+3,none⟩=some (.int .i64 ao))) (by kernel_rfl) (by exact M) (λhHeld=>?_)
    refine tkd 0 1 2 3 ?_;refine tkd 4 5 6 7 ?_;refine tkb 8 9 ?_;refine tw 10 λac hK=>?_
    go_simp;refine(EI.o _ d.o).mono ?_;rintro e w9 ⟨rfl,hb⟩;have d:=iJ (bt d.o hb);have M:=And.intro (And.intro (m.o _ d.o).1.2.2.1 (m.o _ d.o).2.2.2.1) (And.intro (O.o _ d.o) (P.o _ d.o));clear hb;go_wp2_with fail
    refine hK.o _ _ (by exact M) (λhHeld=>?_)
    clear hK ac;try simp only[pt]
    refine tk 11 ?_;refine td ?_;clear M;go_wp2;go_roundw
    case rel=>exact⟨k+1,by omega,by first|(go_num;done)|exact a7 (Value.int IntKind.i64) (by omega),d.o⟩
    case measure=>first|exact jb _ _ _ ag H|exact jb _ _ _ rfl H|(simp[intOf];omega)
  . obtain rfl:k=items.length:=by omega
    go_wp2;go_ret;exact⟨rfl,bt t.o d.o⟩
end
section
open Go.RowKit
theorem Jw.butg{d f:World}{a:Option Addr}{c:Nat}{L:List Iv}(_:Jw d a c L)(g:d.grownBy f (a.map Addr.block)):But (λk=>∃x,a=some x/\x.block=k) d f:=
 (But.refl _ _).grown g λk h _=>by
   obtain⟨x,i,e⟩:=map_some h;exact⟨x,i,e⟩
end
section
open Go.RowKit
end
section
open Go.RowKit
def rp(p:Pv):List Br:=⟨p.aD,p.cD,p.data⟩::i7 p.items
theorem zR{w:World}{a:Option Addr}(h:New w none a){x:Addr}(d:a=some x):w.heap.size<=x.block:=by
 rcases h x d with⟨y,hy,_⟩|h
 . cases hy
 . exact h
end
section
open Go.RowKit
theorem iM(w:World)(o p:Obj){d:World}(hb:Below ((w.alloc o).alloc p).heap.size ((w.alloc o).alloc p) d):d.heap[w.heap.size]?=some o/\d.heap[w.heap.size+1]?=some p/\Below w.heap.size w d/\w.heap.size+2<=d.heap.size:=by
 have e:((w.alloc o).alloc p).heap.size=w.heap.size+2:=by rw[size_alloc,size_alloc]
 refine⟨(hb.block _ (by rw[e];omega)).trans ?_,(hb.block _ (by rw[e];omega)).trans ?_,bt (bt (al _ _) (al _ _)) hb,by have:=hb.size;omega⟩
 . rw[ie _ _ (by rw[size_alloc];omega)];exact aH _ _
 . have:=aH (w.alloc o) p;rw[size_alloc] at this;exact this
theorem lv(w:World)(aa:Option Addr)(n f:Nat)(p:List Nat)(m:Bs w aa p)(q:n=p.length)(r:p.length<=140737488355264):
 Calls prog 64 #[.slice aa n f] w λx w'=>∃d e,x=.returned (.slice d p.length e)/\Own w w' d e p:=by
 subst q;exact(uj w aa p.length f p m rfl (by omega)).mono λ_ _ ⟨d,g,h,i,j,k⟩=>⟨d,g,h,i,j,k⟩
theorem rA(g:Nat)(w:World)(a b c d:Value):But (λk=>k=g) w ((((w.setCell ⟨g,0,none⟩ a).setCell ⟨g,1,none⟩ b).setCell ⟨g,2,none⟩ c).setCell ⟨g,3,none⟩ d):=
 ((((But.refl (λk=>k=g) w).setCell (p:=⟨g,0,none⟩) (λ_=>rfl) a).setCell (p:=⟨g,1,none⟩) (λ_=>rfl) b).setCell (p:=⟨g,2,none⟩) (λ_=>rfl) c).setCell (p:=⟨g,3,none⟩) (λ_=>rfl) d
theorem lI(g:Nat)(w:World)(a b c d e:Value):But (λk=>k=g) w (((((w.setCell ⟨g,0,none⟩ a).setCell ⟨g,1,none⟩ b).setCell ⟨g,2,none⟩ c).setCell ⟨g,3,none⟩ d).setCell ⟨g,4,none⟩ e):=
 (rA g w a b c d).setCell (p:=⟨g,4,none⟩) (λ_=>rfl) e
theorem Ey{w:World}{g:Nat}{t:TypeId}{i j k m:Value}(h:Bx w t g #[i,j,k,m])(a b c d:Value):Bx ((((w.setCell ⟨g,0,none⟩ a).setCell ⟨g,1,none⟩ b).setCell ⟨g,2,none⟩ c).setCell ⟨g,3,none⟩ d) t g #[a,b,c,d]:=by
 have f:=(((h.setc 0 a).setc 1 b).setc 2 c).setc 3 d;have e:(((#[i,j,k,m].setIfInBounds 0 a).setIfInBounds 1 b).setIfInBounds 2 c).setIfInBounds 3 d=#[a,b,c,d]:=by simp
 rw[e] at f;exact f
theorem qn{w:World}{g:Nat}{t:TypeId}{j k m n p:Value}(h:Bx w t g #[j,k,m,n,p])(a b c d f:Value):Bx (((((w.setCell ⟨g,0,none⟩ a).setCell ⟨g,1,none⟩ b).setCell ⟨g,2,none⟩ c).setCell ⟨g,3,none⟩ d).setCell ⟨g,4,none⟩ f) t g #[a,b,c,d,f]:=by
 have i:=((((h.setc 0 a).setc 1 b).setc 2 c).setc 3 d).setc 4 f;have e:((((#[j,k,m,n,p].setIfInBounds 0 a).setIfInBounds 1 b).setIfInBounds 2 c).setIfInBounds 3 d).setIfInBounds 4 f=#[a,b,c,d,f]:=by simp
 rw[e] at i;exact i
theorem fr4{w:World}{g:Nat}{t:TypeId}{cs:Array Value}(h:Bx w t g cs):w.frozen? ⟨g,0,none⟩=false/\w.frozen? ⟨g,1,none⟩=false/\w.frozen? ⟨g,2,none⟩=false/\w.frozen? ⟨g,3,none⟩=false/\w.frozen? ⟨g,4,none⟩=false:=
 ⟨bG _ _ _ _ _ h,bG _ _ _ _ _ h,bG _ _ _ _ _ h,bG _ _ _ _ _ h,bG _ _ _ _ _ h⟩
theorem wD(w:World)(r:Iv)(H:Ii w r)(hl:r.key.length<=140737488355264)(hh:r.val.length<=140737488355264):
 Calls prog 121 #[r.vl] w λe w'=>∃q:Iv,e=.returned q.vl/\Io w w' q/\q.it=r.it:=by
 have S1:=iJ λC (hb:Below w.heap.size w C)=>lv C r.aK r.key.length r.cK r.key (H.bk.keep hb) rfl hl
 have S2:=iJ λC (hb:Below w.heap.size w C)=>lv C r.aV r.val.length r.cV r.val (H.bv.keep hb) rfl hh
 have L8:=iJ H.bk.1;have H8:=iJ H.bv.1;clear H;unfold Iv.vl;obtain⟨n,A,i,t,B,val,m,j⟩:=r;have N:=iJ λ(W:World)(h:W.heap[w.heap.size]?=some (.cells (Iv.cs ⟨n,A,i,t,B,val,m,j⟩) 51))=>Bx.item (p:=⟨n,A,i,t,B,val,m,j⟩) h
 have IS:=iJ λ(W:World)(h:W.heap[w.heap.size]?=some (.cells (Iv.cs ⟨n,A,i,t,B,val,m,j⟩) 51))(a b c d:Value)=>Bx.item (p:=⟨n,A,i,t,B,val,m,j⟩) ((show Bx W 51 w.heap.size _ from h).but (rA (w.heap.size+1) W a b c d) (by omega))
 have TZ:=iJ λ(W:World)(h:W.heap[w.heap.size+1]?=some (.cells (Iv.cs Iv.zero) 51))=>And.intro (Bx.item (p:=Iv.zero) h) (fr4 (show Bx W 51 (w.heap.size+1) _ from h))
 have TM:=iJ λ(W:World)(h:W.heap[w.heap.size+1]?=some (.cells (Iv.cs Iv.zero) 51))(a b c d:Value)=>Ey (show Bx W 51 (w.heap.size+1) _ from h) a b c d
 dsimp only[Iv.cs,Iv.zero,bj] at *;go_enter func121,ntmps121;go_wp2;have f:Hid (Below ((w.alloc (.cells #[.slice n i.length A,.slice t val.length B,.int .i64 m,.int .i64 j] 51)).alloc (.cells #[.slice none 0 0,.slice none 0 0,.int .i64 0,.int .i64 0] 51)).heap.size ((w.alloc (.cells #[.slice n i.length A,.slice t val.length B,.int .i64 m,.int .i64 j] 51)).alloc (.cells #[.slice none 0 0,.slice none 0 0,.int .i64 0,.int .i64 0] 51)) ((w.alloc (.cells #[.slice n i.length A,.slice t val.length B,.int .i64 m,.int .i64 j] 51)).alloc (.cells #[.slice none 0 0,.slice none 0 0,.int .i64 0,.int .i64 0] 51)).drew):=(Below.refl _ _).drew;have L:=N.o _ (iM w _ _ f.o).1;have hn:w.heap.size+1≠w.heap.size:=by omega
 go_region_held3 (λw'=>w'.cell? ⟨w.heap.size,0,none⟩=some (.slice n i.length A)/\w'.cell? ⟨w.heap.size,1,none⟩=some (.slice t val.length B)/\w'.cell? ⟨w.heap.size,2,none⟩=some (.int .i64 m)/\w'.cell? ⟨w.heap.size,3,none⟩=some (.int .i64 j))
  (first|with_reducible exact L|with_reducible exact IS.o _ (iM w _ _ f.o).1 _ _ _ _)
  (first|(go_at_call 64;with_reducible refine(S1.o _ (iM w _ _ f.o).2.2.1).mono ?_;rintro e C ⟨D,P,rfl,J⟩;have Z:=J.b;have V:=iJ (λx (g:D=some x)=>aO (iM w _ _ f.o).2.2.2 (J.fresh g));have L1:=iJ (λx (g:D=some x)=>J.r.lt g);have f:=iJ (bt f.o Z);have L:=N.o _ (iM w _ _ f.o).1;have O:=iJ J.r;clear Z J)|(go_at_call 64;with_reducible refine(S2.o _ (iM w _ _ f.o).2.2.1).mono ?_;rintro e w2 ⟨E,R,rfl,K⟩;have U:=K.b;have Z2:=iJ (λx y (g:D=some x)(I:E=some y)=>be (L1.o x g) (K.fresh I));have X:=iJ (λy (I:E=some y)=>aO (iM w _ _ f.o).2.2.2 (K.fresh I));have f:=iJ (bt f.o U);have L:=N.o _ (iM w _ _ f.o).1;obtain⟨⟨y0,y1,y2,y3⟩,f0,f1,f2,f3,f4⟩:=TZ.o _ (iM w _ _ f.o).2.1;have O:=iJ (O.o.keep U);have R2:=iJ K.r;clear U K))
 clear L;have M1:=iJ (TM.o _ (iM w _ _ f.o).2.1 (.slice D i.length P) (.slice E val.length R) (.int .i64 m) (.int .i64 j));have M:=iJ (rA (w.heap.size+1) w2 (.slice D i.length P) (.slice E val.length R) (.int .i64 m) (.int .i64 j));have TB:=iJ (iM w _ _ f.o).2.2.1;clear y0 y1 y2 y3 f0 f1 f2 f3 f4 f;go_wp2;refine bZ (v:=.agg _) (fH results121 _ _ (w.heap.size+1) 51 _ (0,0) _ rfl M1.o underlying51 rfl DG) rfl ?_;have Y:Below w.heap.size w _:=((But.ofBelow (S:=λk=>k=w.heap.size+1) TB.o).trans M.o λ_ _ e=>e).below λk hk e=>by omega
 have C:=O.o.but M.o λx g e=>by have:=V.o x g;omega
 have aa:=R2.o.but M.o λx g e=>by have:=X.o x g;omega
 exact⟨⟨D,P,i,E,R,val,m,j⟩,rfl,⟨⟨C,λx g=>.inr (by have:=V.o x g;omega),Y⟩,⟨aa,λx g=>.inr (by have:=X.o x g;omega),Y⟩,λx y g I e=>by have:=Z2.o x y g I;omega,L8.o,H8.o⟩,rfl⟩
end
section
open Go.RowKit
theorem Fam.grown{w d g:World}{T:List Br}{a:Option Addr}{c:Nat}{L:List Iv}(f:Fam w d T)(h:Jw d a c L)(i:d.grownBy g (a.map Addr.block))(k:Below w.heap.size w g):Fam w g T:=
 f.but (h.butg i) k λt j _ m ⟨_,n,e⟩=>h.ne (f.own t j).1.r n m e
structure Ck(w W:World)(a:Option Addr)(c:Nat)(M:List Iv)(L:List Iv):Prop where
 j:JOwn w W a c M
 f:Fam w W (i7 M)
 e:M.map Iv.it=L.map Iv.it
 n:∀r∈M,N64 r.child/\N64 r.size
theorem Ck.len{w W:World}{a:Option Addr}{c:Nat}{M L:List Iv}(h:Ck w W a c M L):M.length=L.length:=by have:=a7 List.length h.e;simpa using this
theorem Ck.keep{w W d:World}{a:Option Addr}{c:Nat}{M L:List Iv}(h:Ck w W a c M L)(hb:Below W.heap.size W d):Ck w d a c M L:=⟨h.j.keep hb,h.f.keep hb,h.e,h.n⟩
theorem Ck.nil(w:World){W:World}(hb:Below w.heap.size w W):Ck w W none 0 [] []:=⟨JOwn.nil w hb,Fam.nil _ _,rfl,(λ_ h=>by cases h)⟩
theorem Ce(w:World)(x:Iv)(g:Nat)(d:g=w.heap.size):∀j u,x.cs.toList[j]?=some u->(w.alloc (.cells x.cs 51)).cell? ((⟨g,0,none⟩:Addr).add j)=some u:=by
 subst d;intro j u h;rw[Addr.add_mid,bN,ay _ _ _ _ _ _ (aH _ _)];simpa using h
theorem Ck.push{w W e d f:World}{a:Option Addr}{c g c2:Nat}{M L:List Iv}{q x:Iv}(h:Ck w W a c M L)(k:Io W e q)(y:q.it=x.it)(A:N64 q.child/\N64 q.size)(hb:Below e.heap.size e d)(p:Jw f (some ⟨g,0,none⟩) c2 (M++[q]))(t:New d a (some ⟨g,0,none⟩))(j:d.grownBy f (a.map Addr.block)):
 Ck w f (some ⟨g,0,none⟩) c2 (M++[q]) (L++[x]):=by
 have i:Below W.heap.size W d:=bt k.k.b hb;have m:=h.j.step i p t j;have n:Fam w d (i7 M++q.rows):=h.f.add (k.fam.keep hb) i h.j.b;refine⟨m,?_,by rw[bP,bP,h.e];simp[y],λr hr=>?_⟩
 . rw[jA,mf];exact n.grown (h.j.r.keep i) j m.b
 . rcases bq.1 hr with hr|hr
   . exact h.n r hr
   . rw[aQ.1 hr];exact A
theorem it_n{q x:Iv}(h:q.it=x.it)(f:N64 x.child/\N64 x.size):N64 q.child/\N64 q.size:=by
 have d:q.child=x.child:=a7 It.child h;have e:q.size=x.size:=a7 It.size h;rw[d,e];exact f
theorem o7(w:World)(a:Option Addr)(n c:Nat)(L:List Iv)(f:Js w a L)(hn:n=L.length)(hL:L.length<=1048576)(D:∀r∈L,r.key.length<=140737488355264/\r.val.length<=140737488355264):
 Calls prog 63 #[.slice a n c] w λe w'=>∃S U M,e=.returned (.slice S L.length U)/\Ck w w' S U M L:=by
 subst hn;have N:=iJ λ(t:World)(hb:Below w.heap.size w t)(k:Nat)(d:k<L.length)=>(f.keep hb).at d
 have I:=iJ λ(t:World)(hb:Below w.heap.size w t)(k:Nat)(d:k<L.length)=>wD t (L.getD k Iv.zero) ((f.1 _ (ja d)).keep hb) (D _ (ja d)).1 (D _ (ja d)).2
 have K:=iJ λ(k:Nat)(d:k<L.length)=>And.intro (f.1 _ (ja d)).nc (f.1 _ (ja d)).ns
 have O:=iJ λ(k:Nat)(d:k<L.length)=>(show L.take (k+1)=L.take k++[L.getD k Iv.zero] from by rw[dS d];simp[d])
 clear f D;go_enter func63,ntmps63;go_wp2;go_loopw [3,4] (λo i wx=>∃(k:Nat)(j:Option Addr)(m:Nat)(M:List Iv),k<=L.length/\i=.int .i64 k/\o=.slice j k m/\Ck w wx j m M (L.take k)) (λ_ i _=>L.length-(intOf i).toNat)
 case atStart=>exact⟨0,none,0,[],az _,rfl,rfl,Ck.nil w (Below.refl _ _)⟩
 case round=>
  obtain⟨k,j,m,M,d,rfl,rfl,A⟩:=hrel;have g:=iJ A;have J:Hid (k=M.length):=by show _=_;rw[A.len,bi];omega
  clear A;by_cases p:k<L.length
  . have af:(k:Int)<(L.length:Int):=by omega
    have ac:k+1<=L.length:=by omega
    obtain⟨bI,off,rfl,X⟩:=N.o _ g.o.j.b k p;obtain⟨Y,Z,h,k3⟩:=jG X;have y:=iJ (I.o _ g.o.j.b k p);have N1:=iJ (K.o k p);have T1:=iJ (O.o k p);have ad:M.length+1<=2199023255489:=by have:=J.o;omega
    clear X N I K O;generalize L.getD k Iv.zero=x at *;have ab:=iJ λ(q:Iv)(aa:q.it=x.it)=>it_n aa N1.o
    obtain⟨aK,cK,ae,aV,cV,val,ah,ag⟩:=x;simp only[Iv.vl,Iv.cs] at y Y Z h k3;go_wp2_with fail
    refine y.o.mono ?_;rintro e E ⟨q,rfl,C,B⟩;have Q1:=iJ C;have Q2:=iJ B;have Q3:=iJ (ab.o q B);have P:=iJ ((g.o.j.keep C.k.b).r.keep (al E (.cells q.cs 51)));have H:=iJ (Ce E q E.heap.size rfl);clear C B y Y Z h k3;obtain⟨qK,dK,kq,qV,dV,vq,cq,sq⟩:=q;simp only[Iv.cs] at P H ⊢;go_wp2_with (at_builtin;refine yj rfl _ _ rfl j k m M rfl J.o P.o ⟨_,0,none⟩ 1 ⟨qK,dK,kq,qV,dV,vq,cq,sq⟩ rfl H.o ad ?_)
    intro g2 c2 w5 f V W;have R:=iJ (g.o.push Q1.o Q2.o Q3.o (al _ _) f V W);rw[<-T1.o] at R;clear f V W;go_wp2;go_roundw
    case rel=>exact⟨k+1,_,c2,_,ac,by first|(go_num;done)|exact a7 (Value.int IntKind.i64) (by omega),rfl,R.o⟩
    case measure=>first|exact jb _ _ _ rfl p|(simp[intOf];omega)
  . obtain rfl:k=L.length:=by omega
    rw[cJ] at g;go_wp2;go_ret;exact⟨j,m,M,rfl,g.o⟩
theorem CopyPage_any(w:World)(r:Pv)(D:Pi w r)(hd:r.data.length<=140737488355264)(hi:r.items.length<=1048576)(hs:∀x∈r.items,x.key.length<=140737488355264/\x.val.length<=140737488355264):
 Calls prog 14 #[r.vl] w λe w'=>∃q:Pv,e=.returned q.vl/\Pi w' q/\q.pg=r.pg/\Below w.heap.size w w':=by
 have S1:=iJ λH (hb:Below w.heap.size w H)=>o7 H r.aI r.items.length r.cI r.items (D.it.keep hb) rfl hi hs
 have S2:=iJ λH (hb:Below w.heap.size w H)=>lv H r.aD r.data.length r.cD r.data (D.bd.keep hb) rfl hd
 have L8:=iJ D.bd.1;have O:=iJ (And.intro D.nk (And.intro D.nl D.nn));clear D;unfold Pv.vl;obtain⟨m,n,A,C,items,y,B,j,next⟩:=r
 have N:=iJ λ(W:World)(h:W.heap[w.heap.size]?=some (.cells (Pv.cs ⟨m,n,A,C,items,y,B,j,next⟩) 31))=>Bx.page (p:=⟨m,n,A,C,items,y,B,j,next⟩) h
 have IS:=iJ λ(W:World)(h:W.heap[w.heap.size]?=some (.cells (Pv.cs ⟨m,n,A,C,items,y,B,j,next⟩) 31))(a b c d f:Value)=>Bx.page (p:=⟨m,n,A,C,items,y,B,j,next⟩) ((show Bx W 31 w.heap.size _ from h).but (lI (w.heap.size+1) W a b c d f) (by omega))
 have TZ:=iJ λ(W:World)(h:W.heap[w.heap.size+1]?=some (.cells (Pv.cs Pv.zero) 31))=>And.intro (Bx.page (p:=Pv.zero) h) (fr4 (show Bx W 31 (w.heap.size+1) _ from h))
 have TM:=iJ λ(W:World)(h:W.heap[w.heap.size+1]?=some (.cells (Pv.cs Pv.zero) 31))(a b c d f:Value)=>qn (show Bx W 31 (w.heap.size+1) _ from h) a b c d f
 dsimp only[Pv.cs,Pv.zero,bj] at *;go_enter func14,ntmps14;go_wp2;have i:Hid (Below ((w.alloc (.cells #[.int .i64 m,.int .i64 n,.slice A items.length C,.slice y j.length B,.int .i64 next] 31)).alloc (.cells #[.int .i64 0,.int .i64 0,.slice none 0 0,.slice none 0 0,.int .i64 0] 31)).heap.size ((w.alloc (.cells #[.int .i64 m,.int .i64 n,.slice A items.length C,.slice y j.length B,.int .i64 next] 31)).alloc (.cells #[.int .i64 0,.int .i64 0,.slice none 0 0,.slice none 0 0,.int .i64 0] 31)) ((w.alloc (.cells #[.int .i64 m,.int .i64 n,.slice A items.length C,.slice y j.length B,.int .i64 next] 31)).alloc (.cells #[.int .i64 0,.int .i64 0,.slice none 0 0,.slice none 0 0,.int .i64 0] 31)).drew):=(Below.refl _ _).drew
 have J:=N.o _ (iM w _ _ i.o).1;have hn:w.heap.size+1≠w.heap.size:=by omega
 go_region_held3 (λw'=>w'.cell? ⟨w.heap.size,0,none⟩=some (.int .i64 m)/\w'.cell? ⟨w.heap.size,1,none⟩=some (.int .i64 n)/\w'.cell? ⟨w.heap.size,2,none⟩=some (.slice A items.length C)/\w'.cell? ⟨w.heap.size,3,none⟩=some (.slice y j.length B)/\w'.cell? ⟨w.heap.size,4,none⟩=some (.int .i64 next))
  (first|with_reducible exact J|with_reducible exact IS.o _ (iM w _ _ i.o).1 _ _ _ _ _)
  (first|(go_at_call 63;with_reducible refine(S1.o _ (iM w _ _ i.o).2.2.1).mono ?_;rintro e H ⟨R,L,M,rfl,Y⟩;have ab:=Y.j.b;have i:=iJ (bt i.o ab);have J:=N.o _ (iM w _ _ i.o).1;have t:=iJ Y;clear ab Y)|(go_at_call 64;with_reducible refine(S2.o _ (iM w _ _ i.o).2.2.1).mono ?_;rintro e w2 ⟨U,P,rfl,Z⟩;have aa:=Z.b;have i:=iJ (bt i.o aa);have J:=N.o _ (iM w _ _ i.o).1;obtain⟨⟨y0,y1,y2,y3,y4⟩,f0,f1,f2,f3,f4⟩:=TZ.o _ (iM w _ _ i.o).2.1;have t:=iJ (t.o.keep aa);have R2:=iJ Z.r;clear aa Z))
 clear J;have M1:=iJ (TM.o _ (iM w _ _ i.o).2.1 (.int .i64 m) (.int .i64 n) (.slice R items.length L) (.slice U j.length P) (.int .i64 next))
 have I:=iJ (lI (w.heap.size+1) w2 (.int .i64 m) (.int .i64 n) (.slice R items.length L) (.slice U j.length P) (.int .i64 next))
 have TB:=iJ (iM w _ _ i.o).2.2.1;have K:Hid (Bx w2 31 (w.heap.size+1) _):=(iM w _ _ i.o).2.1;clear y0 y1 y2 y3 y4 f0 f1 f2 f3 f4 i;go_wp2;refine bZ (v:=.agg _) (fH results14 _ _ (w.heap.size+1) 31 _ (0,0) _ rfl M1.o underlying31 rfl iP) rfl ?_;have ac:Below w.heap.size w _:=((But.ofBelow (S:=λk=>k=w.heap.size+1) TB.o).trans I.o λ_ _ e=>e).below λk hk e=>by omega
 have r2:=R2.o.but I.o λx E e=>R2.o.nty K.o (by decide) E e
 have j2:=t.o.j.r.but I.o λx E e=>t.o.j.r.nty K.o (by decide) E e
 have ae:=t.o.len
 have ii:∀r∈M,Ii _ r:=λr V=>by
  have k:=Fam.io (t.o.f.sub (kT V));have X:=k.k.r.but I.o λx E e=>k.k.r.nty K.o (by decide) E e
  have kv:=k.v.r.but I.o λx E e=>k.v.r.nty K.o (by decide) E e
  exact⟨X.bs k.k8 X.len_le,X.cap,kv.bs k.v8 kv.len_le,kv.cap,(t.o.n r V).1,(t.o.n r V).2⟩
 have ad:M.length<=L:=by
  rcases j2.cases with⟨_,h1,h2⟩|⟨g,cur,_,_,h1,_⟩
  . rw[h1,h2];simp
  . exact h1
 refine⟨⟨m,n,R,L,M,U,P,j,next⟩,by rw[<-ae],⟨j2.qs ii (by omega),ad,r2.bs L8.o r2.len_le,r2.cap,O.o.1,O.o.2.1,O.o.2.2⟩,?_,ac⟩
 unfold Pv.pg;dsimp only;rw[t.o.e]
end
section
open Go.RowKit
variable {v0 W W2:World} {p:Pv} {g3 gD g j:Nat} {D:List Iv}
structure Sl(W:World)(a:Option Addr)(c:Nat)(l:List Nat):Prop where
 at':∃g,a=some ⟨g,0,none⟩/\W.rowIs g 5 (l.length+64) (spF l)
 c:c=l.length+64
 n:l.length<=140737488355264
 l8:B8 l
theorem Sl.but{S:Nat->Prop}{W d:World}{a:Option Addr}{c:Nat}{l:List Nat}(h:Sl W a c l)(hb:But S W d)(m:∀x,a=some x->¬S x.block):Sl d a c l:=by
 obtain⟨⟨g,e,n⟩,f,i,k⟩:=h;exact⟨⟨g,e,Ai n hb (m _ e)⟩,f,i,k⟩
theorem Sl.keep{W d:World}{a:Option Addr}{c:Nat}{l:List Nat}(h:Sl W a c l)(hb:Below W.heap.size W d):Sl d a c l:=h.but (S:=λ_=>False) (But.ofBelow hb) λ_ _ h=>h
theorem Sl.rw'{W:World}{a:Option Addr}{c:Nat}{l:List Nat}(h:Sl W a c l):Rw W a c l:=by
 obtain⟨⟨g,rfl,cs,f,k,e⟩,rfl,m,n⟩:=h;refine Rw.mk f (by omega) (by unfold maxLen;omega) k ?_
 apply dX;intro i;rw[cH];by_cases d:i<l.length
 . rw[if_pos d,vV l i d];have:=e i (by omega)
   rw[fk,this];unfold spF;rw[if_pos d]
 . rw[if_neg d];symm;rw[List.getElem?_eq_none_iff,kX];omega
theorem rj(w:World)(aa:Option Addr)(n f:Nat)(l:List Nat)(e:Bs w aa l)(k:n=l.length)(m:l.length<=140737488355264):
 Calls prog 62 #[.slice aa n f] w λx w'=>∃g,x=.returned (.slice (some ⟨g,0,none⟩) l.length (l.length+64))/\Sl w' (some ⟨g,0,none⟩) (l.length+64) l/\w.heap.size<=g/\g<w'.heap.size/\Below w.heap.size w w':=
 (zN w aa n f l e k (by omega)).mono λ_ _ ⟨h,d,i⟩=>⟨w.heap.size,h,⟨⟨_,rfl,d⟩,rfl,m,e.1⟩,ai _,d.lt,i⟩
theorem Fj(w:World)(a d:Option Addr)(c f:Nat)(l:List Nat)(h:Sl w a c l)(i:Bs w d l):Calls prog 70 #[.slice a l.length c,.slice d l.length f] w λe w'=>e=.returned (.bool true)/\Below w.heap.size w w':=by
 obtain⟨⟨g,rfl,k⟩,rfl,m,_⟩:=h;exact DK w g (l.length+64) d l.length l.length f l k i rfl rfl rfl (by omega)
structure Sf(w W:World)(T:List Br):Prop where
 s:∀t∈T,Sl W t.a t.c t.l
 f:Fam w W T
theorem Sf.keep{w W d:World}{T:List Br}(h:Sf w W T)(hb:Below W.heap.size W d):Sf w d T:=⟨λt e=>(h.s t e).keep hb,h.f.keep hb⟩
theorem Sf.but{S:Nat->Prop}{w W d:World}{T:List Br}(h:Sf w W T)(hb:But S W d)(i:Below w.heap.size w d)(e:∀t∈T,∀x,t.a=some x->¬S x.block):Sf w d T:=⟨λt f=>(h.s t f).but hb (e t f),h.f.but hb i e⟩
theorem Sf.one{w W:World}{g c:Nat}{l:List Nat}(h:Sl W (some ⟨g,0,none⟩) c l)(e:w.heap.size<=g)(hb:Below w.heap.size w W):Sf w W [⟨some ⟨g,0,none⟩,c,l⟩]:=
 ⟨λt d=>by rw[aQ.1 d];exact h,⟨λt d=>by rw[aQ.1 d];exact⟨⟨h.rw',λx f=>.inr (by cases f;exact e),hb⟩,h.l8⟩,dy _ _⟩⟩
theorem Sf.add{w W d:World}{T U:List Br}(h:Sf w W T)(k:Sf W d U)(hb:Below W.heap.size W d)(e:Below w.heap.size w W):Sf w d (T++U):=
 ⟨λt ht=>by
   rcases bq.1 ht with ht|ht
   . exact(h.s t ht).keep hb
   . exact k.s t ht,h.f.add k.f hb e⟩
theorem Sf.pre{w d W:World}{T:List Br}(hb:Below w.heap.size w d)(h:Sf d W T):Sf w W T:=⟨h.s,Fam.pre hb h.f⟩
def mark(i:Nat):Iv:=⟨none,0,[],none,0,[],-5-(i:Int),-9⟩
structure Sw(v0 W:World)(p:Pv)(g3 gD g:Nat)(j:Nat)(D:List Iv):Prop where
 b:Below v0.heap.size v0 W
 rs:Bx W 31 v0.heap.size Pv.zero.cs
 o3:Bx W 31 g3 (Pv.mk p.kind p.level none 0 [] (some ⟨gD,0,none⟩) (p.data.length+64) p.data p.next).cs
 n3:v0.heap.size<g3
 jw:Jw W (some ⟨g,0,none⟩) (p.items.length+2) (D++List.replicate (p.items.length+2-j) Iv.zero)
 gn:v0.heap.size<g
 len:D.length=j
 it:∀i,i<j->i<p.items.length->(D.getD i Iv.zero).it=(p.items.getD i Iv.zero).it
 mr:∀i,i<j->p.items.length<=i->D.getD i Iv.zero=mark i
 f:Sf v0 W (⟨some ⟨gD,0,none⟩,p.data.length+64,p.data⟩::i7 (D.take p.items.length))
theorem tY{D:List Iv}{j i:Nat}{v:Iv}(d:D.length=j)(hi:i<j+1):(D++[v]).getD i Iv.zero=if i<j then D.getD i Iv.zero else v:=by
 subst d;by_cases h:i<D.length
 . rw[if_pos h];simp[br h]
 . obtain rfl:i=D.length:=by omega
   rw[if_neg (by omega)];simp
theorem Ei(W:World)(g o:Nat)(x:Iv):W.setCells g o x.cs.toList=(((W.setCell ⟨g,o,none⟩ (.slice x.aK x.key.length x.cK)).setCell ⟨g,o+1,none⟩ (.slice x.aV x.val.length x.cV)).setCell ⟨g,o+2,none⟩ (.int .i64 x.child)).setCell ⟨g,o+3,none⟩ (.int .i64 x.size):=rfl
theorem Sw.keep(h:Sw v0 W p g3 gD g j D)(hb:Below W.heap.size W W2):Sw v0 W2 p g3 gD g j D:=⟨bt h.b hb,h.rs.keep hb,h.o3.keep hb,h.n3,h.jw.keep hb,h.gn,h.len,h.it,h.mr,h.f.keep hb⟩
theorem Sw.lay(h:Sw v0 W p g3 gD g j D)(H:j<p.items.length+2)(x:Iv)(C:j<p.items.length->x.it=(p.items.getD j Iv.zero).it)(E:p.items.length<=j->x=mark j)(hb:Below W.heap.size W W2)
 (n:Sf v0 W2 (⟨some ⟨gD,0,none⟩,p.data.length+64,p.data⟩::i7 ((D++[x]).take p.items.length))):Sw v0 (W2.setCells g (j*4) x.cs.toList) p g3 gD g (j+1) (D++[x]):=by
 have k:=h.keep hb;have f:=jr g x.cs.toList W2 (j*4);have q:Below v0.heap.size v0 (W2.setCells g (j*4) x.cs.toList):=((But.ofBelow (S:=λ_=>False) k.b).trans f λy r e=>by have:=h.gn;omega).below λ_ _ h=>h
 have A:=k.jw.setv j x;rw[Dm h.len (by omega)] at A
 refine⟨q,k.rs.but f (by have:=h.gn;omega),k.o3.but f λe=>k.jw.nty k.o3 (by decide) rfl e.symm,h.n3,A,h.gn,by rw[ae,h.len];rfl,λi m d=>?_,λi m d=>?_,n.but f q λt B y r e=>k.jw.ne (n.f.own t B).1.r rfl r e.symm⟩
 . rw[tY h.len m];split
   . exact h.it i (by omega) d
   . obtain rfl:i=j:=by omega
     exact C d
 . rw[tY h.len m];split
   . exact h.mr i (by omega) d
   . obtain rfl:i=j:=by omega
     exact E d
theorem Sw.spare{f i:Nat}{cK cV:Nat}{d:World}{key val:List Nat}{child size:Int}(h:Sw v0 W p g3 gD g j D)(H:j<p.items.length)(t:(p.items.getD j Iv.zero).it=⟨key,val,child,size⟩)(B:Sl d (some ⟨f,0,none⟩) cK key)(y:W.heap.size<=f)(e:Below W.heap.size W d)(C:Sl W2 (some ⟨i,0,none⟩) cV val)(A:d.heap.size<=i)(k:Below d.heap.size d W2):
 Sw v0 (W2.setCells g (j*4) (Iv.cs ⟨some ⟨f,0,none⟩,cK,key,some ⟨i,0,none⟩,cV,val,child,size⟩).toList) p g3 gD g (j+1) (D++[⟨some ⟨f,0,none⟩,cK,key,some ⟨i,0,none⟩,cV,val,child,size⟩]):=by
 refine h.lay (by omega) _ (λ_=>t.symm) (λE=>by omega) (bt e k) ?_
 have q:D.take p.items.length=D:=db (by have:=h.len;omega)
 have r:∀x:Iv,(D++[x]).take p.items.length=D++[x]:=λx=>db (by rw[ae,h.len];simp;omega)
 have m:=h.f;rw[q] at m;rw[r,jA,mf];have n:=(m.add (Sf.one B y e) e h.b).add (Sf.one C A k) k (bt h.b e);rw[aU,dw] at n;exact n
theorem Sw.tail(h:Sw v0 W p g3 gD g j D)(f:p.items.length<=j)(d:j<p.items.length+2):Sw v0 (W.setCells g (j*4) (Iv.cs (mark j)).toList) p g3 gD g (j+1) (D++[mark j]):=by
 refine h.lay d _ (λe=>by omega) (λ_=>rfl) (Below.refl _ _) ?_
 rw[d9 (by have:=h.len;omega)]
 exact h.f
structure Sp(w W:World)(p q:Pv):Prop where
 e:q.pg=p.pg
 s:Sf w W (rp q)
 it:∃(g:Nat)(D:List Iv),q.aI=some ⟨g,0,none⟩/\q.cI=p.items.length+2/\Jw W (some ⟨g,0,none⟩) (p.items.length+2) (q.items++D)/\D=[mark p.items.length,mark (p.items.length+1)]/\w.heap.size<=g
 b:Below w.heap.size w W
theorem Sp.len{w W:World}{p q:Pv}(h:Sp w W p q):q.items.length=p.items.length:=by have:=a7 (λx=>x.items.length) h.e;simpa[Pv.pg] using this
theorem Sp.keep{w W d:World}{p q:Pv}(h:Sp w W p q)(hb:Below W.heap.size W d):Sp w d p q:=by
 obtain⟨g,D,e,f,i,k,m⟩:=h.it;exact⟨h.e,h.s.keep hb,⟨g,D,e,f,i.keep hb,k,m⟩,bt h.b hb⟩
theorem pg_n{p q:Pv}(h:q.pg=p.pg){W:World}(d:Pi W p):N64 q.kind/\N64 q.level/\N64 q.next/\∀r∈q.items,N64 r.child/\N64 r.size:=by
 have i:q.kind=p.kind:=a7 Pg.kind h;have k:q.level=p.level:=a7 Pg.level h;have m:q.next=p.next:=a7 Pg.next h;have n:q.items.map Iv.it=p.items.map Iv.it:=a7 Pg.items h;refine⟨i▸d.nk,k▸d.nl,m▸d.nn,λr y=>?_⟩
 have t:r.it∈p.items.map Iv.it:=n▸bH.2 ⟨r,y,rfl⟩;obtain⟨x,f,e⟩:=bH.1 t;exact it_n e.symm ⟨(d.it.1 x f).nc,(d.it.1 x f).ns⟩
theorem Sp.jw{w W:World}{p q:Pv}(h:Sp w W p q):Jw W q.aI q.cI q.items:=by
 obtain⟨g,D,d,e,f,i,m⟩:=h.it;rw[d,e];rcases f.front with k|k
 . exact k
 . cases k
theorem Sp.pi{w W e:World}{p q:Pv}(h:Sp w W p q)(k:Pi e p)(C:p.items.length<=1048576):Pi W q:=by
 obtain⟨m,n,r,t⟩:=pg_n h.e k;have E:=h.len;have i:Fam w W (i7 q.items):=h.s.f.sub (List.sublist_cons_self _ _);have d:=h.s.f.own ⟨q.aD,q.cD,q.data⟩ (by simp[rp])
 obtain⟨g,D,x,f,y,A,B⟩:=h.it;exact⟨h.jw.qs (i.ii t) (by omega),by rw[f];omega,d.1.bs d.2,d.1.r.cap,m,n,r⟩
theorem Sw.done{v0 w W W2:World}{p:Pv}{g3 gD g:Nat}{D:List Iv}(h:Sw v0 W p g3 gD g (p.items.length+2) D)(hb:Below w.heap.size w v0)(d:But (λk=>k=v0.heap.size\/k=g3) W W2)(I:v0.heap.size<=g3):Sp w W2 p ⟨p.kind,p.level,some ⟨g,0,none⟩,p.items.length+2,D.take p.items.length,some ⟨gD,0,none⟩,p.data.length+64,p.data,p.next⟩:=by
 have H:Below w.heap.size w W2:=((But.ofBelow (S:=λ_=>False) (bt hb h.b)).trans d λy B e=>by have:=hb.size;omega).below λ_ _ h=>h
 have J:=h.len
 have ne:∀t∈(⟨some ⟨gD,0,none⟩,p.data.length+64,p.data⟩::i7 (D.take p.items.length):List Br),∀x,t.a=some x->¬(x.block=v0.heap.size\/x.block=g3):=λt E x n e=>by
  have o:=(h.f.f.own t E).1;rcases e with e|e
  . exact o.r.nty h.rs (by decide) n e
  . exact o.r.nty h.o3 (by decide) n e
 have q:=h.jw;rw[df,List.replicate_zero,cU] at q
 have C:D=D.take p.items.length++[mark p.items.length,mark (p.items.length+1)]:=by
  have r:=h.mr p.items.length (by omega) (ai _)
  have A:=h.mr (p.items.length+1) (by omega) (by omega)
  conv=>lhs;rw[<-cZ p.items.length D]
  congr 1
  rw[cF (by omega),cF (by omega),du (by omega)]
  rw[aq,aR (by omega)] at r A
  simp only[Option.getD_some] at r A;rw[r,A]
 refine⟨?_,(⟨(h.f.but d (((But.ofBelow (S:=λ_=>False) h.b).trans d λy B e=>by omega).below λ_ _ h=>h) ne).s,Fam.pre hb ((h.f.but d (((But.ofBelow (S:=λ_=>False) h.b).trans d λy B e=>by omega).below λ_ _ h=>h) ne).f)⟩:Sf w W2 _),⟨g,_,rfl,rfl,?_,rfl,by have:=h.gn;have:=hb.size;omega⟩,H⟩
 . unfold Pv.pg;dsimp only;congr 1
   apply dX;intro i;rw[c9,c9,cH];by_cases m:i<p.items.length
   . have:=h.it i (by omega) m
     rw[aq,aq,aR (show i<D.length by omega),aR m] at this
     rw[if_pos m,aR (show i<D.length by omega),aR m]
     simpa using this
   . rw[if_neg m,cM (by omega)]
 . dsimp only;rw[<-C]
   exact q.but d λx n e=>by
    rcases e with e|e
    . exact q.nty h.rs (by decide) n e
    . exact q.nty h.o3 (by decide) n e
end
section
open Go.RowKit
theorem pF:(prog.info? 29).map (λi=>(i.zero,i.size,i.bytes))=some (some (.slice none 0 0),1,24):=by kernel_rfl
theorem Df(w:World)(f:TypeId)(a:Option Addr)(n cap:Nat)(l:List Nat)(E:n=l.length)(r:Rw w a cap l)(e:Addr)(c x:Nat)(C:w.cell? e=some (.int .u8 ((x:Nat):Int)))(N:l.length+1<=140737488355328):
 ∃g q w',(Builtin.append_ #[29,29] f #[.slice a n cap,.slice (some e) 1 c]).run prog w=.ok (.slice (some ⟨g,0,none⟩) (n+1) q) w'/\
  Rw w' (some ⟨g,0,none⟩) q (l++[x])/\New w a (some ⟨g,0,none⟩)/\w.grownBy w' (a.map Addr.block)/\(a=some ⟨g,0,none⟩\/w.heap.size<=g/\Below w.heap.size w w'):=by
 obtain⟨g,q,w',d,K,L,M,R⟩:=xr w f a n cap l E r e c x C N;refine⟨g,q,w',d,K,L,M,?_⟩;subst E;obtain⟨A,t,I,i,J⟩:=dr su
 have B:∀j u,([.int .u8 ((x:Nat):Int)]:List Value)[j]?=some u->w.cell? (e.add j)=some u:=by
  intro j u m;match j,m with
  |0,m=>simp at m;subst m;simpa[Addr.add] using C
 rcases r.cases with⟨rfl,rfl,rfl⟩|⟨g',cur,rfl,hg,k1,k2,k3,k4⟩
 . have h:=run_append_nil (P:=prog) w 29 f 5 A (.int .u8 0) underlying29 t I e 1 c [.int .u8 ((x:Nat):Int)] (by rw[i];rfl) B (by decide) (by decide) (by rw[J];decide)
   rw[show([]:List Nat).length=0 from rfl,h] at d
   simp only[gh,bM,aE,Addr.mk.injEq] at d;obtain⟨⟨⟨rfl,_⟩,_⟩,rfl⟩:=d;exact .inr ⟨ai _,⟨rfl,rfl,rfl,by simp,λk y=>ie w.drew _ y⟩⟩
 . by_cases O:l.length+1<=cap
   . have h:=run_append_room (P:=prog) w 29 f 5 A underlying29 t g' l.length cap cur hg e 1 c [.int .u8 ((x:Nat):Int)] (by rw[i];rfl) B (by intro u H;simp at H;subst H;rfl) O (by rw[i];show l.length*1+1<=cur.size;omega)
     rw[h] at d;simp only[gh,bM,aE,Addr.mk.injEq] at d;obtain⟨⟨⟨rfl,_⟩,_⟩,rfl⟩:=d;exact .inl rfl
   . have holds:∀j u,(vb l)[j]?=some u->w.cell? ((⟨g',0,none⟩:Addr).add j)=some u:=r.cells (g:=g') rfl;have h:=run_append_grow (P:=prog) w 29 f 5 A (.int .u8 0) underlying29 t I ⟨g',0,none⟩ l.length cap (vb l) (by rw[kX,i,ee]) holds e 1 c [.int .u8 ((x:Nat):Int)] (by rw[i];rfl) B (by omega) (by omega) (growslice_fits (by omega) (by rw[J];omega))
     rw[h] at d;simp only[gh,bM,aE,Addr.mk.injEq] at d;obtain⟨⟨⟨rfl,_⟩,_⟩,rfl⟩:=d;exact .inr ⟨ai _,⟨rfl,rfl,rfl,by simp,λk y=>ie w.drew _ y⟩⟩
theorem wV{w:World}{k:Array Oper}{m:List Oper}{o:Oper}{a:Act}{Q:Exit->Act->World->Prop}(M:o.guard=none)(s x:Operand)
 (H:o.op=.call {callee:=.builtin .append,args:=#[s,x],argTypes:=#[29,29]}) (d:Option Addr) (n cap:Nat) (l:List Nat) (J:a.eval s=.slice d n cap) (E:n=l.length) (B:Rw w d cap l)
 (f:Addr) (c i:Nat) (L:a.eval x=.slice (some f) 1 c) (C:w.cell? f=some (.int .u8 ((i:Nat):Int))) (N:l.length+1<=140737488355328)
 (h:∀g e w',Rw w' (some ⟨g,0,none⟩) e (l++[i])->New w d (some ⟨g,0,none⟩)->w.grownBy w' (d.map Addr.block)->(d=some ⟨g,0,none⟩\/w.heap.size<=g/\Below w.heap.size w w')->wpList prog k Q m (a.put o.dst (.slice (some ⟨g,0,none⟩) (n+1) e)) w'):wpList prog k Q (o::m) a w:=by
 refine e7 M λK A=>?_
 obtain⟨g,e,w',I,q,r,t,y⟩:=Df w o.type d n cap l E B f c i C N;unfold Oper.wp execOp;simp only[H,resolve,invoke,builtin,dE,dF,bT,cR,bL,dM,J,L,I];exact A _ _ (h g e w' q r t y)
def Ar(w:World)(at':Option Addr)(ct:Nat)(vs:List Value):Prop:=w.ownsRow 0 29 1 (.slice at' vs.length ct) vs.length vs
theorem Ar.nil(w:World):Ar w none 0 []:=fB w 0 29 1
theorem Ar.cases{w:World}{a:Option Addr}{cap:Nat}{vs:List Value}(h:Ar w a cap vs):(a=none/\cap=0/\vs=[])\/
 ∃g cur,a=some ⟨g,0,none⟩/\w.heap[g]?=some (.cells cur 29 (0,0))/\vs.length<=cap/\cap<=maxLen/\cur.size=cap/\cur.toList.take vs.length=vs:=by
 obtain⟨_,e⟩:=h;rcases e with⟨hv,h0⟩|⟨g,cap',cur,hv,_,hg,hn,hm,hs,ht⟩
 . simp only[bM] at hv;exact .inl ⟨hv.1,hv.2.2,co.1 h0⟩
 . simp only[bM] at hv;obtain⟨d,_,rfl⟩:=hv;exact .inr ⟨g,cur,d,hg,hn,hm,by omega,by rw[ee] at ht;exact ht⟩
theorem Ar.mk{w:World}{g cap:Nat}{cur:Array Value}{vs:List Value}(d:w.heap[g]?=some (.cells cur 29 (0,0)))(f:vs.length<=cap)(e:cap<=maxLen)(i:cur.size=cap)(h:cur.toList.take vs.length=vs):Ar w (some ⟨g,0,none⟩) cap vs:=
 ⟨by rw[ee],.inr ⟨g,cap,cur,rfl,az _,d,f,e,by omega,by rw[ee];exact h⟩⟩
theorem Ar.but{S:Nat->Prop}{w w':World}{a:Option Addr}{cap:Nat}{vs:List Value}(h:Ar w a cap vs)(hb:But S w w')(d:∀x,a=some x->¬S x.block):Ar w' a cap vs:=by
 rcases h.cases with⟨rfl,rfl,rfl⟩|⟨g,cur,rfl,hg,h1,h2,h3,h4⟩
 . exact Ar.nil w'
 . exact Ar.mk ((hb.block g (af.1 hg).1 (d _ rfl)).trans hg) h1 h2 h3 h4
theorem Ar.keep{w w':World}{a:Option Addr}{cap:Nat}{vs:List Value}(h:Ar w a cap vs)(hb:Below w.heap.size w w'):Ar w' a cap vs:=
 h.but (S:=λ_=>False) (But.ofBelow hb) (λ_ _ d=>d)
theorem Ar.cell{w:World}{a:Option Addr}{cap:Nat}{vs:List Value}(h:Ar w a cap vs){i:Nat}{v:Value}(hi:vs[i]?=some v):∃g,a=some ⟨g,0,none⟩/\w.cell? ⟨g,i,none⟩=some v:=by
 rcases h.cases with⟨rfl,rfl,rfl⟩|⟨g,cur,rfl,hg,h1,h2,h3,h4⟩
 . cases hi
 . refine⟨g,rfl,?_⟩;have d:=(bz.1 hi).1;have e:(cur.toList.take vs.length)[i]?=some v:=by rw[h4];exact hi
   rw[cH,if_pos d] at e;rw[ay _ _ _ _ _ _ hg,<-e];simp
theorem Ar.ne{w:World}{a i:Option Addr}{cap m:Nat}{vs:List Value}{l:List Nat}(h:Ar w a cap vs)(k:Rw w i m l){x y:Addr}(d:a=some x)(f:i=some y):x.block≠y.block:=by
 rcases h.cases with⟨rfl,_⟩|⟨g,cur,rfl,hg,_⟩
 . cases d
 rcases k.cases with⟨rfl,_⟩|⟨g',cur',rfl,hg',_⟩
 . cases f
 simp only[aE] at d f;subst d f;show g≠g';intro e;subst e;rw[hg] at hg';simp at hg'
theorem y7(w:World)(q:TypeId)(a:Option Addr)(n cap:Nat)(vs:List Value)(B:n=vs.length)(t:Ar w a cap vs)(h:Addr)(c:Nat)(v:Value)(x:w.cell? h=some v)(r:v.oneCell'=true)(M:(vs.length+1)*24<=140737488355328):
 ∃g f w',(Builtin.append_ #[76,76] q #[.slice a n cap,.slice (some h) 1 c]).run prog w=.ok (.slice (some ⟨g,0,none⟩) (n+1) f) w'/\
  Ar w' (some ⟨g,0,none⟩) f (vs++[v])/\New w a (some ⟨g,0,none⟩)/\w.grownBy w' (a.map Addr.block):=by
 subst B;obtain⟨H,A,J,K,L⟩:=dr pF
 obtain⟨g,f,w',C,I,m,k3,N⟩:=dW (P:=prog) w 76 q 0 29 H (.slice none 0 0) 1 24 underlying76 A J K L rfl (by decide) (.slice a vs.length cap) vs.length vs t h 1 c [v] rfl
  (by intro j u d
      match j,d with
      |0,d=>simp at d;subst d;simpa[Addr.add] using x) (by intro u i;simp at i;subst i;exact r) (by decide) (by unfold maxLen;omega) M (az _) w.heap.size rfl
 rw[kA] at m k3;refine⟨g,f,w',C,?_,?_,m⟩
 . unfold Ar;rw[ae];exact I
 . intro y k;simp only[aE] at k;subst k;rcases k3 with k3|k3
   . obtain⟨z,E,e⟩:=map_some k3;exact .inl ⟨z,E,e⟩
   . exact .inr (by show _<=g;omega)
theorem um{w:World}{i:Array Oper}{k:List Oper}{o:Oper}{a:Act}{Q:Exit->Act->World->Prop}(L:o.guard=none)(s x:Operand)
 (A:o.op=.call {callee:=.builtin .append,args:=#[s,x],argTypes:=#[76,76]}) (d:Option Addr) (n cap:Nat) (vs:List Value) (C:a.eval s=.slice d n cap) (y:n=vs.length) (r:Ar w d cap vs)
 (f:Addr) (c:Nat) (v:Value) (E:a.eval x=.slice (some f) 1 c) (t:w.cell? f=some v) (m:v.oneCell'=true) (M:(vs.length+1)*24<=140737488355328)
 (h:∀g e w',Ar w' (some ⟨g,0,none⟩) e (vs++[v])->New w d (some ⟨g,0,none⟩)->w.grownBy w' (d.map Addr.block)->wpList prog i Q k (a.put o.dst (.slice (some ⟨g,0,none⟩) (n+1) e)) w'):wpList prog i Q (o::k) a w:=by
 refine e7 L λK q=>?_
 obtain⟨g,e,w',B,H,I,J⟩:=y7 w o.type d n cap vs y r f c v t m M;unfold Oper.wp execOp;simp only[A,resolve,invoke,builtin,dE,dF,bT,cR,bL,dM,C,E,B];exact q _ _ (h g e w' H I J)
theorem Rw.front{w:World}{a:Option Addr}{cap:Nat}{l m:List Nat}(h:Rw w a cap (l++m)):Rw w a cap l\/a=none:=by
 rcases h.cases with⟨rfl,rfl,hn⟩|⟨g,cur,rfl,hg,h1,h2,h3,h4⟩
 . exact .inr rfl
 . refine .inl (Rw.mk hg (by rw[ae] at h1;omega) h2 h3 ?_)
   have e:=a7 (List.take l.length) h4;rw[fG,ae,dq (by omega),pu,ft (kX l)] at e
   exact e
theorem Rw.addr2{w:World}{a:Option Addr}{cap:Nat}{l:List Nat}(h:Rw w a cap l)(d:0<l.length):∃g,a=some ⟨g,0,none⟩/\l.length<=cap/\cap<=maxLen:=by
 rcases h.cases with⟨rfl,rfl,rfl⟩|⟨g,cur,rfl,hg,h1,h2,h3,h4⟩
 . simp at d
 . exact⟨g,rfl,h1,h2⟩
theorem zS(w:World)(q:TypeId)(a:Option Addr)(n cap:Nat)(vs:List Value)(C:n=vs.length)(t:Ar w a cap vs)(h:Addr)(m c:Nat)(d:List Value)(B:m=d.length)(x:∀j u,d[j]?=some u->w.cell? (h.add j)=some u)(r:∀u∈d,u.oneCell'=true)(E:0<d.length)(O:(vs.length+d.length)*24<=140737488355328):
 ∃g f w',(Builtin.append_ #[76,76] q #[.slice a n cap,.slice (some h) m c]).run prog w=.ok (.slice (some ⟨g,0,none⟩) (n+m) f) w'/\
  Ar w' (some ⟨g,0,none⟩) f (vs++d)/\New w a (some ⟨g,0,none⟩)/\w.grownBy w' (a.map Addr.block):=by
 subst C B;obtain⟨J,A,L,M,N⟩:=dr pF
 obtain⟨g,f,w',H,K,k,k3,R⟩:=dW (P:=prog) w 76 q 0 29 J (.slice none 0 0) 1 24 underlying76 A L M N rfl (by decide) (.slice a vs.length cap) vs.length vs t h d.length c d (by rw[ee])
  x r E (by unfold maxLen;omega) O (az _) w.heap.size rfl
 rw[kA] at k k3;refine⟨g,f,w',H,?_,?_,k⟩
 . unfold Ar;rw[ae];exact K
 . intro y i;simp only[aE] at i;subst i;rcases k3 with k3|k3
   . obtain⟨z,I,e⟩:=map_some k3;exact .inl ⟨z,I,e⟩
   . exact .inr (by show _<=g;omega)
theorem Be{w:World}{o:Oper}{a:Act}{K:Act->World->Prop}{Q:Exit->Act->World->Prop}(s x:Operand)
 (A:o.op=.call {callee:=.builtin .append,args:=#[s,x],argTypes:=#[76,76]}) (e:Option Addr) (n cap:Nat) (vs:List Value) (E:a.eval s=.slice e n cap) (y:n=vs.length) (q:Ar w e cap vs)
 (i:Addr) (m c:Nat) (d:List Value) (H:a.eval x=.slice (some i) m c) (t:m=d.length) (r:∀j u,d[j]?=some u->w.cell? (i.add j)=some u) (k:∀u∈d,u.oneCell'=true) (B:0<d.length) (M:(vs.length+d.length)*24<=140737488355328)
 (h:∀g f w',Ar w' (some ⟨g,0,none⟩) f (vs++d)->New w e (some ⟨g,0,none⟩)->w.grownBy w' (e.map Addr.block)->K (a.put o.dst (.slice (some ⟨g,0,none⟩) (n+m) f)) w'):o.wp prog a w K Q:=by
 obtain⟨g,f,w',C,I,J,L⟩:=zS w o.type e n cap vs y q i m c d t r k B M;unfold Oper.wp execOp;simp only[A,resolve,invoke,builtin,dE,dF,bT,cR,bL,dM,E,H,C];exact h g f w' I J L
theorem Cf{W d:World}{g:Nat}{o:Obj}(h:W.heap[g]?=some o)(hb:Below W.heap.size W d):d.heap[g]?=some o:=(hb.block _ (af.1 h).1).trans h
theorem yO{w:World}{i:Array Oper}{o:Oper}{a:Act}{K:Act->World->Prop}{Q:Exit->Act->World->Prop}{E:Prop}(L:o.guard=none)(s x:Operand)
 (B:o.op=.call {callee:=.builtin .append,args:=#[s,x],argTypes:=#[76,76]}) (e:Option Addr) (n cap:Nat) (vs:List Value) (H:a.eval s=.slice e n cap) (A:n=vs.length) (r:Ar w e cap vs)
 (f:Addr) (m c:Nat) (d:List Value) (J:a.eval x=.slice (some f) m c) (y:m=d.length) (t:∀j u,d[j]?=some u->w.cell? (f.add j)=some u) (q:∀u∈d,u.oneCell'=true) (C:0<d.length) (M:(vs.length+d.length)*24<=140737488355328)
 (h:∀g k w',Ar w' (some ⟨g,0,none⟩) k (vs++d)->New w e (some ⟨g,0,none⟩)->w.grownBy w' (e.map Addr.block)->K (a.put o.dst (.slice (some ⟨g,0,none⟩) (n+m) k)) w'):
 if Region.wanted o (yielded i a.tmps)=true then Oper.wp prog o a w K Q else E:=by
 have I:Region.wanted o (yielded i a.tmps)=true:=by simp[Region.wanted,L]
 rw[if_pos I];exact Be s x B e n cap vs H A r f m c d J y t q C M h
def bv(t:Br):Value:=.slice t.a t.l.length t.c
structure Ax(w W:World)(a:Option Addr)(c:Nat)(T:List Br):Prop where
 r:Ar W a c (T.map bv)
 n:New w none a
 b:Below w.heap.size w W
theorem Ax.step{w W d W2:World}{a:Option Addr}{c i g:Nat}{T U:List Br}(h:Ax w W a c T)(hb:Below W.heap.size W d)(n:Ar W2 (some ⟨g,0,none⟩) i (T.map bv++U.map bv))(m:New d a (some ⟨g,0,none⟩))(q:d.grownBy W2 (a.map Addr.block)):Ax w W2 (some ⟨g,0,none⟩) i (T++U):=by
 have f:=bt h.b hb;refine⟨by rw[bP];exact n,h.n.trans m f.size,?_⟩
 have r:But (λ_=>False) w W2:=(But.ofBelow f).grown q λk t A=>by
  obtain⟨y,x,e⟩:=map_some t;have:=zR h.n x;omega
 exact r.below λ_ _ h=>h
theorem Ax.but{w W f W2:World}{a:Option Addr}{c:Nat}{T:List Br}(h:Ax w W a c T)(hb:Below W.heap.size W f)(q:f.grownBy W2 (a.map Addr.block)){k:Nat}{o:Obj}(m:W.heap[k]?=some o)(r:∀cs,o≠ .cells cs 29 (0,0)):W2.heap[k]?=some o:=by
 have n:=Cf m hb;refine(q.block k (af.1 n).1 λe=>?_).trans n
 obtain⟨y,d,i⟩:=map_some e.symm;rcases h.r.cases with⟨h0,_⟩|⟨g',cur,h0,hg',_⟩
 . rw[h0] at d;cases d
 . rw[h0,aE] at d;subst d;dsimp only at i;subst i;rw[m] at hg';exact r cur (Option.some.inj hg')
end
section
open Go.RowKit
theorem qR{M:List Iv}{j:Nat}(h:j<M.length):i7 (M.take (j+1))=i7 (M.take j)++(M.getD j Iv.zero).rows:=by
 rw[dS h,jA,mf,show M[j]=M.getD j Iv.zero by simp[h]]
theorem ss(M:List Iv):(i7 M).length=2*M.length:=by
 induction M with
 |nil=>rfl
 |cons r M ih=>rw[lL,ae,ih,bf];simp[Iv.rows];omega
theorem xR{w w':World}{g b k j:Nat}{d e f:Value}(hb:Below w.heap.size w w')(h:w.cell? ⟨g,2,none⟩=some d/\w.cell? ⟨b,k+j*4,none⟩=some e/\w.cell? ⟨b,k+j*4+1,none⟩=some f):w'.cell? ⟨g,2,none⟩=some d/\w'.cell? ⟨b,k+j*4,none⟩=some e/\w'.cell? ⟨b,k+j*4+1,none⟩=some f:=
 ⟨(hb.cell (block_lt_of_cell h.1)).trans h.1,(hb.cell (block_lt_of_cell h.2.1)).trans h.2.1,(hb.cell (block_lt_of_cell h.2.2)).trans h.2.2⟩
theorem Bf{w w':World}{g b k j:Nat}{d e f:Value}(hb:Below w.heap.size w w')(i:w'.cell? ⟨g,2,none⟩=some d)(h:w.cell? ⟨b,k+j*4,none⟩=some e/\w.cell? ⟨b,k+j*4+1,none⟩=some f):w'.cell? ⟨g,2,none⟩=some d/\w'.cell? ⟨b,k+j*4,none⟩=some e/\w'.cell? ⟨b,k+j*4+1,none⟩=some f:=
 ⟨i,(hb.cell (block_lt_of_cell h.1)).trans h.1,(hb.cell (block_lt_of_cell h.2)).trans h.2⟩
theorem Cr(W:World)(u v:Value):∀j x,[u,v][j]?=some x->(W.alloc (.cells #[u,v] 29)).drew.cell? ((⟨W.heap.size,0,none⟩:Addr).add j)=some x:=by
 intro j x e;have d:(W.alloc (.cells #[u,v] 29)).drew.heap[W.heap.size]?=some (.cells #[u,v] 29 (0,0)):=aH _ _;rw[Addr.add_mid,bN,ay _ _ _ _ _ _ d];simpa using e
theorem Fk(w:World)(o p:Obj):((w.alloc o).alloc p).heap[w.heap.size]?=some o:=by
 rw[ie _ _ (by rw[size_alloc];omega)];exact aH _ _
theorem zX(u v:Br):∀x∈[bv u,bv v],x.oneCell'=true:=by
 intro x d;simp only[cO,bm,gO] at d;rcases d with rfl|rfl<;>rfl
set_option maxRecDepth 100000 in
theorem sg(w:World)(t x:Int)(aI:Option Addr)(cI:Nat)(M:List Iv)(d:Option Addr)(f:Nat)(k:List Nat)(next:Int)(hm:Js w aI M)(hl:M.length<=1048576):
 Calls prog 120 #[.agg #[.int .i64 t,.int .i64 x,.slice aI M.length cI,.slice d k.length f,.int .i64 next]] w λe w'=>∃q n,e=.returned (.slice q (1+2*M.length) n)/\Ax w w' q n (⟨d,f,k⟩::i7 M):=by
 have HM:=iJ hm;clear hm;have C:=iJ λ(W:World)(h:W.heap[w.heap.size]?=some (.cells (Pv.cs ⟨t,x,aI,cI,M,d,f,k,next⟩) 31))=>Bx.page (p:=⟨t,x,aI,cI,M,d,f,k,next⟩) h
 dsimp only[Pv.cs] at C;go_enter func120,ntmps120;go_wp2;go_loopw [3,4] (λv i wx=>∃(j:Nat)(q:Option Addr)(n:Nat),j<=M.length/\i=.int .i64 j/\v=.slice q (1+2*j) n/\(Ax w wx q n (⟨d,f,k⟩::i7 (M.take j))/\wx.heap[w.heap.size]?=some (.cells #[.int .i64 t,.int .i64 x,.slice aI M.length cI,.slice d k.length f,.int .i64 next] 31 (0,0)))) (λ_ i _=>M.length-(intOf i).toNat)
 case atStart=>
  refine⟨0,some ⟨w.heap.size+1,0,none⟩,1,az _,rfl,rfl,⟨?_,Fl w _ (by omega),bt (al _ _) (al _ _)⟩,Fk w _ _⟩
  refine Ar.mk (cur:=#[.slice d k.length f]) ?_ (by simp[i7]) (by unfold maxLen;omega) rfl rfl
  have:=aH (w.alloc (.cells #[.int .i64 t,.int .i64 x,.slice aI M.length cI,.slice d k.length f,.int .i64 next] 31)) (.cells #[.slice d k.length f] 29)
  rw[size_alloc] at this;exact this
 case round=>
  obtain⟨j,q,n,hj,rfl,rfl,r⟩:=hrel;have m:=iJ r;clear r;obtain⟨k0,k1,H,k3,k4⟩:=C.o _ m.o.2;have ah:=w64 (j:=j) (by omega)
  by_cases B:j<M.length
  . have hi:(j:Int)<(M.length:Int):=by omega
    obtain⟨b,off,ag,S⟩:=HM.o.at B;obtain⟨I,J,_,_⟩:=jG S;obtain⟨y,A,m2,m3⟩:=jG (qN S m.o.1.b);have ae:=iJ (qR B)
    have ab:Hid (1+2*j=((⟨d,f,k⟩::i7 (M.take j):List Br).map bv).length):=by
     show _=_;rw[aZ,bf,ss,bi];omega
    generalize M.getD j Iv.zero=ac at *;subst ag;clear S;obtain⟨K,L,R,N,O,P,rc,rz⟩:=ac;dsimp only at y A m2 m3 I J
    have ad:Hid ((((⟨d,f,k⟩::i7 (M.take j):List Br).map bv).length+2)*24<=140737488355328):=by
     show _<=_;rw[<-ab.o];omega
    have MO:=iJ (And.intro I J);clear I J;generalize af:(⟨d,f,k⟩::i7 (M.take j):List Br)=TT at *;go_wp2;have Y:=xR ((Below.refl wr.heap.size wr).drew) (And.intro H (And.intro y A));have aa:=λo=>xR ((al wr o).drew) (And.intro H (And.intro y A))
    clear k0 k1 H k3 k4 y A m2 m3
    go_region_held3 (λw'=>w'.cell? ⟨w.heap.size,2,none⟩=some (.slice (some ⟨b,off,none⟩) M.length cI)/\w'.cell? ⟨b,off+j*4,none⟩=some (.slice K R.length L)/\w'.cell? ⟨b,off+j*4+1,none⟩=some (.slice N P.length O))
     (first|with_reducible exact Y|with_reducible exact aa _|with_reducible exact Z)
     ((refine yO rfl _ _ rfl q (1+2*j) n (TT.map bv) (by simp[Act.eval]) ab.o (m.o.1.r.keep ((al wr _).drew)) ⟨wr.heap.size,0,none⟩ 2 2 [bv ⟨K,L,R⟩,bv ⟨N,O,P⟩] (by simp[Act.eval]) rfl (Cr wr _ _) (zX _ _) (Nat.succ_pos 1) ad.o ?_;intro g ai w2 hR hN E;have X:=iJ (m.o.1.step (U:=[⟨K,L,R⟩,⟨N,O,P⟩]) ((al wr _).drew) hR hN E);have V:=iJ (m.o.1.but ((al wr _).drew) E m.o.2 (by intro cs h;cases h));have Z:=Bf X.o.b (C.o _ V.o).2.2.1 MO.o;clear hR hN E))
    clear Y aa Z;go_wp2;go_roundw
    case rel=>exact⟨j+1,_,ai,by omega,by first|(go_num;done)|exact a7 (Value.int IntKind.i64) (by omega),by rw[show 1+2*(j+1)=1+2*j+2 by omega],by rw[ae.o];subst af;exact X.o,V.o⟩
    case measure=>first|exact jb _ _ _ ah B|exact jb _ _ _ rfl B|(simp[intOf];omega)
  . obtain rfl:j=M.length:=by omega
    rw[cJ] at m;go_wp2;go_ret;exact⟨q,n,rfl,m.o.1⟩
theorem Ar.at0{w:World}{a:Option Addr}{c:Nat}{vs:List Value}(h:Ar w a c vs)(d:0<vs.length):∃g,a=some ⟨g,0,none⟩:=by
 rcases h.cases with⟨rfl,rfl,rfl⟩|⟨g,cur,rfl,_⟩
 . simp at d
 . exact⟨g,rfl⟩
theorem sc(w:World)(p:Pv)(i:Js w p.aI p.items)(h:p.items.length<=1048576):Calls prog 120 #[p.vl] w λe w'=>∃g d,e=.returned (.slice (some ⟨g,0,none⟩) (1+2*p.items.length) d)/\Ax w w' (some ⟨g,0,none⟩) d (rp p):=by
 refine(sg w p.kind p.level p.aI p.cI p.items p.aD p.cD p.data p.next i h).mono ?_;rintro e w' ⟨k,d,rfl,f⟩;obtain⟨g,rfl⟩:=f.r.at0 (by simp)
 exact⟨g,d,rfl,f⟩
end
section
open Go.RowKit
theorem Jw.item4{w:World}{g cap:Nat}{L:List Iv}(h:Jw w (some ⟨g,0,none⟩) cap L){k:Nat}(f:k<L.length):(w.cell? ⟨g,k*4,none⟩=some (.slice (L.getD k Iv.zero).aK (L.getD k Iv.zero).key.length (L.getD k Iv.zero).cK)/\w.cell? ⟨g,k*4+1,none⟩=some (.slice (L.getD k Iv.zero).aV (L.getD k Iv.zero).val.length (L.getD k Iv.zero).cV)/\w.cell? ⟨g,k*4+2,none⟩=some (.int .i64 (L.getD k Iv.zero).child)/\w.cell? ⟨g,k*4+3,none⟩=some (.int .i64 (L.getD k Iv.zero).size))/\
 w.frozen? ⟨g,k*4,none⟩=false/\w.frozen? ⟨g,k*4+1,none⟩=false/\w.frozen? ⟨g,k*4+2,none⟩=false/\w.frozen? ⟨g,k*4+3,none⟩=false:=by
 have d:∀j u,j<4->(L.getD k Iv.zero).cs.toList[j]?=some u->w.cell? ⟨g,k*4+j,none⟩=some u:=λj u i m=>by
  have:=h.cells (k*4+j) u (by rw[mH L k j f i];exact m)
  rw[Addr.add_mid,bN] at this;exact this
 have e:=h.four f;exact⟨⟨d 0 _ (by decide) rfl,d 1 _ (by decide) rfl,d 2 _ (by decide) rfl,d 3 _ (by decide) rfl⟩,(e 0 (by decide)).2,(e 1 (by decide)).2,(e 2 (by decide)).2,(e 3 (by decide)).2⟩
theorem AH{D:List Iv}{n j:Nat}(d:D.length=j):(D++List.replicate n Iv.zero).getD j Iv.zero=Iv.zero:=by
 subst d;rw[aq,bg (ai _),df];cases n<;>simp
theorem pG(w:World):w.drew.heap=w.heap:=rfl
theorem DX{w W:World}{o p q:Obj}(hb:Below (((w.alloc o).alloc p).alloc q).drew.heap.size (((w.alloc o).alloc p).alloc q).drew W):W.heap[w.heap.size+1+1]?=some q:=by
 have e:(((w.alloc o).alloc p).alloc q).heap.size=w.heap.size+3:=by rw[size_alloc,size_alloc,size_alloc]
 refine(hb.block _ (by rw[pG,e];omega)).trans ?_
 rw[pG];have:=aH ((w.alloc o).alloc p) q;rw[size_alloc,size_alloc] at this;exact this
theorem AF(g o:Nat)(w:World)(a b c d:Value):But (λk=>k=g) w ((((w.setCell ⟨g,o,none⟩ a).setCell ⟨g,o+1,none⟩ b).setCell ⟨g,o+2,none⟩ c).setCell ⟨g,o+3,none⟩ d):=
 ((((But.refl (λk=>k=g) w).setCell (p:=⟨g,o,none⟩) (λ_=>rfl) a).setCell (p:=⟨g,o+1,none⟩) (λ_=>rfl) b).setCell (p:=⟨g,o+2,none⟩) (λ_=>rfl) c).setCell (p:=⟨g,o+3,none⟩) (λ_=>rfl) d
theorem xd{v W:World}(h:Below v.heap.size v W){g:Nat}(f:v.heap.size<=g)(o:Nat)(a b c d:Value):Below v.heap.size v ((((W.setCell ⟨g,o,none⟩ a).setCell ⟨g,o+1,none⟩ b).setCell ⟨g,o+2,none⟩ c).setCell ⟨g,o+3,none⟩ d):=
 ((But.ofBelow (S:=λ_=>False) h).trans (AF g o W a b c d) λy i e=>by omega).below λ_ _ h=>h
structure Sq(w wx:World)(pc:Array Value)(p:Pv)(g3 gD:Nat):Prop where
 b:Below (w.alloc (.cells pc 31)).heap.size (w.alloc (.cells pc 31)) wx
 rs:Bx wx 31 (w.heap.size+1) Pv.zero.cs
 o3:Bx wx 31 g3 (Pv.mk p.kind p.level none 0 [] (some ⟨gD,0,none⟩) (p.data.length+64) p.data p.next).cs
 n3:w.heap.size+1<g3
 f:Sf (w.alloc (.cells pc 31)) wx [⟨some ⟨gD,0,none⟩,p.data.length+64,p.data⟩]
theorem Sq.a{w d:World}{e:Array Value}{p:Pv}{gD:Nat}(f:Below ((w.alloc (.cells e 31)).alloc (.cells Pv.zero.cs 31)).heap.size ((w.alloc (.cells e 31)).alloc (.cells Pv.zero.cs 31)) d)(h:Sl d (some ⟨gD,0,none⟩) (p.data.length+64) p.data)(k:w.heap.size+2<=gD):
 Sq w (d.alloc (.cells (Pv.mk p.kind p.level none 0 [] (some ⟨gD,0,none⟩) (p.data.length+64) p.data p.next).cs 31)) e p d.heap.size gD:=by
 obtain⟨_,i,_,m⟩:=iM w _ _ f;have hb:=bt (al (w.alloc (.cells e 31)) (.cells Pv.zero.cs 31)) (bt f (al d (.cells (Pv.mk p.kind p.level none 0 [] (some ⟨gD,0,none⟩) (p.data.length+64) p.data p.next).cs 31)));exact⟨hb,(show Bx d 31 (w.heap.size+1) _ from i).keep (al _ _),Bx.new _ _ _,by omega,Sf.one (h.keep (al _ _)) (by rw[size_alloc];omega) hb⟩
theorem Sq.c{w d:World}{f:Array Value}{p:Pv}{gD:Nat}(k:Below ((w.alloc (.cells f 31)).alloc (.cells Pv.zero.cs 31)).heap.size ((w.alloc (.cells f 31)).alloc (.cells Pv.zero.cs 31)) d)(m:Bx d 31 (w.heap.size+1+1) Pv.zero.cs)(n:Sl d (some ⟨gD,0,none⟩) (p.data.length+64) p.data)(A:w.heap.size+3<=gD):
 Sq w (((((d.setCell ⟨w.heap.size+1+1,0,none⟩ (.int .i64 p.kind)).setCell ⟨w.heap.size+1+1,1,none⟩ (.int .i64 p.level)).setCell ⟨w.heap.size+1+1,2,none⟩ (.slice none 0 0)).setCell ⟨w.heap.size+1+1,3,none⟩ (.slice (some ⟨gD,0,none⟩) p.data.length (p.data.length+64))).setCell ⟨w.heap.size+1+1,4,none⟩ (.int .i64 p.next)) f p (w.heap.size+1+1) gD:=by
 obtain⟨_,t,_,B⟩:=iM w _ _ k;have i:=lI (w.heap.size+1+1) d (.int .i64 p.kind) (.int .i64 p.level) (.slice none 0 0) (.slice (some ⟨gD,0,none⟩) p.data.length (p.data.length+64)) (.int .i64 p.next);have hb:=((But.ofBelow (S:=λ_=>False) (bt (al (w.alloc (.cells f 31)) (.cells Pv.zero.cs 31)) k)).trans i λy r e=>by rw[size_alloc] at r;omega).below λ_ _ h=>h
 exact⟨hb,(show Bx d 31 (w.heap.size+1) _ from t).but i (by omega),qn m _ _ _ _ _,by omega,Sf.one (n.but i λx q e=>by cases q;simp only at e;omega) (by rw[size_alloc];omega) hb⟩
theorem Sq.sw{w W:World}{d:Array Value}{p:Pv}{g3 gD n:Nat}(h:Sq w W d p g3 gD)(i:n=p.items.length+2)(f:n<=1048579):Sw (w.alloc (.cells d 31)) (W.alloc (.cells (madeCells Iv.zero.cs (n*4)) 51)) p g3 gD W.heap.size 0 []:=by
 subst i;have e:(w.alloc (.cells d 31)).heap.size=w.heap.size+1:=size_alloc _ _;have k:=h.rs.lt;exact⟨bt h.b (al _ _),by rw[e];exact h.rs.keep (al _ _),h.o3.keep (al _ _),by rw[e];exact h.n3,by simpa using Jw.start f,by rw[e];omega,rfl,λ_ h=>absurd h (by omega),λ_ h=>absurd h (by omega),by simpa[i7] using h.f.keep (al _ _)⟩
theorem ud(w:World)(A B:Int)(aI:Option Addr)(cI:Nat)(items:List Iv)(t:Option Addr)(y:Nat)(m:List Nat)(next:Int)(Y:Pi w ⟨A,B,aI,cI,items,t,y,m,next⟩)(hd:m.length<=140737488355264)(hi:items.length<=1048576)(L:∀x∈items,x.key.length<=140737488355264/\x.val.length<=140737488355264):
 Calls prog 13 #[.agg #[.int .i64 A,.int .i64 B,.slice aI items.length cI,.slice t m.length y,.int .i64 next]] w λe w'=>∃q:Pv,e=.returned q.vl/\Sp w w' ⟨A,B,aI,cI,items,t,y,m,next⟩ q:=by
 have SA:=iJ λE (hb:Below w.heap.size w E)=>rj E t m.length y m (Y.bd.keep hb) rfl hd
 have HI:=iJ λE (hb:Below w.heap.size w E)(k:Nat)(K:k<items.length)=>(Y.it.keep hb).at K
 have SK:=iJ λ(k:Nat)(K:k<items.length) E (hb:Below w.heap.size w E)=>rj E (items.getD k Iv.zero).aK (items.getD k Iv.zero).key.length (items.getD k Iv.zero).cK (items.getD k Iv.zero).key ((Y.it.1 _ (ja K)).bk.keep hb) rfl (L _ (ja K)).1
 have SV:=iJ λ(k:Nat)(K:k<items.length) E (hb:Below w.heap.size w E)=>rj E (items.getD k Iv.zero).aV (items.getD k Iv.zero).val.length (items.getD k Iv.zero).cV (items.getD k Iv.zero).val ((Y.it.1 _ (ja K)).bv.keep hb) rfl (L _ (ja K)).2
 have M:=iJ λ(W:World)(h:W.heap[w.heap.size]?=some (.cells (Pv.cs ⟨A,B,aI,cI,items,t,y,m,next⟩) 31))=>Bx.page (p:=⟨A,B,aI,cI,items,t,y,m,next⟩) h
 have TZ:=iJ λ(W:World)(k:Nat)(h:W.heap[k]?=some (.cells (Pv.cs Pv.zero) 31))=>And.intro (Bx.page (p:=Pv.zero) h) (fr4 (show Bx W 31 k _ from h))
 have TM:=iJ λ(W:World)(k:Nat)(h:W.heap[k]?=some (.cells (Pv.cs Pv.zero) 31))(a b c d f:Value)=>qn (show Bx W 31 k _ from h) a b c d f
 have IS:=iJ λ(W:World)(h:W.heap[w.heap.size]?=some (.cells (Pv.cs ⟨A,B,aI,cI,items,t,y,m,next⟩) 31))(a b c d f:Value)=>Bx.page (p:=⟨A,B,aI,cI,items,t,y,m,next⟩) ((show Bx W 31 w.heap.size _ from h).but (lI (w.heap.size+1+1) W a b c d f) (by omega))
 clear Y L;dsimp only[Pv.cs,Pv.zero,bj] at *;go_enter func13,ntmps13;go_wp2;have P:Hid (Below ((w.alloc (.cells #[.int .i64 A,.int .i64 B,.slice aI items.length cI,.slice t m.length y,.int .i64 next] 31)).alloc (.cells #[.int .i64 0,.int .i64 0,.slice none 0 0,.slice none 0 0,.int .i64 0] 31)).heap.size ((w.alloc (.cells #[.int .i64 A,.int .i64 B,.slice aI items.length cI,.slice t m.length y,.int .i64 next] 31)).alloc (.cells #[.int .i64 0,.int .i64 0,.slice none 0 0,.slice none 0 0,.int .i64 0] 31)) ((w.alloc (.cells #[.int .i64 A,.int .i64 B,.slice aI items.length cI,.slice t m.length y,.int .i64 next] 31)).alloc (.cells #[.int .i64 0,.int .i64 0,.slice none 0 0,.slice none 0 0,.int .i64 0] 31)).drew):=(Below.refl _ _).drew
 have aa:Hid (Below ((w.alloc (.cells #[.int .i64 A,.int .i64 B,.slice aI items.length cI,.slice t m.length y,.int .i64 next] 31)).alloc (.cells #[.int .i64 0,.int .i64 0,.slice none 0 0,.slice none 0 0,.int .i64 0] 31)).heap.size ((w.alloc (.cells #[.int .i64 A,.int .i64 B,.slice aI items.length cI,.slice t m.length y,.int .i64 next] 31)).alloc (.cells #[.int .i64 0,.int .i64 0,.slice none 0 0,.slice none 0 0,.int .i64 0] 31)) (((w.alloc (.cells #[.int .i64 A,.int .i64 B,.slice aI items.length cI,.slice t m.length y,.int .i64 next] 31)).alloc (.cells #[.int .i64 0,.int .i64 0,.slice none 0 0,.slice none 0 0,.int .i64 0] 31)).alloc (.cells #[.int .i64 0,.int .i64 0,.slice none 0 0,.slice none 0 0,.int .i64 0] 31)).drew):=(al _ _).drew
 have O:=M.o _ (iM w _ _ P.o).1;have ah:=M.o _ (iM w _ _ aa.o).1;go_cut [3] from 6 to 15 (λp wx=>∃(g3 gD:Nat),p=.pointer (some ⟨g3,0,none⟩)/\Sq w wx #[.int .i64 A,.int .i64 B,.slice aI items.length cI,.slice t m.length y,.int .i64 next] ⟨A,B,aI,cI,items,t,y,m,next⟩ g3 gD)
 case first=>
  go_region_held3 (λw'=>w'.cell? ⟨w.heap.size,0,none⟩=some (.int .i64 A)/\w'.cell? ⟨w.heap.size,1,none⟩=some (.int .i64 B)/\w'.cell? ⟨w.heap.size,2,none⟩=some (.slice aI items.length cI)/\w'.cell? ⟨w.heap.size,3,none⟩=some (.slice t m.length y)/\w'.cell? ⟨w.heap.size,4,none⟩=some (.int .i64 next))
   (first|with_reducible exact O|with_reducible exact ah|with_reducible exact CC|with_reducible exact CA _|with_reducible exact CS _ _ _ _ _)
   (first|(go_at_call 62;with_reducible refine(SA.o _ (iM w _ _ P.o).2.2.1).mono ?_;rintro e E ⟨gD,rfl,L,hg,hl,hb⟩;have J:=iJ (bt P.o hb);have CC:=M.o _ (iM w _ _ J.o).1;have CA:=λo=>M.o _ (iM w _ _ (bt J.o (al _ o))).1)|(go_at_call 62;with_reducible refine(SA.o _ (iM w _ _ aa.o).2.2.1).mono ?_;rintro e E ⟨gD,rfl,L,hg,hl,hb⟩;have J:=iJ (bt aa.o hb);have CC:=M.o _ (iM w _ _ J.o).1;have X3:=iJ (DX (w:=w) hb);obtain⟨⟨y0,y1,y2,y3,y4⟩,S,U,V,X,f4⟩:=TZ.o _ _ X3.o;have CS:=λ(a b c d f:Value)=>IS.o _ (iM w _ _ J.o).1 a b c d f))
  . go_wp2_with fail
    go_meet
    case rel=>exact⟨E.heap.size,gD,rfl,Sq.a (p:=⟨A,B,aI,cI,items,t,y,m,next⟩) J.o L (by have h:=(iM w _ _ P.o).2.2.2;omega)⟩
  . clear y0 y1 y2 y3 y4 S U V X f4;go_wp2_with fail
    go_meet
    case rel=>exact⟨w.heap.size+1+1,gD,rfl,Sq.c (p:=⟨A,B,aI,cI,items,t,y,m,next⟩) J.o X3.o L (by have h:(((w.alloc (.cells #[.int .i64 A,.int .i64 B,.slice aI items.length cI,.slice t m.length y,.int .i64 next] 31)).alloc (.cells #[.int .i64 0,.int .i64 0,.slice none 0 0,.slice none 0 0,.int .i64 0] 31)).alloc (.cells #[.int .i64 0,.int .i64 0,.slice none 0 0,.slice none 0 0,.int .i64 0] 31)).drew.heap.size=w.heap.size+3:=(by rw[pG,size_alloc,size_alloc,size_alloc]);omega)⟩
 case rest=>
  obtain⟨g3,gD,rfl,hW⟩:=hcut;have HW:=iJ hW;clear hW O ah P aa SA IS TM;have N:=iJ (al w (.cells #[.int .i64 A,.int .i64 B,.slice aI items.length cI,.slice t m.length y,.int .i64 next] 31))
  have B0:=iJ (Bx.new w 31 #[.int .i64 A,.int .i64 B,.slice aI items.length cI,.slice t m.length y,.int .i64 next])
  have r:=iJ λ(W:World)(hb:Below (w.alloc (.cells #[.int .i64 A,.int .i64 B,.slice aI items.length cI,.slice t m.length y,.int .i64 next] 31)).heap.size (w.alloc (.cells #[.int .i64 A,.int .i64 B,.slice aI items.length cI,.slice t m.length y,.int .i64 next] 31)) W)=>(M.o W (B0.o.keep hb)).2.2.1
  have au:=r.o _ HW.o.b;have av:=zu (items.length+2) (by omega)
  have aw:IntKind.i64.wrap ((items.length:Int)+2)=((items.length+2:Nat):Int):=by rw[iT (by omega) (by omega)];omega
  obtain⟨n,hn⟩:∃n,n=items.length+2:=⟨_,rfl⟩;rw[<-hn] at av aw;have aR:items.length<=n:=by omega
  have aF:n<=1048579:=by omega
  have HN:=iJ hn;have ac:=iJ (HW.o.sw hn aF);have aj:=iJ λ(W:World)(D:List Iv)(j:Nat)(hj:¬j<n)(aN:j<=n)(h:Sw (w.alloc (.cells #[.int .i64 A,.int .i64 B,.slice aI items.length cI,.slice t m.length y,.int .i64 next] 31)) W ⟨A,B,aI,cI,items,t,y,m,next⟩ g3 gD wc.heap.size j D)=>(show Sw (w.alloc (.cells #[.int .i64 A,.int .i64 B,.slice aI items.length cI,.slice t m.length y,.int .i64 next] 31)) W ⟨A,B,aI,cI,items,t,y,m,next⟩ g3 gD wc.heap.size (items.length+2) D by rw[show items.length+2=j by omega];exact h)
  clear hn;obtain⟨v0,ag⟩:∃v0,w.alloc (.cells #[.int .i64 A,.int .i64 B,.slice aI items.length cI,.slice t m.length y,.int .i64 next] 31)=v0:=⟨_,rfl⟩
  have aJ:v0.heap.size=w.heap.size+1:=by rw[<-ag];exact size_alloc _ _
  rw[ag] at ac r N aj;clear ag;go_wp2;go_loopw [5] (λab wx=>∃(j:Nat)(D:List Iv),j<=n/\ab=.int .i64 j/\Sw v0 wx ⟨A,B,aI,cI,items,t,y,m,next⟩ g3 gD wc.heap.size j D) (λab _=>n-(intOf ab).toNat)
  case atStart=>exact⟨0,[],az _,rfl,ac.o⟩
  case round=>
   obtain⟨j,D,hj,rfl,hG⟩:=hrel;have C:=iJ hG;clear hG ac HW au av aw;have au:=r.o _ C.o.b;have GN:=iJ C.o.gn;by_cases af:j<n
   . have aL:(j:Int)<(n:Int):=by omega
     have ar:j+1<=n:=by omega
     have aA:Hid (j<(D++List.replicate (items.length+2-j) Iv.zero).length):=by show _<_;have:=HN.o;rw[ae,bh,C.o.len];omega
     have ak:=iJ (show ∀W,Below wr.heap.size wr W->(W.cell? ⟨wc.heap.size,j*4,none⟩=some (.slice none 0 0)/\W.cell? ⟨wc.heap.size,j*4+1,none⟩=some (.slice none 0 0)/\W.cell? ⟨wc.heap.size,j*4+2,none⟩=some (.int .i64 0)/\W.cell? ⟨wc.heap.size,j*4+3,none⟩=some (.int .i64 0))/\W.frozen? ⟨wc.heap.size,j*4,none⟩=false/\W.frozen? ⟨wc.heap.size,j*4+1,none⟩=false/\W.frozen? ⟨wc.heap.size,j*4+2,none⟩=false/\W.frozen? ⟨wc.heap.size,j*4+3,none⟩=false from λW hb=>by
      have h:=(C.o.jw.keep hb).item4 aA.o;rw[AH C.o.len] at h;exact h)
     by_cases Z:j<items.length
     . have aq:(j:Int)<(items.length:Int):=by omega
       obtain⟨H,off,aB,_⟩:=HI.o _ (bt N.o C.o.b) j Z;subst aB
       have i:=iJ (show ∀W,Below v0.heap.size v0 W->(W.cell? ⟨w.heap.size,2,none⟩=some (.slice (some ⟨H,off,none⟩) items.length cI)/\W.cell? ⟨H,off+j*4,none⟩=some (.slice (items.getD j Iv.zero).aK (items.getD j Iv.zero).key.length (items.getD j Iv.zero).cK)/\W.cell? ⟨H,off+j*4+1,none⟩=some (.slice (items.getD j Iv.zero).aV (items.getD j Iv.zero).val.length (items.getD j Iv.zero).cV)/\W.cell? ⟨H,off+j*4+2,none⟩=some (.int .i64 (items.getD j Iv.zero).child)/\W.cell? ⟨H,off+j*4+3,none⟩=some (.int .i64 (items.getD j Iv.zero).size)) from λW hb=>by
        obtain⟨b',o',e,h⟩:=HI.o W (bt N.o hb) j Z;cases e;exact⟨r.o W hb,jG h⟩)
       have am:=iJ (SK.o j Z);have ao:=iJ (SV.o j Z);have an:=iJ λ(R W2:World)(gK gV cK cV:Nat)(s1:Sl R (some ⟨gK,0,none⟩) cK (items.getD j Iv.zero).key)(n1:wr.heap.size<=gK)(b1:Below wr.heap.size wr R)(s2:Sl W2 (some ⟨gV,0,none⟩) cV (items.getD j Iv.zero).val)(n2:R.heap.size<=gV)(b2:Below R.heap.size R W2)=>C.o.spare (child:=(items.getD j Iv.zero).child) (size:=(items.getD j Iv.zero).size) Z rfl s1 n1 b1 s2 n2 b2
       clear SK SV HI;generalize items.getD j Iv.zero=ax at *;obtain⟨r1,r2,rk,r3,r4,rv,rc,rz⟩:=ax;dsimp only at i am ao an;have BD:=iJ (bt C.o.b (dr2 wr));have O:=i.o _ BD.o;go_wp2
       go_region_held3 (λw'=>w'.cell? ⟨w.heap.size,2,none⟩=some (.slice (some ⟨H,off,none⟩) items.length cI)/\w'.cell? ⟨H,off+j*4,none⟩=some (.slice r1 rk.length r2)/\w'.cell? ⟨H,off+j*4+1,none⟩=some (.slice r3 rv.length r4)/\w'.cell? ⟨H,off+j*4+2,none⟩=some (.int .i64 rc)/\w'.cell? ⟨H,off+j*4+3,none⟩=some (.int .i64 rz))
        (first|with_reducible exact O|with_reducible exact C1|with_reducible exact C2|with_reducible exact CS _ _ _ _)
        (first|(go_at_call 62;with_reducible refine(am.o _ (bt N.o BD.o)).mono ?_;rintro e E ⟨gK,rfl,aG,aC,aO,ap⟩;have B1:=iJ (bt BD.o ap);have C1:=i.o _ B1.o;have H1:=iJ (And.intro aG (And.intro aC (bt (dr2 wr) ap))))|(go_at_call 62;with_reducible refine(ao.o _ (bt N.o B1.o)).mono ?_;rintro e w2 ⟨gV,rfl,aH,aE,aP,ad⟩;have B2:=iJ (bt B1.o ad);have C2:=i.o _ B2.o;have H2:=iJ (And.intro aH (And.intro aE ad));obtain⟨⟨p0,p1,p2,p3⟩,S,U,V,X⟩:=ak.o _ (bt H1.o.2.2 ad);have CS:=λ(a b c d:Value)=>i.o _ (xd B2.o (gE GN.o) (j*4) a b c d)))
       have I:=iJ (an.o E w2 gK gV _ _ H1.o.1 H1.o.2.1 H1.o.2.2 H2.o.1 H2.o.2.1 H2.o.2.2);rw[Ei] at I;clear O C1 C2 CS p0 p1 p2 p3 S U V X;dsimp only at I;go_wp2;go_roundw
       case rel=>exact⟨j+1,_,ar,by first|(go_num;done)|exact a7 (Value.int IntKind.i64) (by omega),I.o⟩
       case measure=>first|exact jb _ _ _ rfl af|(simp[intOf];omega)
     . have aq:¬(j:Int)<(items.length:Int):=by omega
       have aM:decide ((j:Int)<(items.length:Int))=false:=by simpa using aq
       obtain⟨⟨p0,p1,p2,p3⟩,S,U,V,X⟩:=ak.o _ (Below.refl _ _);have I:=iJ (C.o.tail (by show items.length<=j;omega) (by show j<items.length+2;have:=HN.o;omega))
       rw[Ei] at I;unfold mark at I;dsimp only[bj] at I;go_wp2;clear p0 p1 p2 p3 S U V X;go_roundw
       case rel=>exact⟨j+1,_,ar,by first|(go_num;done)|exact a7 (Value.int IntKind.i64) (by omega),I.o⟩
       case measure=>first|exact jb _ _ _ rfl af|(simp[intOf];omega)
   . have ai:=iJ (aj.o _ D j af hj C.o);obtain rfl:j=n:=by omega
     obtain⟨x0,x1,x2,x3,x4⟩:=Bx.page C.o.o3;have gf:=bG _ _ 2 _ _ C.o.o3;dsimp only[bj] at x0 x1 x2 x3 x4;have M1:Hid (∀v,Bx (wr.setCell ⟨g3,2,none⟩ v) 31 (w.heap.size+1) #[.int .i64 0,.int .i64 0,.slice none 0 0,.slice none 0 0,.int .i64 0]):=λv=>(by have h:=C.o.rs;rw[aJ] at h;exact h.but ((But.refl (λk=>k=g3) wr).setCell (p:=⟨g3,2,none⟩) (λ_=>rfl) v) (by have:=C.o.n3;omega))
     have HB:=iJ λ(v:Value)(cs:Array Value)=>(show But (λk=>k=v0.heap.size\/k=g3) wr ((wr.setCell ⟨g3,2,none⟩ v).setRow (w.heap.size+1) cs) from((But.refl (λk=>k=v0.heap.size\/k=g3) wr).setCell (p:=⟨g3,2,none⟩) (λ_=>.inr rfl) v).trans (rX _ _ _) λx _ e=>.inl (by omega))
     have aQ:(items.length:Int)<=(j:Int):=by omega
     have ay:Hid ((D.take items.length).length=items.length):=by show _=_;rw[bi,C.o.len];omega
     go_wp2_with (refine cE rfl 31 _ _ rfl (w.heap.size+1) _ rfl rfl 31 _ (M1.o _) iP rfl (by simp[Value.oneCell']) ?_)
     refine bZ (v:=.agg _) (fH results13 _ _ (w.heap.size+1) 31 _ (0,0) _ rfl (dc _ _ _ _ _ _ (M1.o _)) underlying31 rfl iP) rfl ?_;refine⟨_,?_,ai.o.done N.o (HB.o _ _) (gE ai.o.n3)⟩;show Ending.returned (Value.agg _)=.returned (Value.agg (Pv.cs _));unfold Pv.cs;dsimp only;rw[ay.o,<-HN.o]
theorem o9(w:World)(p:Pv)(k:Pi w p)(m:p.data.length<=140737488355264)(hi:p.items.length<=1048576)(n:∀x∈p.items,x.key.length<=140737488355264/\x.val.length<=140737488355264):
 Calls prog 13 #[p.vl] w λe w'=>∃q:Pv,e=.returned q.vl/\Sp w w' p q:=by
 obtain⟨t,y,f,i,items,d,h,r,next⟩:=p
 exact ud w t y f i items d h r next k m hi n
end
section
open Go.RowKit
theorem FH{P M:List Iv}(h:P.map Iv.it=M.map Iv.it){j:Nat}(d:j<M.length):(P.getD j Iv.zero).it=(M.getD j Iv.zero).it:=by
 have f:P.length=M.length:=by have:=a7 List.length h;simpa using this
 have e:=a7 (λl=>l[j]?) h
 simp only[c9] at e;rw[aR (show j<P.length by omega),aR d] at e
 simp only[gZ,aE] at e;rw[aq,aq,aR (show j<P.length by omega),aR d]
 exact e
theorem AU{P D:List Iv}{j:Nat}(h:j<P.length):(P++D).getD j Iv.zero=P.getD j Iv.zero:=by simp[br h]
theorem ti{W:World}{a b:Option Addr}{c d:Nat}{l k:List Nat}(e:l=k)(h:Sl W a c l)(f:Bs W b k):Calls prog 70 #[.slice a l.length c,.slice b k.length d] W λe w'=>e=.returned (.bool true)/\Below W.heap.size W w':=by
 subst e;exact Fj W a b c d l h f
theorem Ee{P:List Iv}{n j:Nat}(h:P.length=n)(d:n<=j)(e:j<n+2):(P++[mark n,mark (n+1)]).getD j Iv.zero=mark j:=by
 subst h;rcases (show j=P.length\/j=P.length+1 by omega) with rfl|rfl
 all_goals
  simp
theorem wH(w w0:World)(S V:Int)(aI:Option Addr)(cI:Nat)(items:List Iv)(E:Option Addr)(t:Nat)(C:List Nat)(next:Int)(U Y:Int)(g:Nat)(f:List Iv)(A:Option Addr)(B:Nat)(q:List Nat)(X:Int)
 (hP:Pi w ⟨S,V,aI,cI,items,E,t,C,next⟩) (hQ:Pi w ⟨U,Y,some ⟨g,0,none⟩,items.length+2,f,A,B,q,X⟩) (Z:Sp w0 w ⟨S,V,aI,cI,items,E,t,C,next⟩ ⟨U,Y,some ⟨g,0,none⟩,items.length+2,f,A,B,q,X⟩) (hi:items.length<=1048576):
 Calls prog 18 #[.agg #[.int .i64 U,.int .i64 Y,.slice (some ⟨g,0,none⟩) f.length (items.length+2),.slice A q.length B,.int .i64 X],.agg #[.int .i64 S,.int .i64 V,.slice aI items.length cI,.slice E C.length t,.int .i64 next]] w λe w'=>e=.returned (.bool true)/\Below w.heap.size w w':=by
 have ad:f.length=items.length:=Z.len;have hE:=Z.e;have eD:q=C:=a7 Pg.data hE;have eI:f.map Iv.it=items.map Iv.it:=a7 Pg.items hE;have EQ:=iJ λy (hb:Below w.heap.size w y)=>mY y ⟨U,Y,some ⟨g,0,none⟩,items.length+2,f,A,B,q,X⟩ ⟨S,V,aI,cI,items,E,t,C,next⟩ (hQ.keep hb) (hP.keep hb) hE
 have KD:=iJ λy (hb:Below w.heap.size w y)=>ti (d:=t) eD ((Z.s.s ⟨A,B,q⟩ (by simp[rp])).keep hb) (hP.bd.keep hb)
 have GI:=iJ λ(j:Nat)(hj:j<items.length)=>FH eI hj
 have SL:=iJ λ(j:Nat)(hj:j<items.length)=>And.intro (Z.s.s ⟨(f.getD j Iv.zero).aK,(f.getD j Iv.zero).cK,(f.getD j Iv.zero).key⟩ (dJ _ ((kT (ja (L:=f) (r:=j) (by omega))).subset (by simp[Iv.rows])))) (Z.s.s ⟨(f.getD j Iv.zero).aV,(f.getD j Iv.zero).cV,(f.getD j Iv.zero).val⟩ (dJ _ ((kT (ja (L:=f) (r:=j) (by omega))).subset (by simp[Iv.rows]))))
 have II:=iJ λ(j:Nat)(hj:j<items.length)=>hP.it.1 _ (ja hj)
 have HI:=iJ λy (hb:Below w.heap.size w y)(k:Nat)(hk:k<items.length)=>(hP.it.keep hb).at hk
 have JW:=iJ (show Jw w (some ⟨g,0,none⟩) (items.length+2) (f++[mark items.length,mark (items.length+1)]) from by
  obtain⟨g',D,e1,e2,e3,e4,e5⟩:=Z.it;cases e1;rw[e4] at e3;exact e3)
 have m:=iJ (bt (al w (.cells (Pv.cs ⟨U,Y,some ⟨g,0,none⟩,items.length+2,f,A,B,q,X⟩) 31)) (al _ (.cells (Pv.cs ⟨S,V,aI,cI,items,E,t,C,next⟩) 31)))
 have C1:=iJ λ(W:World)(hb:Below ((w.alloc (.cells (Pv.cs ⟨U,Y,some ⟨g,0,none⟩,items.length+2,f,A,B,q,X⟩) 31)).alloc (.cells (Pv.cs ⟨S,V,aI,cI,items,E,t,C,next⟩) 31)).heap.size ((w.alloc (.cells (Pv.cs ⟨U,Y,some ⟨g,0,none⟩,items.length+2,f,A,B,q,X⟩) 31)).alloc (.cells (Pv.cs ⟨S,V,aI,cI,items,E,t,C,next⟩) 31)) W)=>And.intro (Bx.page (p:=⟨U,Y,some ⟨g,0,none⟩,items.length+2,f,A,B,q,X⟩) (iM w _ _ hb).1) (Bx.page (p:=⟨S,V,aI,cI,items,E,t,C,next⟩) (iM w _ _ hb).2.1)
 clear hP hQ Z hE eD eI;unfold Pv.vl at EQ;dsimp only[Pv.cs] at *;have MK:=iJ (show ∀(W:World)(j:Nat),Below w.heap.size w W->items.length<=j->j<items.length+2->_ from λW j hb h1 h2=>(by have h:=(JW.o.keep hb).item4 (k:=j) (by rw[ae];simp;omega);rw[Ee ad h1 h2] at h;exact h.1))
 have RW:=iJ (show ∀(W:World)(j:Nat),Below w.heap.size w W->j<items.length->_ from λW j hb h1=>(by have h:=(JW.o.keep hb).item4 (k:=j) (by rw[ae];omega);rw[AU (by omega)] at h;exact h.1))
 have am:=iJ (show IntKind.i64.wrap ((items.length:Int)+2)=((items.length+2:Nat):Int) from by rw[iT (by omega) (by omega)];omega)
 generalize hn:items.length+2=n at *;have aB:n<=1048579:=by omega
 have HN:=iJ hn;have ao:=iJ ad;clear hn ad;obtain⟨⟨N,O,i,P,R⟩,I,J,p2,K,M⟩:=C1.o _ (Below.refl _ _);go_enter func18,ntmps18;go_wp2_with fail
 generalize World.alloc (World.alloc _ _) _=v at *;refine(EQ.o _ m.o).mono ?_;rintro e y ⟨rfl,af⟩;have V1:=iJ af;clear af N O i P R I J p2 K M EQ;obtain⟨⟨N,O,i,P,R⟩,I,J,p2,K,M⟩:=C1.o _ V1.o;go_wp2_with fail
 refine(KD.o _ (bt m.o V1.o)).mono ?_;rintro e w2 ⟨rfl,ag⟩;have V2:=iJ (bt V1.o ag);clear ag N O i P R I J p2 K M KD V1;obtain⟨⟨N,O,i,P,R⟩,I,J,p2,K,M⟩:=C1.o _ V2.o;have au:=am.o;have an:=iJ ao.o;go_wp2;clear au N O i P R I J p2 K M;go_loopw [6] (λab wx=>∃j:Nat,j<=n/\ab=.int .i64 j/\Below v.heap.size v wx) (λab _=>n-(intOf ab).toNat)
 case atStart=>exact⟨0,az _,rfl,V2.o⟩
 case round=>
  obtain⟨j,hj,rfl,hV⟩:=hrel;have x:=iJ hV;clear hV V2;obtain⟨⟨N,O,i,P,R⟩,I,J,p2,K,M⟩:=C1.o _ x.o;by_cases ai:j<n
  . have aw:(j:Int)<(n:Int):=by omega
    have ah:j+1<=n:=by omega
    by_cases H:j<items.length
    . have ax:decide ((items.length:Int)<=(j:Int))=false:=by simp;omega
      have ay:(j:Int)<(items.length:Int):=by omega
      have aA:(j:Int)<(f.length:Int):=by have:=an.o;omega
      obtain⟨bI,off,ap,_⟩:=HI.o _ (bt m.o x.o) j H;subst ap
      have aa:=iJ (show ∀W,Below v.heap.size v W->(W.cell? ⟨w.heap.size,2,none⟩=some (.slice (some ⟨g,0,none⟩) f.length n)/\W.cell? ⟨w.heap.size+1,2,none⟩=some (.slice (some ⟨bI,off,none⟩) items.length cI)/\W.cell? ⟨g,j*4,none⟩=some (.slice (f.getD j Iv.zero).aK (f.getD j Iv.zero).key.length (f.getD j Iv.zero).cK)/\W.cell? ⟨g,j*4+1,none⟩=some (.slice (f.getD j Iv.zero).aV (f.getD j Iv.zero).val.length (f.getD j Iv.zero).cV)/\W.cell? ⟨bI,off+j*4,none⟩=some (.slice (items.getD j Iv.zero).aK (items.getD j Iv.zero).key.length (items.getD j Iv.zero).cK)/\W.cell? ⟨bI,off+j*4+1,none⟩=some (.slice (items.getD j Iv.zero).aV (items.getD j Iv.zero).val.length (items.getD j Iv.zero).cV)) from λW hb=>by
       obtain⟨b',o',e,h⟩:=HI.o W (bt m.o hb) j H;cases e;obtain⟨⟨_,_,z2,_,_⟩,_,_,z3,_,_⟩:=C1.o W hb;obtain⟨z4,z5,_,_⟩:=RW.o W j (bt m.o hb) H;obtain⟨z6,z7,_,_⟩:=jG h;exact⟨z2,z3,z4,z5,z6,z7⟩)
      have ac:=GI.o j H;have K1:=iJ λ(W:World)(hb:Below v.heap.size v W)=>ti (d:=(items.getD j Iv.zero).cK) (a7 It.key ac) ((SL.o j H).1.keep (bt m.o hb)) ((II.o j H).bk.keep (bt m.o hb))
      have K2:=iJ λ(W:World)(hb:Below v.heap.size v W)=>ti (d:=(items.getD j Iv.zero).cV) (a7 It.val ac) ((SL.o j H).2.keep (bt m.o hb)) ((II.o j H).bv.keep (bt m.o hb))
      dsimp only[Iv.it] at K1 K2;clear ac SL II GI HI RW MK N O i P R I J K M;generalize items.getD j Iv.zero=ak at *;generalize f.getD j Iv.zero=aj at *;obtain⟨x1,x2,xk,x3,x4,xv,xc,xz⟩:=aj;obtain⟨y1,y2,yk,y3,y4,yv,yc,yz⟩:=ak;dsimp only at aa K1 K2;have BD:=iJ (bt x.o (dr2 wr));have C0:=aa.o _ BD.o;go_wp2
      go_region_held3 (λw'=>w'.cell? ⟨w.heap.size,2,none⟩=some (.slice (some ⟨g,0,none⟩) f.length n)/\w'.cell? ⟨w.heap.size+1,2,none⟩=some (.slice (some ⟨bI,off,none⟩) items.length cI)/\w'.cell? ⟨g,j*4,none⟩=some (.slice x1 xk.length x2)/\w'.cell? ⟨g,j*4+1,none⟩=some (.slice x3 xv.length x4)/\w'.cell? ⟨bI,off+j*4,none⟩=some (.slice y1 yk.length y2)/\w'.cell? ⟨bI,off+j*4+1,none⟩=some (.slice y3 yv.length y4))
       (first|with_reducible exact C0|with_reducible exact D1|with_reducible exact D2)
       (first|(go_at_call 70;with_reducible refine(K1.o _ BD.o).mono ?_;rintro e w5 ⟨rfl,aq⟩;have B5:=iJ (bt BD.o aq);have D1:=aa.o _ B5.o)|(go_at_call 70;with_reducible refine(K2.o _ B5.o).mono ?_;rintro e w6 ⟨rfl,ar⟩;have B6:=iJ (bt B5.o ar);have D2:=aa.o _ B6.o))
      clear C0 D1 D2;go_wp2;go_roundw
      case rel=>exact⟨j+1,ah,by first|(go_num;done)|exact a7 (Value.int IntKind.i64) (by omega),B6.o⟩
      case measure=>first|exact jb _ _ _ rfl ai|(simp[intOf];omega)
    . have av:(items.length:Int)<=(j:Int):=by omega
      obtain⟨m0,m1,m2,m3⟩:=MK.o wr j (bt m.o x.o) (by omega) (by have:=HN.o;omega)
      unfold mark at m0 m1 m2 m3;dsimp only[bj] at m0 m1 m2 m3;clear N O P R I J K M;go_wp2;go_roundw
      case rel=>exact⟨j+1,ah,by first|(go_num;done)|exact a7 (Value.int IntKind.i64) (by omega),x.o⟩
      case measure=>first|exact jb _ _ _ rfl ai|(simp[intOf];omega)
  . obtain rfl:j=n:=by omega
    go_wp2;go_ret;exact⟨rfl,bt m.o x.o⟩
theorem pA(w k:World)(p q:Pv)(i:Pi w p)(d:Sp k w p q)(hi:p.items.length<=1048576):Calls prog 18 #[q.vl,p.vl] w λe w'=>e=.returned (.bool true)/\Below w.heap.size w w':=by
 have x:=d.pi i hi;obtain⟨E,J,n,t,items,m,r,C,next⟩:=p
 obtain⟨I,M,N,O,L,y,A,H,K⟩:=q;have B:=d;obtain⟨g,D,f,h,_⟩:=B.it;dsimp only at f h;subst f h;exact wH w k E J n t items m r C next I M g L y A H K i x d hi
end
section
open Go.RowKit
def mkA(i k:Nat):Nat:=(i*31+k*7+1)%256
def fl(i n:Nat):List Nat:=(List.range n).map (mkA i)
theorem jV(i n:Nat):(fl i n).length=n:=by simp[fl]
theorem xD(i n:Nat):fl i (n+1)=fl i n++[mkA i n]:=by simp[fl,gm]
theorem A7(i n k:Nat)(h:k<n):(fl i n).getD k 0=mkA i k:=by simp[fl,h]
theorem Et(i n:Nat):∀x∈fl i n,x<256:=by
 intro x d;obtain⟨k,_,rfl⟩:=bH.1 d;exact fP _ (by decide)
theorem Bc(i k:Nat)(l:List Nat)(h:k<l.length):(fl i k++l.drop k).set k (mkA i k)=fl i (k+1)++l.drop (k+1):=by
 rw[ed _ _ (by rw[jV];exact ai _),jV,df,cF h,eZ,xD,aU]
 rfl
def oF(w:World)(n:Nat)(A:Nat->Option Addr)(C:Nat->Nat)(G:Nat->List Nat):Prop:=∀i,i<n->Rw w (A i) (C i) (G i)
def zt(n:Nat)(A:Nat->Option Addr):Prop:=∀i j,i<n->j<n->i≠j->∀x y,A i=some x->A j=some y->x.block≠y.block
def p8(n:Nat)(A:Nat->Option Addr)(k:Nat):Prop:=∃i,i<n/\∃x,A i=some x/\x.block=k
theorem oF.congr{w:World}{n:Nat}{A:Nat->Option Addr}{C:Nat->Nat}{G d:Nat->List Nat}(h:oF w n A C G)(e:∀i,i<n->G i=d i):oF w n A C d:=λi f=>by rw[<-e i f];exact h i f
theorem oF.set{w:World}{n:Nat}{A:Nat->Option Addr}{C:Nat->Nat}{G:Nat->List Nat}(h:oF w n A C G)(m:zt n A){j g:Nat}(q:j<n)(d:A j=some ⟨g,0,none⟩)(k v:Nat):
 oF (w.setCell ⟨g,k,none⟩ (.int .u8 ((v:Nat):Int))) n A C (λi=>if i=j then (G j).set k v else G i):=by
 intro i f;by_cases e:i=j
 . subst e;dsimp only;rw[if_pos rfl,d];have:=h i f;rw[d] at this;exact this.set k v
 . dsimp only;rw[if_neg e];exact(h i f).but (But.cell1 w g k _) λx r=>m i j f q e x _ r d
def P2(w wx:World)(n:Nat)(A:Nat->Option Addr)(C:Nat->Nat)(N:Nat->Nat)(j:Nat)(ag:Option Addr)(cg:Nat)(B:Nat->Option Addr)(D:Nat->Nat):Prop:=
 Ar wx ag cg ((List.range j).map λi=>Value.slice (B i) (N i+20) (D i))/\
 (∀i,i<j->Rw wx (B i) (D i) (fl i (N i+20))/\Bs wx (A i) (fl i (N i))/\New w (A i) (B i))/\
 (∀i,j<=i->i<n->Rw wx (A i) (C i) (fl i (N i)))/\
 (∀i i',i<i'->i'<j->∀x y,B i=some x->B i'=some y->x.block≠y.block)/\
 But (p8 n A) w wx/\New w none ag
theorem pM{w d:World}{a:Option Addr}(h:w.grownBy d (a.map Addr.block)):But (λq=>∃x,a=some x/\x.block=q) w d:=
 (But.refl _ _).grown h λ_ e _=>map_some e
theorem P2.next{w wx w3 wr:World}{n:Nat}{A:Nat->Option Addr}{C N:Nat->Nat}{j:Nat}{E M r:Option Addr}{P Y I:Nat}{B:Nat->Option Addr}{D:Nat->Nat}{o:Obj}
 (L:zt n A) (hA0:∀i,i<n->∀x,A i=some x->x.block<w.heap.size) (m:j<n) (h:P2 w wr n A C N j E P B D) (t:But (λq=>∃x,A j=some x/\x.block=q) wr wx)
 (ae:Rw wx r I (fl j (N j+20))) (ad:Bs wx (A j) (fl j (N j))) (Z:r=A j\/∀x,r=some x->wr.heap.size<=x.block)
 (ac:Ar w3 M Y (((List.range j).map λi=>Value.slice (B i) (N i+20) (D i))++[.slice r (N j+20) I])) (hN:New (wx.alloc o) E M) (hg:(wx.alloc o).grownBy w3 (E.map Addr.block)):
 P2 w w3 n A C N (j+1) M Y (λi=>if i=j then r else B i) (λi=>if i=j then I else D i):=by
 obtain⟨R,J,S,h4,U,K⟩:=h;have ak:=U.size;have al:=t.size;have ah:Ar wx E P ((List.range j).map λi=>Value.slice (B i) (N i+20) (D i)):=R.but t λx f ⟨y,d,e⟩=>R.ne (S j (ai _) m) f d e.symm
 have step:But (λq=>∃x,E=some x/\x.block=q) wx w3:=((But.refl _ wx).alloc o).trans (pM hg) λ_ _ h=>h
 have row:∀{a c l},Rw wx a c l->Rw w3 a c l:=λV=>V.but step λx f ⟨y,d,e⟩=>ah.ne V d f e
 have bs:∀{a:Option Addr}{l:List Nat},Bs wx a l->(∀x,a=some x->x.block<w.heap.size)->Bs w3 a l:=λhb af=>hb.but step λx f _ ⟨y,d,e⟩=>by
  have h7:=af x f;rcases K y d with⟨z,hz,_⟩|h8
  . cases hz
  . omega
 have ab:∀i,i<j->∀x,B i=some x->¬ ∃y,A j=some y/\y.block=x.block:=by
  rintro i H x f ⟨y,d,e⟩;rcases (J i H).2.2 x f with⟨z,hz,k⟩|h7
  . exact L i j (by omega) m (by omega) z y hz d (k.trans e.symm)
  . have:=hA0 j m y d;omega
 refine⟨?_,?_,?_,?_,?_,?_⟩
 . rw[gm,bP]
   have e:((List.range j).map λi=>Value.slice (if i=j then r else B i) (N i+20) (if i=j then I else D i))=(List.range j).map λi=>Value.slice (B i) (N i+20) (D i):=by
    apply List.map_congr_left;intro i H;have:=cw.1 H;simp[show i≠j by omega]
   rw[e];simpa using ac
 . intro i H;by_cases e:i=j
   . subst e;dsimp only;rw[if_pos rfl,if_pos rfl];refine⟨row ae,bs ad (hA0 i m),?_⟩;intro x f;rcases Z with h7|h7
     . exact .inl ⟨x,by rw[<-h7];exact f,rfl⟩
     . exact .inr (by have:=h7 x f;omega)
   . dsimp only;rw[if_neg e,if_neg e];obtain⟨k1,k2,k3⟩:=J i (by omega)
     refine⟨row (k1.but t λx f=>ab i (by omega) x f),bs (k2.but t λx f _ ⟨y,d,k⟩=>L i j (by omega) m e x y f d k.symm) (hA0 i (by omega)),k3⟩
 . intro i H aa;exact row ((S i (by omega) aa).but t λx f ⟨y,d,k⟩=>L i j aa m (by omega) x y f d k.symm)
 . intro i X O aj x y f d;dsimp only at f d;rw[if_neg (by omega)] at f
   by_cases e:X=j
   . rw[if_pos e] at d;subst e;rcases Z with h7|h7
     . rw[h7] at d;exact λk=>ab i O x f ⟨y,d,k.symm⟩
     . have h8:=h7 y d;have h9:=(J i O).1.lt f;omega
   . rw[if_neg e] at d;exact h4 i X O (by omega) x y f d
 . refine(U.trans t λx _ ⟨y,d,e⟩=>⟨j,m,y,d,e⟩).trans step ?_
   rintro x f ⟨y,d,e⟩;rcases K y d with⟨z,hz,_⟩|h8
   . cases hz
   . omega
 . exact K.trans hN (by rw[size_alloc];omega)
theorem yS{wr wx k:World}{f n:Option Addr}{g:Nat}{J:Nat}{l m:List Nat}{x:Nat}{o:Obj}(I:∀y,f=some y->y.block<wr.heap.size)(E:∀z∈l++m++[x],z<256)(K:l.length<=9223372036854775807)
 (H:But (λq=>∃y,f=some y/\y.block=q) wr wx) (C:Bs wx f l) (t:n=f\/∀y,n=some y->wr.heap.size<=y.block)
 (A:Rw k (some ⟨g,0,none⟩) J (l++m++[x])) (B:(wx.alloc o).grownBy k (n.map Addr.block)) (d:n=some ⟨g,0,none⟩\/(wx.alloc o).heap.size<=g/\Below (wx.alloc o).heap.size (wx.alloc o) k):
 But (λq=>∃y,f=some y/\y.block=q) wr k/\Bs k f l/\(some ⟨g,0,none⟩=f\/∀y,some (⟨g,0,none⟩:Addr)=some y->wr.heap.size<=y.block):=by
 have O:=H.size;refine⟨?_,?_,?_⟩
 . refine(H.alloc o).trans (pM B) ?_;rintro q N ⟨y,i,e⟩;rcases t with h|h
   . exact⟨y,by rw[<-h];exact i,e⟩
   . have:=h y i;omega
 . rcases d with d|⟨_,hb⟩
   . rcases t with h|h
     . rw[<-h,d];rw[aU] at A E;rcases A.front with h7|h7
       . exact h7.bs (λz r=>E z (gN _ r)) K
       . cases h7
     . refine(C.keep ((Below.refl _ _).alloc (ai _) o)).but (pM B) ?_;rintro y i _ ⟨z,r,e⟩;have L:=h z r;have M:=I y i;omega
   . exact(C.keep ((Below.refl _ _).alloc (ai _) o)).keep hb
 . rcases d with d|⟨d,_⟩
   . rw[<-d];rcases t with h|h
     . exact .inl h
     . exact .inr h
   . refine .inr λy i=>?_
     simp only[aE] at i;subst i;rw[size_alloc] at d;show _<=g;omega
set_option maxRecDepth 100000 in
theorem yB(w:World)(aj:Option Addr)(ct n:Nat)(A:Nat->Option Addr)(C:Nat->Nat)(L:Nat->List Nat)(aq:Ar w aj ct ((List.range n).map λi=>Value.slice (A i) (L i).length (C i)))(J:oF w n A C L)(hd:zt n A)(hn:n<=2932031007410)(hl:∀i,i<n->(L i).length+20<=140737488355328):
 Calls prog 30 #[.slice aj n ct] w λx w'=>x=.returned (.bool true)/\But (p8 n A) w w':=by
 have HA:=iJ aq;have HR:=iJ J;have HD:=iJ hd;have HL:=iJ hl
 have ap:∀d,But (p8 n A) w d->∀i,i<n->∃g,aj=some ⟨g,0,none⟩/\d.cell? ⟨g,i,none⟩=some (.slice (A i) (L i).length (C i)):=by
  intro d hb i t;refine(HA.o.but hb ?_).cell (by simp[t])
  rintro x R ⟨q,hq,y,S,e⟩;exact HA.o.ne (HR.o q hq) R S e.symm
 have aa:=iJ ap;clear aq J hd hl ap;go_enter func30,ntmps30;go_wp2;go_loopw [3,4] (λi _ d=>∃j:Nat,j<=n/\i=.int .i64 j/\(oF d n A C (λi=>if i<j then fl i (L i).length else L i)/\But (p8 n A) w d)) (λi _ _=>n-(intOf i).toNat)
 case atStart=>exact⟨0,az _,rfl,HR.o.congr λi _=>by simp,But.refl _ _⟩
 case round=>
  obtain⟨j,hj,rfl,Z⟩:=hrel;have r:=iJ Z;clear Z;by_cases f:j<n
  . have t:(j:Int)<(n:Int):=by omega
    obtain⟨ak,ac,M⟩:=aa.o wr r.o.2 j f;subst ac;have aA:=HL.o j f;go_wp2;go_loopw [4] (λE d=>∃k:Nat,k<=(L j).length/\E=.int .i64 k/\(oF d n A C (λi=>if i<j then fl i (L i).length else if i=j then fl j k++(L j).drop k else L i)/\But (p8 n A) w d)) (λE _=>(L j).length-(intOf E).toNat)
    case atStart=>
     refine⟨0,az _,rfl,r.o.1.congr λi _=>?_,r.o.2⟩
     by_cases e:i=j
     . subst e;simp[fl]
     . simp[e]
    case round=>
     clear M;obtain⟨k,hk,rfl,au⟩:=hrel;have V:=iJ au;clear au;obtain⟨b2,N,M⟩:=aa.o wr V.o.2 j f;simp only[aE,Addr.mk.injEq] at N;obtain⟨rfl,_⟩:=N;by_cases X:k<(L j).length
     . have ax:(k:Int)<((L j).length:Int):=by omega
       have H:=V.o.1 j f;simp only[eG,if_false,if_true] at H;have am:(fl j k++(L j).drop k).length=(L j).length:=by rw[ae,jV,dv];omega
       obtain⟨g,ab,_,_⟩:=H.addr2 (by rw[am];omega)
       rw[ab] at M H;have aw:=H.cell (i:=k) (by rw[am];exact X)
       have a5:wr.frozen? ⟨g,k,none⟩=false:=by
        rcases H.cases with⟨h0,_⟩|⟨g',cur,h0,hg',_⟩
        . cases h0
        . simp only[aE,Addr.mk.injEq] at h0;obtain⟨rfl,_⟩:=h0;exact bG wr g k _ _ hg'
       have aB:((j:Int)*31+(k:Int)*7+1)%256=((mkA j k:Nat):Int):=by unfold mkA;omega
       have aP:=iJ (Bc j k (L j) X);have ao:=iJ ab;clear ab H am;generalize R:(fl j k++(L j).drop k).getD k 0=x at *;clear R;generalize mkA j k=U at *;go_wp2;go_roundw
       case rel=>
        refine⟨k+1,by omega,by go_num,(V.o.1.set HD.o f ao.o k U).congr λi t=>?_,V.o.2.setCell (p:=⟨g,k,none⟩) (λ_=>⟨j,f,_,ao.o,rfl⟩) _⟩
        by_cases e:i=j
        . subst e;simp only[if_true,eG,if_false];exact aP.o
        . simp only[e,if_false]
       case measure=>simp[intOf];omega
     . obtain rfl:k=(L j).length:=by omega
       go_wp2;go_roundw
       case rel=>
        refine⟨j+1,by omega,by go_num,V.o.1.congr λi t=>?_,V.o.2⟩
        by_cases e:i=j
        . subst e;simp
        . by_cases N:i<j
          . rw[if_pos N,if_pos (by omega)]
          . rw[if_neg N,if_neg e,if_neg (by omega)]
       case measure=>simp[intOf];omega
  . obtain rfl:n=j:=by omega
    have hA0:∀i,i<n->∀x,A i=some x->x.block<w.heap.size:=λi t x R=>(HR.o i t).lt R
    have aH:=iJ hA0;have H1:Hid (P2 w wr n A C (λi=>(L i).length) 0 none 0 (λ_=>none) (λ_=>0)):=⟨Ar.nil _,λi t=>by omega,λi _ t=>by have:=r.o.1 i t;dsimp only at this;rwa [if_pos t] at this,λi i' _ a6=>by omega,r.o.2,New.none _ _⟩
    clear hA0 r;go_wp2;go_loopw [5,6,7,8] (λgr i _ _ d=>∃(j:Nat)(O:Option Addr)(Y:Nat)(B:Nat->Option Addr)(D:Nat->Nat),j<=n/\i=.int .i64 j/\gr=.slice O j Y/\P2 w d n A C (λi=>(L i).length) j O Y B D) (λ_ i _ _ _=>n-(intOf i).toNat)
    case atStart=>exact⟨0,none,0,_,_,az _,rfl,rfl,H1.o⟩
    case round=>
     clear H1;obtain⟨j,O,Y,B,D,hj,rfl,rfl,hP⟩:=hrel;have I:=iJ hP;clear hP;by_cases f:j<n
     . have t:(j:Int)<(n:Int):=by omega
       have aA:=HL.o j f;obtain⟨ak,ac,M⟩:=aa.o wr I.o.2.2.2.2.1 j f;subst ac;have ad:=I.o.2.2.1 j (ai _) f;have aF:=iJ ad;have aZ:=iJ (ad.bs (Et _ _) ad.len_le);have a0:Hid (∀y,A j=some y->y.block<wr.heap.size):=λy S=>ad.lt S
       have aY:Hid (∀d,But (λq=>∃y,A j=some y/\y.block=q) wr d->d.cell? ⟨ak,j,none⟩=some (.slice (A j) (L j).length (C j))):=λd hb=>by
        obtain⟨b2,N,h2⟩:=aa.o d (I.o.2.2.2.2.1.trans hb λx _ ⟨y,S,e⟩=>⟨j,f,y,S,e⟩) j f
        simp only[aE,Addr.mk.injEq] at N;obtain⟨rfl,_⟩:=N;exact h2
       clear ad;go_wp2;generalize hW:wr=W at *;go_loopw [7,8] (λgv E d=>∃(k:Nat)(K:Option Addr)(P:Nat),k<=20/\E=.int .i64 k/\gv=.slice K ((L j).length+k) P/\(Rw d K P (fl j ((L j).length+k))/\(But (λq=>∃y,A j=some y/\y.block=q) W d/\Bs d (A j) (fl j (L j).length)/\(K=A j\/∀y,K=some y->W.heap.size<=y.block)))) (λ_ E _=>20-(intOf E).toNat)
       case atStart=>exact⟨0,A j,C j,by decide,rfl,rfl,aF.o,But.refl _ _,aZ.o,.inl rfl⟩
       case round=>
        clear M;obtain⟨k,K,P,hk,rfl,rfl,Z⟩:=hrel;have r:=iJ Z;clear Z;by_cases X:k<20
        . have ax:(k:Int)<20:=by omega
          have M:=aY.o wr r.o.2.1;have a4:=block_lt_of_cell M;have aB:((j:Int)*31+(((L j).length:Int)+(k:Int))*7+1)%256=((mkA j ((L j).length+k):Nat):Int):=by unfold mkA;omega
          have HS:Hid (fl j ((L j).length+k)++[mkA j ((L j).length+k)]=fl j ((L j).length+(k+1))):=(xD j ((L j).length+k)).symm
          have aO:Hid (∃m,fl j ((L j).length+k)=fl j (L j).length++m):=⟨(fl j ((L j).length+k)).drop (L j).length,by
           have e:(fl j ((L j).length+k)).take (L j).length=fl j (L j).length:=by simp[fl,<-List.map_take,List.take_range]
           rw[<-e];exact(cZ _ _).symm⟩
          have aL:Hid (mkA j ((L j).length+k)<256):=fP _ (by decide)
          have aK:=iJ (Et j ((L j).length+k));have hz:=jV j ((L j).length+k);have a7:=jV j (L j).length;generalize mkA j ((L j).length+k)=U at *;generalize fl j ((L j).length+k)=FL at *;go_wp2_with (at_builtin;refine wV rfl _ _ rfl K ((L j).length+k) P FL ?q1 hz.symm (r.o.1.keep ((Below.refl _ _).alloc (ai _) _)) ⟨wr.heap.size,0,none⟩ 1 U ?q2 ?q3 (by omega) ?_)
          try case q1=>rfl
          try case q2=>rfl
          try case q3=>simp
          intro g ah w2 J hN hg aG;obtain⟨m,hm⟩:=aO.o;have aC:=yS (m:=m) (x:=U) a0.o (by rw[<-hm];intro z aX;rcases bq.1 aX with h|h;exact aK.o z h;rw[aQ] at h;have:=aL.o;omega) (by omega) r.o.2.1 r.o.2.2.1 r.o.2.2.2 (by rw[<-hm];exact J) hg (by rw[size_alloc];exact aG)
          rw[HS.o] at J;have aN:=iJ J;have aR:=iJ aC;clear J hN hg aG aC hm;go_wp2;go_roundw
          case rel=>exact⟨k+1,_,ah,by omega,by go_num,rfl,aN.o,aR.o⟩
          case measure=>simp[intOf];omega
        . obtain rfl:k=20:=by omega
          have aD:Ar wr O Y ((List.range j).map λi=>Value.slice (B i) ((L i).length+20) (D i)):=I.o.1.but r.o.2.1 λx R ⟨y,S,e⟩=>I.o.1.ne aF.o R S e.symm
          have aW:((List.range j).map λi=>Value.slice (B i) ((L i).length+20) (D i)).length=j:=by simp
          have aI:=iJ aD
          have aM:Hid (∀w3 af al o,Ar w3 af al (((List.range j).map λi=>Value.slice (B i) ((L i).length+20) (D i))++[.slice K ((L j).length+20) P])->New (wr.alloc o) O af->(wr.alloc o).grownBy w3 (O.map Addr.block)->P2 w w3 n A C (λi=>(L i).length) (j+1) af al (λi=>if i=j then K else B i) (λi=>if i=j then P else D i)):=
           λw3 af al o h1 h2 h3=>I.o.next HD.o aH.o f r.o.2.1 r.o.1 r.o.2.2.1 r.o.2.2.2 h1 h2 h3
          clear aD;generalize ((List.range j).map λi=>Value.slice (B i) ((L i).length+20) (D i))=vs at*
          go_wp2_with (at_builtin;refine um rfl _ _ rfl O j Y vs ?r1 aW.symm (aI.o.keep ((Below.refl _ _).alloc (ai _) _)) ⟨wr.heap.size,0,none⟩ 1 (.slice K ((L j).length+20) P) ?r2 ?r3 rfl (by omega) ?_)
          try case r1=>rfl
          try case r2=>rfl
          try case r3=>simp
          intro g ah w2 J hN hg;have HQ:=iJ (aM.o w2 _ ah _ J hN hg);clear J hN hg;go_wp2;go_roundw
          case rel=>exact⟨j+1,_,ah,_,_,by omega,by go_num,rfl,HQ.o⟩
          case measure=>simp[intOf];omega
     . obtain rfl:n=j:=by omega
       go_wp2;generalize hW:wr=W at *;go_loopw [9,10,11] (λi _ _ d=>∃j:Nat,j<=n/\i=.int .i64 j/\d=W) (λi _ _ _=>n-(intOf i).toNat)
       case atStart=>exact⟨0,az _,rfl,rfl⟩
       case round=>
        obtain⟨j,hj,rfl,an⟩:=hrel;subst an;by_cases f:j<n
        . have t:(j:Int)<(n:Int):=by omega
          have aA:=HL.o j f;obtain⟨ak,ac,M⟩:=aa.o _ I.o.2.2.2.2.1 j f;obtain⟨gg,aS,aw⟩:=I.o.1.cell (i:=j) (v:=.slice (B j) ((L j).length+20) (D j)) (by simp[f])
          subst ac aS;obtain⟨H,av,_⟩:=I.o.2.1 j f;obtain⟨g,ar,aU,aV⟩:=H.addr2 (by rw[jV];omega)
          rw[ar] at aw H;have a1:=iJ H;have aJ:=iJ av;clear H av ar;unfold maxLen at aV;rw[jV] at aU;go_wp2;go_loopw [10,11] (λE _ d=>∃k:Nat,k<=(L j).length+20/\E=.int .i64 k/\d=wr) (λE _ _=>(L j).length+20-(intOf E).toNat)
          case atStart=>exact⟨0,az _,rfl,rfl⟩
          case round=>
           obtain⟨k,hk,rfl,an⟩:=hrel;subst an;by_cases X:k<(L j).length+20
           . have ax:(k:Int)<((L j).length:Int)+20:=by omega
             have a3:=a1.o.cell (i:=k) (by rw[jV];exact X)
             rw[A7 j _ k X] at a3;have aB:((j:Int)*31+(k:Int)*7+1)%256=((mkA j k:Nat):Int):=by unfold mkA;omega
             by_cases ay:k<(L j).length
             . have a2:(k:Int)<((L j).length:Int):=by omega
               obtain⟨ba,oa,ab,aT⟩:=aJ.o.at (j:=k) (by rw[jV];exact ay)
               rw[A7 j _ k ay] at aT;rw[ab] at M;generalize mkA j k=U at *;go_wp2;go_roundw
               case rel=>exact⟨k+1,by omega,by go_num,trivial⟩
               case measure=>simp[intOf];omega
             . have a2:¬(k:Int)<((L j).length:Int):=by omega
               generalize mkA j k=U at *;go_wp2;go_roundw
               case rel=>exact⟨k+1,by omega,by go_num,trivial⟩
               case measure=>simp[intOf];omega
           . obtain rfl:k=(L j).length+20:=by omega
             go_wp2;go_roundw
             case rel=>exact⟨j+1,by omega,by go_num,trivial⟩
             case measure=>simp[intOf];omega
        . obtain rfl:n=j:=by omega
          go_wp2;go_ret;exact⟨rfl,I.o.2.2.2.2.1⟩
end
section
open Go.RowKit
end
section
open Go.RowKit
end
section
open Go.RowKit
end
section
open Go.RowKit
theorem Sp.pre{w d W:World}{p q:Pv}(hb:Below w.heap.size w d)(h:Sp d W p q):Sp w W p q:=by
 obtain⟨g,D,e,f,i,k,m⟩:=h.it;exact⟨h.e,Sf.pre hb h.s,⟨g,D,e,f,i,k,by have:=hb.size;omega⟩,bt hb h.b⟩
theorem jX(w:World)(r:Pv)(K:Pi w r)(hd:r.data.length<=140737488355264)(hi:r.items.length<=1048576)(hs:∀x∈r.items,x.key.length<=140737488355264/\x.val.length<=140737488355264):
 Calls prog 14 #[r.vl] w λe w'=>∃q:Pv,e=.returned q.vl/\Pn w w' q/\q.items.length=r.items.length/\q.pg=r.pg/\Below w.heap.size w w':=by
 have S1:=iJ λL (hb:Below w.heap.size w L)=>o7 L r.aI r.items.length r.cI r.items (K.it.keep hb) rfl hi hs
 have S2:=iJ λL (hb:Below w.heap.size w L)=>lv L r.aD r.data.length r.cD r.data (K.bd.keep hb) rfl hd
 have L8:=iJ K.bd.1;have Z:=iJ (And.intro K.nk (And.intro K.nl K.nn));clear K;unfold Pv.vl;obtain⟨A,B,H,J,items,E,I,n,next⟩:=r
 have Y:=iJ λ(W:World)(h:W.heap[w.heap.size]?=some (.cells (Pv.cs ⟨A,B,H,J,items,E,I,n,next⟩) 31))=>Bx.page (p:=⟨A,B,H,J,items,E,I,n,next⟩) h
 have IS:=iJ λ(W:World)(h:W.heap[w.heap.size]?=some (.cells (Pv.cs ⟨A,B,H,J,items,E,I,n,next⟩) 31))(a b c d f:Value)=>Bx.page (p:=⟨A,B,H,J,items,E,I,n,next⟩) ((show Bx W 31 w.heap.size _ from h).but (lI (w.heap.size+1) W a b c d f) (by omega))
 have TZ:=iJ λ(W:World)(h:W.heap[w.heap.size+1]?=some (.cells (Pv.cs Pv.zero) 31))=>And.intro (Bx.page (p:=Pv.zero) h) (fr4 (show Bx W 31 (w.heap.size+1) _ from h))
 have TM:=iJ λ(W:World)(h:W.heap[w.heap.size+1]?=some (.cells (Pv.cs Pv.zero) 31))(a b c d f:Value)=>qn (show Bx W 31 (w.heap.size+1) _ from h) a b c d f
 dsimp only[Pv.cs,Pv.zero,bj] at *;go_enter func14,ntmps14;go_wp2;have i:Hid (Below ((w.alloc (.cells #[.int .i64 A,.int .i64 B,.slice H items.length J,.slice E n.length I,.int .i64 next] 31)).alloc (.cells #[.int .i64 0,.int .i64 0,.slice none 0 0,.slice none 0 0,.int .i64 0] 31)).heap.size ((w.alloc (.cells #[.int .i64 A,.int .i64 B,.slice H items.length J,.slice E n.length I,.int .i64 next] 31)).alloc (.cells #[.int .i64 0,.int .i64 0,.slice none 0 0,.slice none 0 0,.int .i64 0] 31)) ((w.alloc (.cells #[.int .i64 A,.int .i64 B,.slice H items.length J,.slice E n.length I,.int .i64 next] 31)).alloc (.cells #[.int .i64 0,.int .i64 0,.slice none 0 0,.slice none 0 0,.int .i64 0] 31)).drew):=(Below.refl _ _).drew
 have R:=Y.o _ (iM w _ _ i.o).1;have hn:w.heap.size+1≠w.heap.size:=by omega
 go_region_held3 (λw'=>w'.cell? ⟨w.heap.size,0,none⟩=some (.int .i64 A)/\w'.cell? ⟨w.heap.size,1,none⟩=some (.int .i64 B)/\w'.cell? ⟨w.heap.size,2,none⟩=some (.slice H items.length J)/\w'.cell? ⟨w.heap.size,3,none⟩=some (.slice E n.length I)/\w'.cell? ⟨w.heap.size,4,none⟩=some (.int .i64 next))
  (first|with_reducible exact R|with_reducible exact IS.o _ (iM w _ _ i.o).1 _ _ _ _ _)
  (first|(go_at_call 63;with_reducible refine(S1.o _ (iM w _ _ i.o).2.2.1).mono ?_;rintro e L ⟨g1,d1,ab,rfl,V⟩;have ad:=V.j.b;have M:=iJ (aO (aO (eJ _) (eJ _)) (iM w _ _ i.o).2.2.2);have RL:=iJ (λt (N:t∈i7 ab) x (C:t.a=some x)=>(V.f.own t N).1.r.lt C);have i:=iJ (bt i.o ad);have R:=Y.o _ (iM w _ _ i.o).1;have m:=iJ V;clear ad V)|(go_at_call 64;with_reducible refine(S2.o _ (iM w _ _ i.o).2.2.1).mono ?_;rintro e w2 ⟨U,d2,rfl,X⟩;have aa:=X.b;have af:=iJ (aO M.o m.o.j.b.size);have RF:=iJ (λy (O:U=some y)=>X.fresh O);have i:=iJ (bt i.o aa);have R:=Y.o _ (iM w _ _ i.o).1;obtain⟨⟨y0,y1,y2,y3,y4⟩,f0,f1,f2,f3,f4⟩:=TZ.o _ (iM w _ _ i.o).2.1;have m:=iJ (m.o.keep aa);have R2:=iJ X.r;clear aa X))
 clear R;have M1:=iJ (TM.o _ (iM w _ _ i.o).2.1 (.int .i64 A) (.int .i64 B) (.slice g1 items.length d1) (.slice U n.length d2) (.int .i64 next))
 have P:=iJ (lI (w.heap.size+1) w2 (.int .i64 A) (.int .i64 B) (.slice g1 items.length d1) (.slice U n.length d2) (.int .i64 next))
 have TB:=iJ (iM w _ _ i.o).2.2.1;have k:Hid (Bx w2 31 (w.heap.size+1) _):=(iM w _ _ i.o).2.1;clear y0 y1 y2 y3 y4 f0 f1 f2 f3 f4 i;go_wp2;refine bZ (v:=.agg _) (fH results14 _ _ (w.heap.size+1) 31 _ (0,0) _ rfl M1.o underlying31 rfl iP) rfl ?_;have ag:Below w.heap.size w _:=((But.ofBelow (S:=λac=>ac=w.heap.size+1) TB.o).trans P.o λ_ _ e=>e).below λac hk e=>by omega
 have r2:=R2.o.but P.o λx C e=>R2.o.nty k.o (by decide) C e
 have j2:=m.o.j.r.but P.o λx C e=>m.o.j.r.nty k.o (by decide) C e
 have ae:=m.o.len;have ah:∀{a c l},Rw w2 a c l->Rw _ a c l:=λhr=>hr.but P.o λx C e=>hr.nty k.o (by decide) C e
 refine⟨⟨A,B,g1,d1,ab,U,d2,n,next⟩,by rw[<-ae],⟨j2,m.o.j.n.mono M.o,r2,λy O=>.inr (by have h1:=RF.o y O;have h2:=af.o;omega),λt N=>?_,?_,L8.o,m.o.n,Z.o.1,Z.o.2.1,Z.o.2.2⟩,ae,?_,ag⟩
 . obtain⟨o,o8⟩:=m.o.f.own t N;exact⟨ah o.r,o.n.mono M.o,o8⟩
 . refine cQ.2 ⟨λt N x y C O e=>?_,m.o.f.dist⟩
   have h1:=RF.o x C;have h2:=RL.o t N y O;omega
 unfold Pv.pg;dsimp only;rw[m.o.e]
end
end Go.Proofs.YtbdkogimlbnlmaaGreat
