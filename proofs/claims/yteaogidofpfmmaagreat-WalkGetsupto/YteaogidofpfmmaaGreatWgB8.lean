import Derived.Test.YteaogidofpfmmaaGreatWgB7
import Derived.Defers
import Derived.Recover
import Derived.Lib.SlBytesConst
import Derived.ProofKit
import Derived.OpenShut
import Derived.ShutString
import Derived.ChangeOld
import Derived.Deep.Slices
import Derived.SizedLaws
import Derived.JoinedCond
import Derived.Deep.CutRange
set_option linter.all false
set_option maxHeartbeats 8000000
set_option maxRecDepth 8000
namespace Go.Proofs.YteaogidofpfmmaaGreat
open Tryz
section
open Go.RowKit
variable {T:TypeId} {w w':World} {b:Nat} {a:Option Addr} {cap:Nat}
theorem But.cell1(w:World)(b i:Nat)(u:Value):But (λk=>k=b) w (w.setCell ⟨b,i,none⟩ u):=(But.refl (λk=>k=b) w).setCell (p:=⟨b,i,none⟩) (λ_=>rfl) u
end
section
open Go.RowKit
variable {w w':World} {b:Nat} {a:Option Addr} {cap:Nat} {s:RS}
end
section
open Go.RowKit
variable {v w:World} {G:Nat->Prop} {b:Nat} {l:List Nat}
theorem Bs.lt{w:World}{a:Option Addr}{l:List Nat}(h:Bs w a l){x:Addr}(f:a=some x)(c:l≠[]):x.block<w.heap.size:=by
 obtain⟨_,_,h⟩:=h;rcases h with h|⟨b,g,e,d⟩
 . exact absurd h c
 . rw[f,ay] at e;subst e;exact block_lt_of_cell (a:=⟨b,g+0,none⟩) (d 0 (bQ.2 c))
end
section
open Go.RowKit
variable {v w w':World} {b:Nat} {s s':RS}
end
section
open Go.RowKit
theorem bx2(w:World)(c t2:TypeId)(c1 c2:Array Value):Bx ((w.alloc (.cells c1 c)).alloc (.cells c2 t2)) c w.heap.size c1/\Bx ((w.alloc (.cells c1 c)).alloc (.cells c2 t2)) t2 (w.heap.size+1) c2:=by
 refine⟨(Bx.new w c c1).keep (al _ _),?_⟩;have:=Bx.new (w.alloc (.cells c1 c)) t2 c2;rwa [size_alloc] at this
end
section
open Go.RowKit
theorem Bx.setc{w:World}{t:TypeId}{g:Nat}{cs:Array Value}(h:Bx w t g cs)(i:Nat)(u:Value):Bx (w.setCell ⟨g,i,none⟩ u) t g (cs.setIfInBounds i u):=aS w g i _ _ _ h
theorem Rw.nty{w:World}{a:Option Addr}{c:Nat}{l:List Nat}(h:Rw w a c l){t:TypeId}{g:Nat}{cs:Array Value}(d:Bx w t g cs)(i:t≠5){x:Addr}(f:a=some x):x.block≠g:=by
 intro e;rcases h.cases with⟨rfl,_⟩|⟨g',cur,rfl,hg',_⟩
 . cases f
 . cases f;dsimp only at e;subst e;unfold Bx at d;rw[hg'] at d;simp only[ay,eE] at d;exact absurd d.2.1.symm i
theorem xQ(w:World)(g:Nat)(cs:Array Value):But (λk=>k=g) w (w.setRow g cs):=by
 have h:=below_setRow (Below.refl 0 w) (an g) cs;exact⟨h.os,h.tape,h.output,h.size,λk _ c=>setRow_other _ _ _ _ c⟩
end
section
open Go.RowKit
theorem kj(g:Nat):∀(vs:List Value)(w:World)(o:Nat),But (λk=>k=g) w (w.setCells g o vs)
 | [],_,_=>But.refl _ _
 |v::vs,w,o=>((But.refl (λk=>k=g) w).setCell (p:=⟨g,o,none⟩) (λ_=>rfl) v).trans (kj g vs _ (o+1)) λ_ _ h=>h
end
section
open Go.RowKit
structure Pn(v wx:World)(P:Pv):Prop where
 it:Jw wx P.aI P.cI P.items
 itn:New v none P.aI
 d:Rw wx P.aD P.cD P.data
 dn:New v none P.aD
 fr:∀t∈iR P.items,Rw wx t.a t.c t.l/\New v none t.a/\B8 t.l
 dist:((⟨P.aD,P.cD,P.data⟩:Br)::iR P.items).Pairwise ji
 d8:B8 P.data
 ns:∀r∈P.items,N64 r.child/\N64 r.size
 nk:N64 P.kind
 nl:N64 P.level
 nn:N64 P.next
theorem Jw.nty{w:World}{a:Option Addr}{c:Nat}{L:List Iv}(h:Jw w a c L){t:TypeId}{g:Nat}{cs:Array Value}(d:Bx w t g cs)(i:t≠89){x:Addr}(f:a=some x):x.block≠g:=by
 intro e;rcases h.cases with⟨rfl,_⟩|⟨g',cur,rfl,hg',_⟩
 . cases f
 . cases f;dsimp only at e;subst e;unfold Bx at d;rw[hg'] at d;simp only[ay,eE] at d;exact absurd d.2.1.symm i
theorem Pn.but{S:Nat->Prop}{v e j:World}{P:Pv}(h:Pn v e P)(hb:But S e j)(p:∀k,S k->∃t cs,Bx e t k cs/\t≠5/\t≠89):Pn v j P:=by
 have d:∀{a c l},Rw e a c l->Rw j a c l:=λd=>d.but hb λx i g=>by
  obtain⟨t,cs,f,m,n⟩:=p _ g;exact d.nty f m i rfl
 exact⟨h.it.but hb λx i g=>by
  obtain⟨t,cs,f,m,n⟩:=p _ g;exact h.it.nty f n i rfl,h.itn,d h.d,h.dn,λt q=>⟨d (h.fr t q).1,(h.fr t q).2⟩,h.dist,h.d8,h.ns,h.nk,h.nl,h.nn⟩
theorem Pn.keep{v c d:World}{P:Pv}(h:Pn v c P)(hb:Below c.heap.size c d):Pn v d P:=h.but (S:=λ_=>False) (But.ofBelow hb) λ_ h=>h.elim
theorem dr2(w:World):Below w.heap.size w w.drew:=(Below.refl _ _).drew
end
section
open Go.RowKit
theorem Pn.zero(v w:World):Pn v w Pv.zero:=⟨Jw.nil _,New.none _ _,Rw.nil _,New.none _ _,(λ_ h=>by cases h),eo _ _,B8.nil,(λ_ h=>by cases h),by simp[N64,Pv.zero],by simp[N64,Pv.zero],by simp[N64,Pv.zero]⟩
theorem Pn.pre{v v' w:World}{P:Pv}(h:Pn v w P)(d:v'.heap.size<=v.heap.size):Pn v' w P:=⟨h.it,h.itn.mono d,h.d,h.dn.mono d,λt c=>⟨(h.fr t c).1,(h.fr t c).2.1.mono d,(h.fr t c).2.2⟩,h.dist,h.d8,h.ns,h.nk,h.nl,h.nn⟩
theorem Pn.row{v w:World}{P:Pv}(h:Pn v w P){t:TypeId}{g:Nat}{cs:Array Value}(e:Bx w t g cs)(c:t≠5)(d:t≠89)(f:Array Value):Pn v (w.setRow g f) P:=
 h.but (xQ _ _ _) λk hk=>by subst hk;exact⟨t,cs,e,c,d⟩
theorem Pn.pi{v w:World}{P:Pv}(h:Pn v w P)(k:P.items.length<=2199023255520):Pi w P:=by
 have i:P.items.length<=P.cI:=by
  rcases h.it.cases with⟨_,h1,h2⟩|⟨g,cur,_,_,h1,_⟩
  . rw[h1,h2];simp
  . exact h1
 have j:∀r∈P.items,Ii w r:=λr c=>by
  have f:=(uX c).subset;obtain⟨d,p,m⟩:=h.fr ⟨r.aK,r.cK,r.key⟩ (f (by simp[Iv.rows]))
  obtain⟨e,q,n⟩:=h.fr ⟨r.aV,r.cV,r.val⟩ (f (by simp[Iv.rows]))
  exact⟨d.bs m d.len_le,d.cap,e.bs n e.len_le,e.cap,(h.ns r c).1,(h.ns r c).2⟩
 exact⟨h.it.qs j k,i,h.d.bs h.d8 h.d.len_le,h.d.cap,h.nk,h.nl,h.nn⟩
end
section
open Go.RowKit
theorem vM(w:World)(x y:Iv)(q:Ii w x)(r:Ii w y)(B:x.it=y.it):Calls prog 95 #[x.vl,y.vl] w λe w'=>e=.returned (.bool true)/\Below w.heap.size w w':=by
 obtain⟨g,k,c,h,m,val,child,f⟩:=x;obtain⟨i,n,P,j,p,R,U,S⟩:=y;simp only[Iv.it,It.mk.injEq] at B;obtain⟨rfl,rfl,rfl,rfl⟩:=B;have H:=gW λ(d:World)(hb:Below w.heap.size w d)=>kQ d g i c.length c.length k n c (q.bk.keep hb) (r.bk.keep hb) rfl rfl
 have I:=gW λ(d:World)(hb:Below w.heap.size w d)=>kQ d h j val.length val.length m p val (q.bv.keep hb) (r.bv.keep hb) rfl rfl
 obtain⟨C,D⟩:=bx2 w 89 89 (Iv.cs ⟨g,k,c,h,m,val,child,f⟩) (Iv.cs ⟨i,n,c,j,p,val,child,f⟩);have F:=gW λ(d:World)(hb:Below ((w.alloc (.cells (Iv.cs ⟨g,k,c,h,m,val,child,f⟩) 89)).alloc (.cells (Iv.cs ⟨i,n,c,j,p,val,child,f⟩) 89)).heap.size ((w.alloc (.cells (Iv.cs ⟨g,k,c,h,m,val,child,f⟩) 89)).alloc (.cells (Iv.cs ⟨i,n,c,j,p,val,child,f⟩) 89)) d)=>And.intro (Bx.item (C.keep hb)) (Bx.item (D.keep hb))
 clear q r C D;unfold Iv.vl;simp only[Iv.cs] at *;go_enter func95,ntmps95;go_wp2_with fail
 refine(H.o _ (bt (al _ _) (al _ _))).mono ?_;rintro y d ⟨rfl,t⟩;obtain⟨⟨c0,c1,c2,c3⟩,K,L,M,N⟩:=F.o _ t;have A:=gW (bt (bt (al w _) (al _ _)) t);clear t;go_wp2_with fail
 refine(I.o _ A.o).mono ?_;rintro y O ⟨rfl,E⟩;have J:=gW (bt A.o E);clear E;go_wp2;go_ret;exact⟨by simp,J.o⟩
theorem vU(w:World)(p q:Pv)(U:Pi w p)(hq:Pi w q)(B:p.pg=q.pg):Calls prog 54 #[p.vl,q.vl] w λe w'=>e=.returned (.bool true)/\Below w.heap.size w w':=by
 have ar:p.items.length<=2199023255520:=U.it.2.1;have H:=gW U;have I:=gW hq;obtain⟨X,Y⟩:=bx2 w 77 77 p.cs q.cs;have m:=gW (bt (al w (.cells p.cs 77)) (al _ (.cells q.cs 77)));obtain⟨v,V⟩:∃v,(w.alloc (.cells p.cs 77)).alloc (.cells q.cs 77)=v:=⟨_,rfl⟩;rw[V] at X Y m;have h:=gW λ(d:World)(hb:Below v.heap.size v d)=>And.intro (Bx.page (X.keep hb)) (Bx.page (Y.keep hb))
 have Z:Hid (p.items.map Iv.it=q.items.map Iv.it):=bf Pg.items B;have ai:q.items.length=p.items.length:=by have:=bf List.length Z.o;simpa using this.symm
 have aa:=gW λ(k:Nat)(hk:k<p.items.length)(d:World)(hb:Below v.heap.size v d)=>vM d (p.items.getD k Iv.zero) (q.items.getD k Iv.zero) ((H.o.it.keep (bt m.o hb)).1 _ (ie hk)) ((I.o.it.keep (bt m.o hb)).1 _ (ie (by omega))) (by
  have P:=bf (λad=>ad.getD k It.zero) Z.o
  have M:=Pv.at p k;have t:=Pv.at q k;unfold Pg.at at M t;rw[<-M,<-t];exact P)
 have L:=gW λ(d:World)(hb:Below v.heap.size v d)=>H.o.it.keep (bt m.o hb)
 have K:=gW λ(d:World)(hb:Below v.heap.size v d)=>I.o.it.keep (bt m.o hb)
 have R:q.data=p.data:=(bf Pg.data B).symm;have ED:=gW λ(d:World)(hb:Below v.heap.size v d)=>kQ d p.aD q.aD p.data.length q.data.length p.cD q.cD p.data (H.o.bd.keep (bt m.o hb)) (R▸I.o.bd.keep (bt m.o hb)) rfl (by rw[R])
 have P:q.kind=p.kind:=(bf Pg.kind B).symm;have h2:q.level=p.level:=(bf Pg.level B).symm;have h3:q.next=p.next:=(bf Pg.next B).symm;clear B U hq X Y Z R H I;obtain⟨kind,ax,aI,cI,A,aD,cD,au,next⟩:=p
 obtain⟨kind',az,af,dI,aq,bD,dD,aw,ay⟩:=q;unfold Pv.vl;simp only[Pv.cs] at *;subst P h2 h3;rw[ai] at V h ⊢;obtain⟨⟨b0,b1,C,b3,b4⟩,e0,M,t,e3,e4⟩:=h.o _ (Below.refl _ _);go_enter func54,ntmps54;go_wp2_with fail
 refine(ED.o _ (Below.refl _ _)).mono ?_;rintro y d ⟨rfl,ab⟩;have c:=gW ab;clear ab V b0 b1 C b3 b4 e0 M t e3 e4;obtain⟨⟨c0,c1,c2,c3,c4⟩,d0,d1,d2,d3,d4⟩:=h.o _ c.o;go_wp2;go_loopw [5] (λi wx=>∃k:Nat,k<=A.length/\i=.int .i64 k/\Below v.heap.size v wx) (λi _=>A.length-(intOf i).toNat)
 case atStart=>exact⟨0,an _,rfl,c.o⟩
 case round=>
  clear c c0 c1 c2 c3 c4 d0 d1 d2 d3 d4;obtain⟨k,hk,rfl,hT⟩:=hrel;have c:=gW hT;clear hT;obtain⟨⟨c0,c1,c2,c3,c4⟩,d0,d1,d2,d3,d4⟩:=h.o _ c.o;by_cases F:k<A.length
  . have av:(k:Int)<(A.length:Int):=by omega
    have ag:=w64 (j:=k) (by omega)
    have x:=gW (aa.o k F);obtain⟨f,g,rfl⟩:∃f g,aI=some ⟨f,g,none⟩:=by obtain⟨C,W,t,_⟩:=(L.o _ (Below.refl _ _)).at F;exact⟨C,W,t⟩
    obtain⟨D,E,rfl⟩:∃f g,af=some ⟨f,g,none⟩:=by obtain⟨C,W,t,_⟩:=(K.o _ (Below.refl _ _)).at (r:=k) (by omega);exact⟨C,W,t⟩
    have N:=gW λ(d:World)(hb:Below v.heap.size v d)=>tN (L.o d hb) F
    have O:=gW λ(d:World)(hb:Below v.heap.size v d)=>tN (K.o d hb) (k:=k) (by omega)
    clear aa L K;generalize A.getD k Iv.zero=ae at *;generalize aq.getD k Iv.zero=y at *;generalize A.length=n at *;obtain⟨aK,cK,ah,aV,cV,val,child,ak⟩:=ae;obtain⟨bK,dK,aj,bV,dV,am,ap,ao⟩:=y;simp only[Iv.vl,Iv.cs] at x N O;go_wp2;have c:=gW (bt c.o (dr2 _));have J:=And.intro (And.intro (h.o _ c.o).1.2.2.1 (h.o _ c.o).2.2.2.1) (And.intro (N.o _ c.o) (O.o _ c.o));refine bA (S:=λw'=>(w'.cell? ⟨w.heap.size,2,none⟩=some (.slice (some ⟨f,g,none⟩) n cI)/\w'.cell? ⟨w.heap.size+1,2,none⟩=some (.slice (some ⟨D,E,none⟩) n dI))/\(w'.cell? ⟨f,g+k*4,none⟩=some (.slice aK ah.length cK)/\w'.cell? ⟨f,g+k*4+1,none⟩=some (.slice aV val.length cV)/\w'.cell? ⟨f,g+k*4+2,none⟩=some (.int .i64 child)/\w'.cell? ⟨f,g+k*4+3,none⟩=some (.int .i64 ak))/\(w'.cell? ⟨D,E+k*4,none⟩=some (.slice bK aj.length dK)/\w'.cell? ⟨D,E+k*4+1,none⟩=some (.slice bV am.length dV)/\w'.cell? ⟨D,E+k*4+2,none⟩=some (.int .i64 ap)/\w'.cell? ⟨D,E+k*4+3,none⟩=some (.int .i64 ao))) (by kernel_rfl) (by exact J) (λhHeld=>?_)
    refine tkd 0 1 2 3 ?_;refine tkd 4 5 6 7 ?_;refine tkb 8 9 ?_;refine tw 10 λac hK=>?_
    go_simp;refine(x.o _ c.o).mono ?_;rintro e w9 ⟨rfl,hb⟩;have c:=gW (bt c.o hb);have J:=And.intro (And.intro (h.o _ c.o).1.2.2.1 (h.o _ c.o).2.2.2.1) (And.intro (N.o _ c.o) (O.o _ c.o));clear hb;go_wp2_with fail
    refine hK.o _ _ (by exact J) (λhHeld=>?_)
    clear hK ac;try simp only[pt]
    refine tk 11 ?_;refine td ?_;clear J;go_wp2;go_roundw
    case rel=>exact⟨k+1,by omega,by first|(go_num;done)|exact bf (Value.int IntKind.i64) (by omega),c.o⟩
    case measure=>first|exact iU _ _ _ ag F|exact iU _ _ _ rfl F|(simp[intOf];omega)
  . obtain rfl:k=A.length:=by omega
    go_wp2;go_ret;exact⟨rfl,bt m.o c.o⟩
end
section
open Go.RowKit
theorem Jw.butg{d f:World}{a:Option Addr}{c:Nat}{L:List Iv}(_:Jw d a c L)(g:d.grownBy f (a.map Addr.block)):But (λk=>∃x,a=some x/\x.block=k) d f:=
 (But.refl _ _).grown g λk hk _=>by
   obtain⟨x,h,e⟩:=map_some hk;exact⟨x,h,e⟩
end
section
open Go.RowKit
end
section
open Go.RowKit
theorem y8{w:World}{a:Option Addr}(h:New w none a){x:Addr}(c:a=some x):w.heap.size<=x.block:=by
 rcases h x c with⟨y,hy,_⟩|h
 . cases hy
 . exact h
end
section
open Go.RowKit
theorem ic(w:World)(o p:Obj){c:World}(hb:Below ((w.alloc o).alloc p).heap.size ((w.alloc o).alloc p) c):c.heap[w.heap.size]?=some o/\c.heap[w.heap.size+1]?=some p/\Below w.heap.size w c/\w.heap.size+2<=c.heap.size:=by
 have d:((w.alloc o).alloc p).heap.size=w.heap.size+2:=by rw[size_alloc,size_alloc]
 refine⟨(hb.block _ (by rw[d];omega)).trans ?_,(hb.block _ (by rw[d];omega)).trans ?_,bt (bt (al _ _) (al _ _)) hb,by have:=hb.size;omega⟩
 . rw[fW _ _ (by rw[size_alloc];omega)];exact aZ _ _
 . have:=aZ (w.alloc o) p;rw[size_alloc] at this;exact this
theorem kf(w:World)(d:Option Addr)(n f:Nat)(p:List Nat)(m:Bs w d p)(q:n=p.length)(r:p.length<=140737488355264):
 Calls prog 73 #[.slice d n f] w λx w'=>∃c e,x=.returned (.slice c p.length e)/\Own w w' c e p:=by
 subst q;exact(i8 w d p.length f p m rfl (by omega)).mono λ_ _ ⟨c,g,h,i,j,k⟩=>⟨c,g,h,i,j,k⟩
theorem qk(g:Nat)(w:World)(a b c d:Value):But (λk=>k=g) w ((((w.setCell ⟨g,0,none⟩ a).setCell ⟨g,1,none⟩ b).setCell ⟨g,2,none⟩ c).setCell ⟨g,3,none⟩ d):=
 ((((But.refl (λk=>k=g) w).setCell (p:=⟨g,0,none⟩) (λ_=>rfl) a).setCell (p:=⟨g,1,none⟩) (λ_=>rfl) b).setCell (p:=⟨g,2,none⟩) (λ_=>rfl) c).setCell (p:=⟨g,3,none⟩) (λ_=>rfl) d
theorem nF(g:Nat)(w:World)(a b c d e:Value):But (λk=>k=g) w (((((w.setCell ⟨g,0,none⟩ a).setCell ⟨g,1,none⟩ b).setCell ⟨g,2,none⟩ c).setCell ⟨g,3,none⟩ d).setCell ⟨g,4,none⟩ e):=
 (qk g w a b c d).setCell (p:=⟨g,4,none⟩) (λ_=>rfl) e
theorem DW{w:World}{g:Nat}{t:TypeId}{i j k m:Value}(h:Bx w t g #[i,j,k,m])(a b c d:Value):Bx ((((w.setCell ⟨g,0,none⟩ a).setCell ⟨g,1,none⟩ b).setCell ⟨g,2,none⟩ c).setCell ⟨g,3,none⟩ d) t g #[a,b,c,d]:=by
 have f:=(((h.setc 0 a).setc 1 b).setc 2 c).setc 3 d;have e:(((#[i,j,k,m].setIfInBounds 0 a).setIfInBounds 1 b).setIfInBounds 2 c).setIfInBounds 3 d=#[a,b,c,d]:=by simp
 rw[e] at f;exact f
theorem wC{w:World}{g:Nat}{t:TypeId}{j k m n p:Value}(h:Bx w t g #[j,k,m,n,p])(a b c d f:Value):Bx (((((w.setCell ⟨g,0,none⟩ a).setCell ⟨g,1,none⟩ b).setCell ⟨g,2,none⟩ c).setCell ⟨g,3,none⟩ d).setCell ⟨g,4,none⟩ f) t g #[a,b,c,d,f]:=by
 have i:=((((h.setc 0 a).setc 1 b).setc 2 c).setc 3 d).setc 4 f;have e:((((#[j,k,m,n,p].setIfInBounds 0 a).setIfInBounds 1 b).setIfInBounds 2 c).setIfInBounds 3 d).setIfInBounds 4 f=#[a,b,c,d,f]:=by simp
 rw[e] at i;exact i
theorem fr4{w:World}{g:Nat}{t:TypeId}{cs:Array Value}(h:Bx w t g cs):w.frozen? ⟨g,0,none⟩=false/\w.frozen? ⟨g,1,none⟩=false/\w.frozen? ⟨g,2,none⟩=false/\w.frozen? ⟨g,3,none⟩=false/\w.frozen? ⟨g,4,none⟩=false:=
 ⟨bq _ _ _ _ _ h,bq _ _ _ _ _ h,bq _ _ _ _ _ h,bq _ _ _ _ _ h,bq _ _ _ _ _ h⟩
theorem vE(w:World)(r:Iv)(E:Ii w r)(hl:r.key.length<=140737488355264)(hh:r.val.length<=140737488355264):
 Calls prog 174 #[r.vl] w λe w'=>∃q:Iv,e=.returned q.vl/\Io w w' q/\q.it=r.it:=by
 have S1:=gW λB (hb:Below w.heap.size w B)=>kf B r.aK r.key.length r.cK r.key (E.bk.keep hb) rfl hl
 have S2:=gW λB (hb:Below w.heap.size w B)=>kf B r.aV r.val.length r.cV r.val (E.bv.keep hb) rfl hh
 have L8:=gW E.bk.1;have Y:=gW E.bv.1;clear E;unfold Iv.vl;obtain⟨m,t,i,n,A,val,child,j⟩:=r;have L:=gW λ(W:World)(h:W.heap[w.heap.size]?=some (.cells (Iv.cs ⟨m,t,i,n,A,val,child,j⟩) 89))=>Bx.item (p:=⟨m,t,i,n,A,val,child,j⟩) h
 have Z:=gW λ(W:World)(h:W.heap[w.heap.size]?=some (.cells (Iv.cs ⟨m,t,i,n,A,val,child,j⟩) 89))(a b c d:Value)=>Bx.item (p:=⟨m,t,i,n,A,val,child,j⟩) ((show Bx W 89 w.heap.size _ from h).but (qk (w.heap.size+1) W a b c d) (by omega))
 have TZ:=gW λ(W:World)(h:W.heap[w.heap.size+1]?=some (.cells (Iv.cs Iv.zero) 89))=>And.intro (Bx.item (p:=Iv.zero) h) (fr4 (show Bx W 89 (w.heap.size+1) _ from h))
 have TM:=gW λ(W:World)(h:W.heap[w.heap.size+1]?=some (.cells (Iv.cs Iv.zero) 89))(a b c d:Value)=>DW (show Bx W 89 (w.heap.size+1) _ from h) a b c d
 dsimp only[Iv.cs,Iv.zero,bg] at *;go_enter func174,ntmps174;go_wp2;have f:Hid (Below ((w.alloc (.cells #[.slice m i.length t,.slice n val.length A,.int .i64 child,.int .i64 j] 89)).alloc (.cells #[.slice none 0 0,.slice none 0 0,.int .i64 0,.int .i64 0] 89)).heap.size ((w.alloc (.cells #[.slice m i.length t,.slice n val.length A,.int .i64 child,.int .i64 j] 89)).alloc (.cells #[.slice none 0 0,.slice none 0 0,.int .i64 0,.int .i64 0] 89)) ((w.alloc (.cells #[.slice m i.length t,.slice n val.length A,.int .i64 child,.int .i64 j] 89)).alloc (.cells #[.slice none 0 0,.slice none 0 0,.int .i64 0,.int .i64 0] 89)).drew):=(Below.refl _ _).drew;have J:=L.o _ (ic w _ _ f.o).1;have hn:w.heap.size+1≠w.heap.size:=by omega
 go_region_held3 (λw'=>w'.cell? ⟨w.heap.size,0,none⟩=some (.slice m i.length t)/\w'.cell? ⟨w.heap.size,1,none⟩=some (.slice n val.length A)/\w'.cell? ⟨w.heap.size,2,none⟩=some (.int .i64 child)/\w'.cell? ⟨w.heap.size,3,none⟩=some (.int .i64 j))
  (first|with_reducible exact J|with_reducible exact Z.o _ (ic w _ _ f.o).1 _ _ _ _)
  (first|(go_at_call 73;with_reducible refine(S1.o _ (ic w _ _ f.o).2.2.1).mono ?_;rintro e B ⟨C,N,rfl,H⟩;have X:=H.b;have R:=gW (λx (g:C=some x)=>az (ic w _ _ f.o).2.2.2 (H.fresh g));have L1:=gW (λx (g:C=some x)=>H.r.lt g);have f:=gW (bt f.o X);have J:=L.o _ (ic w _ _ f.o).1;have M:=gW H.r;clear X H)|(go_at_call 73;with_reducible refine(S2.o _ (ic w _ _ f.o).2.2.1).mono ?_;rintro e w2 ⟨D,O,rfl,I⟩;have P:=I.b;have Z2:=gW (λx y (g:C=some x)(F:D=some y)=>a6 (L1.o x g) (I.fresh F));have U:=gW (λy (F:D=some y)=>az (ic w _ _ f.o).2.2.2 (I.fresh F));have f:=gW (bt f.o P);have J:=L.o _ (ic w _ _ f.o).1;obtain⟨⟨y0,y1,y2,y3⟩,f0,f1,f2,f3,f4⟩:=TZ.o _ (ic w _ _ f.o).2.1;have M:=gW (M.o.keep P);have R2:=gW I.r;clear P I))
 clear J;have M1:=gW (TM.o _ (ic w _ _ f.o).2.1 (.slice C i.length N) (.slice D val.length O) (.int .i64 child) (.int .i64 j));have K:=gW (qk (w.heap.size+1) w2 (.slice C i.length N) (.slice D val.length O) (.int .i64 child) (.int .i64 j));have TB:=gW (ic w _ _ f.o).2.2.1;clear y0 y1 y2 y3 f0 f1 f2 f3 f4 f;go_wp2;refine aF (v:=.agg _) (dB results174 _ _ (w.heap.size+1) 89 _ (0,0) _ rfl M1.o underlying89 rfl qp) rfl ?_;have V:Below w.heap.size w _:=((But.ofBelow (S:=λk=>k=w.heap.size+1) TB.o).trans K.o λ_ _ e=>e).below λk hk e=>by omega
 have B:=M.o.but K.o λx g e=>by have:=R.o x g;omega
 have aa:=R2.o.but K.o λx g e=>by have:=U.o x g;omega
 exact⟨⟨C,N,i,D,O,val,child,j⟩,rfl,⟨⟨B,λx g=>.inr (by have:=R.o x g;omega),V⟩,⟨aa,λx g=>.inr (by have:=U.o x g;omega),V⟩,λx y g F e=>by have:=Z2.o x y g F;omega,L8.o,Y.o⟩,rfl⟩
end
section
open Go.RowKit
theorem Fam.grown{w d g:World}{T:List Br}{a:Option Addr}{c:Nat}{L:List Iv}(f:Fam w d T)(h:Jw d a c L)(i:d.grownBy g (a.map Addr.block))(k:Below w.heap.size w g):Fam w g T:=
 f.but (h.butg i) k λt j _ m ⟨_,n,e⟩=>h.ne (f.own t j).1.r n m e
structure Ck(w W:World)(a:Option Addr)(c:Nat)(M:List Iv)(L:List Iv):Prop where
 j:JOwn w W a c M
 f:Fam w W (iR M)
 e:M.map Iv.it=L.map Iv.it
 n:∀r∈M,N64 r.child/\N64 r.size
theorem Ck.len{w W:World}{a:Option Addr}{c:Nat}{M L:List Iv}(h:Ck w W a c M L):M.length=L.length:=by have:=bf List.length h.e;simpa using this
theorem Ck.keep{w W d:World}{a:Option Addr}{c:Nat}{M L:List Iv}(h:Ck w W a c M L)(hb:Below W.heap.size W d):Ck w d a c M L:=⟨h.j.keep hb,h.f.keep hb,h.e,h.n⟩
theorem Ck.nil(w:World){W:World}(hb:Below w.heap.size w W):Ck w W none 0 [] []:=⟨JOwn.nil w hb,Fam.nil _ _,rfl,(λ_ h=>by cases h)⟩
theorem ma(w:World)(x:Iv)(g:Nat)(c:g=w.heap.size):∀j u,x.cs.toList[j]?=some u->(w.alloc (.cells x.cs 89)).cell? ((⟨g,0,none⟩:Addr).add j)=some u:=by
 subst c;intro j u h;rw[Addr.add_mid,b9,am _ _ _ _ _ _ (aZ _ _)];simpa using h
theorem Ck.push{w W e d f:World}{a:Option Addr}{c g c2:Nat}{M L:List Iv}{q x:Iv}(h:Ck w W a c M L)(k:Io W e q)(y:q.it=x.it)(A:N64 q.child/\N64 q.size)(hb:Below e.heap.size e d)(p:Jw f (some ⟨g,0,none⟩) c2 (M++[q]))(t:New d a (some ⟨g,0,none⟩))(j:d.grownBy f (a.map Addr.block)):
 Ck w f (some ⟨g,0,none⟩) c2 (M++[q]) (L++[x]):=by
 have i:Below W.heap.size W d:=bt k.k.b hb;have m:=h.j.step i p t j;have n:Fam w d (iR M++q.rows):=h.f.add (k.fam.keep hb) i h.j.b;refine⟨m,?_,by rw[dd,dd,h.e];simp[y],λr hr=>?_⟩
 . rw[jW,lH];exact n.grown (h.j.r.keep i) j m.b
 . rcases bG.1 hr with hr|hr
   . exact h.n r hr
   . rw[aM.1 hr];exact A
theorem it_n{q x:Iv}(h:q.it=x.it)(e:N64 x.child/\N64 x.size):N64 q.child/\N64 q.size:=by
 have c:q.child=x.child:=bf It.child h;have d:q.size=x.size:=bf It.size h;rw[c,d];exact e
theorem nW(w:World)(a:Option Addr)(n c:Nat)(L:List Iv)(d:Js w a L)(hn:n=L.length)(hL:L.length<=1048576)(C:∀r∈L,r.key.length<=140737488355264/\r.val.length<=140737488355264):
 Calls prog 139 #[.slice a n c] w λe w'=>∃P R M,e=.returned (.slice P L.length R)/\Ck w w' P R M L:=by
 subst hn;have J:=gW λ(p:World)(hb:Below w.heap.size w p)(k:Nat)(hk:k<L.length)=>(d.keep hb).at hk
 have F:=gW λ(p:World)(hb:Below w.heap.size w p)(k:Nat)(hk:k<L.length)=>vE p (L.getD k Iv.zero) ((d.1 _ (ie hk)).keep hb) (C _ (ie hk)).1 (C _ (ie hk)).2
 have I:=gW λ(k:Nat)(hk:k<L.length)=>And.intro (d.1 _ (ie hk)).nc (d.1 _ (ie hk)).ns
 have K:=gW λ(k:Nat)(hk:k<L.length)=>(show L.take (k+1)=L.take k++[L.getD k Iv.zero] from by rw[bY hk];simp[hk])
 clear d C;go_enter func139,ntmps139;go_wp2;go_loopw [3,4] (λo i wx=>∃(k:Nat)(g:Option Addr)(j:Nat)(M:List Iv),k<=L.length/\i=.int .i64 k/\o=.slice g k j/\Ck w wx g j M (L.take k)) (λ_ i _=>L.length-(intOf i).toNat)
 case atStart=>exact⟨0,none,0,[],an _,rfl,rfl,Ck.nil w (Below.refl _ _)⟩
 case round=>
  obtain⟨k,g,j,M,hk,rfl,rfl,y⟩:=hrel;have f:=gW y;have H:Hid (k=M.length):=by show _=_;rw[y.len,dh];omega
  clear y;by_cases m:k<L.length
  . have af:(k:Int)<(L.length:Int):=by omega
    have ab:k+1<=L.length:=by omega
    obtain⟨bI,ae,rfl,V⟩:=J.o _ f.o.j.b k m;obtain⟨W,X,Y,Z⟩:=iX V;have t:=gW (F.o _ f.o.j.b k m);have N1:=gW (I.o k m);have T1:=gW (K.o k m);have ac:M.length+1<=2199023255520:=by have:=H.o;omega
    clear V J F I K;generalize L.getD k Iv.zero=x at *;have aa:=gW λ(q:Iv)(h:q.it=x.it)=>it_n h N1.o
    obtain⟨aK,cK,ad,aV,cV,val,child,ag⟩:=x;simp only[Iv.vl,Iv.cs] at t W X Y Z;go_wp2_with fail
    refine t.o.mono ?_;rintro e D ⟨q,rfl,B,A⟩;have Q1:=gW B;have Q2:=gW A;have Q3:=gW (aa.o q A);have N:=gW ((f.o.j.keep B.k.b).r.keep (al D (.cells q.cs 89)));have E:=gW (ma D q D.heap.size rfl);clear B A t W X Y Z;obtain⟨qK,dK,kq,qV,dV,vq,cq,sq⟩:=q;simp only[Iv.cs] at N E ⊢;go_wp2_with (at_builtin;refine xl rfl _ _ rfl g k j M rfl H.o N.o ⟨_,0,none⟩ 1 ⟨qK,dK,kq,qV,dV,vq,cq,sq⟩ rfl E.o ac ?_)
    intro g2 c2 w5 d S U;have O:=gW (f.o.push Q1.o Q2.o Q3.o (al _ _) d S U);rw[<-T1.o] at O;clear d S U;go_wp2;go_roundw
    case rel=>exact⟨k+1,_,c2,_,ab,by first|(go_num;done)|exact bf (Value.int IntKind.i64) (by omega),rfl,O.o⟩
    case measure=>first|exact iU _ _ _ rfl m|(simp[intOf];omega)
  . obtain rfl:k=L.length:=by omega
    rw[dp] at f;go_wp2;go_ret;exact⟨g,j,M,rfl,f.o⟩
theorem CopyPage_any(w:World)(r:Pv)(D:Pi w r)(hd:r.data.length<=140737488355264)(hi:r.items.length<=1048576)(hs:∀x∈r.items,x.key.length<=140737488355264/\x.val.length<=140737488355264):
 Calls prog 94 #[r.vl] w λe w'=>∃q:Pv,e=.returned q.vl/\Pi w' q/\q.pg=r.pg/\Below w.heap.size w w':=by
 have S1:=gW λF (hb:Below w.heap.size w F)=>nW F r.aI r.items.length r.cI r.items (D.it.keep hb) rfl hi hs
 have S2:=gW λF (hb:Below w.heap.size w F)=>kf F r.aD r.data.length r.cD r.data (D.bd.keep hb) rfl hd
 have L8:=gW D.bd.1;have N:=gW (And.intro D.nk (And.intro D.nl D.nn));clear D;unfold Pv.vl;obtain⟨kind,m,A,C,n,y,B,j,next⟩:=r
 have L:=gW λ(W:World)(h:W.heap[w.heap.size]?=some (.cells (Pv.cs ⟨kind,m,A,C,n,y,B,j,next⟩) 77))=>Bx.page (p:=⟨kind,m,A,C,n,y,B,j,next⟩) h
 have IS:=gW λ(W:World)(h:W.heap[w.heap.size]?=some (.cells (Pv.cs ⟨kind,m,A,C,n,y,B,j,next⟩) 77))(a b c d f:Value)=>Bx.page (p:=⟨kind,m,A,C,n,y,B,j,next⟩) ((show Bx W 77 w.heap.size _ from h).but (nF (w.heap.size+1) W a b c d f) (by omega))
 have TZ:=gW λ(W:World)(h:W.heap[w.heap.size+1]?=some (.cells (Pv.cs Pv.zero) 77))=>And.intro (Bx.page (p:=Pv.zero) h) (fr4 (show Bx W 77 (w.heap.size+1) _ from h))
 have TM:=gW λ(W:World)(h:W.heap[w.heap.size+1]?=some (.cells (Pv.cs Pv.zero) 77))(a b c d f:Value)=>wC (show Bx W 77 (w.heap.size+1) _ from h) a b c d f
 dsimp only[Pv.cs,Pv.zero,bg] at *;go_enter func94,ntmps94;go_wp2;have i:Hid (Below ((w.alloc (.cells #[.int .i64 kind,.int .i64 m,.slice A n.length C,.slice y j.length B,.int .i64 next] 77)).alloc (.cells #[.int .i64 0,.int .i64 0,.slice none 0 0,.slice none 0 0,.int .i64 0] 77)).heap.size ((w.alloc (.cells #[.int .i64 kind,.int .i64 m,.slice A n.length C,.slice y j.length B,.int .i64 next] 77)).alloc (.cells #[.int .i64 0,.int .i64 0,.slice none 0 0,.slice none 0 0,.int .i64 0] 77)) ((w.alloc (.cells #[.int .i64 kind,.int .i64 m,.slice A n.length C,.slice y j.length B,.int .i64 next] 77)).alloc (.cells #[.int .i64 0,.int .i64 0,.slice none 0 0,.slice none 0 0,.int .i64 0] 77)).drew):=(Below.refl _ _).drew
 have I:=L.o _ (ic w _ _ i.o).1;have hn:w.heap.size+1≠w.heap.size:=by omega
 go_region_held3 (λw'=>w'.cell? ⟨w.heap.size,0,none⟩=some (.int .i64 kind)/\w'.cell? ⟨w.heap.size,1,none⟩=some (.int .i64 m)/\w'.cell? ⟨w.heap.size,2,none⟩=some (.slice A n.length C)/\w'.cell? ⟨w.heap.size,3,none⟩=some (.slice y j.length B)/\w'.cell? ⟨w.heap.size,4,none⟩=some (.int .i64 next))
  (first|with_reducible exact I|with_reducible exact IS.o _ (ic w _ _ i.o).1 _ _ _ _ _)
  (first|(go_at_call 139;with_reducible refine(S1.o _ (ic w _ _ i.o).2.2.1).mono ?_;rintro e F ⟨P,K,M,rfl,Y⟩;have ab:=Y.j.b;have i:=gW (bt i.o ab);have I:=L.o _ (ic w _ _ i.o).1;have t:=gW Y;clear ab Y)|(go_at_call 73;with_reducible refine(S2.o _ (ic w _ _ i.o).2.2.1).mono ?_;rintro e w2 ⟨R,O,rfl,Z⟩;have aa:=Z.b;have i:=gW (bt i.o aa);have I:=L.o _ (ic w _ _ i.o).1;obtain⟨⟨y0,y1,y2,y3,y4⟩,f0,f1,f2,f3,f4⟩:=TZ.o _ (ic w _ _ i.o).2.1;have t:=gW (t.o.keep aa);have R2:=gW Z.r;clear aa Z))
 clear I;have M1:=gW (TM.o _ (ic w _ _ i.o).2.1 (.int .i64 kind) (.int .i64 m) (.slice P n.length K) (.slice R j.length O) (.int .i64 next))
 have H:=gW (nF (w.heap.size+1) w2 (.int .i64 kind) (.int .i64 m) (.slice P n.length K) (.slice R j.length O) (.int .i64 next))
 have TB:=gW (ic w _ _ i.o).2.2.1;have J:Hid (Bx w2 77 (w.heap.size+1) _):=(ic w _ _ i.o).2.1;clear y0 y1 y2 y3 y4 f0 f1 f2 f3 f4 i;go_wp2;refine aF (v:=.agg _) (dB results94 _ _ (w.heap.size+1) 77 _ (0,0) _ rfl M1.o underlying77 rfl iD) rfl ?_;have ac:Below w.heap.size w _:=((But.ofBelow (S:=λk=>k=w.heap.size+1) TB.o).trans H.o λ_ _ e=>e).below λk hk e=>by omega
 have r2:=R2.o.but H.o λx E e=>R2.o.nty J.o (by decide) E e
 have j2:=t.o.j.r.but H.o λx E e=>t.o.j.r.nty J.o (by decide) E e
 have ae:=t.o.len
 have ii:∀r∈M,Ii _ r:=λr U=>by
  have k:=Fam.io (t.o.f.sub (uX U));have V:=k.k.r.but H.o λx E e=>k.k.r.nty J.o (by decide) E e
  have X:=k.v.r.but H.o λx E e=>k.v.r.nty J.o (by decide) E e
  exact⟨V.bs k.k8 V.len_le,V.cap,X.bs k.v8 X.len_le,X.cap,(t.o.n r U).1,(t.o.n r U).2⟩
 have ad:M.length<=K:=by
  rcases j2.cases with⟨_,h1,h2⟩|⟨g,cur,_,_,h1,_⟩
  . rw[h1,h2];simp
  . exact h1
 refine⟨⟨kind,m,P,K,M,R,O,j,next⟩,by rw[<-ae],⟨j2.qs ii (by omega),ad,r2.bs L8.o r2.len_le,r2.cap,N.o.1,N.o.2.1,N.o.2.2⟩,?_,ac⟩
 unfold Pv.pg;dsimp only;rw[t.o.e]
end
section
open Go.RowKit
variable {v0 W W2:World} {p:Pv} {g3 gD g j:Nat} {D:List Iv}
end
section
open Go.RowKit
theorem sG:(prog.info? 37).map (λi=>(i.zero,i.size,i.bytes))=some (some (.slice none 0 0),1,24):=by kernel_rfl
theorem Ct(w:World)(f:TypeId)(a:Option Addr)(n cap:Nat)(l:List Nat)(C:n=l.length)(r:Rw w a cap l)(e:Addr)(c x:Nat)(B:w.cell? e=some (.int .u8 ((x:Nat):Int)))(L:l.length+1<=140737488355328):
 ∃g q w',(Builtin.append_ #[37,37] f #[.slice a n cap,.slice (some e) 1 c]).run prog w=.ok (.slice (some ⟨g,0,none⟩) (n+1) q) w'/\
  Rw w' (some ⟨g,0,none⟩) q (l++[x])/\New w a (some ⟨g,0,none⟩)/\w.grownBy w' (a.map Addr.block)/\(a=some ⟨g,0,none⟩\/w.heap.size<=g/\Below w.heap.size w w'):=by
 obtain⟨g,q,w',d,I,J,K,N⟩:=wm w f a n cap l C r e c x B L;refine⟨g,q,w',d,I,J,K,?_⟩;subst C;obtain⟨y,t,F,i,H⟩:=dN rs
 have A:∀j u,([.int .u8 ((x:Nat):Int)]:List Value)[j]?=some u->w.cell? (e.add j)=some u:=by
  intro j u m;match j,m with
  |0,m=>simp at m;subst m;simpa[Addr.add] using B
 rcases r.cases with⟨rfl,rfl,rfl⟩|⟨g',cur,rfl,hg,k1,k2,k3,k4⟩
 . have h:=run_append_nil (P:=prog) w 37 f 5 y (.int .u8 0) underlying37 t F e 1 c [.int .u8 ((x:Nat):Int)] (by rw[i];rfl) A (by decide) (by decide) (by rw[H];decide)
   rw[show([]:List Nat).length=0 from rfl,h] at d
   simp only[fy,bT,ay,Addr.mk.injEq] at d;obtain⟨⟨⟨rfl,_⟩,_⟩,rfl⟩:=d;exact .inr ⟨ai _,⟨rfl,rfl,rfl,by simp,λk hk=>fW w.drew _ hk⟩⟩
 . by_cases M:l.length+1<=cap
   . have h:=run_append_room (P:=prog) w 37 f 5 y underlying37 t g' l.length cap cur hg e 1 c [.int .u8 ((x:Nat):Int)] (by rw[i];rfl) A (by intro u E;simp at E;subst E;rfl) M (by rw[i];show l.length*1+1<=cur.size;omega)
     rw[h] at d;simp only[fy,bT,ay,Addr.mk.injEq] at d;obtain⟨⟨⟨rfl,_⟩,_⟩,rfl⟩:=d;exact .inl rfl
   . have holds:∀j u,(vb l)[j]?=some u->w.cell? ((⟨g',0,none⟩:Addr).add j)=some u:=r.cells (g:=g') rfl;have h:=run_append_grow (P:=prog) w 37 f 5 y (.int .u8 0) underlying37 t F ⟨g',0,none⟩ l.length cap (vb l) (by rw[je,i,dG]) holds e 1 c [.int .u8 ((x:Nat):Int)] (by rw[i];rfl) A (by omega) (by omega) (growslice_fits (by omega) (by rw[H];omega))
     rw[h] at d;simp only[fy,bT,ay,Addr.mk.injEq] at d;obtain⟨⟨⟨rfl,_⟩,_⟩,rfl⟩:=d;exact .inr ⟨ai _,⟨rfl,rfl,rfl,by simp,λk hk=>fW w.drew _ hk⟩⟩
theorem vR{w:World}{k:Array Oper}{m:List Oper}{o:Oper}{a:Act}{Q:Exit->Act->World->Prop}(L:o.guard=none)(s x:Operand)
 (F:o.op=.call {callee:=.builtin .append,args:=#[s,x],argTypes:=#[37,37]}) (d:Option Addr) (n cap:Nat) (l:List Nat) (I:a.eval s=.slice d n cap) (E:n=l.length) (B:Rw w d cap l)
 (f:Addr) (c i:Nat) (J:a.eval x=.slice (some f) 1 c) (C:w.cell? f=some (.int .u8 ((i:Nat):Int))) (M:l.length+1<=140737488355328)
 (h:∀g e w',Rw w' (some ⟨g,0,none⟩) e (l++[i])->New w d (some ⟨g,0,none⟩)->w.grownBy w' (d.map Addr.block)->(d=some ⟨g,0,none⟩\/w.heap.size<=g/\Below w.heap.size w w')->wpList prog k Q m (a.put o.dst (.slice (some ⟨g,0,none⟩) (n+1) e)) w'):wpList prog k Q (o::m) a w:=by
 refine eI L λK A=>?_
 obtain⟨g,e,w',H,q,r,t,y⟩:=Ct w o.type d n cap l E B f c i C M;unfold Oper.wp execOp;simp only[F,resolve,invoke,builtin,dS,dT,dy,dM,bO,dW,I,J,H];exact A _ _ (h g e w' q r t y)
def Ar(w:World)(at':Option Addr)(ct:Nat)(vs:List Value):Prop:=w.ownsRow 0 37 1 (.slice at' vs.length ct) vs.length vs
theorem Ar.nil(w:World):Ar w none 0 []:=fa w 0 37 1
theorem Ar.cases{w:World}{a:Option Addr}{cap:Nat}{vs:List Value}(h:Ar w a cap vs):(a=none/\cap=0/\vs=[])\/
 ∃g cur,a=some ⟨g,0,none⟩/\w.heap[g]?=some (.cells cur 37 (0,0))/\vs.length<=cap/\cap<=maxLen/\cur.size=cap/\cur.toList.take vs.length=vs:=by
 obtain⟨_,d⟩:=h;rcases d with⟨hv,h0⟩|⟨g,cap',cur,hv,_,hg,hn,hm,hs,ht⟩
 . simp only[bT] at hv;exact .inl ⟨hv.1,hv.2.2,c7.1 h0⟩
 . simp only[bT] at hv;obtain⟨c,_,rfl⟩:=hv;exact .inr ⟨g,cur,c,hg,hn,hm,by omega,by rw[dG] at ht;exact ht⟩
theorem Ar.mk{w:World}{g cap:Nat}{cur:Array Value}{vs:List Value}(c:w.heap[g]?=some (.cells cur 37 (0,0)))(e:vs.length<=cap)(d:cap<=maxLen)(h:cur.size=cap)(f:cur.toList.take vs.length=vs):Ar w (some ⟨g,0,none⟩) cap vs:=
 ⟨by rw[dG],.inr ⟨g,cap,cur,rfl,an _,c,e,d,by omega,by rw[dG];exact f⟩⟩
theorem Ar.but{S:Nat->Prop}{w w':World}{a:Option Addr}{cap:Nat}{vs:List Value}(h:Ar w a cap vs)(hb:But S w w')(c:∀x,a=some x->¬S x.block):Ar w' a cap vs:=by
 rcases h.cases with⟨rfl,rfl,rfl⟩|⟨g,cur,rfl,hg,h1,h2,h3,h4⟩
 . exact Ar.nil w'
 . exact Ar.mk ((hb.block g (ae.1 hg).1 (c _ rfl)).trans hg) h1 h2 h3 h4
theorem Ar.keep{w w':World}{a:Option Addr}{cap:Nat}{vs:List Value}(h:Ar w a cap vs)(hb:Below w.heap.size w w'):Ar w' a cap vs:=
 h.but (S:=λ_=>False) (But.ofBelow hb) (λ_ _ c=>c)
theorem Ar.cell{w:World}{a:Option Addr}{cap:Nat}{vs:List Value}(h:Ar w a cap vs){i:Nat}{v:Value}(hi:vs[i]?=some v):∃g,a=some ⟨g,0,none⟩/\w.cell? ⟨g,i,none⟩=some v:=by
 rcases h.cases with⟨rfl,rfl,rfl⟩|⟨g,cur,rfl,hg,h1,h2,h3,h4⟩
 . cases hi
 . refine⟨g,rfl,?_⟩;have c:=(bE.1 hi).1;have e:(cur.toList.take vs.length)[i]?=some v:=by rw[h4];exact hi
   rw[dJ,if_pos c] at e;rw[am _ _ _ _ _ _ hg,<-e];simp
theorem Ar.ne{w:World}{a f:Option Addr}{cap k:Nat}{vs:List Value}{l:List Nat}(h:Ar w a cap vs)(i:Rw w f k l){x y:Addr}(c:a=some x)(d:f=some y):x.block≠y.block:=by
 rcases h.cases with⟨rfl,_⟩|⟨g,cur,rfl,hg,_⟩
 . cases c
 rcases i.cases with⟨rfl,_⟩|⟨g',cur',rfl,hg',_⟩
 . cases d
 simp only[ay] at c d;subst c d;show g≠g';intro e;subst e;rw[hg] at hg';simp at hg'
theorem x9(w:World)(q:TypeId)(a:Option Addr)(n cap:Nat)(vs:List Value)(B:n=vs.length)(t:Ar w a cap vs)(h:Addr)(c:Nat)(v:Value)(x:w.cell? h=some v)(r:v.oneCell'=true)(L:(vs.length+1)*24<=140737488355328):
 ∃g f w',(Builtin.append_ #[27,27] q #[.slice a n cap,.slice (some h) 1 c]).run prog w=.ok (.slice (some ⟨g,0,none⟩) (n+1) f) w'/\
  Ar w' (some ⟨g,0,none⟩) f (vs++[v])/\New w a (some ⟨g,0,none⟩)/\w.grownBy w' (a.map Addr.block):=by
 subst B;obtain⟨F,A,I,J,K⟩:=dN sG
 obtain⟨g,f,w',C,H,m,k3,M⟩:=eH (P:=prog) w 27 q 0 37 F (.slice none 0 0) 1 24 underlying27 A I J K rfl (by decide) (.slice a vs.length cap) vs.length vs t h 1 c [v] rfl
  (by intro j u d
      match j,d with
      |0,d=>simp at d;subst d;simpa[Addr.add] using x) (by intro u i;simp at i;subst i;exact r) (by decide) (by unfold maxLen;omega) L (an _) w.heap.size rfl
 rw[mw] at m k3;refine⟨g,f,w',C,?_,?_,m⟩
 . unfold Ar;rw[af];exact H
 . intro y k;simp only[ay] at k;subst k;rcases k3 with k3|k3
   . obtain⟨z,E,e⟩:=map_some k3;exact .inl ⟨z,E,e⟩
   . exact .inr (by show _<=g;omega)
theorem tK{w:World}{i:Array Oper}{k:List Oper}{o:Oper}{a:Act}{Q:Exit->Act->World->Prop}(J:o.guard=none)(s x:Operand)
 (A:o.op=.call {callee:=.builtin .append,args:=#[s,x],argTypes:=#[27,27]}) (d:Option Addr) (n cap:Nat) (vs:List Value) (C:a.eval s=.slice d n cap) (y:n=vs.length) (r:Ar w d cap vs)
 (f:Addr) (c:Nat) (v:Value) (E:a.eval x=.slice (some f) 1 c) (t:w.cell? f=some v) (m:v.oneCell'=true) (L:(vs.length+1)*24<=140737488355328)
 (h:∀g e w',Ar w' (some ⟨g,0,none⟩) e (vs++[v])->New w d (some ⟨g,0,none⟩)->w.grownBy w' (d.map Addr.block)->wpList prog i Q k (a.put o.dst (.slice (some ⟨g,0,none⟩) (n+1) e)) w'):wpList prog i Q (o::k) a w:=by
 refine eI J λK q=>?_
 obtain⟨g,e,w',B,F,H,I⟩:=x9 w o.type d n cap vs y r f c v t m L;unfold Oper.wp execOp;simp only[A,resolve,invoke,builtin,dS,dT,dy,dM,bO,dW,C,E,B];exact q _ _ (h g e w' F H I)
theorem Rw.front{w:World}{a:Option Addr}{cap:Nat}{l m:List Nat}(h:Rw w a cap (l++m)):Rw w a cap l\/a=none:=by
 rcases h.cases with⟨rfl,rfl,hn⟩|⟨g,cur,rfl,hg,h1,h2,h3,h4⟩
 . exact .inr rfl
 . refine .inl (Rw.mk hg (by rw[af] at h1;omega) h2 h3 ?_)
   have e:=bf (List.take l.length) h4;rw[List.take_take,af,d6 (by omega),om,fR (je l)] at e
   exact e
theorem Rw.addr2{w:World}{a:Option Addr}{cap:Nat}{l:List Nat}(h:Rw w a cap l)(c:0<l.length):∃g,a=some ⟨g,0,none⟩/\l.length<=cap/\cap<=maxLen:=by
 rcases h.cases with⟨rfl,rfl,rfl⟩|⟨g,cur,rfl,hg,h1,h2,h3,h4⟩
 . simp at c
 . exact⟨g,rfl,h1,h2⟩
theorem za(w:World)(q:TypeId)(a:Option Addr)(n cap:Nat)(vs:List Value)(C:n=vs.length)(t:Ar w a cap vs)(h:Addr)(m c:Nat)(d:List Value)(B:m=d.length)(x:∀j u,d[j]?=some u->w.cell? (h.add j)=some u)(r:∀u∈d,u.oneCell'=true)(E:0<d.length)(N:(vs.length+d.length)*24<=140737488355328):
 ∃g f w',(Builtin.append_ #[27,27] q #[.slice a n cap,.slice (some h) m c]).run prog w=.ok (.slice (some ⟨g,0,none⟩) (n+m) f) w'/\
  Ar w' (some ⟨g,0,none⟩) f (vs++d)/\New w a (some ⟨g,0,none⟩)/\w.grownBy w' (a.map Addr.block):=by
 subst C B;obtain⟨I,A,K,L,M⟩:=dN sG
 obtain⟨g,f,w',F,J,k,k3,O⟩:=eH (P:=prog) w 27 q 0 37 I (.slice none 0 0) 1 24 underlying27 A K L M rfl (by decide) (.slice a vs.length cap) vs.length vs t h d.length c d (by rw[dG])
  x r E (by unfold maxLen;omega) N (an _) w.heap.size rfl
 rw[mw] at k k3;refine⟨g,f,w',F,?_,?_,k⟩
 . unfold Ar;rw[af];exact J
 . intro y i;simp only[ay] at i;subst i;rcases k3 with k3|k3
   . obtain⟨z,H,e⟩:=map_some k3;exact .inl ⟨z,H,e⟩
   . exact .inr (by show _<=g;omega)
theorem uk{W c:World}{g:Nat}{o:Obj}(h:W.heap[g]?=some o)(hb:Below W.heap.size W c):c.heap[g]?=some o:=(hb.block _ (ae.1 h).1).trans h
def bv(t:Br):Value:=.slice t.a t.l.length t.c
end
section
open Go.RowKit
end
section
open Go.RowKit
end
section
open Go.RowKit
end
section
open Go.RowKit
def mkA(i k:Nat):Nat:=(i*31+k*7+1)%256
def fl(i n:Nat):List Nat:=(List.range n).map (mkA i)
theorem jy(i n:Nat):(fl i n).length=n:=by simp[fl]
theorem wB(i n:Nat):fl i (n+1)=fl i n++[mkA i n]:=by simp[fl,gT]
theorem Ax(i n k:Nat)(h:k<n):(fl i n).getD k 0=mkA i k:=by simp[fl,h]
theorem DO(i n:Nat):∀x∈fl i n,x<256:=by
 intro x c;obtain⟨k,_,rfl⟩:=bM.1 c;exact fJ _ (by decide)
theorem AH(i k:Nat)(l:List Nat)(h:k<l.length):(fl i k++l.drop k).set k (mkA i k)=fl i (k+1)++l.drop (k+1):=by
 rw[ee _ _ (by rw[jy];exact ai _),jy,dU,co h,eY,wB,aE]
 rfl
def nh(w:World)(n:Nat)(A:Nat->Option Addr)(C:Nat->Nat)(G:Nat->List Nat):Prop:=∀i,i<n->Rw w (A i) (C i) (G i)
def yz(n:Nat)(A:Nat->Option Addr):Prop:=∀i j,i<n->j<n->i≠j->∀x y,A i=some x->A j=some y->x.block≠y.block
def oK(n:Nat)(A:Nat->Option Addr)(k:Nat):Prop:=∃i,i<n/\∃x,A i=some x/\x.block=k
theorem nh.congr{w:World}{n:Nat}{A:Nat->Option Addr}{C:Nat->Nat}{G c:Nat->List Nat}(h:nh w n A C G)(e:∀i,i<n->G i=c i):nh w n A C c:=λi d=>by rw[<-e i d];exact h i d
theorem nh.set{w:World}{n:Nat}{A:Nat->Option Addr}{C:Nat->Nat}{G:Nat->List Nat}(h:nh w n A C G)(f:yz n A){j g:Nat}(m:j<n)(c:A j=some ⟨g,0,none⟩)(k v:Nat):
 nh (w.setCell ⟨g,k,none⟩ (.int .u8 ((v:Nat):Int))) n A C (λi=>if i=j then (G j).set k v else G i):=by
 intro i d;by_cases e:i=j
 . subst e;dsimp only;rw[if_pos rfl,c];have:=h i d;rw[c] at this;exact this.set k v
 . dsimp only;rw[if_neg e];exact(h i d).but (But.cell1 w g k _) λx q=>f i j d m e x _ q c
def P2(w wx:World)(n:Nat)(A:Nat->Option Addr)(C:Nat->Nat)(N:Nat->Nat)(j:Nat)(ag:Option Addr)(cg:Nat)(B:Nat->Option Addr)(D:Nat->Nat):Prop:=
 Ar wx ag cg ((List.range j).map λi=>Value.slice (B i) (N i+20) (D i))/\
 (∀i,i<j->Rw wx (B i) (D i) (fl i (N i+20))/\Bs wx (A i) (fl i (N i))/\New w (A i) (B i))/\
 (∀i,j<=i->i<n->Rw wx (A i) (C i) (fl i (N i)))/\
 (∀i i',i<i'->i'<j->∀x y,B i=some x->B i'=some y->x.block≠y.block)/\
 But (oK n A) w wx/\New w none ag
theorem oA{w c:World}{a:Option Addr}(h:w.grownBy c (a.map Addr.block)):But (λq=>∃x,a=some x/\x.block=q) w c:=
 (But.refl _ _).grown h λ_ hk _=>map_some hk
theorem P2.next{w k w3 wr:World}{n:Nat}{A:Nat->Option Addr}{C N:Nat->Nat}{j:Nat}{F M t:Option Addr}{P Y I:Nat}{B:Nat->Option Addr}{D:Nat->Nat}{o:Obj}
 (L:yz n A) (hA0:∀i,i<n->∀x,A i=some x->x.block<w.heap.size) (r:j<n) (h:P2 w wr n A C N j F P B D) (E:But (λq=>∃x,A j=some x/\x.block=q) wr k)
 (ae:Rw k t I (fl j (N j+20))) (ad:Bs k (A j) (fl j (N j))) (Z:t=A j\/∀x,t=some x->wr.heap.size<=x.block)
 (ac:Ar w3 M Y (((List.range j).map λi=>Value.slice (B i) (N i+20) (D i))++[.slice t (N j+20) I])) (hN:New (k.alloc o) F M) (hg:(k.alloc o).grownBy w3 (F.map Addr.block)):
 P2 w w3 n A C N (j+1) M Y (λi=>if i=j then t else B i) (λi=>if i=j then I else D i):=by
 obtain⟨R,J,S,h4,U,K⟩:=h;have ak:=U.size;have al:=E.size;have ah:Ar k F P ((List.range j).map λi=>Value.slice (B i) (N i+20) (D i)):=R.but E λx f ⟨y,d,e⟩=>R.ne (S j (ai _) r) f d e.symm
 have step:But (λq=>∃x,F=some x/\x.block=q) k w3:=((But.refl _ k).alloc o).trans (oA hg) λ_ _ h=>h
 have row:∀{a c l},Rw k a c l->Rw w3 a c l:=λV=>V.but step λx f ⟨y,d,e⟩=>ah.ne V d f e
 have bs:∀{a:Option Addr}{l:List Nat},Bs k a l->(∀x,a=some x->x.block<w.heap.size)->Bs w3 a l:=λhb af=>hb.but step λx f _ ⟨y,d,e⟩=>by
  have h7:=af x f;rcases K y d with⟨z,hz,_⟩|h8
  . cases hz
  . omega
 have ab:∀i,i<j->∀x,B i=some x->¬ ∃y,A j=some y/\y.block=x.block:=by
  rintro i H x f ⟨y,d,e⟩;rcases (J i H).2.2 x f with⟨z,hz,m⟩|h7
  . exact L i j (by omega) r (by omega) z y hz d (m.trans e.symm)
  . have:=hA0 j r y d;omega
 refine⟨?_,?_,?_,?_,?_,?_⟩
 . rw[gT,dd]
   have e:((List.range j).map λi=>Value.slice (if i=j then t else B i) (N i+20) (if i=j then I else D i))=(List.range j).map λi=>Value.slice (B i) (N i+20) (D i):=by
    apply List.map_congr_left;intro i H;have:=dv.1 H;simp[show i≠j by omega]
   rw[e];simpa using ac
 . intro i H;by_cases e:i=j
   . subst e;dsimp only;rw[if_pos rfl,if_pos rfl];refine⟨row ae,bs ad (hA0 i r),?_⟩;intro x f;rcases Z with h7|h7
     . exact .inl ⟨x,by rw[<-h7];exact f,rfl⟩
     . exact .inr (by have:=h7 x f;omega)
   . dsimp only;rw[if_neg e,if_neg e];obtain⟨k1,k2,k3⟩:=J i (by omega)
     refine⟨row (k1.but E λx f=>ab i (by omega) x f),bs (k2.but E λx f _ ⟨y,d,m⟩=>L i j (by omega) r e x y f d m.symm) (hA0 i (by omega)),k3⟩
 . intro i H aa;exact row ((S i (by omega) aa).but E λx f ⟨y,d,m⟩=>L i j aa r (by omega) x y f d m.symm)
 . intro i X O aj x y f d;dsimp only at f d;rw[if_neg (by omega)] at f
   by_cases e:X=j
   . rw[if_pos e] at d;subst e;rcases Z with h7|h7
     . rw[h7] at d;exact λm=>ab i O x f ⟨y,d,m.symm⟩
     . have h8:=h7 y d;have h9:=(J i O).1.lt f;omega
   . rw[if_neg e] at d;exact h4 i X O (by omega) x y f d
 . refine(U.trans E λx _ ⟨y,d,e⟩=>⟨j,r,y,d,e⟩).trans step ?_
   rintro x f ⟨y,d,e⟩;rcases K y d with⟨z,hz,_⟩|h8
   . cases hz
   . omega
 . exact K.trans hN (by rw[size_alloc];omega)
theorem xR{wr i k:World}{d n:Option Addr}{g:Nat}{I:Nat}{l m:List Nat}{x:Nat}{o:Obj}(H:∀y,d=some y->y.block<wr.heap.size)(E:∀z∈l++m++[x],z<256)(J:l.length<=9223372036854775807)
 (F:But (λq=>∃y,d=some y/\y.block=q) wr i) (C:Bs i d l) (t:n=d\/∀y,n=some y->wr.heap.size<=y.block)
 (A:Rw k (some ⟨g,0,none⟩) I (l++m++[x])) (B:(i.alloc o).grownBy k (n.map Addr.block)) (c:n=some ⟨g,0,none⟩\/(i.alloc o).heap.size<=g/\Below (i.alloc o).heap.size (i.alloc o) k):
 But (λq=>∃y,d=some y/\y.block=q) wr k/\Bs k d l/\(some ⟨g,0,none⟩=d\/∀y,some (⟨g,0,none⟩:Addr)=some y->wr.heap.size<=y.block):=by
 have N:=F.size;refine⟨?_,?_,?_⟩
 . refine(F.alloc o).trans (oA B) ?_;rintro q M ⟨y,f,e⟩;rcases t with h|h
   . exact⟨y,by rw[<-h];exact f,e⟩
   . have:=h y f;omega
 . rcases c with c|⟨_,hb⟩
   . rcases t with h|h
     . rw[<-h,c];rw[aE] at A E;rcases A.front with h7|h7
       . exact h7.bs (λz r=>E z (eb _ r)) J
       . cases h7
     . refine(C.keep ((Below.refl _ _).alloc (ai _) o)).but (oA B) ?_;rintro y f _ ⟨z,r,e⟩;have K:=h z r;have L:=H y f;omega
   . exact(C.keep ((Below.refl _ _).alloc (ai _) o)).keep hb
 . rcases c with c|⟨c,_⟩
   . rw[<-c];rcases t with h|h
     . exact .inl h
     . exact .inr h
   . refine .inr λy f=>?_
     simp only[ay] at f;subst f;rw[size_alloc] at c;show _<=g;omega
set_option maxRecDepth 100000 in
theorem xA(w:World)(ah:Option Addr)(ct n:Nat)(A:Nat->Option Addr)(C:Nat->Nat)(L:Nat->List Nat)(aq:Ar w ah ct ((List.range n).map λi=>Value.slice (A i) (L i).length (C i)))(H:nh w n A C L)(hd:yz n A)(hn:n<=2932031007410)(hl:∀i,i<n->(L i).length+20<=140737488355328):
 Calls prog 23 #[.slice ah n ct] w λx w'=>x=.returned (.bool true)/\But (oK n A) w w':=by
 have HA:=gW aq;have HR:=gW H;have HD:=gW hd;have HL:=gW hl
 have ap:∀c,But (oK n A) w c->∀i,i<n->∃g,ah=some ⟨g,0,none⟩/\c.cell? ⟨g,i,none⟩=some (.slice (A i) (L i).length (C i)):=by
  intro c hb i r;refine(HA.o.but hb ?_).cell (by simp[r])
  rintro x O ⟨q,hq,y,P,e⟩;exact HA.o.ne (HR.o q hq) O P e.symm
 have Z:=gW ap;clear aq H hd hl ap;go_enter func23,ntmps23;go_wp2;go_loopw [3,4] (λi _ c=>∃j:Nat,j<=n/\i=.int .i64 j/\(nh c n A C (λi=>if i<j then fl i (L i).length else L i)/\But (oK n A) w c)) (λi _ _=>n-(intOf i).toNat)
 case atStart=>exact⟨0,an _,rfl,HR.o.congr λi _=>by simp,But.refl _ _⟩
 case round=>
  obtain⟨j,hj,rfl,X⟩:=hrel;have f:=gW X;clear X;by_cases d:j<n
  . have r:(j:Int)<(n:Int):=by omega
    obtain⟨aj,ab,J⟩:=Z.o wr f.o.2 j d;subst ab;have aA:=HL.o j d;go_wp2;go_loopw [4] (λt c=>∃k:Nat,k<=(L j).length/\t=.int .i64 k/\(nh c n A C (λi=>if i<j then fl i (L i).length else if i=j then fl j k++(L j).drop k else L i)/\But (oK n A) w c)) (λt _=>(L j).length-(intOf t).toNat)
    case atStart=>
     refine⟨0,an _,rfl,f.o.1.congr λi _=>?_,f.o.2⟩
     by_cases e:i=j
     . subst e;simp[fl]
     . simp[e]
    case round=>
     clear J;obtain⟨k,hk,rfl,au⟩:=hrel;have S:=gW au;clear au;obtain⟨b2,K,J⟩:=Z.o wr S.o.2 j d;simp only[ay,Addr.mk.injEq] at K;obtain⟨rfl,_⟩:=K;by_cases U:k<(L j).length
     . have ax:(k:Int)<((L j).length:Int):=by omega
       have E:=S.o.1 j d;simp only[eO,gJ,if_true] at E;have al:(fl j k++(L j).drop k).length=(L j).length:=by rw[af,jy,di];omega
       obtain⟨g,aa,_,_⟩:=E.addr2 (by rw[al];omega)
       rw[aa] at J E;have aw:=E.cell (i:=k) (by rw[al];exact U)
       have a4:wr.frozen? ⟨g,k,none⟩=false:=by
        rcases E.cases with⟨h0,_⟩|⟨g',cur,h0,hg',_⟩
        . cases h0
        . simp only[ay,Addr.mk.injEq] at h0;obtain⟨rfl,_⟩:=h0;exact bq wr g k _ _ hg'
       have aB:((j:Int)*31+(k:Int)*7+1)%256=((mkA j k:Nat):Int):=by unfold mkA;omega
       have aP:=gW (AH j k (L j) U);have ao:=gW aa;clear aa E al;generalize O:(fl j k++(L j).drop k).getD k 0=x at *;clear O;generalize mkA j k=R at *;go_wp2;go_roundw
       case rel=>
        refine⟨k+1,by omega,by go_num,(S.o.1.set HD.o d ao.o k R).congr λi r=>?_,S.o.2.setCell (p:=⟨g,k,none⟩) (λ_=>⟨j,d,_,ao.o,rfl⟩) _⟩
        by_cases e:i=j
        . subst e;simp only[if_true,eO,gJ];exact aP.o
        . simp only[e,gJ]
       case measure=>simp[intOf];omega
     . obtain rfl:k=(L j).length:=by omega
       go_wp2;go_roundw
       case rel=>
        refine⟨j+1,by omega,by go_num,S.o.1.congr λi r=>?_,S.o.2⟩
        by_cases e:i=j
        . subst e;simp
        . by_cases K:i<j
          . rw[if_pos K,if_pos (by omega)]
          . rw[if_neg K,if_neg e,if_neg (by omega)]
       case measure=>simp[intOf];omega
  . obtain rfl:n=j:=by omega
    have hA0:∀i,i<n->∀x,A i=some x->x.block<w.heap.size:=λi r x O=>(HR.o i r).lt O
    have aG:=gW hA0;have H1:Hid (P2 w wr n A C (λi=>(L i).length) 0 none 0 (λ_=>none) (λ_=>0)):=⟨Ar.nil _,λi r=>by omega,λi _ r=>by have:=f.o.1 i r;dsimp only at this;rwa [if_pos r] at this,λi i' _ a5=>by omega,f.o.2,New.none _ _⟩
    clear hA0 f;go_wp2;go_loopw [5,6,7,8] (λgr i _ _ c=>∃(j:Nat)(M:Option Addr)(V:Nat)(B:Nat->Option Addr)(D:Nat->Nat),j<=n/\i=.int .i64 j/\gr=.slice M j V/\P2 w c n A C (λi=>(L i).length) j M V B D) (λ_ i _ _ _=>n-(intOf i).toNat)
    case atStart=>exact⟨0,none,0,_,_,an _,rfl,rfl,H1.o⟩
    case round=>
     clear H1;obtain⟨j,M,V,B,D,hj,rfl,rfl,hP⟩:=hrel;have F:=gW hP;clear hP;by_cases d:j<n
     . have r:(j:Int)<(n:Int):=by omega
       have aA:=HL.o j d;obtain⟨aj,ab,J⟩:=Z.o wr F.o.2.2.2.2.1 j d;subst ab;have ac:=F.o.2.2.1 j (ai _) d;have aE:=gW ac;have aY:=gW (ac.bs (DO _ _) ac.len_le);have aZ:Hid (∀y,A j=some y->y.block<wr.heap.size):=λy P=>ac.lt P
       have aX:Hid (∀c,But (λq=>∃y,A j=some y/\y.block=q) wr c->c.cell? ⟨aj,j,none⟩=some (.slice (A j) (L j).length (C j))):=λc hb=>by
        obtain⟨b2,K,h2⟩:=Z.o c (F.o.2.2.2.2.1.trans hb λx _ ⟨y,P,e⟩=>⟨j,d,y,P,e⟩) j d
        simp only[ay,Addr.mk.injEq] at K;obtain⟨rfl,_⟩:=K;exact h2
       clear ac;go_wp2;generalize hW:wr=W at *;go_loopw [7,8] (λgv t c=>∃(k:Nat)(I:Option Addr)(N:Nat),k<=20/\t=.int .i64 k/\gv=.slice I ((L j).length+k) N/\(Rw c I N (fl j ((L j).length+k))/\(But (λq=>∃y,A j=some y/\y.block=q) W c/\Bs c (A j) (fl j (L j).length)/\(I=A j\/∀y,I=some y->W.heap.size<=y.block)))) (λ_ t _=>20-(intOf t).toNat)
       case atStart=>exact⟨0,A j,C j,by decide,rfl,rfl,aE.o,But.refl _ _,aY.o,.inl rfl⟩
       case round=>
        clear J;obtain⟨k,I,N,hk,rfl,rfl,X⟩:=hrel;have f:=gW X;clear X;by_cases U:k<20
        . have ax:(k:Int)<20:=by omega
          have J:=aX.o wr f.o.2.1;have a3:=block_lt_of_cell J;have aB:((j:Int)*31+(((L j).length:Int)+(k:Int))*7+1)%256=((mkA j ((L j).length+k):Nat):Int):=by unfold mkA;omega
          have HS:Hid (fl j ((L j).length+k)++[mkA j ((L j).length+k)]=fl j ((L j).length+(k+1))):=(wB j ((L j).length+k)).symm
          have aO:Hid (∃m,fl j ((L j).length+k)=fl j (L j).length++m):=⟨(fl j ((L j).length+k)).drop (L j).length,by
           have e:(fl j ((L j).length+k)).take (L j).length=fl j (L j).length:=by simp[fl,<-List.map_take,List.take_range]
           rw[<-e];exact(e7 _ _).symm⟩
          have aK:Hid (mkA j ((L j).length+k)<256):=fJ _ (by decide)
          have aJ:=gW (DO j ((L j).length+k));have hz:=jy j ((L j).length+k);have a6:=jy j (L j).length;generalize mkA j ((L j).length+k)=R at *;generalize fl j ((L j).length+k)=FL at *;go_wp2_with (at_builtin;refine vR rfl _ _ rfl I ((L j).length+k) N FL ?q1 hz.symm (f.o.1.keep ((Below.refl _ _).alloc (ai _) _)) ⟨wr.heap.size,0,none⟩ 1 R ?q2 ?q3 (by omega) ?_)
          try case q1=>rfl
          try case q2=>rfl
          try case q3=>simp
          intro g ae w2 H hN Y aF;obtain⟨m,hm⟩:=aO.o;have aC:=xR (m:=m) (x:=R) aZ.o (by rw[<-hm];intro z aW;rcases bG.1 aW with h|h;exact aJ.o z h;rw[aM] at h;have:=aK.o;omega) (by omega) f.o.2.1 f.o.2.2.1 f.o.2.2.2 (by rw[<-hm];exact H) Y (by rw[size_alloc];exact aF)
          rw[HS.o] at H;have aN:=gW H;have aQ:=gW aC;clear H hN Y aF aC hm;go_wp2;go_roundw
          case rel=>exact⟨k+1,_,ae,by omega,by go_num,rfl,aN.o,aQ.o⟩
          case measure=>simp[intOf];omega
        . obtain rfl:k=20:=by omega
          have aD:Ar wr M V ((List.range j).map λi=>Value.slice (B i) ((L i).length+20) (D i)):=F.o.1.but f.o.2.1 λx O ⟨y,P,e⟩=>F.o.1.ne aE.o O P e.symm
          have aV:((List.range j).map λi=>Value.slice (B i) ((L i).length+20) (D i)).length=j:=by simp
          have aH:=gW aD
          have aL:Hid (∀w3 ad ak o,Ar w3 ad ak (((List.range j).map λi=>Value.slice (B i) ((L i).length+20) (D i))++[.slice I ((L j).length+20) N])->New (wr.alloc o) M ad->(wr.alloc o).grownBy w3 (M.map Addr.block)->P2 w w3 n A C (λi=>(L i).length) (j+1) ad ak (λi=>if i=j then I else B i) (λi=>if i=j then N else D i)):=
           λw3 ad ak o h1 h2 h3=>F.o.next HD.o aG.o d f.o.2.1 f.o.1 f.o.2.2.1 f.o.2.2.2 h1 h2 h3
          clear aD;generalize ((List.range j).map λi=>Value.slice (B i) ((L i).length+20) (D i))=vs at*
          go_wp2_with (at_builtin;refine tK rfl _ _ rfl M j V vs ?r1 aV.symm (aH.o.keep ((Below.refl _ _).alloc (ai _) _)) ⟨wr.heap.size,0,none⟩ 1 (.slice I ((L j).length+20) N) ?r2 ?r3 rfl (by omega) ?_)
          try case r1=>rfl
          try case r2=>rfl
          try case r3=>simp
          intro g ae w2 H hN Y;have HQ:=gW (aL.o w2 _ ae _ H hN Y);clear H hN Y;go_wp2;go_roundw
          case rel=>exact⟨j+1,_,ae,_,_,by omega,by go_num,rfl,HQ.o⟩
          case measure=>simp[intOf];omega
     . obtain rfl:n=j:=by omega
       go_wp2;generalize hW:wr=W at *;go_loopw [9,10,11] (λi _ _ c=>∃j:Nat,j<=n/\i=.int .i64 j/\c=W) (λi _ _ _=>n-(intOf i).toNat)
       case atStart=>exact⟨0,an _,rfl,rfl⟩
       case round=>
        obtain⟨j,hj,rfl,am⟩:=hrel;subst am;by_cases d:j<n
        . have r:(j:Int)<(n:Int):=by omega
          have aA:=HL.o j d;obtain⟨aj,ab,J⟩:=Z.o _ F.o.2.2.2.2.1 j d;obtain⟨gg,aR,aw⟩:=F.o.1.cell (i:=j) (v:=.slice (B j) ((L j).length+20) (D j)) (by simp[d])
          subst ab aR;obtain⟨E,av,_⟩:=F.o.2.1 j d;obtain⟨g,ar,aT,aU⟩:=E.addr2 (by rw[jy];omega)
          rw[ar] at aw E;have a0:=gW E;have aI:=gW av;clear E av ar;unfold maxLen at aU;rw[jy] at aT;go_wp2;go_loopw [10,11] (λt _ c=>∃k:Nat,k<=(L j).length+20/\t=.int .i64 k/\c=wr) (λt _ _=>(L j).length+20-(intOf t).toNat)
          case atStart=>exact⟨0,an _,rfl,rfl⟩
          case round=>
           obtain⟨k,hk,rfl,am⟩:=hrel;subst am;by_cases U:k<(L j).length+20
           . have ax:(k:Int)<((L j).length:Int)+20:=by omega
             have a2:=a0.o.cell (i:=k) (by rw[jy];exact U)
             rw[Ax j _ k U] at a2;have aB:((j:Int)*31+(k:Int)*7+1)%256=((mkA j k:Nat):Int):=by unfold mkA;omega
             by_cases az:k<(L j).length
             . have a1:(k:Int)<((L j).length:Int):=by omega
               obtain⟨ba,oa,aa,aS⟩:=aI.o.at (j:=k) (by rw[jy];exact az)
               rw[Ax j _ k az] at aS;rw[aa] at J;generalize mkA j k=R at *;go_wp2;go_roundw
               case rel=>exact⟨k+1,by omega,by go_num,trivial⟩
               case measure=>simp[intOf];omega
             . have a1:¬(k:Int)<((L j).length:Int):=by omega
               generalize mkA j k=R at *;go_wp2;go_roundw
               case rel=>exact⟨k+1,by omega,by go_num,trivial⟩
               case measure=>simp[intOf];omega
           . obtain rfl:k=(L j).length+20:=by omega
             go_wp2;go_roundw
             case rel=>exact⟨j+1,by omega,by go_num,trivial⟩
             case measure=>simp[intOf];omega
        . obtain rfl:n=j:=by omega
          go_wp2;go_ret;exact⟨rfl,F.o.2.2.2.2.1⟩
end
section
open Go.RowKit
end
section
open Go.RowKit
def Br0:Br:=⟨none,0,[]⟩
end
section
open Go.RowKit
end
section
open Go.RowKit
theorem pE(w:World)(r:Pv)(J:Pi w r)(hd:r.data.length<=140737488355264)(hi:r.items.length<=1048576)(hs:∀x∈r.items,x.key.length<=140737488355264/\x.val.length<=140737488355264):
 Calls prog 94 #[r.vl] w λe w'=>∃q:Pv,e=.returned q.vl/\Pn w w' q/\q.items.length=r.items.length/\q.pg=r.pg/\Below w.heap.size w w':=by
 have S1:=gW λK (hb:Below w.heap.size w K)=>nW K r.aI r.items.length r.cI r.items (J.it.keep hb) rfl hi hs
 have S2:=gW λK (hb:Below w.heap.size w K)=>kf K r.aD r.data.length r.cD r.data (J.bd.keep hb) rfl hd
 have L8:=gW J.bd.1;have Y:=gW (And.intro J.nk (And.intro J.nl J.nn));clear J;unfold Pv.vl;obtain⟨kind,A,F,I,B,E,H,n,next⟩:=r
 have X:=gW λ(W:World)(h:W.heap[w.heap.size]?=some (.cells (Pv.cs ⟨kind,A,F,I,B,E,H,n,next⟩) 77))=>Bx.page (p:=⟨kind,A,F,I,B,E,H,n,next⟩) h
 have IS:=gW λ(W:World)(h:W.heap[w.heap.size]?=some (.cells (Pv.cs ⟨kind,A,F,I,B,E,H,n,next⟩) 77))(a b c d f:Value)=>Bx.page (p:=⟨kind,A,F,I,B,E,H,n,next⟩) ((show Bx W 77 w.heap.size _ from h).but (nF (w.heap.size+1) W a b c d f) (by omega))
 have TZ:=gW λ(W:World)(h:W.heap[w.heap.size+1]?=some (.cells (Pv.cs Pv.zero) 77))=>And.intro (Bx.page (p:=Pv.zero) h) (fr4 (show Bx W 77 (w.heap.size+1) _ from h))
 have TM:=gW λ(W:World)(h:W.heap[w.heap.size+1]?=some (.cells (Pv.cs Pv.zero) 77))(a b c d f:Value)=>wC (show Bx W 77 (w.heap.size+1) _ from h) a b c d f
 dsimp only[Pv.cs,Pv.zero,bg] at *;go_enter func94,ntmps94;go_wp2;have i:Hid (Below ((w.alloc (.cells #[.int .i64 kind,.int .i64 A,.slice F B.length I,.slice E n.length H,.int .i64 next] 77)).alloc (.cells #[.int .i64 0,.int .i64 0,.slice none 0 0,.slice none 0 0,.int .i64 0] 77)).heap.size ((w.alloc (.cells #[.int .i64 kind,.int .i64 A,.slice F B.length I,.slice E n.length H,.int .i64 next] 77)).alloc (.cells #[.int .i64 0,.int .i64 0,.slice none 0 0,.slice none 0 0,.int .i64 0] 77)) ((w.alloc (.cells #[.int .i64 kind,.int .i64 A,.slice F B.length I,.slice E n.length H,.int .i64 next] 77)).alloc (.cells #[.int .i64 0,.int .i64 0,.slice none 0 0,.slice none 0 0,.int .i64 0] 77)).drew):=(Below.refl _ _).drew
 have P:=X.o _ (ic w _ _ i.o).1;have hn:w.heap.size+1≠w.heap.size:=by omega
 go_region_held3 (λw'=>w'.cell? ⟨w.heap.size,0,none⟩=some (.int .i64 kind)/\w'.cell? ⟨w.heap.size,1,none⟩=some (.int .i64 A)/\w'.cell? ⟨w.heap.size,2,none⟩=some (.slice F B.length I)/\w'.cell? ⟨w.heap.size,3,none⟩=some (.slice E n.length H)/\w'.cell? ⟨w.heap.size,4,none⟩=some (.int .i64 next))
  (first|with_reducible exact P|with_reducible exact IS.o _ (ic w _ _ i.o).1 _ _ _ _ _)
  (first|(go_at_call 139;with_reducible refine(S1.o _ (ic w _ _ i.o).2.2.1).mono ?_;rintro e K ⟨g1,k,ab,rfl,U⟩;have ad:=U.j.b;have Z:=gW (az (az (eV _) (eV _)) (ic w _ _ i.o).2.2.2);have RL:=gW (λt (L:t∈iR ab) x (C:t.a=some x)=>(U.f.own t L).1.r.lt C);have i:=gW (bt i.o ad);have P:=X.o _ (ic w _ _ i.o).1;have m:=gW U;clear ad U)|(go_at_call 73;with_reducible refine(S2.o _ (ic w _ _ i.o).2.2.1).mono ?_;rintro e w2 ⟨R,d2,rfl,V⟩;have aa:=V.b;have af:=gW (az Z.o m.o.j.b.size);have RF:=gW (λy (N:R=some y)=>V.fresh N);have i:=gW (bt i.o aa);have P:=X.o _ (ic w _ _ i.o).1;obtain⟨⟨y0,y1,y2,y3,y4⟩,f0,f1,f2,f3,f4⟩:=TZ.o _ (ic w _ _ i.o).2.1;have m:=gW (m.o.keep aa);have R2:=gW V.r;clear aa V))
 clear P;have M1:=gW (TM.o _ (ic w _ _ i.o).2.1 (.int .i64 kind) (.int .i64 A) (.slice g1 B.length k) (.slice R n.length d2) (.int .i64 next))
 have O:=gW (nF (w.heap.size+1) w2 (.int .i64 kind) (.int .i64 A) (.slice g1 B.length k) (.slice R n.length d2) (.int .i64 next))
 have TB:=gW (ic w _ _ i.o).2.2.1;have M:Hid (Bx w2 77 (w.heap.size+1) _):=(ic w _ _ i.o).2.1;clear y0 y1 y2 y3 y4 f0 f1 f2 f3 f4 i;go_wp2;refine aF (v:=.agg _) (dB results94 _ _ (w.heap.size+1) 77 _ (0,0) _ rfl M1.o underlying77 rfl iD) rfl ?_;have ag:Below w.heap.size w _:=((But.ofBelow (S:=λac=>ac=w.heap.size+1) TB.o).trans O.o λ_ _ e=>e).below λac hk e=>by omega
 have r2:=R2.o.but O.o λx C e=>R2.o.nty M.o (by decide) C e
 have j2:=m.o.j.r.but O.o λx C e=>m.o.j.r.nty M.o (by decide) C e
 have ae:=m.o.len;have ah:∀{a c l},Rw w2 a c l->Rw _ a c l:=λhr=>hr.but O.o λx C e=>hr.nty M.o (by decide) C e
 refine⟨⟨kind,A,g1,k,ab,R,d2,n,next⟩,by rw[<-ae],⟨j2,m.o.j.n.mono Z.o,r2,λy N=>.inr (by have h1:=RF.o y N;have h2:=af.o;omega),λt L=>?_,?_,L8.o,m.o.n,Y.o.1,Y.o.2.1,Y.o.2.2⟩,ae,?_,ag⟩
 . obtain⟨o,o8⟩:=m.o.f.own t L;exact⟨ah o.r,o.n.mono Z.o,o8⟩
 . refine cF.2 ⟨λt L x y C N e=>?_,m.o.f.dist⟩
   have h1:=RF.o x C;have h2:=RL.o t L y N;omega
 unfold Pv.pg;dsimp only;rw[m.o.e]
end
end Go.Proofs.YteaogidofpfmmaaGreat
