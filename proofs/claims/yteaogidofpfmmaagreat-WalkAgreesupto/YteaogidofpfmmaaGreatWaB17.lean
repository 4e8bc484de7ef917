import Derived.Test.YteaogidofpfmmaaGreatWaB14
import Derived.Deep.DeepCutAuto
set_option linter.all false
set_option maxHeartbeats 8000000
set_option maxRecDepth 10000
namespace Go.Proofs.YteaogidofpfmmaaGreat
open Go.Proofs.Tryz
open Go.RowKit
variable {z:Int}{rd:Int->Option Pg}{G:List Int}{k l:List Nat}{b cb gm ks n rb:Nat}{col:Nat->Nat}{D:Rd}{t:TypeId}{v0 v1 v2 v3 v4:Value}{W w w':World}
theorem Dc(w:World)(a:Option Addr)(n c:Nat)(l:List Nat)(g:n=l.length):
 Calls prog 96 #[.slice a n c] w λe w'=>e=.returned (.bool (isK l))/\w'=w:=by
 subst g;unfold isK;by_cases d:0<l.length
 . have h:(1:Int)<=(l.length:Int):=by omega
   by_cases f:l.length<=24
   . have i:(l.length:Int)<=24:=by omega
     rw[ar d,ar f];go_enter func96,ntmps96;go_wp2;go_ret;exact⟨by simp,rfl⟩
   . have i:¬(l.length:Int)<=24:=by omega
     rw[ar d,ah f];go_enter func96,ntmps96;go_wp2;go_ret;exact⟨by simp,rfl⟩
 . have h:¬(1:Int)<=(l.length:Int):=by omega
   rw[ah d];go_enter func96,ntmps96;go_wp2;go_ret;exact⟨by simp,rfl⟩
theorem uX(w:World)(r:Rv)(a:Option Addr)(n c:Nat)(k:List Nat)(p:Ri w r)(m:Bs w a k)(F:n=k.length):
 Calls prog 55 #[r.val,.slice a n c] w λe w'=>e=.returned (.bool (has r.rg k))/\Below w.heap.size w w':=by
 subst F;obtain⟨B,E,s,A,C,q,K⟩:=r;have g:=ix λd=>Dc d a k.length c k rfl
 have j:=ix λd (hb:Below w.heap.size w d)=>jo d a B k.length s.length c E k s (m.keep hb) (p.bl.keep hb) rfl rfl
 have y:=ix λd (hb:Below w.heap.size w d)=>jo d a A k.length q.length c C k q (m.keep hb) (p.bh.keep hb) rfl rfl
 clear p m;unfold Rv.val Rv.cs has Rv.rg;dsimp only;generalize iy k s=L at *;generalize iy k q=N at *;cases hk:isK k with
 |false=>
  rw[hk] at g;clear hk;go_enter func55,ntmps55;go_wp2_with fail
  refine(g.o _).mono ?_;rintro e d ⟨rfl,f⟩;obtain rfl:=f.symm;go_wp2;go_ret;exact⟨by simp,al _ _⟩
 |true=>
  rw[hk] at g;clear hk;by_cases v:0<=L
  . cases K with
    |true=>
     go_enter func55,ntmps55;go_wp2_with fail
     refine(g.o _).mono ?_;rintro e d ⟨rfl,f⟩;obtain rfl:=f.symm;go_wp2_with fail
     refine(j.o _ (al _ _)).mono ?_;rintro e x ⟨rfl,hb⟩;have i:=(hb.block w.heap.size (by rw[size_alloc];omega)).trans (bj _ _)
     obtain⟨H,I,J⟩:=iz i;have h:=ix (bt (al _ _) hb);clear hb i;go_wp2;go_ret;exact⟨by simp[v],h.o⟩
    |false=>
     go_enter func55,ntmps55;go_wp2_with fail
     refine(g.o _).mono ?_;rintro e d ⟨rfl,f⟩;obtain rfl:=f.symm;go_wp2_with fail
     refine(j.o _ (al _ _)).mono ?_;rintro e x ⟨rfl,hb⟩;have i:=(hb.block w.heap.size (by rw[size_alloc];omega)).trans (bj _ _)
     obtain⟨H,I,J⟩:=iz i;have h:=ix (bt (al _ _) hb);clear hb i;go_wp2_with fail
     refine(y.o _ h.o).mono ?_;rintro e w3 ⟨rfl,hb⟩;have M:=ix (bt h.o hb);clear hb;go_wp2;go_ret;exact⟨by simp[v],M.o⟩
  . go_enter func55,ntmps55;go_wp2_with fail
    refine(g.o _).mono ?_;rintro e d ⟨rfl,f⟩;obtain rfl:=f.symm;go_wp2_with fail
    refine(j.o _ (al _ _)).mono ?_;rintro e x ⟨rfl,hb⟩;have h:=ix (bt (al _ _) hb);clear hb;go_wp2;go_ret;exact⟨by simp;omega,h.o⟩
theorem Gk(h:0<=iy l k):grt l k=l:=by unfold grt;rw[if_neg (by omega)]
theorem GP(h:¬0<=iy l k):grt l k=k:=by unfold grt;rw[if_pos (by omega)]
theorem Gz(h:iy l k<=0):lsr l k=l:=by
 unfold lsr;by_cases a:iy l k<0
 . rw[if_pos a]
 . rw[if_neg a];exact(tB.1 (by omega)).symm
theorem GH(h:¬iy l k<=0):lsr l k=k:=by unfold lsr;rw[if_neg (by omega)]
theorem uq(w:World)(a b:Option Addr)(n c m d:Nat)(l k:List Nat)(r:Bs w a l)(s:Bs w b k)(f:n=l.length)(E:m=k.length)(C:l.length<=140737488355328)(hk:k.length<=140737488355328):
 Calls prog 182 #[.slice a n c,.slice b m d] w λe w'=>∃x y,e=.returned (.slice x (grt l k).length y)/\Own w w' x y (grt l k):=by
 subst f E;have v:=ix (jo w a b l.length k.length c d l k r s rfl rfl);have A:=ix λg (hb:Below w.heap.size w g)=>jw g a l.length c l (r.keep hb) rfl C
 have B:=ix λg (hb:Below w.heap.size w g)=>jw g b k.length d k (s.keep hb) rfl hk
 clear r s;by_cases h:0<=iy l k
 . have i:=ix (Gk h);generalize iy l k=z at *;go_enter func182,ntmps182;go_wp2_with fail
   refine v.o.mono ?_;rintro e g ⟨rfl,hb⟩;have p:=ix hb;clear hb;go_wp2_with fail
   refine(A.o _ p.o).mono ?_;rintro e F ⟨q,c2,rfl,j,f,hb⟩;have O:=ix (Own.pre p.o ⟨j,f,hb⟩);clear j f hb;go_wp2;go_ret;exact⟨q,c2,by rw[i.o];rfl,by rw[i.o];exact O.o⟩
 . have i:=ix (GP h);generalize iy l k=z at *;go_enter func182,ntmps182;go_wp2_with fail
   refine v.o.mono ?_;rintro e g ⟨rfl,hb⟩;have p:=ix hb;clear hb;go_wp2_with fail
   refine(B.o _ p.o).mono ?_;rintro e F ⟨q,c2,rfl,j,f,hb⟩;have O:=ix (Own.pre p.o ⟨j,f,hb⟩);clear j f hb;go_wp2;go_ret;exact⟨q,c2,by rw[i.o];rfl,by rw[i.o];exact O.o⟩
theorem xc(w:World)(a b:Option Addr)(n c m d:Nat)(l k:List Nat)(r:Bs w a l)(s:Bs w b k)(f:n=l.length)(E:m=k.length)(C:l.length<=140737488355328)(hk:k.length<=140737488355328):
 Calls prog 183 #[.slice a n c,.slice b m d] w λe w'=>∃x y,e=.returned (.slice x (lsr l k).length y)/\Own w w' x y (lsr l k):=by
 subst f E;have v:=ix (jo w a b l.length k.length c d l k r s rfl rfl);have A:=ix λg (hb:Below w.heap.size w g)=>jw g a l.length c l (r.keep hb) rfl C
 have B:=ix λg (hb:Below w.heap.size w g)=>jw g b k.length d k (s.keep hb) rfl hk
 clear r s;by_cases h:iy l k<=0
 . have i:=ix (Gz h);generalize iy l k=z at *;go_enter func183,ntmps183;go_wp2_with fail
   refine v.o.mono ?_;rintro e g ⟨rfl,hb⟩;have p:=ix hb;clear hb;go_wp2_with fail
   refine(A.o _ p.o).mono ?_;rintro e F ⟨q,c2,rfl,j,f,hb⟩;have O:=ix (Own.pre p.o ⟨j,f,hb⟩);clear j f hb;go_wp2;go_ret;exact⟨q,c2,by rw[i.o];rfl,by rw[i.o];exact O.o⟩
 . have i:=ix (GH h);generalize iy l k=z at *;go_enter func183,ntmps183;go_wp2_with fail
   refine v.o.mono ?_;rintro e g ⟨rfl,hb⟩;have p:=ix hb;clear hb;go_wp2_with fail
   refine(B.o _ p.o).mono ?_;rintro e F ⟨q,c2,rfl,j,f,hb⟩;have O:=ix (Own.pre p.o ⟨j,f,hb⟩);clear j f hb;go_wp2;go_ret;exact⟨q,c2,by rw[i.o];rfl,by rw[i.o];exact O.o⟩
theorem tJ(w:World)(r s:Rv)(E:Ri w r)(F:Ri w s)(U:Rb r)(V:Rb s):
 Calls prog 155 #[r.val,s.val] w λe w'=>∃q:Rv,e=.returned q.val/\Ro w w' q/\q.rg=jK r.rg s.rg:=by
 refine ?h;have GL:=ix λa (hb:Below w.heap.size w a)=>uq a r.aL s.aL r.lo.length r.cL s.lo.length s.cL r.lo s.lo (E.bl.keep hb) (F.bl.keep hb) rfl rfl U.1 V.1
 have LH:=ix λa (hb:Below w.heap.size w a)=>xc a r.aH s.aH r.hi.length r.cH s.hi.length s.cH r.hi s.hi (E.bh.keep hb) (F.bh.keep hb) rfl rfl U.2 V.2
 have CR:=ix λa (hb:Below w.heap.size w a)=>jw a r.aH r.hi.length r.cH r.hi (E.bh.keep hb) rfl U.2
 have CS:=ix λa (hb:Below w.heap.size w a)=>jw a s.aH s.hi.length s.cH s.hi (F.bh.keep hb) rfl V.2
 have S:=ix (AX E.bl.1 F.bl.1);have S8:=ix (AM E.bh.1 F.bh.1);have R8:=ix E.bh.1;have T8:=ix F.bh.1;clear E F U V;obtain⟨aL,cL,lo,aH,cH,hi,op⟩:=r;obtain⟨bL,dL,ko,bH,dH,ki,oq⟩:=s;unfold Rv.val;dsimp only[Rv.cs,Rv.rg,jK] at *;generalize grt lo ko=g at *;generalize lsr hi ki=lw at *;go_enter func155,ntmps155;go_wp2_with fail
 refine(GL.o _ (bt (bt (al _ _) (al _ _)) (al _ _))).mono ?_;rintro e a ⟨L,c1,rfl,M⟩;obtain⟨m0,m1,m2,aa,ab⟩:=mX _ _ _ _ M.b;obtain⟨X,Y,Z⟩:=iz m0;obtain⟨k0,k1,k2⟩:=iz m1;have T:=ix (Own.pre (bt (bt (al _ _) (al _ _)) (al _ _)) M);have j:Hid (∀x,L=some x->w.heap.size+3<=x.block/\x.block<a.heap.size):=λx c=>by have:=M.fresh c;rw[size_alloc,size_alloc,size_alloc] at this;exact⟨this,M.r.lt c⟩
 have J:Hid (∀o,(a.alloc o).heap[w.heap.size+1+1]?=some (.cells #[.slice none 0 0,.slice none 0 0,.bool false] 62 (0,0))):=λo=>((al a o).block _ (by omega)).trans m2
 have I:Hid (∀o,Below w.heap.size w (a.alloc o)):=λo=>bt aa (al _ _)
 have B:=ix ab;have ac:w.heap.size<a.heap.size:=by omega
 have ad:w.heap.size+1<a.heap.size:=by omega
 clear M m0 m1 m2 aa ab GL;cases op with
 |true=>
  cases oq with
  |true=>
   go_wp2_with (refine bz rfl 62 _ _ rfl (w.heap.size+1+1) _ rfl rfl 62 _ (J.o _) iY rfl (by simp[Value.oneCell']) ?_)
   refine az (v:=.agg _) (dG results155 _ _ (w.heap.size+1+1) 62 _ (0,0) _ rfl (bu _ _ _ _ _ _ (J.o _)) underlying62 rfl iY) rfl ?_;refine⟨⟨L,c1,g,none,0,[],true⟩,rfl,⟨(T.o.keep (al _ _)).setRow (by omega) (λx c e=>?_) _,Own.nil w (below_setRow (I.o _) (by omega) _),(λx y _ H=>by cases H),S.o,B8.nil⟩,by simp⟩
   have:=j.o x c;omega
  |false=>
   go_wp2_with fail
   refine(CS.o _ (I.o _)).mono ?_;rintro e A ⟨m,c2,rfl,R,P,O⟩;have d:Own _ A m c2 _:=⟨R,P,O⟩;clear R P O;have K:=ix (Own.pre (I.o _) d);have f:Hid (∀x,m=some x->a.heap.size+1<=x.block):=λx c=>by have:=d.fresh c;rw[size_alloc] at this;exact this
   have C:Hid (∀v,(A.setCell ⟨a.heap.size,1,none⟩ v).heap[w.heap.size+1+1]?=some (.cells #[.slice none 0 0,.slice none 0 0,.bool false] 62 (0,0))):=λv=>(Below.heap_setCell _ _ _ _ (by have:=B.o;show _≠a.heap.size;omega)).trans ((d.b.block _ (by rw[size_alloc];have:=B.o;omega)).trans (J.o _))
   have i:=(d.b.block a.heap.size (by rw[size_alloc];omega)).trans (bj _ _)
   obtain⟨n0,n1,n2⟩:=iz i;have nf:=bq A a.heap.size 1 _ _ i;have N:=ix ((T.o.keep (al _ _)).keep d.b);clear d i X Y Z k0 k1 k2;go_wp2_with (refine bz rfl 62 _ _ rfl (w.heap.size+1+1) _ rfl rfl 62 _ (C.o _) iY rfl (by simp[Value.oneCell']) ?_)
   refine az (v:=.agg _) (dG results155 _ _ (w.heap.size+1+1) 62 _ (0,0) _ rfl (bu _ _ _ _ _ _ (C.o _)) underlying62 rfl iY) rfl ?_;refine⟨⟨L,c1,g,m,c2,ki,false⟩,rfl,⟨(N.o.setCell (p:=⟨a.heap.size,1,none⟩) (by show _<=a.heap.size;omega) (λx c e=>?_) _).setRow (by omega) (λx c e=>?_) _,(K.o.setCell (p:=⟨a.heap.size,1,none⟩) (by show _<=a.heap.size;omega) (λx c e=>?_) _).setRow (by omega) (λx c e=>?_) _,λx y c H e=>?_,S.o,T8.o⟩,by simp⟩
   . have:=j.o x c;dsimp only at e;omega
   . have:=j.o x c;omega
   . have:=f.o x c;dsimp only at e;omega
   . have:=f.o x c;have:=B.o;omega
   . have:=j.o x c;have:=f.o y H;omega
 |false=>
  cases oq with
  |true=>
   go_wp2_with fail
   refine(CR.o _ (I.o _)).mono ?_;rintro e A ⟨m,c2,rfl,R,P,O⟩;have d:Own _ A m c2 _:=⟨R,P,O⟩;clear R P O;have K:=ix (Own.pre (I.o _) d);have f:Hid (∀x,m=some x->a.heap.size+1<=x.block):=λx c=>by have:=d.fresh c;rw[size_alloc] at this;exact this
   have C:Hid (∀v,(A.setCell ⟨a.heap.size,1,none⟩ v).heap[w.heap.size+1+1]?=some (.cells #[.slice none 0 0,.slice none 0 0,.bool false] 62 (0,0))):=λv=>(Below.heap_setCell _ _ _ _ (by have:=B.o;show _≠a.heap.size;omega)).trans ((d.b.block _ (by rw[size_alloc];have:=B.o;omega)).trans (J.o _))
   have i:=(d.b.block a.heap.size (by rw[size_alloc];omega)).trans (bj _ _)
   obtain⟨n0,n1,n2⟩:=iz i;have nf:=bq A a.heap.size 1 _ _ i;have N:=ix ((T.o.keep (al _ _)).keep d.b);clear d i X Y Z k0 k1 k2;go_wp2_with (refine bz rfl 62 _ _ rfl (w.heap.size+1+1) _ rfl rfl 62 _ (C.o _) iY rfl (by simp[Value.oneCell']) ?_)
   refine az (v:=.agg _) (dG results155 _ _ (w.heap.size+1+1) 62 _ (0,0) _ rfl (bu _ _ _ _ _ _ (C.o _)) underlying62 rfl iY) rfl ?_;refine⟨⟨L,c1,g,m,c2,hi,false⟩,rfl,⟨(N.o.setCell (p:=⟨a.heap.size,1,none⟩) (by show _<=a.heap.size;omega) (λx c e=>?_) _).setRow (by omega) (λx c e=>?_) _,(K.o.setCell (p:=⟨a.heap.size,1,none⟩) (by show _<=a.heap.size;omega) (λx c e=>?_) _).setRow (by omega) (λx c e=>?_) _,λx y c H e=>?_,S.o,R8.o⟩,by simp⟩
   . have:=j.o x c;dsimp only at e;omega
   . have:=j.o x c;omega
   . have:=f.o x c;dsimp only at e;omega
   . have:=f.o x c;have:=B.o;omega
   . have:=j.o x c;have:=f.o y H;omega
  |false=>
   go_wp2_with fail
   refine(LH.o _ (I.o _)).mono ?_;rintro e A ⟨m,c2,rfl,d⟩;have K:=ix (Own.pre (I.o _) d);have f:Hid (∀x,m=some x->a.heap.size+1<=x.block):=λx c=>by have:=d.fresh c;rw[size_alloc] at this;exact this
   have C:Hid (∀v,(A.setCell ⟨a.heap.size,1,none⟩ v).heap[w.heap.size+1+1]?=some (.cells #[.slice none 0 0,.slice none 0 0,.bool false] 62 (0,0))):=λv=>(Below.heap_setCell _ _ _ _ (by have:=B.o;show _≠a.heap.size;omega)).trans ((d.b.block _ (by rw[size_alloc];have:=B.o;omega)).trans (J.o _))
   have i:=(d.b.block a.heap.size (by rw[size_alloc];omega)).trans (bj _ _)
   obtain⟨n0,n1,n2⟩:=iz i;have nf:=bq A a.heap.size 1 _ _ i;have N:=ix ((T.o.keep (al _ _)).keep d.b);clear d i X Y Z k0 k1 k2;go_wp2_with (refine bz rfl 62 _ _ rfl (w.heap.size+1+1) _ rfl rfl 62 _ (C.o _) iY rfl (by simp[Value.oneCell']) ?_)
   refine az (v:=.agg _) (dG results155 _ _ (w.heap.size+1+1) 62 _ (0,0) _ rfl (bu _ _ _ _ _ _ (C.o _)) underlying62 rfl iY) rfl ?_;refine⟨⟨L,c1,g,m,c2,lw,false⟩,rfl,⟨(N.o.setCell (p:=⟨a.heap.size,1,none⟩) (by show _<=a.heap.size;omega) (λx c e=>?_) _).setRow (by omega) (λx c e=>?_) _,(K.o.setCell (p:=⟨a.heap.size,1,none⟩) (by show _<=a.heap.size;omega) (λx c e=>?_) _).setRow (by omega) (λx c e=>?_) _,λx y c H e=>?_,S.o,S8.o⟩,by simp⟩
   . have:=j.o x c;dsimp only at e;omega
   . have:=j.o x c;omega
   . have:=f.o x c;dsimp only at e;omega
   . have:=f.o x c;have:=B.o;omega
   . have:=j.o x c;have:=f.o y H;omega
def nN(n:Nat)(G:List Int):List Bool:=(List.range (n+1)).map λ(i:Nat)=>decide ((i:Int)∈G)
theorem Cp(n:Nat):nN n []=List.replicate (n+1) false:=by
 unfold nN;apply fW
 . simp
 . intro i a c;simp
theorem vz(n z:Nat)(G:List Int):(nN n G).set z true=nN n ((z:Int)::G):=by
 unfold nN;apply fW
 . simp
 . intro i a c;simp at a;rw[List.getElem_set];by_cases e:z=i
   . subst e;simp
   . have:¬(i:Int)=(z:Int):=by omega
     simp[e,this]
structure Ckm(w:World)(cb rb gm n:Nat)(G:List Int)(ks:Nat):Prop where
 box:w.heap[cb]?=some (.cells #[.pointer (some ⟨rb,0,none⟩),.slice (some ⟨gm,0,none⟩) (n+1) (n+1),.int .i64 ((ks:Nat):Int)] 138 (0,0))
 met:w.heap[gm]?=some (.cells (vbl (nN n G)).toArray 4 (0,0))
theorem Ckm.but{S:Nat->Prop}(h:Ckm w cb rb gm n G ks)(hb:But S w w')(a:¬S cb)(c:¬S gm):Ckm w' cb rb gm n G ks:=⟨hb.same h.box a,hb.same h.met c⟩
theorem Ckm.keep(h:Ckm w cb rb gm n G ks)(hb:Below w.heap.size w w'):Ckm w' cb rb gm n G ks:=h.but (S:=λ_=>False) (But.ofBelow hb) id id
theorem Ckm.ne(h:Ckm w cb rb gm n G ks):cb≠gm:=jd h.box h.met (by decide)
theorem Ckm.lb(h:Ckm w cb rb gm n G ks):cb<w.heap.size/\gm<w.heap.size:=⟨(ae.1 h.box).1,(ae.1 h.met).1⟩
theorem Ckm.cells(h:Ckm w cb rb gm n G ks):w.cell? ⟨cb,0,none⟩=some (.pointer (some ⟨rb,0,none⟩))/\w.cell? ⟨cb,1,none⟩=some (.slice (some ⟨gm,0,none⟩) (n+1) (n+1))/\w.cell? ⟨cb,2,none⟩=some (.int .i64 ((ks:Nat):Int)):=iz h.box
theorem Ckm.at(h:Ckm w cb rb gm n G ks){i:Nat}(hi:i<n+1):w.cell? ⟨gm,i,none⟩=some (.bool (decide ((i:Int)∈G)))/\w.frozen? ⟨gm,i,none⟩=false:=by
 refine⟨?_,by simp[World.frozen?,h.met]⟩
 rw[ai _ _ _ _ _ _ h.met,fL];unfold vbl nN;simp[hi]
theorem Ckm.set(h:Ckm w cb rb gm n G ks)(z:Nat):Ckm (w.setCell ⟨gm,z,none⟩ (.bool true)) cb rb gm n ((z:Int)::G) ks:=by
 refine⟨(Below.heap_setCell _ _ _ _ h.ne).trans h.box,?_⟩;rw[aE _ _ _ _ _ _ h.met,<-vz];simp[vbl,ij]
theorem Ckm.more(h:Ckm w cb rb gm n G ks):Ckm (w.setCell ⟨cb,2,none⟩ (.int .i64 ((ks+1:Nat):Int))) cb rb gm n G (ks+1):=by
 refine⟨?_,(Below.heap_setCell _ _ _ _ h.ne.symm).trans h.met⟩;rw[aE _ _ _ _ _ _ h.box];simp
theorem Ckm.fz(h:Ckm w cb rb gm n G ks)(i:Nat):w.frozen? ⟨cb,i,none⟩=false:=by simp[World.frozen?,h.box]
def cko(cb gm k:Nat):Prop:=k=cb\/k=gm
theorem mr(h:0<D.count z):rdR D z=some (D.on z).pg:=by unfold rdR;rw[if_pos h]
theorem mY(h:¬0<D.count z):rdR D z=none:=by unfold rdR;rw[if_neg h]
theorem jN(h:0<D.count z):D.has z=true:=by
 unfold Rd.count at h;split at h
 . assumption
 . omega
def EntR(w w':World)(e:Ending)(cb rb gm:Nat)(D:Rd)(G:List Int)(ks:Nat)(n:Int)(N:Nat):Prop:=(e=.returned (.bool false)/\(¬0<D.count n\/n∈G)/\w'=w)\/(e=.returned (.bool true)/\0<D.count n/\n∉G/\But (λk=>k=gm) w w'/\Ckm w' cb rb gm N (n::G) ks)
theorem oP(w:World)(cb rb gm:Nat)(D:Rd)(col:Nat->Nat)(g:Rq w rb D col)(G:List Int)(ks:Nat)(f:Ckm w cb rb gm D.C.length G ks)(n:Int):
 Calls prog 113 #[.pointer (some ⟨cb,0,none⟩),.int .i64 n] w λe w'=>EntR w w' e cb rb gm D G ks n D.C.length:=by
 have d:=ix (mE w rb D col g n);obtain⟨c0,c1,c2⟩:=f.cells;have s:=ix f;have B:=g.n6;by_cases c:0<D.count n
 . rw[ar c] at d;obtain⟨y,A⟩:=Rd.has_iff.1 (jN c);obtain⟨z,rfl⟩:∃z:Nat,n=(z:Int):=⟨n.toNat,by omega⟩
   have j:=ix c;obtain⟨m,x⟩:=f.at (i:=z) (by omega)
   clear f g c;generalize D.C.length=N at *;have C:(z:Int)<(N:Int)+1:=by omega
   have E:(0:Int)<=(z:Int):=by omega
   by_cases h:(z:Int)∈G
   . rw[ar h] at m;go_enter func113,ntmps113;go_wp2_with fail
     refine d.o.mono ?_;rintro _ q ⟨rfl,a⟩;obtain rfl:=a.symm;clear a;go_wp2;go_ret;exact .inl ⟨rfl,.inr h,rfl⟩
   . rw[ah h] at m;have v:=ix (s.o.set z);have r:=ix ((But.refl (λk=>k=gm) w).setCell (p:=⟨gm,z,none⟩) (λ_=>rfl) (.bool true))
     go_enter func113,ntmps113;go_wp2_with fail
     refine d.o.mono ?_;rintro _ q ⟨rfl,a⟩;obtain rfl:=a.symm;clear a;go_wp2;go_ret;exact .inr ⟨rfl,j.o,h,r.o,v.o⟩
 . rw[ah c] at d;have j:=ix c;clear f g c;go_enter func113,ntmps113;go_wp2_with fail
   refine d.o.mono ?_;rintro _ q ⟨rfl,a⟩;obtain rfl:=a.symm;clear a;go_wp2;go_ret;exact .inl ⟨rfl,.inl (by have:=j.o;omega),rfl⟩
theorem o6{rd:Int->Option Pg}{t:Nat}{G:List Int}{n l:Int}(h:l<=0):iX rd t G n l=(G,0):=by
 cases t with
 |zero=>rfl
 |succ t=>unfold iX;rw[if_pos h]
theorem yV{t:Nat}{n l:Int}{p:Pg}(c:rd n=some p)(a:n∉G)(d:0<l)(hk:p.kind=3):iX rd (t+1) G n l=if (p.data.length:Int)≠min l 480\/decide (p.next=0)≠decide (l<=480) then (n::G,5) else iX rd t (n::G) p.next (l-480):=by
 conv=>lhs;unfold iX
 rw[if_neg (by omega),c]
 simp only;rw[if_neg a,if_neg (by rw[hk];simp)]
def itM(rd:Int->Option Pg)(r:Rg)(x:It)(G:List Int):List Int×Nat:=if has r x.key=false then (G,11) else if x.size<=32 then (G,0) else iX rd 8 G x.child x.size
theorem tj{r:Rg}{x:It}{L:List It}:jb rd r (x::L) G=if (itM rd r x G).2≠0 then itM rd r x G else jb rd r L (itM rd r x G).1:=by
 conv=>lhs;unfold jb
 unfold itM;by_cases a:has r x.key=false
 . rw[if_pos a,if_pos a,if_pos (by simp)]
 . rw[if_neg a,if_neg a];by_cases c:x.size<=32
   . rw[if_pos c,if_pos c,if_neg (by simp)]
   . rw[if_neg c,if_neg c]
theorem Rq.page(h:Rq w rb D col){n:Int}(d:0<D.count n):∃(i g:Nat),n=(i:Int)+1/\i<D.C.length/\D.C.length<=65536/\w.cell? ⟨rb,3,none⟩=some (.slice (some ⟨g,0,none⟩) D.C.length D.cP)/\(∀k u,k<5->(D.on n).cs.toList[k]?=some u->w.cell? ⟨g,i*5+k,none⟩=some u):=by
 obtain⟨m,p⟩:=Rd.has_iff.1 (jN d);obtain⟨i,a⟩:∃i:Nat,n=(i:Int)+1:=⟨(n-1).toNat,by omega⟩
 subst a;have a:i<D.C.length:=by omega
 obtain⟨g,e,c⟩:=h.pAt a;obtain⟨c0,c1,c2,c3,j⟩:=h.cells;rw[e,h.nP] at c3;have f:D.on ((i:Int)+1)=D.P.getD i Pv.zero:=by unfold Rd.on;simp
 exact⟨i,g,rfl,a,h.n6,c3,by rw[f];exact c⟩
def ItR(w w':World)(e:Ending)(cb rb gm:Nat)(D:Rd)(ks:Nat)(R:List Int×Nat):Prop:=∃ks':Nat,e=.returned (.int .i64 ((R.2:Nat):Int))/\But (cko cb gm) w w'/\Ckm w' cb rb gm D.C.length R.1 ks'/\(R.2=0->ks'=ks+1)
theorem rag4(h:W.heap[b]?=some (.cells #[v0,v1,v2,v3] t (0,0))):W.cell? ⟨b,0,none⟩=some v0/\W.cell? ⟨b,1,none⟩=some v1/\W.cell? ⟨b,2,none⟩=some v2/\W.cell? ⟨b,3,none⟩=some v3:=by
 refine⟨?_,?_,?_,?_⟩<;>(rw[ai _ _ _ _ _ _ h];rfl)
theorem mW(h:W.heap[b]?=some (.cells #[v0,v1,v2,v3,v4] t (0,0))):W.cell? ⟨b,0,none⟩=some v0/\W.cell? ⟨b,1,none⟩=some v1/\W.cell? ⟨b,2,none⟩=some v2/\W.cell? ⟨b,3,none⟩=some v3/\W.cell? ⟨b,4,none⟩=some v4:=by
 refine⟨?_,?_,?_,?_,?_⟩<;>(rw[ai _ _ _ _ _ _ h];rfl)
theorem Rq.cko(h:Rq w rb D col)(a:∀k,cko cb gm k->col k=0)(hb:But (cko cb gm) w w'):Rq w' rb D col:=h.but hb (λk hk e=>hk (a k e))
theorem tO(w:World)(cb rb gm:Nat)(D:Rd)(col:Nat->Nat)(hR:Rq w rb D col)(hA:iF (rdR D))(aw:∀k,cko cb gm k->col k=0)(G:List Int)(ks:Nat)(I:Ckm w cb rb gm D.C.length G ks)(x:Iv)(hs:x.size<=3840)(r:Rv)(an:Ri w r)(hK:Bs w x.aK x.key)(aG:ks<=1000000000000):
 Calls prog 114 #[.pointer (some ⟨cb,0,none⟩),x.vl,r.val] w λe w'=>ItR w w' e cb rb gm D ks (itM (rdR D) r.rg x.it G):=by
 have A1:=al w (.cells x.cs 89);have A2:=al (w.alloc (.cells x.cs 89)) (.cells r.cs 62);have A:=ix (bt A1 A2);have X0:=ix ((A2.block w.heap.size (by rw[size_alloc];omega)).trans (ag w (.cells x.cs 89)))
 have Y0:=ix (ag (w.alloc (.cells x.cs 89)) (.cells r.cs 62));rw[size_alloc] at Y0;clear A1 A2;have B:=ix (uX _ r x.aK _ x.cK x.key (an.keep A.o) (hK.keep A.o) rfl);have L:=ix (I.keep A.o);have HR:=ix (hR.keep A.o);have HL:=ix I.lb;obtain⟨aK,cK,X,aV,cV,val,child,y⟩:=x;obtain⟨aL,cL,U,aH,cH,J,V⟩:=r;obtain⟨R,af⟩:∃R,itM (rdR D) (Rv.rg ⟨aL,cL,U,aH,cH,J,V⟩) (Iv.it ⟨aK,cK,X,aV,cV,val,child,y⟩) G=R:=⟨_,rfl⟩;rw[af];have v:=ix (show itM (rdR D) ⟨U,J,V⟩ ⟨X,val,child,y⟩ G=R from af)
 have ai:=ix aw;have ay:=ix hA;have hs:y<=3840:=hs;unfold Iv.vl Rv.val at *;simp only[Iv.cs,Rv.cs,Rv.rg,Iv.it] at A X0 Y0 B L HR v ⊢;clear af an hK I hR hA aw;generalize av:(w.alloc (.cells #[.slice aK X.length cK,.slice aV val.length cV,.int .i64 child,.int .i64 y] 89)).alloc (.cells #[.slice aL U.length cL,.slice aH J.length cH,.bool V] 62)=w1 at *;obtain⟨i0,i1,i2,i3⟩:=rag4 X0.o;obtain⟨j0,j1,j2⟩:=iz Y0.o;cases hh:has ⟨U,J,V⟩ X with
 |false=>
  rw[hh] at B;have a:Hid (R=(G,11)):=ix (by rw[<-v.o];unfold itM;exact if_pos hh)
  go_enter func114,ntmps114;go_upto_region 1 with fail
  clear av;go_wp2_with fail
  refine B.o.mono ?_;rintro _ w2 ⟨rfl,s⟩;have Y:=ix (bt A.o s);have E:=ix (L.o.keep s);clear s B;go_wp2;go_ret;rw[a.o];exact⟨ks,rfl,But.ofBelow Y.o,E.o,λh=>by cases h⟩
 |true=>
  rw[hh] at B;replace v:Hid ((if y<=32 then (G,0) else iX (rdR D) 8 G child y)=R):=ix (by rw[<-v.o];unfold itM;exact(if_neg (by show ¬has ⟨U,J,V⟩ X=false;rw[hh];decide)).symm)
  clear hh;have aP:IntKind.i64.wrap ((ks:Int)+1)=(ks:Int)+1:=iQ (by omega) (by omega)
  have aC:((ks+1:Nat):Int)=(ks:Int)+1:=by omega
  go_enter func114,ntmps114;go_upto_region 1 with fail
  clear av;go_wp2_with fail
  refine B.o.mono ?_;rintro _ w2 ⟨rfl,s⟩;have Y:=ix (bt A.o s);have E:=ix (L.o.keep s);have R2:=ix (HR.o.keep s);have X2:=ix ((s.block w.heap.size (ae.1 X0.o).1).trans X0.o);clear s B i0 i1 i2 i3 j0 j1 j2 L HR;obtain⟨c0,c1,c2⟩:=E.o.cells;have f2:=E.o.fz 2;have b3:=(But.refl (cko cb gm) w2).setCell (p:=⟨cb,2,none⟩) (λ_=>.inl rfl) (.int .i64 ((ks:Int)+1))
  have M:=E.o.more;rw[aC] at M;have hL:=HL.o;have X3:=ix (b3.same X2.o (λe=>by rcases e with e|e<;>omega))
  have R3:=ix (R2.o.cko ai.o b3);have K:=ix ((But.ofBelow (S:=cko cb gm) Y.o).trans b3 (λ_ _ e=>e))
  replace M:=ix M
  obtain⟨i0,i1,i2,i3⟩:=rag4 X3.o;go_upto_region 4 with fail
  generalize w2.setCell ⟨cb,2,none⟩ (.int .i64 ((ks:Int)+1))=w3 at *;clear c0 c1 c2 f2 b3 Y E R2 X2;by_cases h2:y<=32
  . have a:Hid (R=(G,0)):=ix (v.o.symm.trans (if_pos h2));go_wp2;go_ret;rw[a.o];exact⟨ks+1,rfl,K.o,M.o,λ_=>rfl⟩
  . replace v:=ix ((if_neg h2).symm.trans v.o)
    go_upto_region 8 with fail
    clear i0 i1 i2 i3;go_loopw [7,8] (λp q wr=>∃(t:Nat)(c:List Int)(n l:Int),p=.int .i64 l/\q=.int .i64 n/\l<=480*t/\l<=3840/\0<=l/\But (cko cb gm) w3 wr/\Ckm wr cb rb gm D.C.length c (ks+1)/\iX (rdR D) t c n l=R) (λp _ _=>(intOf p).toNat)
    case atStart=>exact⟨8,G,child,y,rfl,rfl,by omega,hs,by omega,But.refl _ _,M.o,v.o⟩
    case round=>
     obtain⟨t,c,n,l,rfl,rfl,aI,aJ,aM,hB,I,j⟩:=hrel;have HB:=ix hB;have CC:=ix I;have O:=ix j;have RW:=ix (R3.o.cko ai.o hB);clear hB I j;by_cases aA:0<l
     . have EN:=ix (oP wr cb rb gm D col RW.o c (ks+1) CC.o n);obtain⟨C,rfl⟩:∃C,t=C+1:=⟨t-1,by omega⟩
       go_wp2_with fail
       refine EN.o.mono ?_;rintro e w4 (⟨rfl,ax,hw⟩|⟨rfl,h0,au,ao,am⟩)
       . obtain rfl:=hw.symm
         have a:Hid (R=(c,15)):=by
          show _=_;rw[<-O.o];unfold iX;rw[if_neg (by omega)]
          rcases ax with h|h
          . rw[mY h]
          . cases hp:rdR D n with
            |none=>rfl
            |some p=>simp only;rw[if_pos h]
         clear hw ax EN;go_wp2;go_ret;rw[a.o];exact⟨ks+1,rfl,K.o.trans HB.o (λ_ _ e=>e),CC.o,λh=>by cases h⟩
       . have B4:=ix (HB.o.trans (ao.mono (T:=cko cb gm) λk _ e=>.inr e) (λ_ _ e=>e))
         have R4:=ix (R3.o.cko ai.o B4.o);have g:=ix am;have ac:=ix (ay.o n _ (mr h0));have N:=ix (mr h0);have ab:=ix au;obtain⟨i,aD,rfl,J,m,c3,j⟩:=R4.o.page h0;clear ao am h0 au EN;have az:(i:Int)<(D.C.length:Int):=by omega
         have aO:(i:Int)+1-1=(i:Int):=by omega
         obtain⟨c0,c1,c2⟩:=g.o.cells;obtain⟨q,hq⟩:∃q,D.on ((i:Int)+1)=q:=⟨_,rfl⟩;rw[hq] at j ac N;clear hq;obtain⟨kq,lq,aq,cq,aa,ad,cd,H,nq⟩:=q;have y0:=j 0 _ (by decide) rfl
         have y1:=j 1 _ (by decide) rfl
         have y2:=j 2 _ (by decide) rfl
         have y3:=j 3 _ (by decide) rfl
         have y4:=j 4 _ (by decide) rfl
         rw[dp] at y0;clear j;have ak:=g;obtain⟨aj,hN⟩:∃aj,D.C.length=aj:=⟨_,rfl⟩;rw[hN] at c1 c3 az m;have HD:=ix hN;clear hN;by_cases h3:kq=3
         . subst h3;have ap:=ix ((ac.o.blob rfl).2.2);have f:Hid ((if (H.length:Int)≠min l 480\/decide (nq=0)≠decide (l<=480) then (((i:Int)+1)::c,5) else iX (rdR D) C (((i:Int)+1)::c) nq (l-480))=R):=ix (by rw[<-O.o];exact(yV N.o ab.o aA rfl).symm)
           have aF:H.length<=480:=ap.o.2.1;have A5:=ix (al w4 (.cells #[.int .i64 3,.int .i64 lq,.slice aq aa.length cq,.slice ad H.length cd,.int .i64 nq] 77));have X5:=ag w4 (.cells #[.int .i64 3,.int .i64 lq,.slice aq aa.length cq,.slice ad H.length cd,.int .i64 nq] 77);have BF:=ix (B4.o.andBelow A5.o);have F:=ix (ak.o.keep A5.o);obtain⟨j0,j1,j2,j3,j4⟩:=mW X5;clear N ab ac ap O g ak X5 A5;go_upto_region 12 with fail
           generalize w4.alloc (.cells #[.int .i64 3,.int .i64 lq,.slice aq aa.length cq,.slice ad H.length cd,.int .i64 nq] 77)=w5 at *;clear y0 y1 y2 y3 y4 c0 c1 c2 c3;generalize H.length=d at *;have Z:=ix (K.o.trans BF.o (λ_ _ e=>e))
           by_cases h4:l<=480
           . by_cases P:(d:Int)=l
             . subst P;have hm:min 480 (d:Int)=(d:Int):=by omega
               have aN:min (d:Int) 480=(d:Int):=by omega
               have aQ:IntKind.i64.wrap ((d:Int)-(d:Int))=0:=by rw[Int.sub_self];exact iQ (by omega) (by omega)
               by_cases m:nq=0
               . subst m
                 have a:Hid (iX (rdR D) C (((i:Int)+1)::c) 0 0=R):=ix (by
                  have h7:=f.o;rw[if_neg (λh=>by rcases h with h|h;exact h (by omega);exact h (by rw[ar (rfl:(0:Int)=0),ar h4])),o6 (by omega)] at h7
                  rw[<-h7];exact o6 (by omega))
                 clear f;go_wp2;go_roundw
                 case rel=>exact⟨C,((i:Int)+1)::c,0,0,by first|rfl|go_num,rfl,by omega,by omega,by omega,BF.o,F.o,a.o⟩
                 case measure=>simp[intOf];omega
               . have a:Hid (R=(((i:Int)+1)::c,5)):=ix (by
                  rw[<-f.o];exact if_pos (.inr (λh=>by rw[ah m,ar h4] at h;cases h)))
                 clear f;have hq:(nq==0)=false:=by simp[m]
                 go_wp2;go_ret;rw[a.o];exact⟨ks+1,rfl,Z.o,F.o,λh=>by cases h⟩
             . have a:Hid (R=(((i:Int)+1)::c,5)):=ix (by
                rw[<-f.o];exact if_pos (.inl (λh=>P (by omega))))
               clear f;have hm:min 480 l=l:=by omega
               go_wp2;go_ret;rw[a.o];exact⟨ks+1,rfl,Z.o,F.o,λh=>by cases h⟩
           . have hm:min 480 l=480:=by omega
             by_cases P:(d:Int)=480
             . obtain rfl:d=480:=by omega
               clear P;have hw:IntKind.i64.wrap (l-480)=l-480:=iQ (by omega) (by omega)
               have aB:¬l-480=0:=by omega
               have aE:(l-480==0)=false:=by simp[aB]
               by_cases m:nq=0
               . subst m
                 have a:Hid (R=(((i:Int)+1)::c,5)):=ix (by
                  rw[<-f.o];exact if_pos (.inr (λh=>by rw[ar (rfl:(0:Int)=0),ah h4] at h;cases h)))
                 clear f;go_wp2;go_ret;rw[a.o];exact⟨ks+1,rfl,Z.o,F.o,λh=>by cases h⟩
               . have a:Hid (iX (rdR D) C (((i:Int)+1)::c) nq (l-480)=R):=ix (by
                  rw[<-f.o];exact(if_neg (λh=>by rcases h with h|h;exact h (by omega);exact h (by rw[ah m,ah h4]))).symm)
                 clear f;have hq:(nq==0)=false:=by simp[m]
                 go_wp2;go_roundw
                 case rel=>exact⟨C,((i:Int)+1)::c,nq,l-480,by first|rfl|go_num,rfl,by omega,by omega,by omega,BF.o,F.o,a.o⟩
                 case measure=>simp[intOf];omega
             . have a:Hid (R=(((i:Int)+1)::c,5)):=ix (by
                rw[<-f.o];exact if_pos (.inl (λh=>P (by omega))))
               clear f;go_wp2;go_ret;rw[a.o];exact⟨ks+1,rfl,Z.o,F.o,λh=>by cases h⟩
         . have a:Hid (R=(((i:Int)+1)::c,15)):=by
            show _=_;rw[<-O.o];unfold iX;rw[if_neg (by omega),N.o]
            simp only;rw[if_neg ab.o];exact if_pos (show(kq:Int)≠3 from h3)
           go_wp2;go_ret;rw[a.o];exact⟨ks+1,rfl,K.o.trans B4.o (λ_ _ e=>e),g.o,λh=>by cases h⟩
     . obtain rfl:l=0:=by omega
       go_wp2;go_ret;have:=O.o;rw[o6 (by omega)] at this
       rw[<-this];exact⟨ks+1,rfl,K.o.trans HB.o (λ_ _ e=>e),CC.o,λ_=>rfl⟩
theorem D6(h:W.heap[b]?=some (.cells #[v0,v1,v2,v3,v4] t (0,0))):W.cell? ⟨b,0,none⟩=some v0/\W.cell? ⟨b,1,none⟩=some v1/\W.cell? ⟨b,2,none⟩=some v2/\W.cell? ⟨b,3,none⟩=some v3/\W.cell? ⟨b,4,none⟩=some v4:=by
 refine⟨?_,?_,?_,?_,?_⟩<;>(rw[ai _ _ _ _ _ _ h];rfl)
theorem sQ{o:Nat}(h:w.rangeAt b o #[v0,v1,v2,v3].toList):w.cell? ⟨b,o,none⟩=some v0/\w.cell? ⟨b,o+1,none⟩=some v1/\w.cell? ⟨b,o+2,none⟩=some v2/\w.cell? ⟨b,o+3,none⟩=some v3:=
 ⟨h 0 _ rfl,h 1 _ rfl,h 2 _ rfl,h 3 _ rfl⟩
theorem qf(w:World)(p:Pv)(i:Nat)(hi:i<p.items.length)(r:Rv)(hP:Pi w p)(aG:Ri w r)(aF:Rb r)(hk:∀x∈p.items,x.key.length<=24):
 Calls prog 115 #[p.vl,.int .i64 (i:Int),r.val] w λe w'=>∃q:Rv,e=.returned q.val/\Ro w w' q/\q.rg=wth p.pg i r.rg:=by
 obtain⟨ar,aw,ax,aq,aJ⟩:=mX w (.cells p.cs 77) (.cells r.cs 62) (.cells #[.slice none 0 0,.slice none 0 0,.bool false] 62) (Below.refl _ _);have J:=ix aq;have y:=ix ar;have X1:=ix aw;have X2:=ix ax;have aN:=ix aJ;clear aq ar aw ax aJ;have hn:p.items.length<=2199023255520:=hP.it.2.1;obtain⟨H,K,ea,cA⟩:=(hP.it.keep J.o).at hi;have ah:=ix (hP.keep J.o);have ai:=ix (aG.keep J.o);have XI:=ix ((ah.o.it).1 _ (iH hi));have ei:p.pg.at i=(p.items.getD i Iv.zero).it:=js p.items i;have M:=hk _ (iH hi);have KN:∀ad,ad<p.items.length->(p.items.getD ad Iv.zero).key.length<=24:=λad hj=>hk _ (iH hj)
 have sw:=size_alloc ((w.alloc (.cells p.cs 77)).alloc (.cells r.cs 62)) (.cells #[.slice none 0 0,.slice none 0 0,.bool false] 62);rw[size_alloc,size_alloc] at sw;clear hk;obtain⟨wt,ap⟩:∃wt,wth p.pg i r.rg=wt:=⟨_,rfl⟩;have WT:=ix ap;rw[ap];unfold wth at WT;clear ap hP aG;obtain⟨kind,ac,aI,cI,L,aD,cD,ab,next⟩:=p
 have ea:aI=some ⟨H,K,none⟩:=ea;subst ea;unfold Pv.vl Rv.val at *;simp only[Pv.cs,Rv.cs] at *;generalize aR:((w.alloc (.cells #[.int .i64 kind,.int .i64 ac,.slice (some ⟨H,K,none⟩) L.length cI,.slice aD ab.length cD,.int .i64 next] 77)).alloc (.cells #[.slice r.aL r.lo.length r.cL,.slice r.aH r.hi.length r.cH,.bool r.op] 62)).alloc (.cells #[.slice none 0 0,.slice none 0 0,.bool false] 62)=a at*
 obtain⟨d0,d1,d2,d3⟩:=sQ cA;obtain⟨m0,m1,m2,m3,m4⟩:=D6 y.o;have a2:(i:Int)<(L.length:Int):=by omega
 have a1:(0:Int)<=(i:Int):=by omega
 obtain⟨x,c⟩:∃x,L.getD i Iv.zero=x:=⟨_,rfl⟩;rw[c] at d0 XI ei M;clear c cA d1 d2 d3;obtain⟨f,g,d,av,cv,val,child,a7⟩:=x;simp only at d0;have A:=ix (al a (.cells #[.slice f d.length g,.slice none 0 0,.bool true] 62));have O:=ix (ag a (.cells #[.slice f d.length g,.slice none 0 0,.bool true] 62));go_enter func115,ntmps115;go_upto_region 1 with fail
 clear aR;go_upto_region 2 with fail
 generalize a.alloc (.cells #[.slice f d.length g,.slice none 0 0,.bool true] 62)=V at *;have BV:=ix (bt J.o A.o);have Y0:=ix ((A.o.block w.heap.size (ae.1 y.o).1).trans y.o);have Y1:=ix ((A.o.block (w.heap.size+1) (ae.1 X1.o).1).trans X1.o);have Y2:=ix ((A.o.block (w.heap.size+2) (ae.1 X2.o).1).trans X2.o);have RV:=ix (ai.o.keep A.o);have IV:=ix (XI.o.keep A.o);have PV:=ix (ah.o.keep A.o);have aP:=ix d0;have aM:=A;have ay:=XI;have aO:=ai;have aK:=J;clear d0 m0 m1 m2 m3 m4 y X1 X2 XI ai J A;obtain⟨m0,m1,m2,m3,m4⟩:=D6 Y0.o;have a0:w.heap.size+3<=a.heap.size:=aN.o;have a4:IntKind.i64.wrap ((i:Int)+1)=(i:Int)+1:=iQ (by omega) (by omega)
 by_cases X:i+1<L.length
 . have a5:(i:Int)+1<(L.length:Int):=by omega
   have a8:(0:Int)<=(i:Int)+1:=by omega
   have a3:((i:Int)+1).toNat=i+1:=by omega
   obtain⟨R,o2,e2,cB⟩:=(PV.o.it).at X;simp only[au,Addr.mk.injEq] at e2;obtain⟨rfl,rfl,_⟩:=e2;obtain⟨U,_,_,_⟩:=sQ cB;have YI:=ix (((ah.o.it).1 _ (iH X)));have aC:(⟨kind,ac,some ⟨H,K,none⟩,cI,L,aD,cD,ab,next⟩:Pv).pg.at (i+1)=(L.getD (i+1) Iv.zero).it:=js L (i+1)
   have aj:=KN (i+1) X;obtain⟨af,hy⟩:∃af,L.getD (i+1) Iv.zero=af:=⟨_,rfl⟩;rw[hy] at U YI aC aj;clear hy cB;obtain⟨F,E,s,_,_,_,_,_⟩:=af;simp only at U;have aB:=YI
   have FN:Hid (H≠a.heap.size):=λe=>by
    obtain⟨p0,p1,p2⟩:=iz O.o;have hb:=block_lt_of_cell aP.o;have hb:H<a.heap.size:=hb;omega
   have g2:=bq V a.heap.size 2 _ _ O.o;have aa:=aE V a.heap.size 2 _ _ (.bool false) O.o;have g1:=bq _ a.heap.size 1 _ _ aa;have aA:=aE _ a.heap.size 1 _ _ (.slice F s.length E) aa;obtain⟨v0,v1,v2⟩:=iz O.o;obtain⟨aX,aY,aZ⟩:=iz (show _=some (Obj.cells #[.slice f d.length g,.slice none 0 0,.bool false] 62 (0,0)) from aa)
   have R:=(But.refl (λk=>k=a.heap.size) V).setCell (p:=⟨a.heap.size,2,none⟩) (λ_=>rfl) (.bool false)
   have T:=R.setCell (p:=⟨a.heap.size,1,none⟩) (λ_=>rfl) (.slice F s.length E)
   have aQ:=(R.cell (p:=⟨H,K+(i+1)*4,none⟩) (block_lt_of_cell U) (λe=>FN.o e)).trans U
   obtain⟨aS,aT,aU,aV,aW⟩:=D6 (R.same Y0.o (λe=>by have e:w.heap.size=a.heap.size:=e;omega))
   have Z0:=ix (T.same Y0.o (λe=>by have e:w.heap.size=a.heap.size:=e;omega))
   have Z1:=ix (T.same Y1.o (λe=>by have e:w.heap.size+1=a.heap.size:=e;omega))
   have I:=ix (T.same Y2.o (λe=>by have e:w.heap.size+2=a.heap.size:=e;omega))
   have Z3:=ix (show _=some (Obj.cells #[.slice f d.length g,.slice F s.length E,.bool false] 62 (0,0)) from aA)
   have j:=ix (((But.ofBelow (S:=λk=>k=a.heap.size) aM.o).trans T (λ_ _ e=>e)).below (λk hk e=>by have e:k=a.heap.size:=e;omega))
   have SK:=ix (show Ri ((V.setCell ⟨a.heap.size,2,none⟩ (.bool false)).setCell ⟨a.heap.size,1,none⟩ (.slice F s.length E)) ⟨f,g,d,F,E,s,false⟩ from⟨ay.o.bk.keep j.o,ay.o.ck,aB.o.bk.keep j.o,aB.o.ck⟩)
   have RW:=ix (aO.o.keep j.o);have BW:=ix (bt aK.o j.o)
   have ao:Hid (Rb ⟨f,g,d,F,E,s,false⟩):=by
    have M:d.length<=24:=M;have aj:s.length<=24:=aj;exact⟨show d.length<=_ by omega,show s.length<=_ by omega⟩
   have EQ:Hid (wt=jK r.rg (⟨f,g,d,F,E,s,false⟩:Rv).rg):=by
    show _=_;rw[<-WT.o];have Z:i+1<(⟨kind,ac,some ⟨H,K,none⟩,cI,L,aD,cD,ab,next⟩:Pv).pg.items.length:=by simpa[Pv.pg] using X
    rw[ei,aC,if_pos Z];simp only[Z,not_true_eq_false,decide_false];rfl
   go_upto_region 5 with fail
   generalize (V.setCell ⟨a.heap.size,2,none⟩ (.bool false)).setCell ⟨a.heap.size,1,none⟩ (.slice F s.length E)=C at *;clear g1 g2 aA aa R T U aQ m0 m1 m2 m3 m4 aS aT aU aV aW v0 v1 v2 aX aY aZ;have B:=ix (tJ C r ⟨f,g,d,F,E,s,false⟩ RW.o SK.o aF ao.o);unfold Rv.val at B;simp only[Rv.cs] at B;obtain⟨n0,n1,n2⟩:=iz Z1.o;obtain⟨q0,q1,q2⟩:=iz Z3.o;go_wp2_with fail
   refine B.o.mono ?_;rintro e W5 ⟨q,rfl,m,Y⟩;have P:=ix ((m.l.b.block (w.heap.size+2) (ae.1 I.o).1).trans I.o);have h:=ix (m.pre BW.o);have N:Hid ((∀x,q.aL=some x->C.heap.size<=x.block)/\∀x,q.aH=some x->C.heap.size<=x.block):=⟨λx c=>m.l.fresh c,λx c=>m.h.fresh c⟩
   have QG:=ix (Y.trans EQ.o.symm);have h4:w.heap.size+2<C.heap.size:=(ae.1 I.o).1;clear B m Y n0 n1 n2 q0 q1 q2;obtain⟨aL,cL,lo,aH,cH,hi,op⟩:=q;go_wp2_with (refine bz rfl 62 _ _ rfl (w.heap.size+2) _ rfl rfl 62 _ P.o iY rfl (by simp[Value.oneCell',Rv.cs]) ?_)
   refine az (v:=.agg _) (dG results115 _ _ (w.heap.size+2) 62 _ (0,0) _ rfl (bu _ _ _ _ _ _ P.o) underlying62 rfl iY) rfl ?_;exact⟨⟨aL,cL,lo,aH,cH,hi,op⟩,rfl,⟨h.o.l.setRow (by omega) (λx c e=>by have:=N.o.1 x c;omega) _,h.o.h.setRow (by omega) (λx c e=>by have:=N.o.2 x c;omega) _,h.o.apart,h.o.l8,h.o.h8⟩,QG.o⟩
 . have a6:¬(i:Int)+1<(L.length:Int):=by omega
   have Z0:=Y0;have Z1:=Y1;have I:=Y2;have Z3:=O;have SK:=ix (show Ri V ⟨f,g,d,none,0,[],true⟩ from⟨IV.o.bk,IV.o.ck,Bs.nil _,am _⟩)
   have RW:=RV;have BW:=BV
   have ao:Hid (Rb ⟨f,g,d,none,0,[],true⟩):=by
    have M:d.length<=24:=M;exact⟨show d.length<=_ by omega,an _⟩
   have EQ:Hid (wt=jK r.rg (⟨f,g,d,none,0,[],true⟩:Rv).rg):=by
    show _=_;rw[<-WT.o];have Z:¬i+1<(⟨kind,ac,some ⟨H,K,none⟩,cI,L,aD,cD,ab,next⟩:Pv).pg.items.length:=by simpa[Pv.pg] using X
    rw[ei,if_neg Z];simp only[Z,not_false_eq_true,decide_true];rfl
   go_upto_region 5 with fail
   clear m0 m1 m2 m3 m4;generalize V=C at *;have B:=ix (tJ C r ⟨f,g,d,none,0,[],true⟩ RW.o SK.o aF ao.o);unfold Rv.val at B;simp only[Rv.cs] at B;obtain⟨n0,n1,n2⟩:=iz Z1.o;obtain⟨q0,q1,q2⟩:=iz Z3.o;go_wp2_with fail
   refine B.o.mono ?_;rintro e W5 ⟨q,rfl,m,Y⟩;have P:=ix ((m.l.b.block (w.heap.size+2) (ae.1 I.o).1).trans I.o);have h:=ix (m.pre BW.o);have N:Hid ((∀x,q.aL=some x->C.heap.size<=x.block)/\∀x,q.aH=some x->C.heap.size<=x.block):=⟨λx c=>m.l.fresh c,λx c=>m.h.fresh c⟩
   have QG:=ix (Y.trans EQ.o.symm);have h4:w.heap.size+2<C.heap.size:=(ae.1 I.o).1;clear B m Y n0 n1 n2 q0 q1 q2;obtain⟨aL,cL,lo,aH,cH,hi,op⟩:=q;go_wp2_with (refine bz rfl 62 _ _ rfl (w.heap.size+2) _ rfl rfl 62 _ P.o iY rfl (by simp[Value.oneCell',Rv.cs]) ?_)
   refine az (v:=.agg _) (dG results115 _ _ (w.heap.size+2) 62 _ (0,0) _ rfl (bu _ _ _ _ _ _ P.o) underlying62 rfl iY) rfl ?_;exact⟨⟨aL,cL,lo,aH,cH,hi,op⟩,rfl,⟨h.o.l.setRow (by omega) (λx c e=>by have:=N.o.1 x c;omega) _,h.o.h.setRow (by omega) (λx c e=>by have:=N.o.2 x c;omega) _,h.o.apart,h.o.l8,h.o.h8⟩,QG.o⟩
end Go.Proofs.YteaogidofpfmmaaGreat
