import Derived.Test.YtnnieandfdbhgaaGreatWkB15
import Derived.Deep.DeepCutAuto
set_option linter.all false
set_option maxHeartbeats 8000000
set_option maxRecDepth 10000
namespace Go.Proofs.YtnnieandfdbhgaaGreat
open Go.Proofs.Tryz
open Go.RowKit
variable {z:Int}{rd:Int->Option Pg}{G:List Int}{k l:List Nat}{b cb gm ks n rb:Nat}{col:Nat->Nat}{D:Rd}{t:TypeId}{v0 v1 v2 v3 v4:Value}{W w w':World}
theorem wi(w:World)(a:Option Addr)(n c:Nat)(l:List Nat)(g:n=l.length):
 Calls prog 96 #[.slice a n c] w λe w'=>e=.returned (.bool (isK l))/\w'=w:=by
 subst g;unfold isK;by_cases d:0<l.length
 . have h:(1:Int)<=(l.length:Int):=by omega
   by_cases f:l.length<=24
   . have i:(l.length:Int)<=24:=by omega
     rw[an d,an f];go_enter func96,ntmps96;go_wp2;go_ret;exact⟨by simp,rfl⟩
   . have i:¬(l.length:Int)<=24:=by omega
     rw[an d,am f];go_enter func96,ntmps96;go_wp2;go_ret;exact⟨by simp,rfl⟩
 . have h:¬(1:Int)<=(l.length:Int):=by omega
   rw[am d];go_enter func96,ntmps96;go_wp2;go_ret;exact⟨by simp,rfl⟩
theorem wE(w:World)(r:Rv)(a:Option Addr)(n c:Nat)(k:List Nat)(p:Ri w r)(m:Bs w a k)(F:n=k.length):
 Calls prog 55 #[r.val,.slice a n c] w λe w'=>e=.returned (.bool (has r.rg k))/\Below w.heap.size w w':=by
 subst F;obtain⟨B,E,s,A,C,q,K⟩:=r;have g:=e7 λd=>wi d a k.length c k rfl
 have j:=e7 λd (hb:Below w.heap.size w d)=>gX d a B k.length s.length c E k s (m.keep hb) (p.bl.keep hb) rfl rfl
 have y:=e7 λd (hb:Below w.heap.size w d)=>gX d a A k.length q.length c C k q (m.keep hb) (p.bh.keep hb) rfl rfl
 clear p m;unfold Rv.val Rv.cs has Rv.rg;dsimp only;generalize fa k s=L at *;generalize fa k q=N at *;cases hk:isK k with
 |false=>
  rw[hk] at g;clear hk;go_enter func55,ntmps55;go_wp2_with fail
  refine(g.o _).mono ?_;rintro e d ⟨rfl,f⟩;obtain rfl:=f.symm;go_wp2;go_ret;exact⟨by simp,al _ _⟩
 |true=>
  rw[hk] at g;clear hk;by_cases v:0<=L
  . cases K with
    |true=>
     go_enter func55,ntmps55;go_wp2_with fail
     refine(g.o _).mono ?_;rintro e d ⟨rfl,f⟩;obtain rfl:=f.symm;go_wp2_with fail
     refine(j.o _ (al _ _)).mono ?_;rintro e x ⟨rfl,hb⟩;have i:=(hb.block w.heap.size (by rw[size_alloc];omega)).trans (aF _ _)
     obtain⟨H,I,J⟩:=fb i;have h:=e7 (bt (al _ _) hb);clear hb i;go_wp2;go_ret;exact⟨by simp[v],h.o⟩
    |false=>
     go_enter func55,ntmps55;go_wp2_with fail
     refine(g.o _).mono ?_;rintro e d ⟨rfl,f⟩;obtain rfl:=f.symm;go_wp2_with fail
     refine(j.o _ (al _ _)).mono ?_;rintro e x ⟨rfl,hb⟩;have i:=(hb.block w.heap.size (by rw[size_alloc];omega)).trans (aF _ _)
     obtain⟨H,I,J⟩:=fb i;have h:=e7 (bt (al _ _) hb);clear hb i;go_wp2_with fail
     refine(y.o _ h.o).mono ?_;rintro e w3 ⟨rfl,hb⟩;have M:=e7 (bt h.o hb);clear hb;go_wp2;go_ret;exact⟨by simp[v],M.o⟩
  . go_enter func55,ntmps55;go_wp2_with fail
    refine(g.o _).mono ?_;rintro e d ⟨rfl,f⟩;obtain rfl:=f.symm;go_wp2_with fail
    refine(j.o _ (al _ _)).mono ?_;rintro e x ⟨rfl,hb⟩;have h:=e7 (bt (al _ _) hb);clear hb;go_wp2;go_ret;exact⟨by simp;omega,h.o⟩
theorem yo(h:0<=fa l k):grt l k=l:=by unfold grt;rw[if_neg (by omega)]
theorem x9(h:¬0<=fa l k):grt l k=k:=by unfold grt;rw[if_pos (by omega)]
theorem xW(h:fa l k<=0):lsr l k=l:=by
 unfold lsr;by_cases a:fa l k<0
 . rw[if_pos a]
 . rw[if_neg a];exact(oG.1 (by omega)).symm
theorem xZ(h:¬fa l k<=0):lsr l k=k:=by unfold lsr;rw[if_neg (by omega)]
theorem pA(w:World)(a b:Option Addr)(n c m d:Nat)(l k:List Nat)(r:Bs w a l)(s:Bs w b k)(f:n=l.length)(F:m=k.length)(E:l.length<=140737488355328)(C:k.length<=140737488355328):
 Calls prog 182 #[.slice a n c,.slice b m d] w λe w'=>∃x y,e=.returned (.slice x (grt l k).length y)/\Own w w' x y (grt l k):=by
 subst f F;have v:=e7 (gX w a b l.length k.length c d l k r s rfl rfl);have A:=e7 λg (hb:Below w.heap.size w g)=>fP g a l.length c l (r.keep hb) rfl E
 have B:=e7 λg (hb:Below w.heap.size w g)=>fP g b k.length d k (s.keep hb) rfl C
 clear r s;by_cases h:0<=fa l k
 . have i:=e7 (yo h);generalize fa l k=z at *;go_enter func182,ntmps182;go_wp2_with fail
   refine v.o.mono ?_;rintro e g ⟨rfl,hb⟩;have p:=e7 hb;clear hb;go_wp2_with fail
   refine(A.o _ p.o).mono ?_;rintro e H ⟨q,c2,rfl,j,f,hb⟩;have O:=e7 (Own.pre p.o ⟨j,f,hb⟩);clear j f hb;go_wp2;go_ret;exact⟨q,c2,by rw[i.o];rfl,by rw[i.o];exact O.o⟩
 . have i:=e7 (x9 h);generalize fa l k=z at *;go_enter func182,ntmps182;go_wp2_with fail
   refine v.o.mono ?_;rintro e g ⟨rfl,hb⟩;have p:=e7 hb;clear hb;go_wp2_with fail
   refine(B.o _ p.o).mono ?_;rintro e H ⟨q,c2,rfl,j,f,hb⟩;have O:=e7 (Own.pre p.o ⟨j,f,hb⟩);clear j f hb;go_wp2;go_ret;exact⟨q,c2,by rw[i.o];rfl,by rw[i.o];exact O.o⟩
theorem qP(w:World)(a b:Option Addr)(n c m d:Nat)(l k:List Nat)(r:Bs w a l)(s:Bs w b k)(f:n=l.length)(F:m=k.length)(E:l.length<=140737488355328)(C:k.length<=140737488355328):
 Calls prog 183 #[.slice a n c,.slice b m d] w λe w'=>∃x y,e=.returned (.slice x (lsr l k).length y)/\Own w w' x y (lsr l k):=by
 subst f F;have v:=e7 (gX w a b l.length k.length c d l k r s rfl rfl);have A:=e7 λg (hb:Below w.heap.size w g)=>fP g a l.length c l (r.keep hb) rfl E
 have B:=e7 λg (hb:Below w.heap.size w g)=>fP g b k.length d k (s.keep hb) rfl C
 clear r s;by_cases h:fa l k<=0
 . have i:=e7 (xW h);generalize fa l k=z at *;go_enter func183,ntmps183;go_wp2_with fail
   refine v.o.mono ?_;rintro e g ⟨rfl,hb⟩;have p:=e7 hb;clear hb;go_wp2_with fail
   refine(A.o _ p.o).mono ?_;rintro e H ⟨q,c2,rfl,j,f,hb⟩;have O:=e7 (Own.pre p.o ⟨j,f,hb⟩);clear j f hb;go_wp2;go_ret;exact⟨q,c2,by rw[i.o];rfl,by rw[i.o];exact O.o⟩
 . have i:=e7 (xZ h);generalize fa l k=z at *;go_enter func183,ntmps183;go_wp2_with fail
   refine v.o.mono ?_;rintro e g ⟨rfl,hb⟩;have p:=e7 hb;clear hb;go_wp2_with fail
   refine(B.o _ p.o).mono ?_;rintro e H ⟨q,c2,rfl,j,f,hb⟩;have O:=e7 (Own.pre p.o ⟨j,f,hb⟩);clear j f hb;go_wp2;go_ret;exact⟨q,c2,by rw[i.o];rfl,by rw[i.o];exact O.o⟩
set_option maxRecDepth 100000 in
theorem ot(w:World)(r s:Rv)(C:Ri w r)(E:Ri w s)(T:Rb r)(U:Rb s):
 Calls prog 155 #[r.val,s.val] w λe w'=>∃q:Rv,e=.returned q.val/\Ro w w' q/\q.rg=gZ r.rg s.rg:=by
 have GL:=e7 λa (hb:Below w.heap.size w a)=>pA a r.aL s.aL r.lo.length r.cL s.lo.length s.cL r.lo s.lo (C.bl.keep hb) (E.bl.keep hb) rfl rfl T.1 U.1
 have LH:=e7 λa (hb:Below w.heap.size w a)=>qP a r.aH s.aH r.hi.length r.cH s.hi.length s.cH r.hi s.hi (C.bh.keep hb) (E.bh.keep hb) rfl rfl T.2 U.2
 have CR:=e7 λa (hb:Below w.heap.size w a)=>fP a r.aH r.hi.length r.cH r.hi (C.bh.keep hb) rfl T.2
 have CS:=e7 λa (hb:Below w.heap.size w a)=>fP a s.aH s.hi.length s.cH s.hi (E.bh.keep hb) rfl U.2
 have R:=e7 (ua C.bl.1 E.bl.1);have S8:=e7 (tU C.bh.1 E.bh.1);have R8:=e7 C.bh.1;have T8:=e7 E.bh.1;clear C E T U;obtain⟨aL,cL,lo,aH,cH,hi,op⟩:=r;obtain⟨bL,dL,ko,bH,dH,ki,oq⟩:=s;unfold Rv.val;dsimp only[Rv.cs,Rv.rg,gZ] at *;generalize grt lo ko=g at *;generalize lsr hi ki=lw at *;go_enter func155,ntmps155;go_wp2_with fail
 refine(GL.o _ (bt (bt (al _ _) (al _ _)) (al _ _))).mono ?_;rintro e a ⟨K,c1,rfl,L⟩;obtain⟨m0,m1,m2,aa,ab⟩:=js _ _ _ _ L.b;obtain⟨V,X,Y⟩:=fb m0;obtain⟨Z,k1,k2⟩:=fb m1;have S:=e7 (Own.pre (bt (bt (al _ _) (al _ _)) (al _ _)) L);have i:Hid (∀x,K=some x->w.heap.size+3<=x.block/\x.block<a.heap.size):=λx c=>by have:=L.fresh c;rw[size_alloc,size_alloc,size_alloc] at this;exact⟨this,L.r.lt c⟩
 have I:Hid (∀o,(a.alloc o).heap[w.heap.size+1+1]?=some (.cells #[.slice none 0 0,.slice none 0 0,.bool false] 62 (0,0))):=λo=>((al a o).block _ (by omega)).trans m2
 have H:Hid (∀o,Below w.heap.size w (a.alloc o)):=λo=>bt aa (al _ _)
 have A:=e7 ab;have ac:w.heap.size<a.heap.size:=by omega
 have ad:w.heap.size+1<a.heap.size:=by omega
 clear L m0 m1 m2 aa ab GL;cases op with
 |true=>
  cases oq with
  |true=>
   go_wp2_with (refine aZ rfl 62 _ _ rfl (w.heap.size+1+1) _ rfl rfl 62 _ (I.o _) fw rfl (by simp[Value.oneCell']) ?_)
   refine aG (v:=.agg _) (cF results155 _ _ (w.heap.size+1+1) 62 _ (0,0) _ rfl (br _ _ _ _ _ _ (I.o _)) underlying62 rfl fw) rfl ?_;refine⟨⟨K,c1,g,none,0,[],true⟩,rfl,⟨(S.o.keep (al _ _)).setRow (by omega) (λx c e=>?_) _,Own.nil w (below_setRow (H.o _) (by omega) _),(λx y _ F=>by cases F),R.o,B8.nil⟩,by simp⟩
   have:=i.o x c;omega
  |false=>
   go_wp2_with fail
   refine(CS.o _ (H.o _)).mono ?_;rintro e m ⟨j,c2,rfl,P,O,N⟩;have d:Own _ m j c2 _:=⟨P,O,N⟩;clear P O N;have J:=e7 (Own.pre (H.o _) d);have f:Hid (∀x,j=some x->a.heap.size+1<=x.block):=λx c=>by have:=d.fresh c;rw[size_alloc] at this;exact this
   have B:Hid (∀v,(m.setCell ⟨a.heap.size,1,none⟩ v).heap[w.heap.size+1+1]?=some (.cells #[.slice none 0 0,.slice none 0 0,.bool false] 62 (0,0))):=λv=>(Below.heap_setCell _ _ _ _ (by have:=A.o;show _≠a.heap.size;omega)).trans ((d.b.block _ (by rw[size_alloc];have:=A.o;omega)).trans (I.o _))
   have h:=(d.b.block a.heap.size (by rw[size_alloc];omega)).trans (aF _ _)
   obtain⟨n0,n1,n2⟩:=fb h;have nf:=aQ m a.heap.size 1 _ _ h;have M:=e7 ((S.o.keep (al _ _)).keep d.b);clear d h V X Y Z k1 k2;go_wp2_with (refine aZ rfl 62 _ _ rfl (w.heap.size+1+1) _ rfl rfl 62 _ (B.o _) fw rfl (by simp[Value.oneCell']) ?_)
   refine aG (v:=.agg _) (cF results155 _ _ (w.heap.size+1+1) 62 _ (0,0) _ rfl (br _ _ _ _ _ _ (B.o _)) underlying62 rfl fw) rfl ?_;refine⟨⟨K,c1,g,j,c2,ki,false⟩,rfl,⟨(M.o.setCell (p:=⟨a.heap.size,1,none⟩) (by show _<=a.heap.size;omega) (λx c e=>?_) _).setRow (by omega) (λx c e=>?_) _,(J.o.setCell (p:=⟨a.heap.size,1,none⟩) (by show _<=a.heap.size;omega) (λx c e=>?_) _).setRow (by omega) (λx c e=>?_) _,λx y c F e=>?_,R.o,T8.o⟩,by simp⟩
   . have:=i.o x c;dsimp only at e;omega
   . have:=i.o x c;omega
   . have:=f.o x c;dsimp only at e;omega
   . have:=f.o x c;have:=A.o;omega
   . have:=i.o x c;have:=f.o y F;omega
 |false=>
  cases oq with
  |true=>
   go_wp2_with fail
   refine(CR.o _ (H.o _)).mono ?_;rintro e m ⟨j,c2,rfl,P,O,N⟩;have d:Own _ m j c2 _:=⟨P,O,N⟩;clear P O N;have J:=e7 (Own.pre (H.o _) d);have f:Hid (∀x,j=some x->a.heap.size+1<=x.block):=λx c=>by have:=d.fresh c;rw[size_alloc] at this;exact this
   have B:Hid (∀v,(m.setCell ⟨a.heap.size,1,none⟩ v).heap[w.heap.size+1+1]?=some (.cells #[.slice none 0 0,.slice none 0 0,.bool false] 62 (0,0))):=λv=>(Below.heap_setCell _ _ _ _ (by have:=A.o;show _≠a.heap.size;omega)).trans ((d.b.block _ (by rw[size_alloc];have:=A.o;omega)).trans (I.o _))
   have h:=(d.b.block a.heap.size (by rw[size_alloc];omega)).trans (aF _ _)
   obtain⟨n0,n1,n2⟩:=fb h;have nf:=aQ m a.heap.size 1 _ _ h;have M:=e7 ((S.o.keep (al _ _)).keep d.b);clear d h V X Y Z k1 k2;go_wp2_with (refine aZ rfl 62 _ _ rfl (w.heap.size+1+1) _ rfl rfl 62 _ (B.o _) fw rfl (by simp[Value.oneCell']) ?_)
   refine aG (v:=.agg _) (cF results155 _ _ (w.heap.size+1+1) 62 _ (0,0) _ rfl (br _ _ _ _ _ _ (B.o _)) underlying62 rfl fw) rfl ?_;refine⟨⟨K,c1,g,j,c2,hi,false⟩,rfl,⟨(M.o.setCell (p:=⟨a.heap.size,1,none⟩) (by show _<=a.heap.size;omega) (λx c e=>?_) _).setRow (by omega) (λx c e=>?_) _,(J.o.setCell (p:=⟨a.heap.size,1,none⟩) (by show _<=a.heap.size;omega) (λx c e=>?_) _).setRow (by omega) (λx c e=>?_) _,λx y c F e=>?_,R.o,R8.o⟩,by simp⟩
   . have:=i.o x c;dsimp only at e;omega
   . have:=i.o x c;omega
   . have:=f.o x c;dsimp only at e;omega
   . have:=f.o x c;have:=A.o;omega
   . have:=i.o x c;have:=f.o y F;omega
  |false=>
   go_wp2_with fail
   refine(LH.o _ (H.o _)).mono ?_;rintro e m ⟨j,c2,rfl,d⟩;have J:=e7 (Own.pre (H.o _) d);have f:Hid (∀x,j=some x->a.heap.size+1<=x.block):=λx c=>by have:=d.fresh c;rw[size_alloc] at this;exact this
   have B:Hid (∀v,(m.setCell ⟨a.heap.size,1,none⟩ v).heap[w.heap.size+1+1]?=some (.cells #[.slice none 0 0,.slice none 0 0,.bool false] 62 (0,0))):=λv=>(Below.heap_setCell _ _ _ _ (by have:=A.o;show _≠a.heap.size;omega)).trans ((d.b.block _ (by rw[size_alloc];have:=A.o;omega)).trans (I.o _))
   have h:=(d.b.block a.heap.size (by rw[size_alloc];omega)).trans (aF _ _)
   obtain⟨n0,n1,n2⟩:=fb h;have nf:=aQ m a.heap.size 1 _ _ h;have M:=e7 ((S.o.keep (al _ _)).keep d.b);clear d h V X Y Z k1 k2;go_wp2_with (refine aZ rfl 62 _ _ rfl (w.heap.size+1+1) _ rfl rfl 62 _ (B.o _) fw rfl (by simp[Value.oneCell']) ?_)
   refine aG (v:=.agg _) (cF results155 _ _ (w.heap.size+1+1) 62 _ (0,0) _ rfl (br _ _ _ _ _ _ (B.o _)) underlying62 rfl fw) rfl ?_;refine⟨⟨K,c1,g,j,c2,lw,false⟩,rfl,⟨(M.o.setCell (p:=⟨a.heap.size,1,none⟩) (by show _<=a.heap.size;omega) (λx c e=>?_) _).setRow (by omega) (λx c e=>?_) _,(J.o.setCell (p:=⟨a.heap.size,1,none⟩) (by show _<=a.heap.size;omega) (λx c e=>?_) _).setRow (by omega) (λx c e=>?_) _,λx y c F e=>?_,R.o,S8.o⟩,by simp⟩
   . have:=i.o x c;dsimp only at e;omega
   . have:=i.o x c;omega
   . have:=f.o x c;dsimp only at e;omega
   . have:=f.o x c;have:=A.o;omega
   . have:=i.o x c;have:=f.o y F;omega
def ml(n:Nat)(G:List Int):List Bool:=(List.range (n+1)).map λ(i:Nat)=>decide ((i:Int)∈G)
theorem vG(n:Nat):ml n []=List.replicate (n+1) false:=by
 unfold ml;apply List.ext_getElem
 . simp
 . intro i a c;simp
theorem vg(n z:Nat)(G:List Int):(ml n G).set z true=ml n ((z:Int)::G):=by
 unfold ml;apply List.ext_getElem
 . simp
 . intro i a c;simp at a;rw[List.getElem_set];by_cases e:z=i
   . subst e;simp
   . have:¬(i:Int)=(z:Int):=by omega
     simp[e,this]
structure Ckm(w:World)(cb rb gm n:Nat)(G:List Int)(ks:Nat):Prop where
 box:w.heap[cb]?=some (.cells #[.pointer (some ⟨rb,0,none⟩),.slice (some ⟨gm,0,none⟩) (n+1) (n+1),.int .i64 ((ks:Nat):Int)] 138 (0,0))
 met:w.heap[gm]?=some (.cells (vbl (ml n G)).toArray 4 (0,0))
theorem Ckm.but{S:Nat->Prop}(h:Ckm w cb rb gm n G ks)(hb:But S w w')(a:¬S cb)(c:¬S gm):Ckm w' cb rb gm n G ks:=⟨hb.same h.box a,hb.same h.met c⟩
theorem Ckm.keep(h:Ckm w cb rb gm n G ks)(hb:Below w.heap.size w w'):Ckm w' cb rb gm n G ks:=h.but (S:=λ_=>False) (But.ofBelow hb) id id
theorem Ckm.ne(h:Ckm w cb rb gm n G ks):cb≠gm:=fJ h.box h.met (by decide)
theorem Ckm.lb(h:Ckm w cb rb gm n G ks):cb<w.heap.size/\gm<w.heap.size:=⟨(ae.1 h.box).1,(ae.1 h.met).1⟩
theorem Ckm.cells(h:Ckm w cb rb gm n G ks):w.cell? ⟨cb,0,none⟩=some (.pointer (some ⟨rb,0,none⟩))/\w.cell? ⟨cb,1,none⟩=some (.slice (some ⟨gm,0,none⟩) (n+1) (n+1))/\w.cell? ⟨cb,2,none⟩=some (.int .i64 ((ks:Nat):Int)):=fb h.box
theorem Ckm.at(h:Ckm w cb rb gm n G ks){i:Nat}(hi:i<n+1):w.cell? ⟨gm,i,none⟩=some (.bool (decide ((i:Int)∈G)))/\w.frozen? ⟨gm,i,none⟩=false:=by
 refine⟨?_,by simp[World.frozen?,h.met]⟩
 rw[ah _ _ _ _ _ _ h.met,eQ];unfold vbl ml;simp[hi]
theorem Ckm.set(h:Ckm w cb rb gm n G ks)(z:Nat):Ckm (w.setCell ⟨gm,z,none⟩ (.bool true)) cb rb gm n ((z:Int)::G) ks:=by
 refine⟨(Below.heap_setCell _ _ _ _ h.ne).trans h.box,?_⟩;rw[ay _ _ _ _ _ _ h.met,<-vg];simp[vbl,eS]
theorem Ckm.more(h:Ckm w cb rb gm n G ks):Ckm (w.setCell ⟨cb,2,none⟩ (.int .i64 ((ks+1:Nat):Int))) cb rb gm n G (ks+1):=by
 refine⟨?_,(Below.heap_setCell _ _ _ _ h.ne.symm).trans h.met⟩;rw[ay _ _ _ _ _ _ h.box];simp
theorem Ckm.fz(h:Ckm w cb rb gm n G ks)(i:Nat):w.frozen? ⟨cb,i,none⟩=false:=by simp[World.frozen?,h.box]
def cko(cb gm k:Nat):Prop:=k=cb\/k=gm
theorem i5(h:0<D.count z):rdR D z=some (D.on z).pg:=by unfold rdR;rw[if_pos h]
theorem jP(h:¬0<D.count z):rdR D z=none:=by unfold rdR;rw[if_neg h]
theorem iW(h:0<D.count z):D.has z=true:=by
 unfold Rd.count at h;split at h
 . assumption
 . omega
def EntR(w w':World)(e:Ending)(cb rb gm:Nat)(D:Rd)(G:List Int)(ks:Nat)(n:Int)(N:Nat):Prop:=(e=.returned (.bool false)/\(¬0<D.count n\/n∈G)/\w'=w)\/(e=.returned (.bool true)/\0<D.count n/\n∉G/\But (λk=>k=gm) w w'/\Ckm w' cb rb gm N (n::G) ks)
theorem j9(w:World)(cb rb gm:Nat)(D:Rd)(col:Nat->Nat)(g:Rq w rb D col)(G:List Int)(ks:Nat)(f:Ckm w cb rb gm D.C.length G ks)(n:Int):
 Calls prog 113 #[.pointer (some ⟨cb,0,none⟩),.int .i64 n] w λe w'=>EntR w w' e cb rb gm D G ks n D.C.length:=by
 have d:=e7 (jM w rb D col g n);obtain⟨c0,c1,c2⟩:=f.cells;have s:=e7 f;have B:=g.n6;by_cases c:0<D.count n
 . rw[an c] at d;obtain⟨y,A⟩:=Rd.has_iff.1 (iW c);obtain⟨z,rfl⟩:∃z:Nat,n=(z:Int):=⟨n.toNat,by omega⟩
   have j:=e7 c;obtain⟨m,x⟩:=f.at (i:=z) (by omega)
   clear f g c;generalize D.C.length=N at *;have C:(z:Int)<(N:Int)+1:=by omega
   have E:(0:Int)<=(z:Int):=by omega
   by_cases h:(z:Int)∈G
   . rw[an h] at m;go_enter func113,ntmps113;go_wp2_with fail
     refine d.o.mono ?_;rintro _ q ⟨rfl,a⟩;obtain rfl:=a.symm;clear a;go_wp2;go_ret;exact .inl ⟨rfl,.inr h,rfl⟩
   . rw[am h] at m;have v:=e7 (s.o.set z);have r:=e7 ((But.refl (λk=>k=gm) w).setCell (p:=⟨gm,z,none⟩) (λ_=>rfl) (.bool true))
     go_enter func113,ntmps113;go_wp2_with fail
     refine d.o.mono ?_;rintro _ q ⟨rfl,a⟩;obtain rfl:=a.symm;clear a;go_wp2;go_ret;exact .inr ⟨rfl,j.o,h,r.o,v.o⟩
 . rw[am c] at d;have j:=e7 c;clear f g c;go_enter func113,ntmps113;go_wp2_with fail
   refine d.o.mono ?_;rintro _ q ⟨rfl,a⟩;obtain rfl:=a.symm;clear a;go_wp2;go_ret;exact .inl ⟨rfl,.inl (by have:=j.o;omega),rfl⟩
theorem kB{rd:Int->Option Pg}{t:Nat}{G:List Int}{n l:Int}(h:l<=0):fy rd t G n l=(G,0):=by
 cases t with
 |zero=>rfl
 |succ t=>unfold fy;rw[if_pos h]
theorem sd{t:Nat}{n l:Int}{p:Pg}(d:rd n=some p)(c:n∉G)(e:0<l)(a:p.kind=3):fy rd (t+1) G n l=if (p.data.length:Int)≠min l 480\/decide (p.next=0)≠decide (l<=480) then (n::G,5) else fy rd t (n::G) p.next (l-480):=by
 conv=>lhs;unfold fy
 rw[if_neg (by omega),d]
 simp only;rw[if_neg c,if_neg (by rw[a];simp)]
def itM(rd:Int->Option Pg)(r:Rg)(x:It)(G:List Int):List Int×Nat:=if has r x.key=false then (G,11) else if x.size<=32 then (G,0) else fy rd 8 G x.child x.size
theorem ox{r:Rg}{x:It}{L:List It}:fE rd r (x::L) G=if (itM rd r x G).2≠0 then itM rd r x G else fE rd r L (itM rd r x G).1:=by
 conv=>lhs;unfold fE
 unfold itM;by_cases a:has r x.key=false
 . rw[if_pos a,if_pos a,if_pos (by simp)]
 . rw[if_neg a,if_neg a];by_cases c:x.size<=32
   . rw[if_pos c,if_pos c,if_neg (by simp)]
   . rw[if_neg c,if_neg c]
theorem Rq.page(h:Rq w rb D col){n:Int}(d:0<D.count n):∃(i g:Nat),n=(i:Int)+1/\i<D.C.length/\D.C.length<=65536/\w.cell? ⟨rb,3,none⟩=some (.slice (some ⟨g,0,none⟩) D.C.length D.cP)/\(∀k u,k<5->(D.on n).cs.toList[k]?=some u->w.cell? ⟨g,i*5+k,none⟩=some u):=by
 obtain⟨m,p⟩:=Rd.has_iff.1 (iW d);obtain⟨i,a⟩:∃i:Nat,n=(i:Int)+1:=⟨(n-1).toNat,by omega⟩
 subst a;have a:i<D.C.length:=by omega
 obtain⟨g,e,c⟩:=h.pAt a;obtain⟨c0,c1,c2,c3,j⟩:=h.cells;rw[e,h.nP] at c3;have f:D.on ((i:Int)+1)=D.P.getD i Pv.zero:=by unfold Rd.on;simp
 exact⟨i,g,rfl,a,h.n6,c3,by rw[f];exact c⟩
def ItR(w w':World)(e:Ending)(cb rb gm:Nat)(D:Rd)(ks:Nat)(R:List Int×Nat):Prop:=∃ks':Nat,e=.returned (.int .i64 ((R.2:Nat):Int))/\But (cko cb gm) w w'/\Ckm w' cb rb gm D.C.length R.1 ks'/\(R.2=0->ks'=ks+1)
theorem rag4(h:W.heap[b]?=some (.cells #[v0,v1,v2,v3] t (0,0))):W.cell? ⟨b,0,none⟩=some v0/\W.cell? ⟨b,1,none⟩=some v1/\W.cell? ⟨b,2,none⟩=some v2/\W.cell? ⟨b,3,none⟩=some v3:=by
 refine⟨?_,?_,?_,?_⟩<;>(rw[ah _ _ _ _ _ _ h];rfl)
theorem jp(h:W.heap[b]?=some (.cells #[v0,v1,v2,v3,v4] t (0,0))):W.cell? ⟨b,0,none⟩=some v0/\W.cell? ⟨b,1,none⟩=some v1/\W.cell? ⟨b,2,none⟩=some v2/\W.cell? ⟨b,3,none⟩=some v3/\W.cell? ⟨b,4,none⟩=some v4:=by
 refine⟨?_,?_,?_,?_,?_⟩<;>(rw[ah _ _ _ _ _ _ h];rfl)
theorem Rq.cko(h:Rq w rb D col)(a:∀k,cko cb gm k->col k=0)(hb:But (cko cb gm) w w'):Rq w' rb D col:=h.but hb (λk c e=>c (a k e))
theorem oC(w:World)(cb rb gm:Nat)(D:Rd)(col:Nat->Nat)(hR:Rq w rb D col)(hA:gc (rdR D))(aw:∀k,cko cb gm k->col k=0)(G:List Int)(ks:Nat)(I:Ckm w cb rb gm D.C.length G ks)(x:Iv)(hs:x.size<=3840)(r:Rv)(ao:Ri w r)(hK:Bs w x.aK x.key)(aG:ks<=1000000000000):
 Calls prog 114 #[.pointer (some ⟨cb,0,none⟩),x.vl,r.val] w λe w'=>ItR w w' e cb rb gm D ks (itM (rdR D) r.rg x.it G):=by
 have A1:=al w (.cells x.cs 89);have A2:=al (w.alloc (.cells x.cs 89)) (.cells r.cs 62);have A:=e7 (bt A1 A2);have X0:=e7 ((A2.block w.heap.size (by rw[size_alloc];omega)).trans (ag w (.cells x.cs 89)))
 have Y0:=e7 (ag (w.alloc (.cells x.cs 89)) (.cells r.cs 62));rw[size_alloc] at Y0;clear A1 A2;have B:=e7 (wE _ r x.aK _ x.cK x.key (ao.keep A.o) (hK.keep A.o) rfl);have N:=e7 (I.keep A.o);have HR:=e7 (hR.keep A.o);have HL:=e7 I.lb;obtain⟨aK,cK,X,aV,cV,val,Y,y⟩:=x;obtain⟨aL,cL,U,aH,cH,J,V⟩:=r;obtain⟨R,af⟩:∃R,itM (rdR D) (Rv.rg ⟨aL,cL,U,aH,cH,J,V⟩) (Iv.it ⟨aK,cK,X,aV,cV,val,Y,y⟩) G=R:=⟨_,rfl⟩;rw[af];have v:=e7 (show itM (rdR D) ⟨U,J,V⟩ ⟨X,val,Y,y⟩ G=R from af)
 have ah:=e7 aw;have ay:=e7 hA;have hs:y<=3840:=hs;unfold Iv.vl Rv.val at *;simp only[Iv.cs,Rv.cs,Rv.rg,Iv.it] at A X0 Y0 B N HR v ⊢;clear af ao hK I hR hA aw;generalize av:(w.alloc (.cells #[.slice aK X.length cK,.slice aV val.length cV,.int .i64 Y,.int .i64 y] 89)).alloc (.cells #[.slice aL U.length cL,.slice aH J.length cH,.bool V] 62)=w1 at *;obtain⟨i0,i1,i2,i3⟩:=rag4 X0.o;obtain⟨j0,j1,j2⟩:=fb Y0.o;cases hh:has ⟨U,J,V⟩ X with
 |false=>
  rw[hh] at B;have a:Hid (R=(G,11)):=e7 (by rw[<-v.o];unfold itM;exact if_pos hh)
  go_enter func114,ntmps114;go_upto_region 1 with fail
  clear av;go_wp2_with fail
  refine B.o.mono ?_;rintro _ w2 ⟨rfl,s⟩;have Z:=e7 (bt A.o s);have E:=e7 (N.o.keep s);clear s B;go_wp2;go_ret;rw[a.o];exact⟨ks,rfl,But.ofBelow Z.o,E.o,λh=>by cases h⟩
 |true=>
  rw[hh] at B;replace v:Hid ((if y<=32 then (G,0) else fy (rdR D) 8 G Y y)=R):=e7 (by rw[<-v.o];unfold itM;exact(if_neg (by show ¬has ⟨U,J,V⟩ X=false;rw[hh];decide)).symm)
  clear hh;have aP:IntKind.i64.wrap ((ks:Int)+1)=(ks:Int)+1:=fB (by omega) (by omega)
  have aC:((ks+1:Nat):Int)=(ks:Int)+1:=by omega
  go_enter func114,ntmps114;go_upto_region 1 with fail
  clear av;go_wp2_with fail
  refine B.o.mono ?_;rintro _ w2 ⟨rfl,s⟩;have Z:=e7 (bt A.o s);have E:=e7 (N.o.keep s);have R2:=e7 (HR.o.keep s);have X2:=e7 ((s.block w.heap.size (ae.1 X0.o).1).trans X0.o);clear s B i0 i1 i2 i3 j0 j1 j2 N HR;obtain⟨c0,c1,c2⟩:=E.o.cells;have f2:=E.o.fz 2;have b3:=(But.refl (cko cb gm) w2).setCell (p:=⟨cb,2,none⟩) (λ_=>.inl rfl) (.int .i64 ((ks:Int)+1))
  have M:=E.o.more;rw[aC] at M;have hL:=HL.o;have X3:=e7 (b3.same X2.o (λe=>by rcases e with e|e<;>omega))
  have R3:=e7 (R2.o.cko ah.o b3);have K:=e7 ((But.ofBelow (S:=cko cb gm) Z.o).trans b3 (λ_ _ e=>e))
  replace M:=e7 M
  obtain⟨i0,i1,i2,i3⟩:=rag4 X3.o;go_upto_region 4 with fail
  generalize w2.setCell ⟨cb,2,none⟩ (.int .i64 ((ks:Int)+1))=w3 at *;clear c0 c1 c2 f2 b3 Z E R2 X2;by_cases h2:y<=32
  . have a:Hid (R=(G,0)):=e7 (v.o.symm.trans (if_pos h2));go_wp2;go_ret;rw[a.o];exact⟨ks+1,rfl,K.o,M.o,λ_=>rfl⟩
  . replace v:=e7 ((if_neg h2).symm.trans v.o)
    go_upto_region 8 with fail
    clear i0 i1 i2 i3;go_loopw [7,8] (λp q wr=>∃(t:Nat)(c:List Int)(n l:Int),p=.int .i64 l/\q=.int .i64 n/\l<=480*t/\l<=3840/\0<=l/\But (cko cb gm) w3 wr/\Ckm wr cb rb gm D.C.length c (ks+1)/\fy (rdR D) t c n l=R) (λp _ _=>(intOf p).toNat)
    case atStart=>exact⟨8,G,Y,y,rfl,rfl,by omega,hs,by omega,But.refl _ _,M.o,v.o⟩
    case round=>
     obtain⟨t,c,n,l,rfl,rfl,aI,aJ,aM,hB,I,j⟩:=hrel;have HB:=e7 hB;have CC:=e7 I;have O:=e7 j;have RW:=e7 (R3.o.cko ah.o hB);clear hB I j;by_cases aA:0<l
     . have EN:=e7 (j9 wr cb rb gm D col RW.o c (ks+1) CC.o n);obtain⟨C,rfl⟩:∃C,t=C+1:=⟨t-1,by omega⟩
       go_wp2_with fail
       refine EN.o.mono ?_;rintro e w4 (⟨rfl,ax,hw⟩|⟨rfl,h0,au,ap,ak⟩)
       . obtain rfl:=hw.symm
         have a:Hid (R=(c,15)):=by
          show _=_;rw[<-O.o];unfold fy;rw[if_neg (by omega)]
          rcases ax with h|h
          . rw[jP h]
          . cases hp:rdR D n with
            |none=>rfl
            |some p=>simp only;rw[if_pos h]
         clear hw ax EN;go_wp2;go_ret;rw[a.o];exact⟨ks+1,rfl,K.o.trans HB.o (λ_ _ e=>e),CC.o,λh=>by cases h⟩
       . have B4:=e7 (HB.o.trans (ap.mono (T:=cko cb gm) λk _ e=>.inr e) (λ_ _ e=>e))
         have R4:=e7 (R3.o.cko ah.o B4.o);have L:=e7 ak;have ac:=e7 (ay.o n _ (i5 h0));have RD:=e7 (i5 h0);have ab:=e7 au;obtain⟨i,aD,rfl,J,m,c3,j⟩:=R4.o.page h0;clear ap ak h0 au EN;have az:(i:Int)<(D.C.length:Int):=by omega
         have aO:(i:Int)+1-1=(i:Int):=by omega
         obtain⟨c0,c1,c2⟩:=L.o.cells;obtain⟨q,hq⟩:∃q,D.on ((i:Int)+1)=q:=⟨_,rfl⟩;rw[hq] at j ac RD;clear hq;obtain⟨kq,lq,aq,cq,aa,ad,cd,H,nq⟩:=q;have y0:=j 0 _ (by decide) rfl
         have y1:=j 1 _ (by decide) rfl
         have y2:=j 2 _ (by decide) rfl
         have y3:=j 3 _ (by decide) rfl
         have y4:=j 4 _ (by decide) rfl
         rw[cx] at y0;clear j;have aj:=L;obtain⟨ai,hN⟩:∃ai,D.C.length=ai:=⟨_,rfl⟩;rw[hN] at c1 c3 az m;have HD:=e7 hN;clear hN;by_cases h3:kq=3
         . subst h3;have ar:=e7 ((ac.o.blob rfl).2.2);have f:Hid ((if (H.length:Int)≠min l 480\/decide (nq=0)≠decide (l<=480) then (((i:Int)+1)::c,5) else fy (rdR D) C (((i:Int)+1)::c) nq (l-480))=R):=e7 (by rw[<-O.o];exact(sd RD.o ab.o aA rfl).symm)
           have aF:H.length<=480:=ar.o.2.1;have A5:=e7 (al w4 (.cells #[.int .i64 3,.int .i64 lq,.slice aq aa.length cq,.slice ad H.length cd,.int .i64 nq] 77));have X5:=ag w4 (.cells #[.int .i64 3,.int .i64 lq,.slice aq aa.length cq,.slice ad H.length cd,.int .i64 nq] 77);have BF:=e7 (B4.o.andBelow A5.o);have F:=e7 (aj.o.keep A5.o);obtain⟨j0,j1,j2,j3,j4⟩:=jp X5;clear RD ab ac ar O L aj X5 A5;go_upto_region 12 with fail
           generalize w4.alloc (.cells #[.int .i64 3,.int .i64 lq,.slice aq aa.length cq,.slice ad H.length cd,.int .i64 nq] 77)=w5 at *;clear y0 y1 y2 y3 y4 c0 c1 c2 c3;generalize H.length=d at *;have g:=e7 (K.o.trans BF.o (λ_ _ e=>e))
           by_cases h4:l<=480
           . by_cases P:(d:Int)=l
             . subst P;have hm:min 480 (d:Int)=(d:Int):=by omega
               have aN:min (d:Int) 480=(d:Int):=by omega
               have aQ:IntKind.i64.wrap ((d:Int)-(d:Int))=0:=by rw[Int.sub_self];exact fB (by omega) (by omega)
               by_cases m:nq=0
               . subst m
                 have a:Hid (fy (rdR D) C (((i:Int)+1)::c) 0 0=R):=e7 (by
                  have h7:=f.o;rw[if_neg (λh=>by rcases h with h|h;exact h (by omega);exact h (by rw[an (rfl:(0:Int)=0),an h4])),kB (by omega)] at h7
                  rw[<-h7];exact kB (by omega))
                 clear f;go_wp2;go_roundw
                 case rel=>exact⟨C,((i:Int)+1)::c,0,0,by first|rfl|go_num,rfl,by omega,by omega,by omega,BF.o,F.o,a.o⟩
                 case measure=>simp[intOf];omega
               . have a:Hid (R=(((i:Int)+1)::c,5)):=e7 (by
                  rw[<-f.o];exact if_pos (.inr (λh=>by rw[am m,an h4] at h;cases h)))
                 clear f;have hq:(nq==0)=false:=by simp[m]
                 go_wp2;go_ret;rw[a.o];exact⟨ks+1,rfl,g.o,F.o,λh=>by cases h⟩
             . have a:Hid (R=(((i:Int)+1)::c,5)):=e7 (by
                rw[<-f.o];exact if_pos (.inl (λh=>P (by omega))))
               clear f;have hm:min 480 l=l:=by omega
               go_wp2;go_ret;rw[a.o];exact⟨ks+1,rfl,g.o,F.o,λh=>by cases h⟩
           . have hm:min 480 l=480:=by omega
             by_cases P:(d:Int)=480
             . obtain rfl:d=480:=by omega
               clear P;have hw:IntKind.i64.wrap (l-480)=l-480:=fB (by omega) (by omega)
               have aB:¬l-480=0:=by omega
               have aE:(l-480==0)=false:=by simp[aB]
               by_cases m:nq=0
               . subst m
                 have a:Hid (R=(((i:Int)+1)::c,5)):=e7 (by
                  rw[<-f.o];exact if_pos (.inr (λh=>by rw[an (rfl:(0:Int)=0),am h4] at h;cases h)))
                 clear f;go_wp2;go_ret;rw[a.o];exact⟨ks+1,rfl,g.o,F.o,λh=>by cases h⟩
               . have a:Hid (fy (rdR D) C (((i:Int)+1)::c) nq (l-480)=R):=e7 (by
                  rw[<-f.o];exact(if_neg (λh=>by rcases h with h|h;exact h (by omega);exact h (by rw[am m,am h4]))).symm)
                 clear f;have hq:(nq==0)=false:=by simp[m]
                 go_wp2;go_roundw
                 case rel=>exact⟨C,((i:Int)+1)::c,nq,l-480,by first|rfl|go_num,rfl,by omega,by omega,by omega,BF.o,F.o,a.o⟩
                 case measure=>simp[intOf];omega
             . have a:Hid (R=(((i:Int)+1)::c,5)):=e7 (by
                rw[<-f.o];exact if_pos (.inl (λh=>P (by omega))))
               clear f;go_wp2;go_ret;rw[a.o];exact⟨ks+1,rfl,g.o,F.o,λh=>by cases h⟩
         . have a:Hid (R=(((i:Int)+1)::c,15)):=by
            show _=_;rw[<-O.o];unfold fy;rw[if_neg (by omega),RD.o]
            simp only;rw[if_neg ab.o];exact if_pos (show(kq:Int)≠3 from h3)
           go_wp2;go_ret;rw[a.o];exact⟨ks+1,rfl,K.o.trans B4.o (λ_ _ e=>e),L.o,λh=>by cases h⟩
     . obtain rfl:l=0:=by omega
       go_wp2;go_ret;have:=O.o;rw[kB (by omega)] at this
       rw[<-this];exact⟨ks+1,rfl,K.o.trans HB.o (λ_ _ e=>e),CC.o,λ_=>rfl⟩
theorem wj(h:W.heap[b]?=some (.cells #[v0,v1,v2,v3,v4] t (0,0))):W.cell? ⟨b,0,none⟩=some v0/\W.cell? ⟨b,1,none⟩=some v1/\W.cell? ⟨b,2,none⟩=some v2/\W.cell? ⟨b,3,none⟩=some v3/\W.cell? ⟨b,4,none⟩=some v4:=by
 refine⟨?_,?_,?_,?_,?_⟩<;>(rw[ah _ _ _ _ _ _ h];rfl)
theorem nu{o:Nat}(h:w.rangeAt b o #[v0,v1,v2,v3].toList):w.cell? ⟨b,o,none⟩=some v0/\w.cell? ⟨b,o+1,none⟩=some v1/\w.cell? ⟨b,o+2,none⟩=some v2/\w.cell? ⟨b,o+3,none⟩=some v3:=
 ⟨h 0 _ rfl,h 1 _ rfl,h 2 _ rfl,h 3 _ rfl⟩
theorem lz(w:World)(p:Pv)(i:Nat)(hi:i<p.items.length)(r:Rv)(hP:Pi w p)(aF:Ri w r)(aE:Rb r)(hk:∀x∈p.items,x.key.length<=24):
 Calls prog 115 #[p.vl,.int .i64 (i:Int),r.val] w λe w'=>∃q:Rv,e=.returned q.val/\Ro w w' q/\q.rg=wth p.pg i r.rg:=by
 obtain⟨aq,aw,ax,ap,aJ⟩:=js w (.cells p.cs 77) (.cells r.cs 62) (.cells #[.slice none 0 0,.slice none 0 0,.bool false] 62) (Below.refl _ _);have J:=e7 ap;have y:=e7 aq;have X1:=e7 aw;have X2:=e7 ax;have aN:=e7 aJ;clear ap aq aw ax aJ;have hn:p.items.length<=2199023255520:=hP.it.2.1;obtain⟨H,K,ea,cA⟩:=(hP.it.keep J.o).at hi;have ah:=e7 (hP.keep J.o);have aj:=e7 (aF.keep J.o);have XI:=e7 ((ah.o.it).1 _ (fh hi));have ei:p.pg.at i=(p.items.getD i Iv.zero).it:=fT p.items i;have M:=hk _ (fh hi);have KN:∀ad,ad<p.items.length->(p.items.getD ad Iv.zero).key.length<=24:=λad hj=>hk _ (fh hj)
 have sw:=size_alloc ((w.alloc (.cells p.cs 77)).alloc (.cells r.cs 62)) (.cells #[.slice none 0 0,.slice none 0 0,.bool false] 62);rw[size_alloc,size_alloc] at sw;clear hk;obtain⟨wt,ao⟩:∃wt,wth p.pg i r.rg=wt:=⟨_,rfl⟩;have WT:=e7 ao;rw[ao];unfold wth at WT;clear ao hP aF;obtain⟨kind,ac,aI,cI,L,aD,cD,ab,next⟩:=p
 have ea:aI=some ⟨H,K,none⟩:=ea;subst ea;unfold Pv.vl Rv.val at *;simp only[Pv.cs,Rv.cs] at *;generalize aS:((w.alloc (.cells #[.int .i64 kind,.int .i64 ac,.slice (some ⟨H,K,none⟩) L.length cI,.slice aD ab.length cD,.int .i64 next] 77)).alloc (.cells #[.slice r.aL r.lo.length r.cL,.slice r.aH r.hi.length r.cH,.bool r.op] 62)).alloc (.cells #[.slice none 0 0,.slice none 0 0,.bool false] 62)=a at*
 obtain⟨d0,d1,d2,d3⟩:=nu cA;obtain⟨m0,m1,m2,m3,m4⟩:=wj y.o;have a4:(i:Int)<(L.length:Int):=by omega
 have a3:(0:Int)<=(i:Int):=by omega
 obtain⟨x,c⟩:∃x,L.getD i Iv.zero=x:=⟨_,rfl⟩;rw[c] at d0 XI ei M;clear c cA d1 d2 d3;obtain⟨f,g,d,av,cv,val,ba,a9⟩:=x;simp only at d0;have A:=e7 (al a (.cells #[.slice f d.length g,.slice none 0 0,.bool true] 62));have O:=e7 (ag a (.cells #[.slice f d.length g,.slice none 0 0,.bool true] 62));go_enter func115,ntmps115;go_upto_region 1 with fail
 clear aS;go_upto_region 2 with fail
 generalize a.alloc (.cells #[.slice f d.length g,.slice none 0 0,.bool true] 62)=V at *;have BV:=e7 (bt J.o A.o);have Y0:=e7 ((A.o.block w.heap.size (ae.1 y.o).1).trans y.o);have Y1:=e7 ((A.o.block (w.heap.size+1) (ae.1 X1.o).1).trans X1.o);have Y2:=e7 ((A.o.block (w.heap.size+2) (ae.1 X2.o).1).trans X2.o);have RV:=e7 (aj.o.keep A.o);have IV:=e7 (XI.o.keep A.o);have PV:=e7 (ah.o.keep A.o);have aP:=e7 d0;have aM:=A;have az:=XI;have aO:=aj;have aK:=J;clear d0 m0 m1 m2 m3 m4 y X1 X2 XI aj J A;obtain⟨m0,m1,m2,m3,m4⟩:=wj Y0.o;have a2:w.heap.size+3<=a.heap.size:=aN.o;have a6:IntKind.i64.wrap ((i:Int)+1)=(i:Int)+1:=fB (by omega) (by omega)
 by_cases X:i+1<L.length
 . have a7:(i:Int)+1<(L.length:Int):=by omega
   have bb:(0:Int)<=(i:Int)+1:=by omega
   have a5:((i:Int)+1).toNat=i+1:=by omega
   obtain⟨R,o2,e2,cB⟩:=(PV.o.it).at X;simp only[au,Addr.mk.injEq] at e2;obtain⟨rfl,rfl,_⟩:=e2;obtain⟨U,_,_,_⟩:=nu cB;have YI:=e7 (((ah.o.it).1 _ (fh X)));have aC:(⟨kind,ac,some ⟨H,K,none⟩,cI,L,aD,cD,ab,next⟩:Pv).pg.at (i+1)=(L.getD (i+1) Iv.zero).it:=fT L (i+1)
   have am:=KN (i+1) X;obtain⟨af,hy⟩:∃af,L.getD (i+1) Iv.zero=af:=⟨_,rfl⟩;rw[hy] at U YI aC am;clear hy cB;obtain⟨F,E,s,_,_,_,_,_⟩:=af;simp only at U;have aB:=YI
   have FN:Hid (H≠a.heap.size):=λe=>by
    obtain⟨p0,p1,p2⟩:=fb O.o;have hb:=block_lt_of_cell aP.o;have hb:H<a.heap.size:=hb;omega
   have g2:=aQ V a.heap.size 2 _ _ O.o;have aa:=ay V a.heap.size 2 _ _ (.bool false) O.o;have g1:=aQ _ a.heap.size 1 _ _ aa;have aA:=ay _ a.heap.size 1 _ _ (.slice F s.length E) aa;obtain⟨v0,v1,v2⟩:=fb O.o;obtain⟨aY,a0,a1⟩:=fb (show _=some (Obj.cells #[.slice f d.length g,.slice none 0 0,.bool false] 62 (0,0)) from aa)
   have R:=(But.refl (λk=>k=a.heap.size) V).setCell (p:=⟨a.heap.size,2,none⟩) (λ_=>rfl) (.bool false)
   have T:=R.setCell (p:=⟨a.heap.size,1,none⟩) (λ_=>rfl) (.slice F s.length E)
   have aR:=(R.cell (p:=⟨H,K+(i+1)*4,none⟩) (block_lt_of_cell U) (λe=>FN.o e)).trans U
   obtain⟨aT,aU,aV,aW,aX⟩:=wj (R.same Y0.o (λe=>by have e:w.heap.size=a.heap.size:=e;omega))
   have Z0:=e7 (T.same Y0.o (λe=>by have e:w.heap.size=a.heap.size:=e;omega))
   have Z1:=e7 (T.same Y1.o (λe=>by have e:w.heap.size+1=a.heap.size:=e;omega))
   have I:=e7 (T.same Y2.o (λe=>by have e:w.heap.size+2=a.heap.size:=e;omega))
   have Z3:=e7 (show _=some (Obj.cells #[.slice f d.length g,.slice F s.length E,.bool false] 62 (0,0)) from aA)
   have j:=e7 (((But.ofBelow (S:=λk=>k=a.heap.size) aM.o).trans T (λ_ _ e=>e)).below (λk hk e=>by have e:k=a.heap.size:=e;omega))
   have SK:=e7 (show Ri ((V.setCell ⟨a.heap.size,2,none⟩ (.bool false)).setCell ⟨a.heap.size,1,none⟩ (.slice F s.length E)) ⟨f,g,d,F,E,s,false⟩ from⟨az.o.bk.keep j.o,az.o.ck,aB.o.bk.keep j.o,aB.o.ck⟩)
   have RW:=e7 (aO.o.keep j.o);have BW:=e7 (bt aK.o j.o)
   have an:Hid (Rb ⟨f,g,d,F,E,s,false⟩):=by
    have M:d.length<=24:=M;have am:s.length<=24:=am;exact⟨show d.length<=_ by omega,show s.length<=_ by omega⟩
   have EQ:Hid (wt=gZ r.rg (⟨f,g,d,F,E,s,false⟩:Rv).rg):=by
    show _=_;rw[<-WT.o];have Z:i+1<(⟨kind,ac,some ⟨H,K,none⟩,cI,L,aD,cD,ab,next⟩:Pv).pg.items.length:=by simpa[Pv.pg] using X
    rw[ei,aC,if_pos Z];simp only[Z,not_true_eq_false,decide_false];rfl
   go_upto_region 5 with fail
   generalize (V.setCell ⟨a.heap.size,2,none⟩ (.bool false)).setCell ⟨a.heap.size,1,none⟩ (.slice F s.length E)=C at *;clear g1 g2 aA aa R T U aR m0 m1 m2 m3 m4 aT aU aV aW aX v0 v1 v2 aY a0 a1;have B:=e7 (ot C r ⟨f,g,d,F,E,s,false⟩ RW.o SK.o aE an.o);unfold Rv.val at B;simp only[Rv.cs] at B;obtain⟨n0,n1,n2⟩:=fb Z1.o;obtain⟨q0,q1,q2⟩:=fb Z3.o;go_wp2_with fail
   refine B.o.mono ?_;rintro e W5 ⟨q,rfl,m,Y⟩;have P:=e7 ((m.l.b.block (w.heap.size+2) (ae.1 I.o).1).trans I.o);have h:=e7 (m.pre BW.o);have N:Hid ((∀x,q.aL=some x->C.heap.size<=x.block)/\∀x,q.aH=some x->C.heap.size<=x.block):=⟨λx c=>m.l.fresh c,λx c=>m.h.fresh c⟩
   have QG:=e7 (Y.trans EQ.o.symm);have h4:w.heap.size+2<C.heap.size:=(ae.1 I.o).1;clear B m Y n0 n1 n2 q0 q1 q2;obtain⟨aL,cL,lo,aH,cH,hi,op⟩:=q;go_wp2_with (refine aZ rfl 62 _ _ rfl (w.heap.size+2) _ rfl rfl 62 _ P.o fw rfl (by simp[Value.oneCell',Rv.cs]) ?_)
   refine aG (v:=.agg _) (cF results115 _ _ (w.heap.size+2) 62 _ (0,0) _ rfl (br _ _ _ _ _ _ P.o) underlying62 rfl fw) rfl ?_;exact⟨⟨aL,cL,lo,aH,cH,hi,op⟩,rfl,⟨h.o.l.setRow (by omega) (λx c e=>by have:=N.o.1 x c;omega) _,h.o.h.setRow (by omega) (λx c e=>by have:=N.o.2 x c;omega) _,h.o.apart,h.o.l8,h.o.h8⟩,QG.o⟩
 . have a8:¬(i:Int)+1<(L.length:Int):=by omega
   have Z0:=Y0;have Z1:=Y1;have I:=Y2;have Z3:=O;have SK:=e7 (show Ri V ⟨f,g,d,none,0,[],true⟩ from⟨IV.o.bk,IV.o.ck,Bs.nil _,ai _⟩)
   have RW:=RV;have BW:=BV
   have an:Hid (Rb ⟨f,g,d,none,0,[],true⟩):=by
    have M:d.length<=24:=M;exact⟨show d.length<=_ by omega,ar _⟩
   have EQ:Hid (wt=gZ r.rg (⟨f,g,d,none,0,[],true⟩:Rv).rg):=by
    show _=_;rw[<-WT.o];have Z:¬i+1<(⟨kind,ac,some ⟨H,K,none⟩,cI,L,aD,cD,ab,next⟩:Pv).pg.items.length:=by simpa[Pv.pg] using X
    rw[ei,if_neg Z];simp only[Z,not_false_eq_true,decide_true];rfl
   go_upto_region 5 with fail
   clear m0 m1 m2 m3 m4;generalize V=C at *;have B:=e7 (ot C r ⟨f,g,d,none,0,[],true⟩ RW.o SK.o aE an.o);unfold Rv.val at B;simp only[Rv.cs] at B;obtain⟨n0,n1,n2⟩:=fb Z1.o;obtain⟨q0,q1,q2⟩:=fb Z3.o;go_wp2_with fail
   refine B.o.mono ?_;rintro e W5 ⟨q,rfl,m,Y⟩;have P:=e7 ((m.l.b.block (w.heap.size+2) (ae.1 I.o).1).trans I.o);have h:=e7 (m.pre BW.o);have N:Hid ((∀x,q.aL=some x->C.heap.size<=x.block)/\∀x,q.aH=some x->C.heap.size<=x.block):=⟨λx c=>m.l.fresh c,λx c=>m.h.fresh c⟩
   have QG:=e7 (Y.trans EQ.o.symm);have h4:w.heap.size+2<C.heap.size:=(ae.1 I.o).1;clear B m Y n0 n1 n2 q0 q1 q2;obtain⟨aL,cL,lo,aH,cH,hi,op⟩:=q;go_wp2_with (refine aZ rfl 62 _ _ rfl (w.heap.size+2) _ rfl rfl 62 _ P.o fw rfl (by simp[Value.oneCell',Rv.cs]) ?_)
   refine aG (v:=.agg _) (cF results115 _ _ (w.heap.size+2) 62 _ (0,0) _ rfl (br _ _ _ _ _ _ P.o) underlying62 rfl fw) rfl ?_;exact⟨⟨aL,cL,lo,aH,cH,hi,op⟩,rfl,⟨h.o.l.setRow (by omega) (λx c e=>by have:=N.o.1 x c;omega) _,h.o.h.setRow (by omega) (λx c e=>by have:=N.o.2 x c;omega) _,h.o.apart,h.o.l8,h.o.h8⟩,QG.o⟩
end Go.Proofs.YtnnieandfdbhgaaGreat
