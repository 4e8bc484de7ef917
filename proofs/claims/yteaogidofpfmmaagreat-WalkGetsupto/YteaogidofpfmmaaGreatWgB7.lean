import Derived.Test.YteaogidofpfmmaaGreatWgB6
set_option linter.all false
set_option maxHeartbeats 6400000
set_option maxRecDepth 8000
namespace Go.Proofs.YteaogidofpfmmaaGreat
open Tryz
open Go.RowKit
variable {b k n:Nat}{p:Pg}{w:World}
theorem mZ(w:World)(n:Int):Calls prog 164 #[.int .i64 n] w λe c=>e=.returned (.bool (j9 n))/\c=w:=by
 unfold j9;by_cases a:1<=n
 . have d:decide (1<=n)=true:=by simpa using a
   go_enter func164,ntmps164;go_wp2;go_ret;exact⟨by simp[a],rfl⟩
 . have d:decide (1<=n)=false:=by simpa using a
   go_enter func164,ntmps164;go_wp2;go_ret;exact⟨by simp,rfl⟩
theorem nG{a b:Bool}(h:a=b):Ending.returned (.bool a)=.returned (.bool b):=by rw[h]
theorem oo(w:World)(p:Pv):Calls prog 160 #[p.vl] w λe f=>e=.returned (.bool p.pg.form)/\Below w.heap.size w f:=by
 unfold Pv.vl Pv.cs Pg.form Pv.pg;simp only[bu];obtain⟨kind,s,j,m,h,i,l,g,next⟩:=p
 dsimp only;generalize h.length=n;generalize g.length=d;by_cases c:kind=3
 . subst c;go_enter func160,ntmps160;go_wp2
   all_goals (go_ret;refine⟨nG ?_,al _ _⟩;first|grind|(simp;grind)|(simp[mE];grind))
 . have r:(kind==3)=false:=by simpa using c
   rw[if_neg c];by_cases a:kind=1
   . subst a;go_enter func160,ntmps160;go_wp2
     all_goals (go_ret;refine⟨nG ?_,al _ _⟩;first|grind|(simp;grind)|(simp[mE];grind))
   . have q:(kind==1)=false:=by simpa using a
     rw[if_neg a];go_enter func160,ntmps160;go_wp2
     all_goals (go_ret;refine⟨nG ?_,al _ _⟩;first|grind|(simp;grind)|(simp[mE];grind))
theorem un(w:World)(p:Pv)(i:Nat)(c:Pi w p)(hi:i<p.items.length):Calls prog 161 #[p.vl,.int .i64 (i:Int)] w λe j=>e=.returned (.bool (p.pg.keyOk i))/\Below w.heap.size w j:=by
 obtain⟨r,B,l,d⟩:=(c.it.keep (al w (.cells p.cs 77))).at hi;obtain⟨f,g,a,h⟩:=iX d;have y:(i:Int)<(p.items.length:Int):=by omega
 unfold Pg.keyOk;rw[Pv.at];generalize p.items.getD i Iv.zero=x at *;clear d c g a h;obtain⟨kind,E,q,t,D,m,s,C,next⟩:=p
 unfold Pv.vl Iv.it;simp only[Pv.cs,Pv.pg] at *;subst l;generalize x.key.length=n at *;by_cases hk:kind=2/\i=0
 . obtain⟨rfl,rfl⟩:=hk;simp only[eX,dr] at f;go_enter func161,ntmps161;go_wp2
   all_goals (go_ret;refine⟨nG ?_,al _ _⟩;first|grind|(simp;grind)|(simp[mE];grind))
 . by_cases a:kind=2
   . subst a;have v:((i:Int)==0)=false:=by simp;omega
     go_enter func161,ntmps161;go_wp2
     all_goals (go_ret;refine⟨nG ?_,al _ _⟩;first|grind|(simp;grind)|(simp[mE];grind))
   . have A:(kind==2)=false:=by simpa using a
     go_enter func161,ntmps161;go_wp2
     all_goals (go_ret;refine⟨nG ?_,al _ _⟩;first|grind|(simp;grind)|(simp[mE];grind))
theorem qR(w:World)(p:Pv)(x:Iv):Calls prog 162 #[p.vl,x.vl] w λe c=>e=.returned (.bool (x.it.valOk p.kind))/\Below w.heap.size w c:=by
 unfold It.valOk;obtain⟨kind,y,f,j,v,d,i,s,next⟩:=p
 obtain⟨g,l,r,h,m,val,child,t⟩:=x;unfold Pv.vl Iv.vl Iv.it;simp only[Pv.cs,Iv.cs];generalize val.length=n;by_cases a:kind=2
 . subst a;go_enter func162,ntmps162;go_wp2
   all_goals (go_ret;refine⟨nG ?_,bt (al _ _) (al _ _)⟩;first|grind|(simp;grind)|(simp[mE];grind))
 . have q:(kind==2)=false:=by simpa using a
   rw[if_neg a];go_enter func162,ntmps162;go_wp2
   all_goals (go_ret;refine⟨nG ?_,bt (al _ _) (al _ _)⟩;first|grind|(simp;grind)|(simp[mE];grind))
theorem qw(w:World)(p:Pv)(x:Iv):Calls prog 163 #[p.vl,x.vl] w λe h=>e=.returned (.bool (x.it.kidOk p.kind))/\Below w.heap.size w h:=by
 unfold It.kidOk;obtain⟨kind,F,m,t,E,l,s,D,next⟩:=p
 obtain⟨q,v,C,r,A,val,child,c⟩:=x;unfold Pv.vl Iv.vl Iv.it;simp only[Pv.cs,Iv.cs];by_cases f:kind=1/\c<=32
 . obtain⟨rfl,g⟩:=f;have j:decide (c<=32)=true:=by simpa using g
   rw[if_pos ⟨rfl,g⟩];go_enter func163,ntmps163;go_wp2
   all_goals (go_ret;refine⟨nG ?_,bt (al _ _) (al _ _)⟩;simp[mE])
 . rw[if_neg f];by_cases d:kind=1
   . subst d;have j:decide (c<=32)=false:=by simp;omega
     go_enter func163,ntmps163;go_wp2_with (go_at_call 164;refine(mZ _ _).mono ?_;rintro y i ⟨rfl,a⟩;obtain rfl:=a.symm)
     go_ret;exact⟨rfl,bt (al _ _) (al _ _)⟩
   . have B:(kind==1)=false:=by simpa using d
     go_enter func163,ntmps163;go_wp2_with (go_at_call 164;refine(mZ _ _).mono ?_;rintro y i ⟨rfl,a⟩;obtain rfl:=a.symm)
     go_ret;exact⟨rfl,bt (al _ _) (al _ _)⟩
theorem t7(h:p.formE=0)(c:iO p.itemE k=0)(hk:k<p.items.length)(a:p.itemE k≠0):p.check=p.itemE k:=by
 obtain⟨d,e⟩:=jg h;unfold Pg.check;rw[if_neg (by rw[d];simp),if_neg (by rw[e];simp),pH c a _ hk,if_pos a]
theorem tx(h:p.formE=0)(a:iO p.itemE p.items.length=0):p.check=if p.nextOk=false then 15 else 0:=by
 obtain⟨c,d⟩:=jg h;unfold Pg.check;rw[if_neg (by rw[c];simp),if_neg (by rw[d];simp),a,if_neg (by simp)]
theorem jG{a:Nat}(h:b=a):Ending.returned (.int .i64 (a:Int))=.returned (.int .i64 (b:Int)):=by rw[h]
theorem tN{a c:Nat}{L:List Iv}(h:Js w (some ⟨a,c,none⟩) L)(hk:k<L.length):w.cell? ⟨a,c+k*4,none⟩=some (.slice (L.getD k Iv.zero).aK (L.getD k Iv.zero).key.length (L.getD k Iv.zero).cK)/\w.cell? ⟨a,c+k*4+1,none⟩=some (.slice (L.getD k Iv.zero).aV (L.getD k Iv.zero).val.length (L.getD k Iv.zero).cV)/\w.cell? ⟨a,c+k*4+2,none⟩=some (.int .i64 (L.getD k Iv.zero).child)/\w.cell? ⟨a,c+k*4+3,none⟩=some (.int .i64 (L.getD k Iv.zero).size):=by
 obtain⟨f,g,d,e⟩:=h.at hk;simp only[ay,Addr.mk.injEq,d5] at d;obtain⟨rfl,rfl⟩:=d;exact iX e
theorem tm(w:World)(p:Pv)(hP:Pi w p)(P:p.pg.formE=0)(k1:p.kind=1\/p.kind=2):Calls prog 122 #[p.vl] w λe c=>e=.returned (.int .i64 (p.pg.check:Int))/\Below w.heap.size w c:=by
 have F:=gW (hP.keep (al w (.cells p.cs 77)));have ay:p.items.length<=2199023255520:=hP.it.2.1;have B0:=gW (Bx.new w 77 p.cs);have B:=gW (al w (.cells p.cs 77));obtain⟨v,hv⟩:∃v,w.alloc (.cells p.cs 77)=v:=⟨_,rfl⟩;rw[hv] at F B0 B;have r:=gW λ(q:World)(hb:Below v.heap.size v q)=>Bx.page (B0.o.keep hb)
 have FO:=gW λ(q:World)=>oo q p
 have HX:=gW (jg P);have ak:=gW (Pg.kindOk_iff.1 (jg P).1);have ae:=gW λ(k:Nat)(hk:k<p.items.length)(q:World)(hb:Below v.heap.size v q)=>un q p k (F.o.keep hb) hk
 have af:=gW λ(x:Iv)(q:World)(hb:Below v.heap.size v q)=>qR q p x
 have aa:=gW λ(x:Iv)(q:World)(hb:Below v.heap.size v q)=>qw q p x
 have ab:=gW λ(k:Nat)(O:iO p.pg.itemE k=0)(hk:k<p.items.length)(x:Nat)(hx:x≠0)(e:p.pg.itemE k=x)=>(show p.pg.check=x from by
  rw[t7 P O (by simpa[Pv.pg] using hk) (by rw[e];exact hx),e])
 have ac:=gW λ(O:iO p.pg.itemE p.items.length=0)=>(tx P (by simpa[Pv.pg] using O))
 have ad:=gW λk=>(show p.pg.itemE k=if p.pg.keyOk k=false then 7 else if (decide (k=0)||decide (0<gX (p.items.getD k Iv.zero).key (p.items.getD (k-1) Iv.zero).key))=false then 11 else if (p.items.getD k Iv.zero).it.valOk p.kind=false then 8 else if (p.items.getD k Iv.zero).it.kidOk p.kind=false then 15 else 0 from by
  unfold Pg.itemE Pg.ordOk;rw[Pv.at,Pv.at];rfl)
 have aw:=gW λ(aj:p.kind=3)=>(show p.items.length=0 from by have Y:=(jg P).2;unfold Pg.form at Y;rw[if_pos (show p.pg.kind=3 from aj)] at Y;simp[Pv.pg] at Y;rw[Y.1.1.2];rfl)
 have am:Hid (p.pg.nextOk= !(decide (p.kind=3)&&decide (p.next≠0)&& !j9 p.next)):=rfl;rw[HX.o.2] at FO;have ai:p.pg.kind=p.kind:=rfl;rw[ai] at ak;clear ai HX hP P;generalize p.pg.check=ax at *;generalize p.pg.itemE=f at *;generalize p.pg.nextOk=nx at *;obtain⟨kind,V,aI,L,m,G,J,T,next⟩:=p
 unfold Pv.vl;simp only[Pv.cs,Pv.vl] at *;rcases k1 with rfl|rfl
 all_goals
  obtain⟨b0,b1,b2,b3,b4⟩:=r.o _ (Below.refl _ _);go_enter func122,ntmps122;go_wp2_with fail
  refine(FO.o _).mono ?_;rintro y q ⟨rfl,hb⟩;have a:=gW hb;clear hb hv FO b0 b1 b2 b3 b4;obtain⟨c0,c1,c2,c3,X⟩:=r.o _ a.o;go_wp2;go_loopw [3] (λi wx=>∃k:Nat,k<=m.length/\i=.int .i64 k/\Below v.heap.size v wx/\iO f k=0) (λi _=>m.length-(intOf i).toNat)
  case atStart=>exact⟨0,an _,rfl,a.o,rfl⟩
  case round=>
   clear a c0 c1 c2 c3 X;obtain⟨k,hk,rfl,hT,O⟩:=hrel;have a:=gW hT;have W:=gW O;clear hT O;obtain⟨c0,c1,c2,c3,X⟩:=r.o _ a.o;by_cases D:k<m.length
   . have aF:(k:Int)<(m.length:Int):=by omega
     have ag:=w64 (j:=k) (by omega)
     have KY:=gW (ae.o k D);have VA:=gW (af.o (m.getD k Iv.zero));have h:=gW (aa.o (m.getD k Iv.zero));have E:=gW (ab.o k W.o D);have A:=gW (ad.o k);obtain⟨d,g,rfl⟩:∃d g,aI=some ⟨d,g,none⟩:=by obtain⟨b2,o2,e2,_⟩:=F.o.it.at D;exact⟨b2,o2,e2⟩
     have s:=gW λ(q:World)(hb:Below v.heap.size v q)=>tN (F.o.it.keep hb) D
     have ah:k-1<m.length:=by omega
     have HQ:=gW λ(q:World)(hb:Below v.heap.size v q)=>(tN (F.o.it.keep hb) ah).1
     have CM:=gW λ(q:World)(hb:Below v.heap.size v q)=>jc q (m.getD k Iv.zero).aK (m.getD (k-1) Iv.zero).aK _ _ (m.getD k Iv.zero).cK (m.getD (k-1) Iv.zero).cK (m.getD k Iv.zero).key (m.getD (k-1) Iv.zero).key ((F.o.it.keep hb).1 _ (ie D)).bk ((F.o.it.keep hb).1 _ (ie ah)).bk rfl rfl
     generalize m.getD k Iv.zero=x at *;generalize m.getD (k-1) Iv.zero=y at *;simp only[Iv.vl] at VA h;generalize Pg.keyOk _ k=kk at *;generalize aq:x.it.valOk _=vv at *;generalize ao:x.it.kidOk _=cc at *;clear aq ao;generalize gX x.key y.key=z at *;obtain⟨H,M,R,I,N,val,child,U⟩:=x;obtain⟨au,av,yk,aC,aE,aG,aJ,aH⟩:=y;simp only[Iv.cs] at *;clear ae af aa ab ad ac;by_cases ap:k=0
     . subst ap;simp only[eX,dr] at s;go_wp2_with fail
       refine(KY.o _ a.o).mono ?_;rintro y q ⟨rfl,hb⟩;have a:=gW (bt a.o hb);clear hb;obtain⟨c0,c1,c2,c3,X⟩:=r.o _ a.o;cases kk with
       |false=>
        go_wp2;go_ret;exact⟨jG (E.o 7 (by decide) (by simp[A.o])),bt B.o a.o⟩
       |true=>
        go_wp2;have a:=gW (bt a.o (dr1 _));have l:=And.intro (r.o _ a.o) (s.o _ a.o);refine bA (S:=λc=>(c.cell? ⟨w.heap.size,0,none⟩=some (.int .i64 _)/\c.cell? ⟨w.heap.size,1,none⟩=some (.int .i64 V)/\c.cell? ⟨w.heap.size,2,none⟩=some (.slice (some ⟨d,g,none⟩) m.length L)/\c.cell? ⟨w.heap.size,3,none⟩=some (.slice G T.length J)/\c.cell? ⟨w.heap.size,4,none⟩=some (.int .i64 next))/\(c.cell? ⟨d,g,none⟩=some (.slice H R.length M)/\c.cell? ⟨d,g+1,none⟩=some (.slice I val.length N)/\c.cell? ⟨d,g+2,none⟩=some (.int .i64 child)/\c.cell? ⟨d,g+3,none⟩=some (.int .i64 U))) (by kernel_rfl) (by exact l) (λhHeld=>?_)
        refine tkb 0 1 ?_;refine tk 2 ?_;refine tu 3 ?_;refine tu 4 ?_;refine tu 5 ?_;refine tu 6 ?_;refine tu 7 ?_;refine tu 8 ?_;refine tu 9 ?_;refine tu 10 ?_;refine tu 11 ?_;refine tu 12 ?_;refine tu 13 ?_;refine tu 14 ?_;refine tu 15 ?_;refine tu 16 ?_;refine tu 17 ?_;refine tk 18 ?_;refine td ?_;clear l;go_wp2;have a:=gW (bt a.o (dr1 _));have l:=And.intro (r.o _ a.o) (s.o _ a.o);refine bA (S:=λc=>(c.cell? ⟨w.heap.size,0,none⟩=some (.int .i64 _)/\c.cell? ⟨w.heap.size,1,none⟩=some (.int .i64 V)/\c.cell? ⟨w.heap.size,2,none⟩=some (.slice (some ⟨d,g,none⟩) m.length L)/\c.cell? ⟨w.heap.size,3,none⟩=some (.slice G T.length J)/\c.cell? ⟨w.heap.size,4,none⟩=some (.int .i64 next))/\(c.cell? ⟨d,g,none⟩=some (.slice H R.length M)/\c.cell? ⟨d,g+1,none⟩=some (.slice I val.length N)/\c.cell? ⟨d,g+2,none⟩=some (.int .i64 child)/\c.cell? ⟨d,g+3,none⟩=some (.int .i64 U))) (by kernel_rfl) (by exact l) (λhHeld=>?_)
        refine tkd 0 1 2 3 ?_;refine tkb 4 5 ?_;refine tw 6 λK C=>?_
        go_simp;refine(VA.o _ a.o).mono ?_;rintro e Z ⟨rfl,hb⟩;have a:=gW (bt a.o hb);have l:=And.intro (r.o _ a.o) (s.o _ a.o);clear hb;go_wp2_with fail
        refine C.o _ _ (by exact l) (λhHeld=>?_)
        refine tk 7 ?_;refine td ?_;clear l;cases vv with
        |false=>
         go_wp2;go_ret;exact⟨jG (E.o 8 (by decide) (by rw[A.o];first|(simp;done)|(simp;omega))),bt B.o a.o⟩
        |true=>
         go_wp2;have a:=gW (bt a.o (dr1 _));have l:=And.intro (r.o _ a.o) (s.o _ a.o);refine bA (S:=λc=>(c.cell? ⟨w.heap.size,0,none⟩=some (.int .i64 _)/\c.cell? ⟨w.heap.size,1,none⟩=some (.int .i64 V)/\c.cell? ⟨w.heap.size,2,none⟩=some (.slice (some ⟨d,g,none⟩) m.length L)/\c.cell? ⟨w.heap.size,3,none⟩=some (.slice G T.length J)/\c.cell? ⟨w.heap.size,4,none⟩=some (.int .i64 next))/\(c.cell? ⟨d,g,none⟩=some (.slice H R.length M)/\c.cell? ⟨d,g+1,none⟩=some (.slice I val.length N)/\c.cell? ⟨d,g+2,none⟩=some (.int .i64 child)/\c.cell? ⟨d,g+3,none⟩=some (.int .i64 U))) (by kernel_rfl) (by exact l) (λhHeld=>?_)
         refine tkd 0 1 2 3 ?_;refine tkb 4 5 ?_;refine tw 6 λK C=>?_
         go_simp;refine(h.o _ a.o).mono ?_;rintro e Z ⟨rfl,hb⟩;have a:=gW (bt a.o hb);have l:=And.intro (r.o _ a.o) (s.o _ a.o);clear hb;go_wp2_with fail
         refine C.o _ _ (by exact l) (λhHeld=>?_)
         refine tk 7 ?_;refine td ?_;clear l;cases cc with
         |false=>
          go_wp2;go_ret;exact⟨jG (E.o 15 (by decide) (by rw[A.o];first|(simp;done)|(simp;omega))),bt B.o a.o⟩
         |true=>
          go_wp2;go_roundw
          case rel=>exact⟨0+1,by omega,by first|(go_num;done)|exact bf (Value.int IntKind.i64) (by omega),a.o,by rw[mF,W.o];show f 0=0;rw[A.o];first|(simp;done)|(simp;omega)⟩
          case measure=>first|exact iU _ _ _ ag D|exact iU _ _ _ rfl D|(simp[intOf];omega)
     . obtain⟨j,rfl⟩:∃j,k=j+1:=⟨k-1,by omega⟩
       rw[show j+1-1=j by omega] at HQ
       have aB:IntKind.i64.wrap (j:Int)=(j:Int):=iz (by omega) (by omega)
       have aA:(j:Int)<(m.length:Int):=by omega
       have az:(0:Int)<=(j:Int)+1:=by omega
       go_wp2_with fail
       refine(KY.o _ a.o).mono ?_;rintro y q ⟨rfl,hb⟩;have a:=gW (bt a.o hb);clear hb;obtain⟨c0,c1,c2,c3,X⟩:=r.o _ a.o;cases kk with
       |false=>
        go_wp2;go_ret;exact⟨jG (E.o 7 (by decide) (by simp[A.o])),bt B.o a.o⟩
       |true=>
        go_wp2;have a:=gW (bt a.o (dr1 _));have l:=And.intro (r.o _ a.o) (And.intro (s.o _ a.o) (HQ.o _ a.o));refine bA (S:=λc=>(c.cell? ⟨w.heap.size,0,none⟩=some (.int .i64 _)/\c.cell? ⟨w.heap.size,1,none⟩=some (.int .i64 V)/\c.cell? ⟨w.heap.size,2,none⟩=some (.slice (some ⟨d,g,none⟩) m.length L)/\c.cell? ⟨w.heap.size,3,none⟩=some (.slice G T.length J)/\c.cell? ⟨w.heap.size,4,none⟩=some (.int .i64 next))/\(c.cell? ⟨d,g+(j+1)*4,none⟩=some (.slice H R.length M)/\c.cell? ⟨d,g+(j+1)*4+1,none⟩=some (.slice I val.length N)/\c.cell? ⟨d,g+(j+1)*4+2,none⟩=some (.int .i64 child)/\c.cell? ⟨d,g+(j+1)*4+3,none⟩=some (.int .i64 U))/\c.cell? ⟨d,g+j*4,none⟩=some (.slice au yk.length av)) (by kernel_rfl) (by exact l) (λhHeld=>?_)
        refine tkd 0 1 2 3 ?_;refine tkd 4 5 6 7 ?_;refine tkd 8 9 10 11 ?_;refine tkd 12 13 14 15 ?_;refine tw 16 λK C=>?_
        go_simp;refine(CM.o _ a.o).mono ?_;rintro e Z ⟨rfl,hb⟩;have a:=gW (bt a.o hb);have l:=And.intro (r.o _ a.o) (And.intro (s.o _ a.o) (HQ.o _ a.o));clear hb;go_wp2_with fail
        refine C.o _ _ (by exact l) (λhHeld=>?_)
        refine tkb 17 18 ?_;refine td ?_;clear l;by_cases t:z<=0
        . have ar:decide (z<=0)=true:=by simpa using t
          go_wp2;go_ret;exact⟨jG (E.o 11 (by decide) (by rw[A.o];first|(simp;done)|(simp;omega)|(simp[t];done)|(simp[t];omega))),bt B.o a.o⟩
        . have ar:decide (z<=0)=false:=by simpa using t
          go_wp2;have a:=gW (bt a.o (dr1 _));have l:=And.intro (r.o _ a.o) (s.o _ a.o);refine bA (S:=λc=>(c.cell? ⟨w.heap.size,0,none⟩=some (.int .i64 _)/\c.cell? ⟨w.heap.size,1,none⟩=some (.int .i64 V)/\c.cell? ⟨w.heap.size,2,none⟩=some (.slice (some ⟨d,g,none⟩) m.length L)/\c.cell? ⟨w.heap.size,3,none⟩=some (.slice G T.length J)/\c.cell? ⟨w.heap.size,4,none⟩=some (.int .i64 next))/\(c.cell? ⟨d,g+(j+1)*4,none⟩=some (.slice H R.length M)/\c.cell? ⟨d,g+(j+1)*4+1,none⟩=some (.slice I val.length N)/\c.cell? ⟨d,g+(j+1)*4+2,none⟩=some (.int .i64 child)/\c.cell? ⟨d,g+(j+1)*4+3,none⟩=some (.int .i64 U))) (by kernel_rfl) (by exact l) (λhHeld=>?_)
          refine tkd 0 1 2 3 ?_;refine tkb 4 5 ?_;refine tw 6 λK C=>?_
          go_simp;refine(VA.o _ a.o).mono ?_;rintro e Z ⟨rfl,hb⟩;have a:=gW (bt a.o hb);have l:=And.intro (r.o _ a.o) (s.o _ a.o);clear hb;go_wp2_with fail
          refine C.o _ _ (by exact l) (λhHeld=>?_)
          refine tk 7 ?_;refine td ?_;clear l;cases vv with
          |false=>
           go_wp2;go_ret;exact⟨jG (E.o 8 (by decide) (by rw[A.o];first|(simp;done)|(simp;omega)|(simp[t];done)|(simp[t];omega))),bt B.o a.o⟩
          |true=>
           go_wp2;have a:=gW (bt a.o (dr1 _));have l:=And.intro (r.o _ a.o) (s.o _ a.o);refine bA (S:=λc=>(c.cell? ⟨w.heap.size,0,none⟩=some (.int .i64 _)/\c.cell? ⟨w.heap.size,1,none⟩=some (.int .i64 V)/\c.cell? ⟨w.heap.size,2,none⟩=some (.slice (some ⟨d,g,none⟩) m.length L)/\c.cell? ⟨w.heap.size,3,none⟩=some (.slice G T.length J)/\c.cell? ⟨w.heap.size,4,none⟩=some (.int .i64 next))/\(c.cell? ⟨d,g+(j+1)*4,none⟩=some (.slice H R.length M)/\c.cell? ⟨d,g+(j+1)*4+1,none⟩=some (.slice I val.length N)/\c.cell? ⟨d,g+(j+1)*4+2,none⟩=some (.int .i64 child)/\c.cell? ⟨d,g+(j+1)*4+3,none⟩=some (.int .i64 U))) (by kernel_rfl) (by exact l) (λhHeld=>?_)
           refine tkd 0 1 2 3 ?_;refine tkb 4 5 ?_;refine tw 6 λK C=>?_
           go_simp;refine(h.o _ a.o).mono ?_;rintro e Z ⟨rfl,hb⟩;have a:=gW (bt a.o hb);have l:=And.intro (r.o _ a.o) (s.o _ a.o);clear hb;go_wp2_with fail
           refine C.o _ _ (by exact l) (λhHeld=>?_)
           refine tk 7 ?_;refine td ?_;clear l;cases cc with
           |false=>
            go_wp2;go_ret;exact⟨jG (E.o 15 (by decide) (by rw[A.o];first|(simp;done)|(simp;omega)|(simp[t];done)|(simp[t];omega))),bt B.o a.o⟩
           |true=>
            go_wp2;go_roundw
            case rel=>exact⟨j+1+1,by omega,by first|(go_num;done)|exact bf (Value.int IntKind.i64) (by omega),a.o,by rw[mF,W.o];show f (j+1)=0;rw[A.o];first|(simp;done)|(simp;omega)|(simp[t];done)|(simp[t];omega)⟩
            case measure=>first|exact iU _ _ _ ag D|exact iU _ _ _ rfl D|(simp[intOf];omega)
   . obtain rfl:k=m.length:=by omega
     go_wp2;go_ret;exact⟨jG (by rw[ac.o W.o,am.o];simp),bt B.o a.o⟩
theorem Cp(w:World)(p:Pv)(r:Pi w p)(g:p.pg.formE=0)(P:p.kind=3):Calls prog 122 #[p.vl] w λe R=>e=.returned (.int .i64 (p.pg.check:Int))/\Below w.heap.size w R:=by
 have C:=gW (r.keep (al w (.cells p.cs 77)));have ag:p.items.length<=2199023255520:=r.it.2.1;have B:=gW (Bx.new w 77 p.cs);have j:=gW (al w (.cells p.cs 77));obtain⟨v,G⟩:∃v,w.alloc (.cells p.cs 77)=v:=⟨_,rfl⟩;rw[G] at C B j;have q:=gW λ(a:World)(hb:Below v.heap.size v a)=>Bx.page (B.o.keep hb)
 have m:=gW λ(a:World)=>oo a p
 have D:=gW (jg g);have T:=gW (Pg.kindOk_iff.1 (jg g).1);have ad:=gW λ(k:Nat)(hk:k<p.items.length)(a:World)(hb:Below v.heap.size v a)=>un a p k (C.o.keep hb) hk
 have ae:=gW λ(x:Iv)(a:World)(hb:Below v.heap.size v a)=>qR a p x
 have aa:=gW λ(x:Iv)(a:World)(hb:Below v.heap.size v a)=>qw a p x
 have ab:=gW λ(k:Nat)(d:iO p.pg.itemE k=0)(hk:k<p.items.length)(x:Nat)(O:x≠0)(e:p.pg.itemE k=x)=>(show p.pg.check=x from by
  rw[t7 g d (by simpa[Pv.pg] using hk) (by rw[e];exact O),e])
 have s:=gW λ(d:iO p.pg.itemE p.items.length=0)=>(tx g (by simpa[Pv.pg] using d))
 have ac:=gW λk=>(show p.pg.itemE k=if p.pg.keyOk k=false then 7 else if (decide (k=0)||decide (0<gX (p.items.getD k Iv.zero).key (p.items.getD (k-1) Iv.zero).key))=false then 11 else if (p.items.getD k Iv.zero).it.valOk p.kind=false then 8 else if (p.items.getD k Iv.zero).it.kidOk p.kind=false then 15 else 0 from by
  unfold Pg.itemE Pg.ordOk;rw[Pv.at,Pv.at];rfl)
 have U:=gW λ(h:p.kind=3)=>(show p.items.length=0 from by have l:=(jg g).2;unfold Pg.form at l;rw[if_pos (show p.pg.kind=3 from h)] at l;simp[Pv.pg] at l;rw[l.1.1.2];rfl)
 have t:Hid (p.pg.nextOk= !(decide (p.kind=3)&&decide (p.next≠0)&& !j9 p.next)):=rfl;rw[D.o.2] at m;have H:p.pg.kind=p.kind:=rfl;rw[H] at T;clear H D r g;generalize p.pg.check=af at *;generalize p.pg.itemE=f at *;generalize p.pg.nextOk=nx at *;obtain⟨kind,ak,X,Z,aj,W,Y,ah,next⟩:=p
 unfold Pv.vl;simp only[Pv.cs,Pv.vl] at *;subst P;obtain rfl:=c7.1 (U.o rfl);simp only[bg] at *;obtain⟨I,J,K,L,M⟩:=q.o _ (Below.refl _ _);go_enter func122,ntmps122;go_wp2_with fail
 refine(m.o _).mono ?_;rintro y a ⟨rfl,hb⟩;have c:=gW hb;clear hb G m I J K L M;obtain⟨c0,c1,c2,c3,E⟩:=q.o _ c.o;go_wp2;go_loopw [3] (λi S=>∃k:Nat,k<=0/\i=.int .i64 k/\Below v.heap.size v S/\iO f k=0) (λi _=>0-(intOf i).toNat)
 case atStart=>exact⟨0,an _,rfl,c.o,rfl⟩
 case round=>
  clear c c0 c1 c2 c3 E;obtain⟨k,hk,rfl,F,d⟩:=hrel;have c:=gW F;have V:=gW d;clear F d;obtain⟨c0,c1,c2,c3,E⟩:=q.o _ c.o;obtain rfl:k=0:=by simpa using hk
  by_cases A:next=0
  . subst A;go_wp2;go_ret;exact⟨jG (by rw[s.o rfl,t.o];simp),bt j.o c.o⟩
  . have ai:(next==0)=false:=by simpa using A
    go_wp2_with fail
    refine(mZ _ _).mono ?_;rintro y w2 ⟨rfl,N⟩;obtain rfl:=N.symm;cases hisn:j9 next with
    |false=>
     go_wp2;go_ret;exact⟨jG (by rw[s.o rfl,t.o];simp[A,hisn]),bt j.o c.o⟩
    |true=>
     go_wp2;go_ret;exact⟨jG (by rw[s.o rfl,t.o];simp[hisn]),bt j.o c.o⟩
theorem yh(w:World)(p:Pv)(c:Pi w p):Calls prog 122 #[p.vl] w λe B=>e=.returned (.int .i64 (p.pg.check:Int))/\Below w.heap.size w B:=by
 by_cases a:p.pg.formE=0
 . rcases Pg.kindOk_iff.1 (jg a).1 with k|k|k
   . exact tm w p c a (.inl k)
   . exact tm w p c a (.inr k)
   . exact Cp w p c a k
 . rw[qT a];have f:=gW λ(m:World)=>oo m p
   cases hk:p.pg.kindOk with
   |false=>
    have d:p.pg.formE=22:=by unfold Pg.formE;rw[if_pos hk]
    have A:¬p.kind=1/\¬p.kind=2/\¬p.kind=3:=by
     refine⟨λh=>?_,λh=>?_,λh=>?_⟩<;>simp[Pg.kindOk,Pv.pg,h] at hk
    rw[d];clear f a c hk d;obtain⟨kind,E,t,x,D,s,v,C,next⟩:=p
    unfold Pv.vl;simp only[Pv.cs] at *;obtain⟨i,j,l⟩:=A;have J:(kind==1)=false:=by simpa using i
    have K:(kind==2)=false:=by simpa using j
    have L:(kind==3)=false:=by simpa using l
    have G:(kind != 1)=true:=by simpa using i
    have H:(kind != 2)=true:=by simpa using j
    have I:(kind != 3)=true:=by simpa using l
    go_enter func122,ntmps122;go_wp2;go_ret;exact⟨rfl,al _ _⟩
   |true=>
    have g:p.pg.form=false:=by
     cases h:p.pg.form with
     |false=>rfl
     |true=>exact absurd (by unfold Pg.formE;simp[hk,h]) a
    have d:p.pg.formE=5:=by unfold Pg.formE;simp[hk,g]
    rw[d];rw[g] at f;have F:=gW (Bx.new w 77 p.cs);have q:=Pg.kindOk_iff.1 hk;have r:p.pg.kind=p.kind:=rfl;rw[r] at q;clear a c hk d g r;obtain⟨kind,E,t,x,D,s,v,C,next⟩:=p
    unfold Pv.vl at *;simp only[Pv.cs] at *;rcases q with rfl|rfl|rfl
    all_goals
     go_enter func122,ntmps122;go_wp2_with fail
     refine(f.o _).mono ?_;rintro y m ⟨rfl,hb⟩;go_wp2;go_ret;exact⟨rfl,bt (al _ _) hb⟩
def spF(l:List Nat)(i:Nat):Value:=if i<l.length then .int .u8 ((l.getD i 0:Nat):Int) else .int .u8 (bits .xor .i64 165 (i:Int)%256)
theorem pI{a:World}{t:TypeId}{f:Nat->Value}(h:w.rowIs b t n f)(hb:Below w.heap.size w a):a.rowIs b t n f:=h.of_block (hb.block b h.lt)
theorem uu{g:Nat}{l:List Nat}(h:w.rowIs g 5 n (spF l))(e:l.length<=n)(c:∀x∈l,x<256)(d:l.length<=9223372036854775807):Bs w (some ⟨g,0,none⟩) l:=
 ⟨c,d,.inr ⟨g,0,rfl,λi a=>by rw[b9,h.cell (by omega)];unfold spF;rw[if_pos a]⟩⟩
theorem yS(w:World)(h:Option Addr)(n E:Nat)(l:List Nat)(m:Bs w h l)(B:n=l.length)(M:l.length+64<=281474976710656):
 Calls prog 10 #[.slice h n E] w λx s=>x=.returned (.slice (some ⟨w.heap.size,0,none⟩) l.length (l.length+64))/\s.rowIs w.heap.size 5 (l.length+64) (spF l)/\Below w.heap.size w s:=by
 subst B;have J:=oT (l.length+64) (l.length+64) (ai _) (by omega)
 have L:IntKind.i64.wrap ((l.length:Int)+64)=((l.length+64:Nat):Int):=by rw[iz (by omega) (by omega)];omega
 have v:=gW m;clear m;generalize r:l.length+64=N at *;have y:=gW r;clear r;go_enter func10,ntmps10;go_wp2;go_loopw [4] (λi t=>∃j:Nat,j<=N/\i=.int .i64 j/\(t.rowIs w.heap.size 5 N (λi=>if i<j then spF l i else .int .u8 0)/\Below w.heap.size w t)) (λi _=>N-(intOf i).toNat)
 case atStart=>exact⟨0,an _,rfl,(World.rowIs_made w (.int .u8 0) N 5).congr λi _=>by simp,(Below.refl _ _).alloc (ai _) _⟩
 case round=>
  obtain⟨j,G,rfl,q⟩:=hrel;have a:=gW q;clear q;by_cases D:j<N
  . have d:(j:Int)<(N:Int):=by omega
    have A:=a.o.1.cell D;have F:=a.o.1.frozen j;simp only[eO,gJ] at A;by_cases g:j<l.length
    . have C:(j:Int)<(l.length:Int):=by omega
      obtain⟨bs,K,rfl,I⟩:=oS v.o a.o.2 g;have f:Hid (spF l j=.int .u8 ((l.getD j 0:Nat):Int)):=by unfold spF;rw[if_pos g];exact rfl
      generalize l.getD j 0=x at *;go_wp2;go_roundw
      case rel=>
       refine⟨j+1,by omega,by go_num,(a.o.1.set j _).congr λi d=>?_,a.o.2.setCell (ai _) _⟩
       by_cases e:i=j
       . subst e;rw[if_pos rfl,if_pos (by omega),f.o]
       . rw[if_neg e];by_cases c:i<j
         . rw[if_pos c,if_pos (by omega)]
         . rw[if_neg c,if_neg (by omega)]
      case measure=>simp[intOf];omega
    . have C:¬(j:Int)<(l.length:Int):=by omega
      have f:Hid (spF l j=.int .u8 (bits .xor .i64 165 (j:Int)%256)):=by unfold spF;rw[if_neg g];exact rfl
      go_wp2;go_roundw
      case rel=>
       refine⟨j+1,by omega,by go_num,(a.o.1.set j _).congr λi d=>?_,a.o.2.setCell (ai _) _⟩
       by_cases e:i=j
       . subst e;rw[if_pos rfl,if_pos (by omega),f.o]
       . rw[if_neg e];by_cases c:i<j
         . rw[if_pos c,if_pos (by omega)]
         . rw[if_neg c,if_neg (by omega)]
      case measure=>simp[intOf];omega
  . obtain rfl:N=j:=by omega
    have H:(l.length:Int)<=(N:Int):=by have:=y.o;omega
    go_wp2;go_ret;exact⟨rfl,a.o.1.congr λi d=>by rw[if_pos d],a.o.2⟩
theorem Dj(w:World)(g N:Nat)(c:Option Addr)(n m r:Nat)(l:List Nat)(d:w.rowIs g 5 N (spF l))(a:Bs w c l)(A:n=l.length)(y:m=l.length)(h:N=l.length+64)(L:l.length+64<=281474976710656):
 Calls prog 22 #[.slice (some ⟨g,0,none⟩) n N,.slice c m r] w λx B=>x=.returned (.bool true)/\Below w.heap.size w B:=by
 subst A y;have K:IntKind.i64.wrap ((l.length:Int)+64)=(N:Int):=by rw[iz (by omega) (by omega)];omega
 have s:=gW (kQ w (some ⟨g,0,none⟩) c l.length l.length N r l (uu d (by omega) a.1 a.2.1) a rfl rfl)
 have v:=gW d;have t:=gW h;have I:N<=281474976710656:=by omega
 clear a d h;have H:(0:Int)<=(N:Int):=by omega
 go_enter func22,ntmps22;go_wp2_with fail
 refine s.o.mono ?_;rintro e G ⟨rfl,q⟩;go_wp2;go_loopw [6] (λi C=>∃j:Nat,l.length<=j/\j<=N/\i=.int .i64 j/\Below w.heap.size w C) (λi _=>N-(intOf i).toNat)
 case atStart=>exact⟨l.length,ai _,by have:=t.o;omega,rfl,q⟩
 case round=>
  clear q;obtain⟨j,J,F,rfl,hb⟩:=hrel;by_cases D:j<N
  . have E:(j:Int)<(N:Int):=by omega
    have f:=(pI v.o hb).cell D;unfold spF at f;rw[if_neg (by omega)] at f
    go_wp2;go_roundw
    case rel=>exact⟨j+1,by omega,by omega,by go_num,hb⟩
    case measure=>simp[intOf];omega
  . obtain rfl:N=j:=by omega
    go_wp2;go_ret;exact⟨rfl,hb⟩
end Go.Proofs.YteaogidofpfmmaaGreat
