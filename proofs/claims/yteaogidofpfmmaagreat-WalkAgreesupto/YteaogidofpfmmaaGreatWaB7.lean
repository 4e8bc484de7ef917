import Derived.Test.YteaogidofpfmmaaGreatWaB6
import Derived.Defers
import Derived.Recover
import Derived.Lib.SlBytesConst
import Derived.ProofKit
import Derived.OpenShut
import Derived.ShutString
import Derived.ChangeOld
import Derived.Deep.Slices
import Derived.SizedLaws
import Derived.JoinedCond
import Derived.Deep.CutRange
set_option linter.all false
set_option maxHeartbeats 6400000
set_option maxRecDepth 8000
namespace Go.Proofs.YteaogidofpfmmaaGreat
open Tryz
open Go.RowKit
variable {k:Nat}{p:Pg}
theorem oB(w:World)(n:Int):Calls prog 164 #[.int .i64 n] w λe b=>e=.returned (.bool (kN n))/\b=w:=by
 unfold kN;by_cases a:1<=n
 . have c:decide (1<=n)=true:=by simpa using a
   go_enter func164,ntmps164;go_wp2;go_ret;exact⟨by simp[a],rfl⟩
 . have c:decide (1<=n)=false:=by simpa using a
   go_enter func164,ntmps164;go_wp2;go_ret;exact⟨by simp,rfl⟩
theorem oL{a b:Bool}(h:a=b):Ending.returned (.bool a)=.returned (.bool b):=by rw[h]
theorem oY(w:World)(p:Pv):Calls prog 160 #[p.vl] w λe c=>e=.returned (.bool p.pg.form)/\Below w.heap.size w c:=by
 unfold Pv.vl Pv.cs Pg.form Pv.pg;simp only[bM];obtain⟨kind,r,i,l,g,h,j,f,next⟩:=p
 dsimp only;generalize g.length=n;generalize f.length=d;by_cases b:kind=3
 . subst b;go_enter func160,ntmps160;go_wp2
   all_goals (go_ret;refine⟨oL ?_,al _ _⟩;first|grind|(simp;grind)|(simp[nG];grind))
 . have q:(kind==3)=false:=by simpa using b
   rw[if_neg b];by_cases a:kind=1
   . subst a;go_enter func160,ntmps160;go_wp2
     all_goals (go_ret;refine⟨oL ?_,al _ _⟩;first|grind|(simp;grind)|(simp[nG];grind))
   . have m:(kind==1)=false:=by simpa using a
     rw[if_neg a];go_enter func160,ntmps160;go_wp2
     all_goals (go_ret;refine⟨oL ?_,al _ _⟩;first|grind|(simp;grind)|(simp[nG];grind))
theorem uL(w:World)(p:Pv)(i:Nat)(b:Pi w p)(hi:i<p.items.length):Calls prog 161 #[p.vl,.int .i64 (i:Int)] w λe h=>e=.returned (.bool (p.pg.keyOk i))/\Below w.heap.size w h:=by
 obtain⟨q,A,j,c⟩:=(b.it.keep (al w (.cells p.cs 77))).at hi;obtain⟨d,f,a,g⟩:=jn c;have v:(i:Int)<(p.items.length:Int):=by omega
 unfold Pg.keyOk;rw[Pv.at];generalize p.items.getD i Iv.zero=x at *;clear c b f a g;obtain⟨kind,D,m,s,C,l,r,B,next⟩:=p
 unfold Pv.vl Iv.it;simp only[Pv.cs,Pv.pg] at *;subst j;generalize x.key.length=n at *;by_cases hk:kind=2/\i=0
 . obtain⟨rfl,rfl⟩:=hk;simp only[eV,dp] at d;go_enter func161,ntmps161;go_wp2
   all_goals (go_ret;refine⟨oL ?_,al _ _⟩;first|grind|(simp;grind)|(simp[nG];grind))
 . by_cases a:kind=2
   . subst a;have t:((i:Int)==0)=false:=by simp;omega
     go_enter func161,ntmps161;go_wp2
     all_goals (go_ret;refine⟨oL ?_,al _ _⟩;first|grind|(simp;grind)|(simp[nG];grind))
   . have y:(kind==2)=false:=by simpa using a
     go_enter func161,ntmps161;go_wp2
     all_goals (go_ret;refine⟨oL ?_,al _ _⟩;first|grind|(simp;grind)|(simp[nG];grind))
theorem rD(w:World)(p:Pv)(x:Iv):Calls prog 162 #[p.vl,x.vl] w λe b=>e=.returned (.bool (x.it.valOk p.kind))/\Below w.heap.size w b:=by
 unfold It.valOk;obtain⟨kind,v,d,i,t,c,h,r,next⟩:=p
 obtain⟨f,j,q,g,l,val,child,s⟩:=x;unfold Pv.vl Iv.vl Iv.it;simp only[Pv.cs,Iv.cs];generalize val.length=n;by_cases a:kind=2
 . subst a;go_enter func162,ntmps162;go_wp2
   all_goals (go_ret;refine⟨oL ?_,bt (al _ _) (al _ _)⟩;first|grind|(simp;grind)|(simp[nG];grind))
 . have m:(kind==2)=false:=by simpa using a
   rw[if_neg a];go_enter func162,ntmps162;go_wp2
   all_goals (go_ret;refine⟨oL ?_,bt (al _ _) (al _ _)⟩;first|grind|(simp;grind)|(simp[nG];grind))
theorem qP(w:World)(p:Pv)(x:Iv):Calls prog 163 #[p.vl,x.vl] w λe g=>e=.returned (.bool (x.it.kidOk p.kind))/\Below w.heap.size w g:=by
 unfold It.kidOk;obtain⟨kind,D,l,r,C,j,q,B,next⟩:=p
 obtain⟨m,s,A,n,t,val,child,b⟩:=x;unfold Pv.vl Iv.vl Iv.it;simp only[Pv.cs,Iv.cs];by_cases d:kind=1/\b<=32
 . obtain⟨rfl,f⟩:=d;have i:decide (b<=32)=true:=by simpa using f
   rw[if_pos ⟨rfl,f⟩];go_enter func163,ntmps163;go_wp2
   all_goals (go_ret;refine⟨oL ?_,bt (al _ _) (al _ _)⟩;simp[nG])
 . rw[if_neg d];by_cases c:kind=1
   . subst c;have i:decide (b<=32)=false:=by simp;omega
     go_enter func163,ntmps163;go_wp2_with (go_at_call 164;refine(oB _ _).mono ?_;rintro y h ⟨rfl,a⟩;obtain rfl:=a.symm)
     go_ret;exact⟨rfl,bt (al _ _) (al _ _)⟩
   . have v:(kind==1)=false:=by simpa using c
     go_enter func163,ntmps163;go_wp2_with (go_at_call 164;refine(oB _ _).mono ?_;rintro y h ⟨rfl,a⟩;obtain rfl:=a.symm)
     go_ret;exact⟨rfl,bt (al _ _) (al _ _)⟩
theorem uw(h:p.formE=0)(b:jc p.itemE k=0)(hk:k<p.items.length)(a:p.itemE k≠0):p.check=p.itemE k:=by
 obtain⟨c,d⟩:=jD h;unfold Pg.check;rw[if_neg (by rw[c];simp),if_neg (by rw[d];simp),qe b a _ hk,if_pos a]
theorem tY(h:p.formE=0)(a:jc p.itemE p.items.length=0):p.check=if p.nextOk=false then 15 else 0:=by
 obtain⟨b,c⟩:=jD h;unfold Pg.check;rw[if_neg (by rw[b];simp),if_neg (by rw[c];simp),a,if_neg (by simp)]
theorem kd{a b:Nat}(h:b=a):Ending.returned (.int .i64 (a:Int))=.returned (.int .i64 (b:Int)):=by rw[h]
theorem Eo{w:World}{a b:Nat}{L:List Iv}(h:Js w (some ⟨a,b,none⟩) L)(hk:k<L.length):w.cell? ⟨a,b+k*4,none⟩=some (.slice (L.getD k Iv.zero).aK (L.getD k Iv.zero).key.length (L.getD k Iv.zero).cK)/\w.cell? ⟨a,b+k*4+1,none⟩=some (.slice (L.getD k Iv.zero).aV (L.getD k Iv.zero).val.length (L.getD k Iv.zero).cV)/\w.cell? ⟨a,b+k*4+2,none⟩=some (.int .i64 (L.getD k Iv.zero).child)/\w.cell? ⟨a,b+k*4+3,none⟩=some (.int .i64 (L.getD k Iv.zero).size):=by
 obtain⟨e,f,c,d⟩:=h.at hk;simp only[au,Addr.mk.injEq,d9] at c;obtain⟨rfl,rfl⟩:=c;exact jn d
theorem tV(w:World)(p:Pv)(hP:Pi w p)(N:p.pg.formE=0)(k1:p.kind=1\/p.kind=2):Calls prog 122 #[p.vl] w λe b=>e=.returned (.int .i64 (p.pg.check:Int))/\Below w.heap.size w b:=by
 have D:=ix (hP.keep (al w (.cells p.cs 77)));have ay:p.items.length<=2199023255520:=hP.it.2.1;have B0:=ix (Bx.new w 77 p.cs);have t:=ix (al w (.cells p.cs 77));obtain⟨v,hv⟩:∃v,w.alloc (.cells p.cs 77)=v:=⟨_,rfl⟩;rw[hv] at D B0 t;have n:=ix λ(m:World)(hb:Below v.heap.size v m)=>Bx.page (B0.o.keep hb)
 have Z:=ix λ(m:World)=>oY m p
 have HX:=ix (jD N);have ak:=ix (Pg.kindOk_iff.1 (jD N).1);have ae:=ix λ(k:Nat)(hk:k<p.items.length)(m:World)(hb:Below v.heap.size v m)=>uL m p k (D.o.keep hb) hk
 have af:=ix λ(x:Iv)(m:World)(hb:Below v.heap.size v m)=>rD m p x
 have aa:=ix λ(x:Iv)(m:World)(hb:Below v.heap.size v m)=>qP m p x
 have ab:=ix λ(k:Nat)(M:jc p.pg.itemE k=0)(hk:k<p.items.length)(x:Nat)(hx:x≠0)(e:p.pg.itemE k=x)=>(show p.pg.check=x from by
  rw[uw N M (by simpa[Pv.pg] using hk) (by rw[e];exact hx),e])
 have ac:=ix λ(M:jc p.pg.itemE p.items.length=0)=>(tY N (by simpa[Pv.pg] using M))
 have ad:=ix λk=>(show p.pg.itemE k=if p.pg.keyOk k=false then 7 else if (decide (k=0)||decide (0<iy (p.items.getD k Iv.zero).key (p.items.getD (k-1) Iv.zero).key))=false then 11 else if (p.items.getD k Iv.zero).it.valOk p.kind=false then 8 else if (p.items.getD k Iv.zero).it.kidOk p.kind=false then 15 else 0 from by
  unfold Pg.itemE Pg.ordOk;rw[Pv.at,Pv.at];rfl)
 have aw:=ix λ(aj:p.kind=3)=>(show p.items.length=0 from by have W:=(jD N).2;unfold Pg.form at W;rw[if_pos (show p.pg.kind=3 from aj)] at W;simp[Pv.pg] at W;rw[W.1.1.2];rfl)
 have am:Hid (p.pg.nextOk= !(decide (p.kind=3)&&decide (p.next≠0)&& !kN p.next)):=rfl;rw[HX.o.2] at Z;have ai:p.pg.kind=p.kind:=rfl;rw[ai] at ak;clear ai HX hP N;generalize p.pg.check=ax at *;generalize p.pg.itemE=f at *;generalize p.pg.nextOk=nx at *;obtain⟨kind,T,aI,I,l,E,H,P,next⟩:=p
 unfold Pv.vl;simp only[Pv.cs,Pv.vl] at *;rcases k1 with rfl|rfl
 all_goals
  obtain⟨b0,b1,b2,b3,b4⟩:=n.o _ (Below.refl _ _);go_enter func122,ntmps122;go_wp2_with fail
  refine(Z.o _).mono ?_;rintro y m ⟨rfl,hb⟩;have a:=ix hb;clear hb hv Z b0 b1 b2 b3 b4;obtain⟨c0,c1,c2,c3,V⟩:=n.o _ a.o;go_wp2;go_loopw [3] (λi wx=>∃k:Nat,k<=l.length/\i=.int .i64 k/\Below v.heap.size v wx/\jc f k=0) (λi _=>l.length-(intOf i).toNat)
  case atStart=>exact⟨0,an _,rfl,a.o,rfl⟩
  case round=>
   clear a c0 c1 c2 c3 V;obtain⟨k,hk,rfl,hT,M⟩:=hrel;have a:=ix hT;have U:=ix M;clear hT M;obtain⟨c0,c1,c2,c3,V⟩:=n.o _ a.o;by_cases B:k<l.length
   . have aF:(k:Int)<(l.length:Int):=by omega
     have ag:=w64 (j:=k) (by omega)
     have KY:=ix (ae.o k B);have VA:=ix (af.o (l.getD k Iv.zero));have Y:=ix (aa.o (l.getD k Iv.zero));have C:=ix (ab.o k U.o B);have s:=ix (ad.o k);obtain⟨c,d,rfl⟩:∃c d,aI=some ⟨c,d,none⟩:=by obtain⟨b2,o2,e2,_⟩:=D.o.it.at B;exact⟨b2,o2,e2⟩
     have q:=ix λ(m:World)(hb:Below v.heap.size v m)=>Eo (D.o.it.keep hb) B
     have ah:k-1<l.length:=by omega
     have h:=ix λ(m:World)(hb:Below v.heap.size v m)=>(Eo (D.o.it.keep hb) ah).1
     have CM:=ix λ(m:World)(hb:Below v.heap.size v m)=>jo m (l.getD k Iv.zero).aK (l.getD (k-1) Iv.zero).aK _ _ (l.getD k Iv.zero).cK (l.getD (k-1) Iv.zero).cK (l.getD k Iv.zero).key (l.getD (k-1) Iv.zero).key ((D.o.it.keep hb).1 _ (iH B)).bk ((D.o.it.keep hb).1 _ (iH ah)).bk rfl rfl
     generalize l.getD k Iv.zero=x at *;generalize l.getD (k-1) Iv.zero=y at *;simp only[Iv.vl] at VA Y;generalize Pg.keyOk _ k=kk at *;generalize aq:x.it.valOk _=vv at *;generalize ao:x.it.kidOk _=cc at *;clear aq ao;generalize iy x.key y.key=z at *;obtain⟨F,J,O,G,L,val,child,R⟩:=x;obtain⟨au,av,yk,aC,aE,aG,aJ,aH⟩:=y;simp only[Iv.cs] at *;clear ae af aa ab ad ac;by_cases ap:k=0
     . subst ap;simp only[eV,dp] at q;go_wp2_with fail
       refine(KY.o _ a.o).mono ?_;rintro y m ⟨rfl,hb⟩;have a:=ix (bt a.o hb);clear hb;obtain⟨c0,c1,c2,c3,V⟩:=n.o _ a.o;cases kk with
       |false=>
        go_wp2;go_ret;exact⟨kd (C.o 7 (by decide) (by simp[s.o])),bt t.o a.o⟩
       |true=>
        go_wp2;have a:=ix (bt a.o (dr1 _));have g:=And.intro (n.o _ a.o) (q.o _ a.o);refine be (S:=λb=>(b.cell? ⟨w.heap.size,0,none⟩=some (.int .i64 _)/\b.cell? ⟨w.heap.size,1,none⟩=some (.int .i64 T)/\b.cell? ⟨w.heap.size,2,none⟩=some (.slice (some ⟨c,d,none⟩) l.length I)/\b.cell? ⟨w.heap.size,3,none⟩=some (.slice E P.length H)/\b.cell? ⟨w.heap.size,4,none⟩=some (.int .i64 next))/\(b.cell? ⟨c,d,none⟩=some (.slice F O.length J)/\b.cell? ⟨c,d+1,none⟩=some (.slice G val.length L)/\b.cell? ⟨c,d+2,none⟩=some (.int .i64 child)/\b.cell? ⟨c,d+3,none⟩=some (.int .i64 R))) (by kernel_rfl) (by exact g) (λhHeld=>?_)
        refine tkb 0 1 ?_;refine tk 2 ?_;refine tu 3 ?_;refine tu 4 ?_;refine tu 5 ?_;refine tu 6 ?_;refine tu 7 ?_;refine tu 8 ?_;refine tu 9 ?_;refine tu 10 ?_;refine tu 11 ?_;refine tu 12 ?_;refine tu 13 ?_;refine tu 14 ?_;refine tu 15 ?_;refine tu 16 ?_;refine tu 17 ?_;refine tk 18 ?_;refine td ?_;clear g;go_wp2;have a:=ix (bt a.o (dr1 _));have g:=And.intro (n.o _ a.o) (q.o _ a.o);refine be (S:=λb=>(b.cell? ⟨w.heap.size,0,none⟩=some (.int .i64 _)/\b.cell? ⟨w.heap.size,1,none⟩=some (.int .i64 T)/\b.cell? ⟨w.heap.size,2,none⟩=some (.slice (some ⟨c,d,none⟩) l.length I)/\b.cell? ⟨w.heap.size,3,none⟩=some (.slice E P.length H)/\b.cell? ⟨w.heap.size,4,none⟩=some (.int .i64 next))/\(b.cell? ⟨c,d,none⟩=some (.slice F O.length J)/\b.cell? ⟨c,d+1,none⟩=some (.slice G val.length L)/\b.cell? ⟨c,d+2,none⟩=some (.int .i64 child)/\b.cell? ⟨c,d+3,none⟩=some (.int .i64 R))) (by kernel_rfl) (by exact g) (λhHeld=>?_)
        refine tkd 0 1 2 3 ?_;refine tkb 4 5 ?_;refine tw 6 λK A=>?_
        go_simp;refine(VA.o _ a.o).mono ?_;rintro e X ⟨rfl,hb⟩;have a:=ix (bt a.o hb);have g:=And.intro (n.o _ a.o) (q.o _ a.o);clear hb;go_wp2_with fail
        refine A.o _ _ (by exact g) (λhHeld=>?_)
        refine tk 7 ?_;refine td ?_;clear g;cases vv with
        |false=>
         go_wp2;go_ret;exact⟨kd (C.o 8 (by decide) (by rw[s.o];first|(simp;done)|(simp;omega))),bt t.o a.o⟩
        |true=>
         go_wp2;have a:=ix (bt a.o (dr1 _));have g:=And.intro (n.o _ a.o) (q.o _ a.o);refine be (S:=λb=>(b.cell? ⟨w.heap.size,0,none⟩=some (.int .i64 _)/\b.cell? ⟨w.heap.size,1,none⟩=some (.int .i64 T)/\b.cell? ⟨w.heap.size,2,none⟩=some (.slice (some ⟨c,d,none⟩) l.length I)/\b.cell? ⟨w.heap.size,3,none⟩=some (.slice E P.length H)/\b.cell? ⟨w.heap.size,4,none⟩=some (.int .i64 next))/\(b.cell? ⟨c,d,none⟩=some (.slice F O.length J)/\b.cell? ⟨c,d+1,none⟩=some (.slice G val.length L)/\b.cell? ⟨c,d+2,none⟩=some (.int .i64 child)/\b.cell? ⟨c,d+3,none⟩=some (.int .i64 R))) (by kernel_rfl) (by exact g) (λhHeld=>?_)
         refine tkd 0 1 2 3 ?_;refine tkb 4 5 ?_;refine tw 6 λK A=>?_
         go_simp;refine(Y.o _ a.o).mono ?_;rintro e X ⟨rfl,hb⟩;have a:=ix (bt a.o hb);have g:=And.intro (n.o _ a.o) (q.o _ a.o);clear hb;go_wp2_with fail
         refine A.o _ _ (by exact g) (λhHeld=>?_)
         refine tk 7 ?_;refine td ?_;clear g;cases cc with
         |false=>
          go_wp2;go_ret;exact⟨kd (C.o 15 (by decide) (by rw[s.o];first|(simp;done)|(simp;omega))),bt t.o a.o⟩
         |true=>
          go_wp2;go_roundw
          case rel=>exact⟨0+1,by omega,by first|(go_num;done)|exact bf (Value.int IntKind.i64) (by omega),a.o,by rw[nH,U.o];show f 0=0;rw[s.o];first|(simp;done)|(simp;omega)⟩
          case measure=>first|exact jr _ _ _ ag B|exact jr _ _ _ rfl B|(simp[intOf];omega)
     . obtain⟨j,rfl⟩:∃j,k=j+1:=⟨k-1,by omega⟩
       rw[show j+1-1=j by omega] at h
       have aB:IntKind.i64.wrap (j:Int)=(j:Int):=iQ (by omega) (by omega)
       have aA:(j:Int)<(l.length:Int):=by omega
       have az:(0:Int)<=(j:Int)+1:=by omega
       go_wp2_with fail
       refine(KY.o _ a.o).mono ?_;rintro y m ⟨rfl,hb⟩;have a:=ix (bt a.o hb);clear hb;obtain⟨c0,c1,c2,c3,V⟩:=n.o _ a.o;cases kk with
       |false=>
        go_wp2;go_ret;exact⟨kd (C.o 7 (by decide) (by simp[s.o])),bt t.o a.o⟩
       |true=>
        go_wp2;have a:=ix (bt a.o (dr1 _));have g:=And.intro (n.o _ a.o) (And.intro (q.o _ a.o) (h.o _ a.o));refine be (S:=λb=>(b.cell? ⟨w.heap.size,0,none⟩=some (.int .i64 _)/\b.cell? ⟨w.heap.size,1,none⟩=some (.int .i64 T)/\b.cell? ⟨w.heap.size,2,none⟩=some (.slice (some ⟨c,d,none⟩) l.length I)/\b.cell? ⟨w.heap.size,3,none⟩=some (.slice E P.length H)/\b.cell? ⟨w.heap.size,4,none⟩=some (.int .i64 next))/\(b.cell? ⟨c,d+(j+1)*4,none⟩=some (.slice F O.length J)/\b.cell? ⟨c,d+(j+1)*4+1,none⟩=some (.slice G val.length L)/\b.cell? ⟨c,d+(j+1)*4+2,none⟩=some (.int .i64 child)/\b.cell? ⟨c,d+(j+1)*4+3,none⟩=some (.int .i64 R))/\b.cell? ⟨c,d+j*4,none⟩=some (.slice au yk.length av)) (by kernel_rfl) (by exact g) (λhHeld=>?_)
        refine tkd 0 1 2 3 ?_;refine tkd 4 5 6 7 ?_;refine tkd 8 9 10 11 ?_;refine tkd 12 13 14 15 ?_;refine tw 16 λK A=>?_
        go_simp;refine(CM.o _ a.o).mono ?_;rintro e X ⟨rfl,hb⟩;have a:=ix (bt a.o hb);have g:=And.intro (n.o _ a.o) (And.intro (q.o _ a.o) (h.o _ a.o));clear hb;go_wp2_with fail
        refine A.o _ _ (by exact g) (λhHeld=>?_)
        refine tkb 17 18 ?_;refine td ?_;clear g;by_cases r:z<=0
        . have ar:decide (z<=0)=true:=by simpa using r
          go_wp2;go_ret;exact⟨kd (C.o 11 (by decide) (by rw[s.o];first|(simp;done)|(simp;omega)|(simp[r];done)|(simp[r];omega))),bt t.o a.o⟩
        . have ar:decide (z<=0)=false:=by simpa using r
          go_wp2;have a:=ix (bt a.o (dr1 _));have g:=And.intro (n.o _ a.o) (q.o _ a.o);refine be (S:=λb=>(b.cell? ⟨w.heap.size,0,none⟩=some (.int .i64 _)/\b.cell? ⟨w.heap.size,1,none⟩=some (.int .i64 T)/\b.cell? ⟨w.heap.size,2,none⟩=some (.slice (some ⟨c,d,none⟩) l.length I)/\b.cell? ⟨w.heap.size,3,none⟩=some (.slice E P.length H)/\b.cell? ⟨w.heap.size,4,none⟩=some (.int .i64 next))/\(b.cell? ⟨c,d+(j+1)*4,none⟩=some (.slice F O.length J)/\b.cell? ⟨c,d+(j+1)*4+1,none⟩=some (.slice G val.length L)/\b.cell? ⟨c,d+(j+1)*4+2,none⟩=some (.int .i64 child)/\b.cell? ⟨c,d+(j+1)*4+3,none⟩=some (.int .i64 R))) (by kernel_rfl) (by exact g) (λhHeld=>?_)
          refine tkd 0 1 2 3 ?_;refine tkb 4 5 ?_;refine tw 6 λK A=>?_
          go_simp;refine(VA.o _ a.o).mono ?_;rintro e X ⟨rfl,hb⟩;have a:=ix (bt a.o hb);have g:=And.intro (n.o _ a.o) (q.o _ a.o);clear hb;go_wp2_with fail
          refine A.o _ _ (by exact g) (λhHeld=>?_)
          refine tk 7 ?_;refine td ?_;clear g;cases vv with
          |false=>
           go_wp2;go_ret;exact⟨kd (C.o 8 (by decide) (by rw[s.o];first|(simp;done)|(simp;omega)|(simp[r];done)|(simp[r];omega))),bt t.o a.o⟩
          |true=>
           go_wp2;have a:=ix (bt a.o (dr1 _));have g:=And.intro (n.o _ a.o) (q.o _ a.o);refine be (S:=λb=>(b.cell? ⟨w.heap.size,0,none⟩=some (.int .i64 _)/\b.cell? ⟨w.heap.size,1,none⟩=some (.int .i64 T)/\b.cell? ⟨w.heap.size,2,none⟩=some (.slice (some ⟨c,d,none⟩) l.length I)/\b.cell? ⟨w.heap.size,3,none⟩=some (.slice E P.length H)/\b.cell? ⟨w.heap.size,4,none⟩=some (.int .i64 next))/\(b.cell? ⟨c,d+(j+1)*4,none⟩=some (.slice F O.length J)/\b.cell? ⟨c,d+(j+1)*4+1,none⟩=some (.slice G val.length L)/\b.cell? ⟨c,d+(j+1)*4+2,none⟩=some (.int .i64 child)/\b.cell? ⟨c,d+(j+1)*4+3,none⟩=some (.int .i64 R))) (by kernel_rfl) (by exact g) (λhHeld=>?_)
           refine tkd 0 1 2 3 ?_;refine tkb 4 5 ?_;refine tw 6 λK A=>?_
           go_simp;refine(Y.o _ a.o).mono ?_;rintro e X ⟨rfl,hb⟩;have a:=ix (bt a.o hb);have g:=And.intro (n.o _ a.o) (q.o _ a.o);clear hb;go_wp2_with fail
           refine A.o _ _ (by exact g) (λhHeld=>?_)
           refine tk 7 ?_;refine td ?_;clear g;cases cc with
           |false=>
            go_wp2;go_ret;exact⟨kd (C.o 15 (by decide) (by rw[s.o];first|(simp;done)|(simp;omega)|(simp[r];done)|(simp[r];omega))),bt t.o a.o⟩
           |true=>
            go_wp2;go_roundw
            case rel=>exact⟨j+1+1,by omega,by first|(go_num;done)|exact bf (Value.int IntKind.i64) (by omega),a.o,by rw[nH,U.o];show f (j+1)=0;rw[s.o];first|(simp;done)|(simp;omega)|(simp[r];done)|(simp[r];omega)⟩
            case measure=>first|exact jr _ _ _ ag B|exact jr _ _ _ rfl B|(simp[intOf];omega)
   . obtain rfl:k=l.length:=by omega
     go_wp2;go_ret;exact⟨kd (by rw[ac.o U.o,am.o];simp),bt t.o a.o⟩
theorem Du(w:World)(p:Pv)(n:Pi w p)(d:p.pg.formE=0)(N:p.kind=3):Calls prog 122 #[p.vl] w λe O=>e=.returned (.int .i64 (p.pg.check:Int))/\Below w.heap.size w O:=by
 have A:=ix (n.keep (al w (.cells p.cs 77)));have ag:p.items.length<=2199023255520:=n.it.2.1;have t:=ix (Bx.new w 77 p.cs);have g:=ix (al w (.cells p.cs 77));obtain⟨v,E⟩:∃v,w.alloc (.cells p.cs 77)=v:=⟨_,rfl⟩;rw[E] at A t g;have m:=ix λ(a:World)(hb:Below v.heap.size v a)=>Bx.page (t.o.keep hb)
 have l:=ix λ(a:World)=>oY a p
 have B:=ix (jD d);have R:=ix (Pg.kindOk_iff.1 (jD d).1);have ad:=ix λ(k:Nat)(hk:k<p.items.length)(a:World)(hb:Below v.heap.size v a)=>uL a p k (A.o.keep hb) hk
 have ae:=ix λ(x:Iv)(a:World)(hb:Below v.heap.size v a)=>rD a p x
 have aa:=ix λ(x:Iv)(a:World)(hb:Below v.heap.size v a)=>qP a p x
 have ab:=ix λ(k:Nat)(c:jc p.pg.itemE k=0)(hk:k<p.items.length)(x:Nat)(M:x≠0)(e:p.pg.itemE k=x)=>(show p.pg.check=x from by
  rw[uw d c (by simpa[Pv.pg] using hk) (by rw[e];exact M),e])
 have q:=ix λ(c:jc p.pg.itemE p.items.length=0)=>(tY d (by simpa[Pv.pg] using c))
 have ac:=ix λk=>(show p.pg.itemE k=if p.pg.keyOk k=false then 7 else if (decide (k=0)||decide (0<iy (p.items.getD k Iv.zero).key (p.items.getD (k-1) Iv.zero).key))=false then 11 else if (p.items.getD k Iv.zero).it.valOk p.kind=false then 8 else if (p.items.getD k Iv.zero).it.kidOk p.kind=false then 15 else 0 from by
  unfold Pg.itemE Pg.ordOk;rw[Pv.at,Pv.at];rfl)
 have S:=ix λ(h:p.kind=3)=>(show p.items.length=0 from by have j:=(jD d).2;unfold Pg.form at j;rw[if_pos (show p.pg.kind=3 from h)] at j;simp[Pv.pg] at j;rw[j.1.1.2];rfl)
 have r:Hid (p.pg.nextOk= !(decide (p.kind=3)&&decide (p.next≠0)&& !kN p.next)):=rfl;rw[B.o.2] at l;have F:p.pg.kind=p.kind:=rfl;rw[F] at R;clear F B n d;generalize p.pg.check=af at *;generalize p.pg.itemE=f at *;generalize p.pg.nextOk=Y at *;obtain⟨kind,ak,V,X,aj,U,W,ah,next⟩:=p
 unfold Pv.vl;simp only[Pv.cs,Pv.vl] at *;subst N;obtain rfl:=dz.1 (S.o rfl);simp only[bg] at *;obtain⟨G,H,I,J,K⟩:=m.o _ (Below.refl _ _);go_enter func122,ntmps122;go_wp2_with fail
 refine(l.o _).mono ?_;rintro y a ⟨rfl,hb⟩;have b:=ix hb;clear hb E l G H I J K;obtain⟨c0,c1,c2,c3,C⟩:=m.o _ b.o;go_wp2;go_loopw [3] (λi P=>∃k:Nat,k<=0/\i=.int .i64 k/\Below v.heap.size v P/\jc f k=0) (λi _=>0-(intOf i).toNat)
 case atStart=>exact⟨0,an _,rfl,b.o,rfl⟩
 case round=>
  clear b c0 c1 c2 c3 C;obtain⟨k,hk,rfl,D,c⟩:=hrel;have b:=ix D;have T:=ix c;clear D c;obtain⟨c0,c1,c2,c3,C⟩:=m.o _ b.o;obtain rfl:k=0:=by simpa using hk
  by_cases s:next=0
  . subst s;go_wp2;go_ret;exact⟨kd (by rw[q.o rfl,r.o];simp),bt g.o b.o⟩
  . have ai:(next==0)=false:=by simpa using s
    go_wp2_with fail
    refine(oB _ _).mono ?_;rintro y Z ⟨rfl,L⟩;obtain rfl:=L.symm;cases hisn:kN next with
    |false=>
     go_wp2;go_ret;exact⟨kd (by rw[q.o rfl,r.o];simp[s,hisn]),bt g.o b.o⟩
    |true=>
     go_wp2;go_ret;exact⟨kd (by rw[q.o rfl,r.o];simp[hisn]),bt g.o b.o⟩
theorem zd(w:World)(p:Pv)(b:Pi w p):Calls prog 122 #[p.vl] w λe x=>e=.returned (.int .i64 (p.pg.check:Int))/\Below w.heap.size w x:=by
 by_cases a:p.pg.formE=0
 . rcases Pg.kindOk_iff.1 (jD a).1 with k|k|k
   . exact tV w p b a (.inl k)
   . exact tV w p b a (.inr k)
   . exact Du w p b a k
 . rw[rF a];have d:=ix λ(l:World)=>oY l p
   cases hk:p.pg.kindOk with
   |false=>
    have c:p.pg.formE=22:=by unfold Pg.formE;rw[if_pos hk]
    have v:¬p.kind=1/\¬p.kind=2/\¬p.kind=3:=by
     refine⟨λh=>?_,λh=>?_,λh=>?_⟩<;>simp[Pg.kindOk,Pv.pg,h] at hk
    rw[c];clear d a b hk c;obtain⟨kind,C,r,t,B,q,s,A,next⟩:=p
    unfold Pv.vl;simp only[Pv.cs] at *;obtain⟨g,i,j⟩:=v;have H:(kind==1)=false:=by simpa using g
    have I:(kind==2)=false:=by simpa using i
    have J:(kind==3)=false:=by simpa using j
    have E:(kind != 1)=true:=by simpa using g
    have F:(kind != 2)=true:=by simpa using i
    have G:(kind != 3)=true:=by simpa using j
    go_enter func122,ntmps122;go_wp2;go_ret;exact⟨rfl,al _ _⟩
   |true=>
    have f:p.pg.form=false:=by
     cases h:p.pg.form with
     |false=>rfl
     |true=>exact absurd (by unfold Pg.formE;simp[hk,h]) a
    have c:p.pg.formE=5:=by unfold Pg.formE;simp[hk,f]
    rw[c];rw[f] at d;have D:=ix (Bx.new w 77 p.cs);have m:=Pg.kindOk_iff.1 hk;have n:p.pg.kind=p.kind:=rfl;rw[n] at m;clear a b hk c f n;obtain⟨kind,C,r,t,B,q,s,A,next⟩:=p
    unfold Pv.vl at *;simp only[Pv.cs] at *;rcases m with rfl|rfl|rfl
    all_goals
     go_enter func122,ntmps122;go_wp2_with fail
     refine(d.o _).mono ?_;rintro y l ⟨rfl,hb⟩;go_wp2;go_ret;exact⟨rfl,bt (al _ _) hb⟩
end Go.Proofs.YteaogidofpfmmaaGreat
namespace Go.Proofs.YteaogidofpfmmaaGreat
open Tryz
section
open Go.RowKit
variable {T:TypeId} {w w':World} {b:Nat} {a:Option Addr} {cap:Nat}
end
section
open Go.RowKit
variable {w w':World} {b:Nat} {a:Option Addr} {cap:Nat} {s:RS}
end
section
open Go.RowKit
variable {v w:World} {G:Nat->Prop} {b:Nat} {l:List Nat}
theorem Bs.lt{w:World}{a:Option Addr}{l:List Nat}(h:Bs w a l){x:Addr}(f:a=some x)(c:l≠[]):x.block<w.heap.size:=by
 obtain⟨_,_,h⟩:=h;rcases h with h|⟨b,g,e,d⟩
 . exact absurd h c
 . rw[f,au] at e;subst e;exact block_lt_of_cell (a:=⟨b,g+0,none⟩) (d 0 (bY.2 c))
end
section
open Go.RowKit
variable {v w w':World} {b:Nat} {s s':RS}
end
section
open Go.RowKit
end
section
open Go.RowKit
theorem Bx.setc{w:World}{t:TypeId}{g:Nat}{cs:Array Value}(h:Bx w t g cs)(i:Nat)(u:Value):Bx (w.setCell ⟨g,i,none⟩ u) t g (cs.setIfInBounds i u):=aE w g i _ _ _ h
theorem Rw.nty{w:World}{a:Option Addr}{c:Nat}{l:List Nat}(h:Rw w a c l){t:TypeId}{g:Nat}{cs:Array Value}(d:Bx w t g cs)(i:t≠5){x:Addr}(f:a=some x):x.block≠g:=by
 intro e;rcases h.cases with⟨rfl,_⟩|⟨g',cur,rfl,hg',_⟩
 . cases f
 . cases f;dsimp only at e;subst e;unfold Bx at d;rw[hg'] at d;simp only[au,eK] at d;exact absurd d.2.1.symm i
theorem yS(w:World)(g:Nat)(cs:Array Value):But (λk=>k=g) w (w.setRow g cs):=by
 have h:=below_setRow (Below.refl 0 w) (an g) cs;exact⟨h.os,h.tape,h.output,h.size,λk _ c=>setRow_other _ _ _ _ c⟩
end
section
open Go.RowKit
theorem kR(g:Nat):∀(vs:List Value)(w:World)(o:Nat),But (λk=>k=g) w (w.setCells g o vs)
 | [],_,_=>But.refl _ _
 |v::vs,w,o=>((But.refl (λk=>k=g) w).setCell (p:=⟨g,o,none⟩) (λ_=>rfl) v).trans (kR g vs _ (o+1)) λ_ _ h=>h
end
section
open Go.RowKit
structure Pn(v wx:World)(P:Pv):Prop where
 it:Jw wx P.aI P.cI P.items
 itn:New v none P.aI
 d:Rw wx P.aD P.cD P.data
 dn:New v none P.aD
 fr:∀t∈ji P.items,Rw wx t.a t.c t.l/\New v none t.a/\B8 t.l
 dist:((⟨P.aD,P.cD,P.data⟩:Br)::ji P.items).Pairwise jE
 d8:B8 P.data
 ns:∀r∈P.items,N64 r.child/\N64 r.size
 nk:N64 P.kind
 nl:N64 P.level
 nn:N64 P.next
theorem Jw.nty{w:World}{a:Option Addr}{c:Nat}{L:List Iv}(h:Jw w a c L){t:TypeId}{g:Nat}{cs:Array Value}(d:Bx w t g cs)(i:t≠89){x:Addr}(f:a=some x):x.block≠g:=by
 intro e;rcases h.cases with⟨rfl,_⟩|⟨g',cur,rfl,hg',_⟩
 . cases f
 . cases f;dsimp only at e;subst e;unfold Bx at d;rw[hg'] at d;simp only[au,eK] at d;exact absurd d.2.1.symm i
theorem Pn.but{S:Nat->Prop}{v e j:World}{P:Pv}(h:Pn v e P)(hb:But S e j)(p:∀k,S k->∃t cs,Bx e t k cs/\t≠5/\t≠89):Pn v j P:=by
 have d:∀{a c l},Rw e a c l->Rw j a c l:=λd=>d.but hb λx i g=>by
  obtain⟨t,cs,f,m,n⟩:=p _ g;exact d.nty f m i rfl
 exact⟨h.it.but hb λx i g=>by
  obtain⟨t,cs,f,m,n⟩:=p _ g;exact h.it.nty f n i rfl,h.itn,d h.d,h.dn,λt q=>⟨d (h.fr t q).1,(h.fr t q).2⟩,h.dist,h.d8,h.ns,h.nk,h.nl,h.nn⟩
theorem Pn.keep{v c d:World}{P:Pv}(h:Pn v c P)(hb:Below c.heap.size c d):Pn v d P:=h.but (S:=λ_=>False) (But.ofBelow hb) λ_ h=>h.elim
theorem dr2(w:World):Below w.heap.size w w.drew:=(Below.refl _ _).drew
end
section
open Go.RowKit
theorem Pn.zero(v w:World):Pn v w Pv.zero:=⟨Jw.nil _,New.none _ _,Rw.nil _,New.none _ _,(λ_ h=>by cases h),ft _ _,B8.nil,(λ_ h=>by cases h),by simp[N64,Pv.zero],by simp[N64,Pv.zero],by simp[N64,Pv.zero]⟩
theorem Pn.pre{v v' w:World}{P:Pv}(h:Pn v w P)(d:v'.heap.size<=v.heap.size):Pn v' w P:=⟨h.it,h.itn.mono d,h.d,h.dn.mono d,λt c=>⟨(h.fr t c).1,(h.fr t c).2.1.mono d,(h.fr t c).2.2⟩,h.dist,h.d8,h.ns,h.nk,h.nl,h.nn⟩
theorem Pn.row{v w:World}{P:Pv}(h:Pn v w P){t:TypeId}{g:Nat}{cs:Array Value}(e:Bx w t g cs)(c:t≠5)(d:t≠89)(f:Array Value):Pn v (w.setRow g f) P:=
 h.but (yS _ _ _) λk hk=>by subst hk;exact⟨t,cs,e,c,d⟩
theorem Pn.pi{v w:World}{P:Pv}(h:Pn v w P)(k:P.items.length<=2199023255520):Pi w P:=by
 have i:P.items.length<=P.cI:=by
  rcases h.it.cases with⟨_,h1,h2⟩|⟨g,cur,_,_,h1,_⟩
  . rw[h1,h2];simp
  . exact h1
 have j:∀r∈P.items,Ii w r:=λr c=>by
  have f:=(vJ c).subset;obtain⟨d,p,m⟩:=h.fr ⟨r.aK,r.cK,r.key⟩ (f (by simp[Iv.rows]))
  obtain⟨e,q,n⟩:=h.fr ⟨r.aV,r.cV,r.val⟩ (f (by simp[Iv.rows]))
  exact⟨d.bs m d.len_le,d.cap,e.bs n e.len_le,e.cap,(h.ns r c).1,(h.ns r c).2⟩
 exact⟨h.it.qs j k,i,h.d.bs h.d8 h.d.len_le,h.d.cap,h.nk,h.nl,h.nn⟩
end
section
open Go.RowKit
end
section
open Go.RowKit
theorem Jw.butg{d f:World}{a:Option Addr}{c:Nat}{L:List Iv}(_:Jw d a c L)(g:d.grownBy f (a.map Addr.block)):But (λk=>∃x,a=some x/\x.block=k) d f:=
 (But.refl _ _).grown g λk hk _=>by
   obtain⟨x,h,e⟩:=map_some hk;exact⟨x,h,e⟩
end
section
open Go.RowKit
end
section
open Go.RowKit
theorem zO{w:World}{a:Option Addr}(h:New w none a){x:Addr}(c:a=some x):w.heap.size<=x.block:=by
 rcases h x c with⟨y,hy,_⟩|h
 . cases hy
 . exact h
end
section
open Go.RowKit
theorem iG(w:World)(o p:Obj){c:World}(hb:Below ((w.alloc o).alloc p).heap.size ((w.alloc o).alloc p) c):c.heap[w.heap.size]?=some o/\c.heap[w.heap.size+1]?=some p/\Below w.heap.size w c/\w.heap.size+2<=c.heap.size:=by
 have d:((w.alloc o).alloc p).heap.size=w.heap.size+2:=by rw[size_alloc,size_alloc]
 refine⟨(hb.block _ (by rw[d];omega)).trans ?_,(hb.block _ (by rw[d];omega)).trans ?_,bt (bt (al _ _) (al _ _)) hb,by have:=hb.size;omega⟩
 . rw[heap_alloc_old _ _ (by rw[size_alloc];omega)];exact bj _ _
 . have:=bj (w.alloc o) p;rw[size_alloc] at this;exact this
theorem j9(w:World)(d:Option Addr)(n f:Nat)(p:List Nat)(m:Bs w d p)(q:n=p.length)(r:p.length<=140737488355264):
 Calls prog 73 #[.slice d n f] w λx w'=>∃c e,x=.returned (.slice c p.length e)/\Own w w' c e p:=by
 subst q;exact(jw w d p.length f p m rfl (by omega)).mono λ_ _ ⟨c,g,h,i,j,k⟩=>⟨c,g,h,i,j,k⟩
theorem qE(g:Nat)(w:World)(a b c d:Value):But (λk=>k=g) w ((((w.setCell ⟨g,0,none⟩ a).setCell ⟨g,1,none⟩ b).setCell ⟨g,2,none⟩ c).setCell ⟨g,3,none⟩ d):=
 ((((But.refl (λk=>k=g) w).setCell (p:=⟨g,0,none⟩) (λ_=>rfl) a).setCell (p:=⟨g,1,none⟩) (λ_=>rfl) b).setCell (p:=⟨g,2,none⟩) (λ_=>rfl) c).setCell (p:=⟨g,3,none⟩) (λ_=>rfl) d
theorem oK(g:Nat)(w:World)(a b c d e:Value):But (λk=>k=g) w (((((w.setCell ⟨g,0,none⟩ a).setCell ⟨g,1,none⟩ b).setCell ⟨g,2,none⟩ c).setCell ⟨g,3,none⟩ d).setCell ⟨g,4,none⟩ e):=
 (qE g w a b c d).setCell (p:=⟨g,4,none⟩) (λ_=>rfl) e
theorem ER{w:World}{g:Nat}{t:TypeId}{i j k m:Value}(h:Bx w t g #[i,j,k,m])(a b c d:Value):Bx ((((w.setCell ⟨g,0,none⟩ a).setCell ⟨g,1,none⟩ b).setCell ⟨g,2,none⟩ c).setCell ⟨g,3,none⟩ d) t g #[a,b,c,d]:=by
 have f:=(((h.setc 0 a).setc 1 b).setc 2 c).setc 3 d;have e:(((#[i,j,k,m].setIfInBounds 0 a).setIfInBounds 1 b).setIfInBounds 2 c).setIfInBounds 3 d=#[a,b,c,d]:=by simp
 rw[e] at f;exact f
theorem xA{w:World}{g:Nat}{t:TypeId}{j k m n p:Value}(h:Bx w t g #[j,k,m,n,p])(a b c d f:Value):Bx (((((w.setCell ⟨g,0,none⟩ a).setCell ⟨g,1,none⟩ b).setCell ⟨g,2,none⟩ c).setCell ⟨g,3,none⟩ d).setCell ⟨g,4,none⟩ f) t g #[a,b,c,d,f]:=by
 have i:=((((h.setc 0 a).setc 1 b).setc 2 c).setc 3 d).setc 4 f;have e:((((#[j,k,m,n,p].setIfInBounds 0 a).setIfInBounds 1 b).setIfInBounds 2 c).setIfInBounds 3 d).setIfInBounds 4 f=#[a,b,c,d,f]:=by simp
 rw[e] at i;exact i
theorem fr4{w:World}{g:Nat}{t:TypeId}{cs:Array Value}(h:Bx w t g cs):w.frozen? ⟨g,0,none⟩=false/\w.frozen? ⟨g,1,none⟩=false/\w.frozen? ⟨g,2,none⟩=false/\w.frozen? ⟨g,3,none⟩=false/\w.frozen? ⟨g,4,none⟩=false:=
 ⟨bq _ _ _ _ _ h,bq _ _ _ _ _ h,bq _ _ _ _ _ h,bq _ _ _ _ _ h,bq _ _ _ _ _ h⟩
theorem wm(w:World)(r:Iv)(E:Ii w r)(hl:r.key.length<=140737488355264)(hh:r.val.length<=140737488355264):
 Calls prog 174 #[r.vl] w λe w'=>∃q:Iv,e=.returned q.vl/\Io w w' q/\q.it=r.it:=by
 have S1:=ix λB (hb:Below w.heap.size w B)=>j9 B r.aK r.key.length r.cK r.key (E.bk.keep hb) rfl hl
 have S2:=ix λB (hb:Below w.heap.size w B)=>j9 B r.aV r.val.length r.cV r.val (E.bv.keep hb) rfl hh
 have L8:=ix E.bk.1;have Y:=ix E.bv.1;clear E;unfold Iv.vl;obtain⟨m,t,i,n,A,val,child,j⟩:=r;have L:=ix λ(W:World)(h:W.heap[w.heap.size]?=some (.cells (Iv.cs ⟨m,t,i,n,A,val,child,j⟩) 89))=>Bx.item (p:=⟨m,t,i,n,A,val,child,j⟩) h
 have Z:=ix λ(W:World)(h:W.heap[w.heap.size]?=some (.cells (Iv.cs ⟨m,t,i,n,A,val,child,j⟩) 89))(a b c d:Value)=>Bx.item (p:=⟨m,t,i,n,A,val,child,j⟩) ((show Bx W 89 w.heap.size _ from h).but (qE (w.heap.size+1) W a b c d) (by omega))
 have TZ:=ix λ(W:World)(h:W.heap[w.heap.size+1]?=some (.cells (Iv.cs Iv.zero) 89))=>And.intro (Bx.item (p:=Iv.zero) h) (fr4 (show Bx W 89 (w.heap.size+1) _ from h))
 have TM:=ix λ(W:World)(h:W.heap[w.heap.size+1]?=some (.cells (Iv.cs Iv.zero) 89))(a b c d:Value)=>ER (show Bx W 89 (w.heap.size+1) _ from h) a b c d
 dsimp only[Iv.cs,Iv.zero,bg] at *;go_enter func174,ntmps174;go_wp2;have f:Hid (Below ((w.alloc (.cells #[.slice m i.length t,.slice n val.length A,.int .i64 child,.int .i64 j] 89)).alloc (.cells #[.slice none 0 0,.slice none 0 0,.int .i64 0,.int .i64 0] 89)).heap.size ((w.alloc (.cells #[.slice m i.length t,.slice n val.length A,.int .i64 child,.int .i64 j] 89)).alloc (.cells #[.slice none 0 0,.slice none 0 0,.int .i64 0,.int .i64 0] 89)) ((w.alloc (.cells #[.slice m i.length t,.slice n val.length A,.int .i64 child,.int .i64 j] 89)).alloc (.cells #[.slice none 0 0,.slice none 0 0,.int .i64 0,.int .i64 0] 89)).drew):=(Below.refl _ _).drew;have J:=L.o _ (iG w _ _ f.o).1;have hn:w.heap.size+1≠w.heap.size:=by omega
 go_region_held3 (λw'=>w'.cell? ⟨w.heap.size,0,none⟩=some (.slice m i.length t)/\w'.cell? ⟨w.heap.size,1,none⟩=some (.slice n val.length A)/\w'.cell? ⟨w.heap.size,2,none⟩=some (.int .i64 child)/\w'.cell? ⟨w.heap.size,3,none⟩=some (.int .i64 j))
  (first|with_reducible exact J|with_reducible exact Z.o _ (iG w _ _ f.o).1 _ _ _ _)
  (first|(go_at_call 73;with_reducible refine(S1.o _ (iG w _ _ f.o).2.2.1).mono ?_;rintro e B ⟨C,N,rfl,H⟩;have X:=H.b;have R:=ix (λx (g:C=some x)=>ay (iG w _ _ f.o).2.2.2 (H.fresh g));have L1:=ix (λx (g:C=some x)=>H.r.lt g);have f:=ix (bt f.o X);have J:=L.o _ (iG w _ _ f.o).1;have M:=ix H.r;clear X H)|(go_at_call 73;with_reducible refine(S2.o _ (iG w _ _ f.o).2.2.1).mono ?_;rintro e w2 ⟨D,O,rfl,I⟩;have P:=I.b;have Z2:=ix (λx y (g:C=some x)(F:D=some y)=>a6 (L1.o x g) (I.fresh F));have U:=ix (λy (F:D=some y)=>ay (iG w _ _ f.o).2.2.2 (I.fresh F));have f:=ix (bt f.o P);have J:=L.o _ (iG w _ _ f.o).1;obtain⟨⟨y0,y1,y2,y3⟩,f0,f1,f2,f3,f4⟩:=TZ.o _ (iG w _ _ f.o).2.1;have M:=ix (M.o.keep P);have R2:=ix I.r;clear P I))
 clear J;have M1:=ix (TM.o _ (iG w _ _ f.o).2.1 (.slice C i.length N) (.slice D val.length O) (.int .i64 child) (.int .i64 j));have K:=ix (qE (w.heap.size+1) w2 (.slice C i.length N) (.slice D val.length O) (.int .i64 child) (.int .i64 j));have TB:=ix (iG w _ _ f.o).2.2.1;clear y0 y1 y2 y3 f0 f1 f2 f3 f4 f;go_wp2;refine az (v:=.agg _) (dG results174 _ _ (w.heap.size+1) 89 _ (0,0) _ rfl M1.o underlying89 rfl qJ) rfl ?_;have V:Below w.heap.size w _:=((But.ofBelow (S:=λk=>k=w.heap.size+1) TB.o).trans K.o λ_ _ e=>e).below λk hk e=>by omega
 have B:=M.o.but K.o λx g e=>by have:=R.o x g;omega
 have aa:=R2.o.but K.o λx g e=>by have:=U.o x g;omega
 exact⟨⟨C,N,i,D,O,val,child,j⟩,rfl,⟨⟨B,λx g=>.inr (by have:=R.o x g;omega),V⟩,⟨aa,λx g=>.inr (by have:=U.o x g;omega),V⟩,λx y g F e=>by have:=Z2.o x y g F;omega,L8.o,Y.o⟩,rfl⟩
end
section
open Go.RowKit
theorem Fam.grown{w d g:World}{T:List Br}{a:Option Addr}{c:Nat}{L:List Iv}(f:Fam w d T)(h:Jw d a c L)(i:d.grownBy g (a.map Addr.block))(k:Below w.heap.size w g):Fam w g T:=
 f.but (h.butg i) k λt j _ m ⟨_,n,e⟩=>h.ne (f.own t j).1.r n m e
structure Ck(w W:World)(a:Option Addr)(c:Nat)(M:List Iv)(L:List Iv):Prop where
 j:JOwn w W a c M
 f:Fam w W (ji M)
 e:M.map Iv.it=L.map Iv.it
 n:∀r∈M,N64 r.child/\N64 r.size
theorem Ck.len{w W:World}{a:Option Addr}{c:Nat}{M L:List Iv}(h:Ck w W a c M L):M.length=L.length:=by have:=bf List.length h.e;simpa using this
theorem Ck.keep{w W d:World}{a:Option Addr}{c:Nat}{M L:List Iv}(h:Ck w W a c M L)(hb:Below W.heap.size W d):Ck w d a c M L:=⟨h.j.keep hb,h.f.keep hb,h.e,h.n⟩
theorem Ck.nil(w:World){W:World}(hb:Below w.heap.size w W):Ck w W none 0 [] []:=⟨JOwn.nil w hb,Fam.nil _ _,rfl,(λ_ h=>by cases h)⟩
theorem mR(w:World)(x:Iv)(g:Nat)(c:g=w.heap.size):∀j u,x.cs.toList[j]?=some u->(w.alloc (.cells x.cs 89)).cell? ((⟨g,0,none⟩:Addr).add j)=some u:=by
 subst c;intro j u h;rw[Addr.add_mid,de,ai _ _ _ _ _ _ (bj _ _)];simpa using h
theorem Ck.push{w W e d f:World}{a:Option Addr}{c g c2:Nat}{M L:List Iv}{q x:Iv}(h:Ck w W a c M L)(k:Io W e q)(y:q.it=x.it)(A:N64 q.child/\N64 q.size)(hb:Below e.heap.size e d)(p:Jw f (some ⟨g,0,none⟩) c2 (M++[q]))(t:New d a (some ⟨g,0,none⟩))(j:d.grownBy f (a.map Addr.block)):
 Ck w f (some ⟨g,0,none⟩) c2 (M++[q]) (L++[x]):=by
 have i:Below W.heap.size W d:=bt k.k.b hb;have m:=h.j.step i p t j;have n:Fam w d (ji M++q.rows):=h.f.add (k.fam.keep hb) i h.j.b;refine⟨m,?_,by rw[dy,dy,h.e];simp[y],λr hr=>?_⟩
 . rw[kD,mI];exact n.grown (h.j.r.keep i) j m.b
 . rcases bO.1 hr with hr|hr
   . exact h.n r hr
   . rw[aZ.1 hr];exact A
theorem it_n{q x:Iv}(h:q.it=x.it)(e:N64 x.child/\N64 x.size):N64 q.child/\N64 q.size:=by
 have c:q.child=x.child:=bf It.child h;have d:q.size=x.size:=bf It.size h;rw[c,d];exact e
theorem oS(w:World)(a:Option Addr)(n c:Nat)(L:List Iv)(d:Js w a L)(hn:n=L.length)(hL:L.length<=1048576)(C:∀r∈L,r.key.length<=140737488355264/\r.val.length<=140737488355264):
 Calls prog 139 #[.slice a n c] w λe w'=>∃P R M,e=.returned (.slice P L.length R)/\Ck w w' P R M L:=by
 subst hn;have J:=ix λ(p:World)(hb:Below w.heap.size w p)(k:Nat)(hk:k<L.length)=>(d.keep hb).at hk
 have F:=ix λ(p:World)(hb:Below w.heap.size w p)(k:Nat)(hk:k<L.length)=>wm p (L.getD k Iv.zero) ((d.1 _ (iH hk)).keep hb) (C _ (iH hk)).1 (C _ (iH hk)).2
 have I:=ix λ(k:Nat)(hk:k<L.length)=>And.intro (d.1 _ (iH hk)).nc (d.1 _ (iH hk)).ns
 have K:=ix λ(k:Nat)(hk:k<L.length)=>(show L.take (k+1)=L.take k++[L.getD k Iv.zero] from by rw[bZ hk];simp[hk])
 clear d C;go_enter func139,ntmps139;go_wp2;go_loopw [3,4] (λo i wx=>∃(k:Nat)(g:Option Addr)(j:Nat)(M:List Iv),k<=L.length/\i=.int .i64 k/\o=.slice g k j/\Ck w wx g j M (L.take k)) (λ_ i _=>L.length-(intOf i).toNat)
 case atStart=>exact⟨0,none,0,[],an _,rfl,rfl,Ck.nil w (Below.refl _ _)⟩
 case round=>
  obtain⟨k,g,j,M,hk,rfl,rfl,y⟩:=hrel;have f:=ix y;have H:Hid (k=M.length):=by show _=_;rw[y.len,dm];omega
  clear y;by_cases m:k<L.length
  . have af:(k:Int)<(L.length:Int):=by omega
    have ab:k+1<=L.length:=by omega
    obtain⟨bI,ae,rfl,V⟩:=J.o _ f.o.j.b k m;obtain⟨W,X,Y,Z⟩:=jn V;have t:=ix (F.o _ f.o.j.b k m);have N1:=ix (I.o k m);have T1:=ix (K.o k m);have ac:M.length+1<=2199023255520:=by have:=H.o;omega
    clear V J F I K;generalize L.getD k Iv.zero=x at *;have aa:=ix λ(q:Iv)(h:q.it=x.it)=>it_n h N1.o
    obtain⟨aK,cK,ad,aV,cV,val,child,ag⟩:=x;simp only[Iv.vl,Iv.cs] at t W X Y Z;go_wp2_with fail
    refine t.o.mono ?_;rintro e D ⟨q,rfl,B,A⟩;have Q1:=ix B;have Q2:=ix A;have Q3:=ix (aa.o q A);have N:=ix ((f.o.j.keep B.k.b).r.keep (al D (.cells q.cs 89)));have E:=ix (mR D q D.heap.size rfl);clear B A t W X Y Z;obtain⟨qK,dK,kq,qV,dV,vq,cq,sq⟩:=q;simp only[Iv.cs] at N E ⊢;go_wp2_with (at_builtin;refine yq rfl _ _ rfl g k j M rfl H.o N.o ⟨_,0,none⟩ 1 ⟨qK,dK,kq,qV,dV,vq,cq,sq⟩ rfl E.o ac ?_)
    intro g2 c2 w5 d S U;have O:=ix (f.o.push Q1.o Q2.o Q3.o (al _ _) d S U);rw[<-T1.o] at O;clear d S U;go_wp2;go_roundw
    case rel=>exact⟨k+1,_,c2,_,ab,by first|(go_num;done)|exact bf (Value.int IntKind.i64) (by omega),rfl,O.o⟩
    case measure=>first|exact jr _ _ _ rfl m|(simp[intOf];omega)
  . obtain rfl:k=L.length:=by omega
    rw[du] at f;go_wp2;go_ret;exact⟨g,j,M,rfl,f.o⟩
theorem CopyPage_any(w:World)(r:Pv)(D:Pi w r)(hd:r.data.length<=140737488355264)(hi:r.items.length<=1048576)(hs:∀x∈r.items,x.key.length<=140737488355264/\x.val.length<=140737488355264):
 Calls prog 94 #[r.vl] w λe w'=>∃q:Pv,e=.returned q.vl/\Pi w' q/\q.pg=r.pg/\Below w.heap.size w w':=by
 have S1:=ix λF (hb:Below w.heap.size w F)=>oS F r.aI r.items.length r.cI r.items (D.it.keep hb) rfl hi hs
 have S2:=ix λF (hb:Below w.heap.size w F)=>j9 F r.aD r.data.length r.cD r.data (D.bd.keep hb) rfl hd
 have L8:=ix D.bd.1;have N:=ix (And.intro D.nk (And.intro D.nl D.nn));clear D;unfold Pv.vl;obtain⟨kind,m,A,C,n,y,B,j,next⟩:=r
 have L:=ix λ(W:World)(h:W.heap[w.heap.size]?=some (.cells (Pv.cs ⟨kind,m,A,C,n,y,B,j,next⟩) 77))=>Bx.page (p:=⟨kind,m,A,C,n,y,B,j,next⟩) h
 have IS:=ix λ(W:World)(h:W.heap[w.heap.size]?=some (.cells (Pv.cs ⟨kind,m,A,C,n,y,B,j,next⟩) 77))(a b c d f:Value)=>Bx.page (p:=⟨kind,m,A,C,n,y,B,j,next⟩) ((show Bx W 77 w.heap.size _ from h).but (oK (w.heap.size+1) W a b c d f) (by omega))
 have TZ:=ix λ(W:World)(h:W.heap[w.heap.size+1]?=some (.cells (Pv.cs Pv.zero) 77))=>And.intro (Bx.page (p:=Pv.zero) h) (fr4 (show Bx W 77 (w.heap.size+1) _ from h))
 have TM:=ix λ(W:World)(h:W.heap[w.heap.size+1]?=some (.cells (Pv.cs Pv.zero) 77))(a b c d f:Value)=>xA (show Bx W 77 (w.heap.size+1) _ from h) a b c d f
 dsimp only[Pv.cs,Pv.zero,bg] at *;go_enter func94,ntmps94;go_wp2;have i:Hid (Below ((w.alloc (.cells #[.int .i64 kind,.int .i64 m,.slice A n.length C,.slice y j.length B,.int .i64 next] 77)).alloc (.cells #[.int .i64 0,.int .i64 0,.slice none 0 0,.slice none 0 0,.int .i64 0] 77)).heap.size ((w.alloc (.cells #[.int .i64 kind,.int .i64 m,.slice A n.length C,.slice y j.length B,.int .i64 next] 77)).alloc (.cells #[.int .i64 0,.int .i64 0,.slice none 0 0,.slice none 0 0,.int .i64 0] 77)) ((w.alloc (.cells #[.int .i64 kind,.int .i64 m,.slice A n.length C,.slice y j.length B,.int .i64 next] 77)).alloc (.cells #[.int .i64 0,.int .i64 0,.slice none 0 0,.slice none 0 0,.int .i64 0] 77)).drew):=(Below.refl _ _).drew
 have I:=L.o _ (iG w _ _ i.o).1;have hn:w.heap.size+1≠w.heap.size:=by omega
 go_region_held3 (λw'=>w'.cell? ⟨w.heap.size,0,none⟩=some (.int .i64 kind)/\w'.cell? ⟨w.heap.size,1,none⟩=some (.int .i64 m)/\w'.cell? ⟨w.heap.size,2,none⟩=some (.slice A n.length C)/\w'.cell? ⟨w.heap.size,3,none⟩=some (.slice y j.length B)/\w'.cell? ⟨w.heap.size,4,none⟩=some (.int .i64 next))
  (first|with_reducible exact I|with_reducible exact IS.o _ (iG w _ _ i.o).1 _ _ _ _ _)
  (first|(go_at_call 139;with_reducible refine(S1.o _ (iG w _ _ i.o).2.2.1).mono ?_;rintro e F ⟨P,K,M,rfl,Y⟩;have ab:=Y.j.b;have i:=ix (bt i.o ab);have I:=L.o _ (iG w _ _ i.o).1;have t:=ix Y;clear ab Y)|(go_at_call 73;with_reducible refine(S2.o _ (iG w _ _ i.o).2.2.1).mono ?_;rintro e w2 ⟨R,O,rfl,Z⟩;have aa:=Z.b;have i:=ix (bt i.o aa);have I:=L.o _ (iG w _ _ i.o).1;obtain⟨⟨y0,y1,y2,y3,y4⟩,f0,f1,f2,f3,f4⟩:=TZ.o _ (iG w _ _ i.o).2.1;have t:=ix (t.o.keep aa);have R2:=ix Z.r;clear aa Z))
 clear I;have M1:=ix (TM.o _ (iG w _ _ i.o).2.1 (.int .i64 kind) (.int .i64 m) (.slice P n.length K) (.slice R j.length O) (.int .i64 next))
 have H:=ix (oK (w.heap.size+1) w2 (.int .i64 kind) (.int .i64 m) (.slice P n.length K) (.slice R j.length O) (.int .i64 next))
 have TB:=ix (iG w _ _ i.o).2.2.1;have J:Hid (Bx w2 77 (w.heap.size+1) _):=(iG w _ _ i.o).2.1;clear y0 y1 y2 y3 y4 f0 f1 f2 f3 f4 i;go_wp2;refine az (v:=.agg _) (dG results94 _ _ (w.heap.size+1) 77 _ (0,0) _ rfl M1.o underlying77 rfl iV) rfl ?_;have ac:Below w.heap.size w _:=((But.ofBelow (S:=λk=>k=w.heap.size+1) TB.o).trans H.o λ_ _ e=>e).below λk hk e=>by omega
 have r2:=R2.o.but H.o λx E e=>R2.o.nty J.o (by decide) E e
 have j2:=t.o.j.r.but H.o λx E e=>t.o.j.r.nty J.o (by decide) E e
 have ae:=t.o.len
 have ii:∀r∈M,Ii _ r:=λr U=>by
  have k:=Fam.io (t.o.f.sub (vJ U));have V:=k.k.r.but H.o λx E e=>k.k.r.nty J.o (by decide) E e
  have X:=k.v.r.but H.o λx E e=>k.v.r.nty J.o (by decide) E e
  exact⟨V.bs k.k8 V.len_le,V.cap,X.bs k.v8 X.len_le,X.cap,(t.o.n r U).1,(t.o.n r U).2⟩
 have ad:M.length<=K:=by
  rcases j2.cases with⟨_,h1,h2⟩|⟨g,cur,_,_,h1,_⟩
  . rw[h1,h2];simp
  . exact h1
 refine⟨⟨kind,m,P,K,M,R,O,j,next⟩,by rw[<-ae],⟨j2.qs ii (by omega),ad,r2.bs L8.o r2.len_le,r2.cap,N.o.1,N.o.2.1,N.o.2.2⟩,?_,ac⟩
 unfold Pv.pg;dsimp only;rw[t.o.e]
end
section
open Go.RowKit
variable {v0 W W2:World} {p:Pv} {g3 gD g j:Nat} {D:List Iv}
end
section
open Go.RowKit
theorem Rw.addr2{w:World}{a:Option Addr}{cap:Nat}{l:List Nat}(h:Rw w a cap l)(c:0<l.length):∃g,a=some ⟨g,0,none⟩/\l.length<=cap/\cap<=maxLen:=by
 rcases h.cases with⟨rfl,rfl,rfl⟩|⟨g,cur,rfl,hg,h1,h2,h3,h4⟩
 . simp at c
 . exact⟨g,rfl,h1,h2⟩
theorem uH{W c:World}{g:Nat}{o:Obj}(h:W.heap[g]?=some o)(hb:Below W.heap.size W c):c.heap[g]?=some o:=(hb.block _ (ae.1 h).1).trans h
end
section
open Go.RowKit
end
section
open Go.RowKit
end
section
open Go.RowKit
end
section
open Go.RowKit
end
section
open Go.RowKit
end
section
open Go.RowKit
end
section
open Go.RowKit
end
section
open Go.RowKit
theorem qb(w:World)(r:Pv)(J:Pi w r)(hd:r.data.length<=140737488355264)(hi:r.items.length<=1048576)(hs:∀x∈r.items,x.key.length<=140737488355264/\x.val.length<=140737488355264):
 Calls prog 94 #[r.vl] w λe w'=>∃q:Pv,e=.returned q.vl/\Pn w w' q/\q.items.length=r.items.length/\q.pg=r.pg/\Below w.heap.size w w':=by
 have S1:=ix λK (hb:Below w.heap.size w K)=>oS K r.aI r.items.length r.cI r.items (J.it.keep hb) rfl hi hs
 have S2:=ix λK (hb:Below w.heap.size w K)=>j9 K r.aD r.data.length r.cD r.data (J.bd.keep hb) rfl hd
 have L8:=ix J.bd.1;have Y:=ix (And.intro J.nk (And.intro J.nl J.nn));clear J;unfold Pv.vl;obtain⟨kind,A,F,I,B,E,H,n,next⟩:=r
 have X:=ix λ(W:World)(h:W.heap[w.heap.size]?=some (.cells (Pv.cs ⟨kind,A,F,I,B,E,H,n,next⟩) 77))=>Bx.page (p:=⟨kind,A,F,I,B,E,H,n,next⟩) h
 have IS:=ix λ(W:World)(h:W.heap[w.heap.size]?=some (.cells (Pv.cs ⟨kind,A,F,I,B,E,H,n,next⟩) 77))(a b c d f:Value)=>Bx.page (p:=⟨kind,A,F,I,B,E,H,n,next⟩) ((show Bx W 77 w.heap.size _ from h).but (oK (w.heap.size+1) W a b c d f) (by omega))
 have TZ:=ix λ(W:World)(h:W.heap[w.heap.size+1]?=some (.cells (Pv.cs Pv.zero) 77))=>And.intro (Bx.page (p:=Pv.zero) h) (fr4 (show Bx W 77 (w.heap.size+1) _ from h))
 have TM:=ix λ(W:World)(h:W.heap[w.heap.size+1]?=some (.cells (Pv.cs Pv.zero) 77))(a b c d f:Value)=>xA (show Bx W 77 (w.heap.size+1) _ from h) a b c d f
 dsimp only[Pv.cs,Pv.zero,bg] at *;go_enter func94,ntmps94;go_wp2;have i:Hid (Below ((w.alloc (.cells #[.int .i64 kind,.int .i64 A,.slice F B.length I,.slice E n.length H,.int .i64 next] 77)).alloc (.cells #[.int .i64 0,.int .i64 0,.slice none 0 0,.slice none 0 0,.int .i64 0] 77)).heap.size ((w.alloc (.cells #[.int .i64 kind,.int .i64 A,.slice F B.length I,.slice E n.length H,.int .i64 next] 77)).alloc (.cells #[.int .i64 0,.int .i64 0,.slice none 0 0,.slice none 0 0,.int .i64 0] 77)) ((w.alloc (.cells #[.int .i64 kind,.int .i64 A,.slice F B.length I,.slice E n.length H,.int .i64 next] 77)).alloc (.cells #[.int .i64 0,.int .i64 0,.slice none 0 0,.slice none 0 0,.int .i64 0] 77)).drew):=(Below.refl _ _).drew
 have P:=X.o _ (iG w _ _ i.o).1;have hn:w.heap.size+1≠w.heap.size:=by omega
 go_region_held3 (λw'=>w'.cell? ⟨w.heap.size,0,none⟩=some (.int .i64 kind)/\w'.cell? ⟨w.heap.size,1,none⟩=some (.int .i64 A)/\w'.cell? ⟨w.heap.size,2,none⟩=some (.slice F B.length I)/\w'.cell? ⟨w.heap.size,3,none⟩=some (.slice E n.length H)/\w'.cell? ⟨w.heap.size,4,none⟩=some (.int .i64 next))
  (first|with_reducible exact P|with_reducible exact IS.o _ (iG w _ _ i.o).1 _ _ _ _ _)
  (first|(go_at_call 139;with_reducible refine(S1.o _ (iG w _ _ i.o).2.2.1).mono ?_;rintro e K ⟨g1,k,ab,rfl,U⟩;have ad:=U.j.b;have Z:=ix (ay (ay (eS _) (eS _)) (iG w _ _ i.o).2.2.2);have RL:=ix (λt (L:t∈ji ab) x (C:t.a=some x)=>(U.f.own t L).1.r.lt C);have i:=ix (bt i.o ad);have P:=X.o _ (iG w _ _ i.o).1;have m:=ix U;clear ad U)|(go_at_call 73;with_reducible refine(S2.o _ (iG w _ _ i.o).2.2.1).mono ?_;rintro e w2 ⟨R,d2,rfl,V⟩;have aa:=V.b;have af:=ix (ay Z.o m.o.j.b.size);have RF:=ix (λy (N:R=some y)=>V.fresh N);have i:=ix (bt i.o aa);have P:=X.o _ (iG w _ _ i.o).1;obtain⟨⟨y0,y1,y2,y3,y4⟩,f0,f1,f2,f3,f4⟩:=TZ.o _ (iG w _ _ i.o).2.1;have m:=ix (m.o.keep aa);have R2:=ix V.r;clear aa V))
 clear P;have M1:=ix (TM.o _ (iG w _ _ i.o).2.1 (.int .i64 kind) (.int .i64 A) (.slice g1 B.length k) (.slice R n.length d2) (.int .i64 next))
 have O:=ix (oK (w.heap.size+1) w2 (.int .i64 kind) (.int .i64 A) (.slice g1 B.length k) (.slice R n.length d2) (.int .i64 next))
 have TB:=ix (iG w _ _ i.o).2.2.1;have M:Hid (Bx w2 77 (w.heap.size+1) _):=(iG w _ _ i.o).2.1;clear y0 y1 y2 y3 y4 f0 f1 f2 f3 f4 i;go_wp2;refine az (v:=.agg _) (dG results94 _ _ (w.heap.size+1) 77 _ (0,0) _ rfl M1.o underlying77 rfl iV) rfl ?_;have ag:Below w.heap.size w _:=((But.ofBelow (S:=λac=>ac=w.heap.size+1) TB.o).trans O.o λ_ _ e=>e).below λac hk e=>by omega
 have r2:=R2.o.but O.o λx C e=>R2.o.nty M.o (by decide) C e
 have j2:=m.o.j.r.but O.o λx C e=>m.o.j.r.nty M.o (by decide) C e
 have ae:=m.o.len;have ah:∀{a c l},Rw w2 a c l->Rw _ a c l:=λhr=>hr.but O.o λx C e=>hr.nty M.o (by decide) C e
 refine⟨⟨kind,A,g1,k,ab,R,d2,n,next⟩,by rw[<-ae],⟨j2,m.o.j.n.mono Z.o,r2,λy N=>.inr (by have h1:=RF.o y N;have h2:=af.o;omega),λt L=>?_,?_,L8.o,m.o.n,Y.o.1,Y.o.2.1,Y.o.2.2⟩,ae,?_,ag⟩
 . obtain⟨o,o8⟩:=m.o.f.own t L;exact⟨ah o.r,o.n.mono Z.o,o8⟩
 . refine dd.2 ⟨λt L x y C N e=>?_,m.o.f.dist⟩
   have h1:=RF.o x C;have h2:=RL.o t L y N;omega
 unfold Pv.pg;dsimp only;rw[m.o.e]
end
end Go.Proofs.YteaogidofpfmmaaGreat
