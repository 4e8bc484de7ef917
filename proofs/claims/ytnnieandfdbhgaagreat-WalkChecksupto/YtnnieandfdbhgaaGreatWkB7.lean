import Derived.Test.YtnnieandfdbhgaaGreatWkB6
import Derived.Defers
import Derived.Recover
import Derived.Lib.SlBytesConst
import Derived.ProofKit
import Derived.OpenShut
import Derived.ShutString
import Derived.ChangeOld
import Derived.Deep.Slices
import Derived.SizedLaws
import Derived.JoinedCond
import Derived.Deep.CutRange
set_option linter.all false
set_option maxHeartbeats 6400000
set_option maxRecDepth 8000
namespace Go.Proofs.YtnnieandfdbhgaaGreat
open Tryz
open Go.RowKit
theorem oK(w:World)(p:Pv)(hP:Pi w p)(N:p.pg.formE=0)(k1:p.kind=1\/p.kind=2):Calls prog 122 #[p.vl] w λe b=>e=.returned (.int .i64 (p.pg.check:Int))/\Below w.heap.size w b:=by
 have D:=e7 (hP.keep (al w (.cells p.cs 77)));have ay:p.items.length<=2199023255520:=hP.it.2.1;have B0:=e7 (Bx.new w 77 p.cs);have t:=e7 (al w (.cells p.cs 77));obtain⟨v,hv⟩:∃v,w.alloc (.cells p.cs 77)=v:=⟨_,rfl⟩;rw[hv] at D B0 t;have n:=e7 λ(m:World)(hb:Below v.heap.size v m)=>Bx.page (B0.o.keep hb)
 have FO:=e7 λ(m:World)=>ky m p
 have HX:=e7 (fM N);have ak:=e7 (Pg.kindOk_iff.1 (fM N).1);have ae:=e7 λ(k:Nat)(Y:k<p.items.length)(m:World)(hb:Below v.heap.size v m)=>qh m p k (D.o.keep hb) Y
 have af:=e7 λ(x:Iv)(m:World)(hb:Below v.heap.size v m)=>mP m p x
 have aa:=e7 λ(x:Iv)(m:World)(hb:Below v.heap.size v m)=>mq m p x
 have ab:=e7 λ(k:Nat)(M:fD p.pg.itemE k=0)(Y:k<p.items.length)(x:Nat)(hx:x≠0)(e:p.pg.itemE k=x)=>(show p.pg.check=x from by
  rw[pK N M (by simpa[Pv.pg] using Y) (by rw[e];exact hx),e])
 have ac:=e7 λ(M:fD p.pg.itemE p.items.length=0)=>(oP N (by simpa[Pv.pg] using M))
 have ad:=e7 λk=>(show p.pg.itemE k=if p.pg.keyOk k=false then 7 else if (decide (k=0)||decide (0<fa (p.items.getD k Iv.zero).key (p.items.getD (k-1) Iv.zero).key))=false then 11 else if (p.items.getD k Iv.zero).it.valOk p.kind=false then 8 else if (p.items.getD k Iv.zero).it.kidOk p.kind=false then 15 else 0 from by
  unfold Pg.itemE Pg.ordOk;rw[Pv.at,Pv.at];rfl)
 have aw:=e7 λ(aj:p.kind=3)=>(show p.items.length=0 from by have X:=(fM N).2;unfold Pg.form at X;rw[if_pos (show p.pg.kind=3 from aj)] at X;simp[Pv.pg] at X;rw[X.1.1.2];rfl)
 have am:Hid (p.pg.nextOk= !(decide (p.kind=3)&&decide (p.next≠0)&& !ic p.next)):=rfl;rw[HX.o.2] at FO;have ai:p.pg.kind=p.kind:=rfl;rw[ai] at ak;clear ai HX hP N;generalize p.pg.check=ax at *;generalize p.pg.itemE=f at *;generalize p.pg.nextOk=nx at *;obtain⟨kind,U,aI,I,l,E,H,P,next⟩:=p
 unfold Pv.vl;simp only[Pv.cs,Pv.vl] at *;rcases k1 with rfl|rfl
 all_goals
  obtain⟨b0,b1,b2,b3,b4⟩:=n.o _ (Below.refl _ _);go_enter func122,ntmps122;go_wp2_with fail
  refine(FO.o _).mono ?_;rintro y m ⟨rfl,hb⟩;have a:=e7 hb;clear hb hv FO b0 b1 b2 b3 b4;obtain⟨c0,c1,c2,c3,W⟩:=n.o _ a.o;go_wp2;go_loopw [3] (λi wx=>∃k:Nat,k<=l.length/\i=.int .i64 k/\Below v.heap.size v wx/\fD f k=0) (λi _=>l.length-(intOf i).toNat)
  case atStart=>exact⟨0,ar _,rfl,a.o,rfl⟩
  case round=>
   clear a c0 c1 c2 c3 W;obtain⟨k,Y,rfl,hT,M⟩:=hrel;have a:=e7 hT;have V:=e7 M;clear hT M;obtain⟨c0,c1,c2,c3,W⟩:=n.o _ a.o;by_cases B:k<l.length
   . have aF:(k:Int)<(l.length:Int):=by omega
     have ag:=w64 (j:=k) (by omega)
     have KY:=e7 (ae.o k B);have VA:=e7 (af.o (l.getD k Iv.zero));have h:=e7 (aa.o (l.getD k Iv.zero));have C:=e7 (ab.o k V.o B);have s:=e7 (ad.o k);obtain⟨c,d,rfl⟩:∃c d,aI=some ⟨c,d,none⟩:=by obtain⟨b2,o2,e2,_⟩:=D.o.it.at B;exact⟨b2,o2,e2⟩
     have q:=e7 λ(m:World)(hb:Below v.heap.size v m)=>pd (D.o.it.keep hb) B
     have ah:k-1<l.length:=by omega
     have HQ:=e7 λ(m:World)(hb:Below v.heap.size v m)=>(pd (D.o.it.keep hb) ah).1
     have CM:=e7 λ(m:World)(hb:Below v.heap.size v m)=>gX m (l.getD k Iv.zero).aK (l.getD (k-1) Iv.zero).aK _ _ (l.getD k Iv.zero).cK (l.getD (k-1) Iv.zero).cK (l.getD k Iv.zero).key (l.getD (k-1) Iv.zero).key ((D.o.it.keep hb).1 _ (fh B)).bk ((D.o.it.keep hb).1 _ (fh ah)).bk rfl rfl
     generalize l.getD k Iv.zero=x at *;generalize l.getD (k-1) Iv.zero=y at *;simp only[Iv.vl] at VA h;generalize Pg.keyOk _ k=kk at *;generalize ap:x.it.valOk _=vv at *;generalize an:x.it.kidOk _=cc at *;clear ap an;generalize fa x.key y.key=z at *;obtain⟨F,J,O,G,L,val,T,R⟩:=x;obtain⟨au,av,yk,aC,aE,aG,aJ,aH⟩:=y;simp only[Iv.cs] at *;clear ae af aa ab ad ac;by_cases ao:k=0
     . subst ao;simp only[dJ,cx] at q;go_wp2_with fail
       refine(KY.o _ a.o).mono ?_;rintro y m ⟨rfl,hb⟩;have a:=e7 (bt a.o hb);clear hb;obtain⟨c0,c1,c2,c3,W⟩:=n.o _ a.o;cases kk with
       |false=>
        go_wp2;go_ret;exact⟨gE (C.o 7 (by decide) (by simp[s.o])),bt t.o a.o⟩
       |true=>
        go_wp2;have a:=e7 (bt a.o (dr1 _));have g:=And.intro (n.o _ a.o) (q.o _ a.o);refine aX (S:=λb=>(b.cell? ⟨w.heap.size,0,none⟩=some (.int .i64 _)/\b.cell? ⟨w.heap.size,1,none⟩=some (.int .i64 U)/\b.cell? ⟨w.heap.size,2,none⟩=some (.slice (some ⟨c,d,none⟩) l.length I)/\b.cell? ⟨w.heap.size,3,none⟩=some (.slice E P.length H)/\b.cell? ⟨w.heap.size,4,none⟩=some (.int .i64 next))/\(b.cell? ⟨c,d,none⟩=some (.slice F O.length J)/\b.cell? ⟨c,d+1,none⟩=some (.slice G val.length L)/\b.cell? ⟨c,d+2,none⟩=some (.int .i64 T)/\b.cell? ⟨c,d+3,none⟩=some (.int .i64 R))) (by kernel_rfl) (by exact g) (λhHeld=>?_)
        refine tkb 0 1 ?_;refine tk 2 ?_;refine tu 3 ?_;refine tu 4 ?_;refine tu 5 ?_;refine tu 6 ?_;refine tu 7 ?_;refine tu 8 ?_;refine tu 9 ?_;refine tu 10 ?_;refine tu 11 ?_;refine tu 12 ?_;refine tu 13 ?_;refine tu 14 ?_;refine tu 15 ?_;refine tu 16 ?_;refine tu 17 ?_;refine tk 18 ?_;refine td ?_;clear g;go_wp2;have a:=e7 (bt a.o (dr1 _));have g:=And.intro (n.o _ a.o) (q.o _ a.o);refine aX (S:=λb=>(b.cell? ⟨w.heap.size,0,none⟩=some (.int .i64 _)/\b.cell? ⟨w.heap.size,1,none⟩=some (.int .i64 U)/\b.cell? ⟨w.heap.size,2,none⟩=some (.slice (some ⟨c,d,none⟩) l.length I)/\b.cell? ⟨w.heap.size,3,none⟩=some (.slice E P.length H)/\b.cell? ⟨w.heap.size,4,none⟩=some (.int .i64 next))/\(b.cell? ⟨c,d,none⟩=some (.slice F O.length J)/\b.cell? ⟨c,d+1,none⟩=some (.slice G val.length L)/\b.cell? ⟨c,d+2,none⟩=some (.int .i64 T)/\b.cell? ⟨c,d+3,none⟩=some (.int .i64 R))) (by kernel_rfl) (by exact g) (λhHeld=>?_)
        refine tkd 0 1 2 3 ?_;refine tkb 4 5 ?_;refine tw 6 λK A=>?_
        go_simp;refine(VA.o _ a.o).mono ?_;rintro e Z ⟨rfl,hb⟩;have a:=e7 (bt a.o hb);have g:=And.intro (n.o _ a.o) (q.o _ a.o);clear hb;go_wp2_with fail
        refine A.o _ _ (by exact g) (λhHeld=>?_)
        refine tk 7 ?_;refine td ?_;clear g;cases vv with
        |false=>
         go_wp2;go_ret;exact⟨gE (C.o 8 (by decide) (by rw[s.o];first|(simp;done)|(simp;omega))),bt t.o a.o⟩
        |true=>
         go_wp2;have a:=e7 (bt a.o (dr1 _));have g:=And.intro (n.o _ a.o) (q.o _ a.o);refine aX (S:=λb=>(b.cell? ⟨w.heap.size,0,none⟩=some (.int .i64 _)/\b.cell? ⟨w.heap.size,1,none⟩=some (.int .i64 U)/\b.cell? ⟨w.heap.size,2,none⟩=some (.slice (some ⟨c,d,none⟩) l.length I)/\b.cell? ⟨w.heap.size,3,none⟩=some (.slice E P.length H)/\b.cell? ⟨w.heap.size,4,none⟩=some (.int .i64 next))/\(b.cell? ⟨c,d,none⟩=some (.slice F O.length J)/\b.cell? ⟨c,d+1,none⟩=some (.slice G val.length L)/\b.cell? ⟨c,d+2,none⟩=some (.int .i64 T)/\b.cell? ⟨c,d+3,none⟩=some (.int .i64 R))) (by kernel_rfl) (by exact g) (λhHeld=>?_)
         refine tkd 0 1 2 3 ?_;refine tkb 4 5 ?_;refine tw 6 λK A=>?_
         go_simp;refine(h.o _ a.o).mono ?_;rintro e Z ⟨rfl,hb⟩;have a:=e7 (bt a.o hb);have g:=And.intro (n.o _ a.o) (q.o _ a.o);clear hb;go_wp2_with fail
         refine A.o _ _ (by exact g) (λhHeld=>?_)
         refine tk 7 ?_;refine td ?_;clear g;cases cc with
         |false=>
          go_wp2;go_ret;exact⟨gE (C.o 15 (by decide) (by rw[s.o];first|(simp;done)|(simp;omega))),bt t.o a.o⟩
         |true=>
          go_wp2;go_roundw
          case rel=>exact⟨0+1,by omega,by first|(go_num;done)|exact aU (Value.int IntKind.i64) (by omega),a.o,by rw[jH,V.o];show f 0=0;rw[s.o];first|(simp;done)|(simp;omega)⟩
          case measure=>first|exact gy _ _ _ ag B|exact gy _ _ _ rfl B|(simp[intOf];omega)
     . obtain⟨j,rfl⟩:∃j,k=j+1:=⟨k-1,by omega⟩
       rw[show j+1-1=j by omega] at HQ
       have aB:IntKind.i64.wrap (j:Int)=(j:Int):=fB (by omega) (by omega)
       have aA:(j:Int)<(l.length:Int):=by omega
       have az:(0:Int)<=(j:Int)+1:=by omega
       go_wp2_with fail
       refine(KY.o _ a.o).mono ?_;rintro y m ⟨rfl,hb⟩;have a:=e7 (bt a.o hb);clear hb;obtain⟨c0,c1,c2,c3,W⟩:=n.o _ a.o;cases kk with
       |false=>
        go_wp2;go_ret;exact⟨gE (C.o 7 (by decide) (by simp[s.o])),bt t.o a.o⟩
       |true=>
        go_wp2;have a:=e7 (bt a.o (dr1 _));have g:=And.intro (n.o _ a.o) (And.intro (q.o _ a.o) (HQ.o _ a.o));refine aX (S:=λb=>(b.cell? ⟨w.heap.size,0,none⟩=some (.int .i64 _)/\b.cell? ⟨w.heap.size,1,none⟩=some (.int .i64 U)/\b.cell? ⟨w.heap.size,2,none⟩=some (.slice (some ⟨c,d,none⟩) l.length I)/\b.cell? ⟨w.heap.size,3,none⟩=some (.slice E P.length H)/\b.cell? ⟨w.heap.size,4,none⟩=some (.int .i64 next))/\(b.cell? ⟨c,d+(j+1)*4,none⟩=some (.slice F O.length J)/\b.cell? ⟨c,d+(j+1)*4+1,none⟩=some (.slice G val.length L)/\b.cell? ⟨c,d+(j+1)*4+2,none⟩=some (.int .i64 T)/\b.cell? ⟨c,d+(j+1)*4+3,none⟩=some (.int .i64 R))/\b.cell? ⟨c,d+j*4,none⟩=some (.slice au yk.length av)) (by kernel_rfl) (by exact g) (λhHeld=>?_)
        refine tkd 0 1 2 3 ?_;refine tkd 4 5 6 7 ?_;refine tkd 8 9 10 11 ?_;refine tkd 12 13 14 15 ?_;refine tw 16 λK A=>?_
        go_simp;refine(CM.o _ a.o).mono ?_;rintro e Z ⟨rfl,hb⟩;have a:=e7 (bt a.o hb);have g:=And.intro (n.o _ a.o) (And.intro (q.o _ a.o) (HQ.o _ a.o));clear hb;go_wp2_with fail
        refine A.o _ _ (by exact g) (λhHeld=>?_)
        refine tkb 17 18 ?_;refine td ?_;clear g;by_cases r:z<=0
        . have aq:decide (z<=0)=true:=by simpa using r
          go_wp2;go_ret;exact⟨gE (C.o 11 (by decide) (by rw[s.o];first|(simp;done)|(simp;omega)|(simp[r];done)|(simp[r];omega))),bt t.o a.o⟩
        . have aq:decide (z<=0)=false:=by simpa using r
          go_wp2;have a:=e7 (bt a.o (dr1 _));have g:=And.intro (n.o _ a.o) (q.o _ a.o);refine aX (S:=λb=>(b.cell? ⟨w.heap.size,0,none⟩=some (.int .i64 _)/\b.cell? ⟨w.heap.size,1,none⟩=some (.int .i64 U)/\b.cell? ⟨w.heap.size,2,none⟩=some (.slice (some ⟨c,d,none⟩) l.length I)/\b.cell? ⟨w.heap.size,3,none⟩=some (.slice E P.length H)/\b.cell? ⟨w.heap.size,4,none⟩=some (.int .i64 next))/\(b.cell? ⟨c,d+(j+1)*4,none⟩=some (.slice F O.length J)/\b.cell? ⟨c,d+(j+1)*4+1,none⟩=some (.slice G val.length L)/\b.cell? ⟨c,d+(j+1)*4+2,none⟩=some (.int .i64 T)/\b.cell? ⟨c,d+(j+1)*4+3,none⟩=some (.int .i64 R))) (by kernel_rfl) (by exact g) (λhHeld=>?_)
          refine tkd 0 1 2 3 ?_;refine tkb 4 5 ?_;refine tw 6 λK A=>?_
          go_simp;refine(VA.o _ a.o).mono ?_;rintro e Z ⟨rfl,hb⟩;have a:=e7 (bt a.o hb);have g:=And.intro (n.o _ a.o) (q.o _ a.o);clear hb;go_wp2_with fail
          refine A.o _ _ (by exact g) (λhHeld=>?_)
          refine tk 7 ?_;refine td ?_;clear g;cases vv with
          |false=>
           go_wp2;go_ret;exact⟨gE (C.o 8 (by decide) (by rw[s.o];first|(simp;done)|(simp;omega)|(simp[r];done)|(simp[r];omega))),bt t.o a.o⟩
          |true=>
           go_wp2;have a:=e7 (bt a.o (dr1 _));have g:=And.intro (n.o _ a.o) (q.o _ a.o);refine aX (S:=λb=>(b.cell? ⟨w.heap.size,0,none⟩=some (.int .i64 _)/\b.cell? ⟨w.heap.size,1,none⟩=some (.int .i64 U)/\b.cell? ⟨w.heap.size,2,none⟩=some (.slice (some ⟨c,d,none⟩) l.length I)/\b.cell? ⟨w.heap.size,3,none⟩=some (.slice E P.length H)/\b.cell? ⟨w.heap.size,4,none⟩=some (.int .i64 next))/\(b.cell? ⟨c,d+(j+1)*4,none⟩=some (.slice F O.length J)/\b.cell? ⟨c,d+(j+1)*4+1,none⟩=some (.slice G val.length L)/\b.cell? ⟨c,d+(j+1)*4+2,none⟩=some (.int .i64 T)/\b.cell? ⟨c,d+(j+1)*4+3,none⟩=some (.int .i64 R))) (by kernel_rfl) (by exact g) (λhHeld=>?_)
           refine tkd 0 1 2 3 ?_;refine tkb 4 5 ?_;refine tw 6 λK A=>?_
           go_simp;refine(h.o _ a.o).mono ?_;rintro e Z ⟨rfl,hb⟩;have a:=e7 (bt a.o hb);have g:=And.intro (n.o _ a.o) (q.o _ a.o);clear hb;go_wp2_with fail
           refine A.o _ _ (by exact g) (λhHeld=>?_)
           refine tk 7 ?_;refine td ?_;clear g;cases cc with
           |false=>
            go_wp2;go_ret;exact⟨gE (C.o 15 (by decide) (by rw[s.o];first|(simp;done)|(simp;omega)|(simp[r];done)|(simp[r];omega))),bt t.o a.o⟩
           |true=>
            go_wp2;go_roundw
            case rel=>exact⟨j+1+1,by omega,by first|(go_num;done)|exact aU (Value.int IntKind.i64) (by omega),a.o,by rw[jH,V.o];show f (j+1)=0;rw[s.o];first|(simp;done)|(simp;omega)|(simp[r];done)|(simp[r];omega)⟩
            case measure=>first|exact gy _ _ _ ag B|exact gy _ _ _ rfl B|(simp[intOf];omega)
   . obtain rfl:k=l.length:=by omega
     go_wp2;go_ret;exact⟨gE (by rw[ac.o V.o,am.o];simp),bt t.o a.o⟩
theorem ve(w:World)(p:Pv)(q:Pi w p)(d:p.pg.formE=0)(O:p.kind=3):Calls prog 122 #[p.vl] w λe P=>e=.returned (.int .i64 (p.pg.check:Int))/\Below w.heap.size w P:=by
 have B:=e7 (q.keep (al w (.cells p.cs 77)));have ag:p.items.length<=2199023255520:=q.it.2.1;have A:=e7 (Bx.new w 77 p.cs);have j:=e7 (al w (.cells p.cs 77));obtain⟨v,F⟩:∃v,w.alloc (.cells p.cs 77)=v:=⟨_,rfl⟩;rw[F] at B A j;have n:=e7 λ(a:World)(hb:Below v.heap.size v a)=>Bx.page (A.o.keep hb)
 have m:=e7 λ(a:World)=>ky a p
 have C:=e7 (fM d);have S:=e7 (Pg.kindOk_iff.1 (fM d).1);have ad:=e7 λ(k:Nat)(g:k<p.items.length)(a:World)(hb:Below v.heap.size v a)=>qh a p k (B.o.keep hb) g
 have ae:=e7 λ(x:Iv)(a:World)(hb:Below v.heap.size v a)=>mP a p x
 have aa:=e7 λ(x:Iv)(a:World)(hb:Below v.heap.size v a)=>mq a p x
 have ab:=e7 λ(k:Nat)(c:fD p.pg.itemE k=0)(g:k<p.items.length)(x:Nat)(N:x≠0)(e:p.pg.itemE k=x)=>(show p.pg.check=x from by
  rw[pK d c (by simpa[Pv.pg] using g) (by rw[e];exact N),e])
 have r:=e7 λ(c:fD p.pg.itemE p.items.length=0)=>(oP d (by simpa[Pv.pg] using c))
 have ac:=e7 λk=>(show p.pg.itemE k=if p.pg.keyOk k=false then 7 else if (decide (k=0)||decide (0<fa (p.items.getD k Iv.zero).key (p.items.getD (k-1) Iv.zero).key))=false then 11 else if (p.items.getD k Iv.zero).it.valOk p.kind=false then 8 else if (p.items.getD k Iv.zero).it.kidOk p.kind=false then 15 else 0 from by
  unfold Pg.itemE Pg.ordOk;rw[Pv.at,Pv.at];rfl)
 have T:=e7 λ(h:p.kind=3)=>(show p.items.length=0 from by have l:=(fM d).2;unfold Pg.form at l;rw[if_pos (show p.pg.kind=3 from h)] at l;simp[Pv.pg] at l;rw[l.1.1.2];rfl)
 have s:Hid (p.pg.nextOk= !(decide (p.kind=3)&&decide (p.next≠0)&& !ic p.next)):=rfl;rw[C.o.2] at m;have G:p.pg.kind=p.kind:=rfl;rw[G] at S;clear G C q d;generalize p.pg.check=af at *;generalize p.pg.itemE=f at *;generalize p.pg.nextOk=Z at *;obtain⟨kind,ak,W,Y,aj,V,X,ah,next⟩:=p
 unfold Pv.vl;simp only[Pv.cs,Pv.vl] at *;subst O;obtain rfl:=bY.1 (T.o rfl);simp only[aO] at *;obtain⟨H,I,J,K,L⟩:=n.o _ (Below.refl _ _);go_enter func122,ntmps122;go_wp2_with fail
 refine(m.o _).mono ?_;rintro y a ⟨rfl,hb⟩;have b:=e7 hb;clear hb F m H I J K L;obtain⟨c0,c1,c2,c3,D⟩:=n.o _ b.o;go_wp2;go_loopw [3] (λi R=>∃k:Nat,k<=0/\i=.int .i64 k/\Below v.heap.size v R/\fD f k=0) (λi _=>0-(intOf i).toNat)
 case atStart=>exact⟨0,ar _,rfl,b.o,rfl⟩
 case round=>
  clear b c0 c1 c2 c3 D;obtain⟨k,g,rfl,E,c⟩:=hrel;have b:=e7 E;have U:=e7 c;clear E c;obtain⟨c0,c1,c2,c3,D⟩:=n.o _ b.o;obtain rfl:k=0:=by simpa using g
  by_cases t:next=0
  . subst t;go_wp2;go_ret;exact⟨gE (by rw[r.o rfl,s.o];simp),bt j.o b.o⟩
  . have ai:(next==0)=false:=by simpa using t
    go_wp2_with fail
    refine(j6 _ _).mono ?_;rintro y w2 ⟨rfl,M⟩;obtain rfl:=M.symm;cases hisn:ic next with
    |false=>
     go_wp2;go_ret;exact⟨gE (by rw[r.o rfl,s.o];simp[t,hisn]),bt j.o b.o⟩
    |true=>
     go_wp2;go_ret;exact⟨gE (by rw[r.o rfl,s.o];simp[hisn]),bt j.o b.o⟩
theorem sK(w:World)(p:Pv)(b:Pi w p):Calls prog 122 #[p.vl] w λe x=>e=.returned (.int .i64 (p.pg.check:Int))/\Below w.heap.size w x:=by
 by_cases a:p.pg.formE=0
 . rcases Pg.kindOk_iff.1 (fM a).1 with k|k|k
   . exact oK w p b a (.inl k)
   . exact oK w p b a (.inr k)
   . exact ve w p b a k
 . rw[mR a];have d:=e7 λ(l:World)=>ky l p
   cases hk:p.pg.kindOk with
   |false=>
    have c:p.pg.formE=22:=by unfold Pg.formE;rw[if_pos hk]
    have v:¬p.kind=1/\¬p.kind=2/\¬p.kind=3:=by
     refine⟨λh=>?_,λh=>?_,λh=>?_⟩<;>simp[Pg.kindOk,Pv.pg,h] at hk
    rw[c];clear d a b hk c;obtain⟨kind,C,r,t,B,q,s,A,next⟩:=p
    unfold Pv.vl;simp only[Pv.cs] at *;obtain⟨g,i,j⟩:=v;have H:(kind==1)=false:=by simpa using g
    have I:(kind==2)=false:=by simpa using i
    have J:(kind==3)=false:=by simpa using j
    have E:(kind != 1)=true:=by simpa using g
    have F:(kind != 2)=true:=by simpa using i
    have G:(kind != 3)=true:=by simpa using j
    go_enter func122,ntmps122;go_wp2;go_ret;exact⟨rfl,al _ _⟩
   |true=>
    have f:p.pg.form=false:=by
     cases h:p.pg.form with
     |false=>rfl
     |true=>exact absurd (by unfold Pg.formE;simp[hk,h]) a
    have c:p.pg.formE=5:=by unfold Pg.formE;simp[hk,f]
    rw[c];rw[f] at d;have D:=e7 (Bx.new w 77 p.cs);have m:=Pg.kindOk_iff.1 hk;have n:p.pg.kind=p.kind:=rfl;rw[n] at m;clear a b hk c f n;obtain⟨kind,C,r,t,B,q,s,A,next⟩:=p
    unfold Pv.vl at *;simp only[Pv.cs] at *;rcases m with rfl|rfl|rfl
    all_goals
     go_enter func122,ntmps122;go_wp2_with fail
     refine(d.o _).mono ?_;rintro y l ⟨rfl,hb⟩;go_wp2;go_ret;exact⟨rfl,bt (al _ _) hb⟩
end Go.Proofs.YtnnieandfdbhgaaGreat
namespace Go.Proofs.YtnnieandfdbhgaaGreat
open Tryz
section
open Go.RowKit
variable {T:TypeId} {w w':World} {b:Nat} {a:Option Addr} {cap:Nat}
end
section
open Go.RowKit
variable {w w':World} {b:Nat} {a:Option Addr} {cap:Nat} {s:RS}
end
section
open Go.RowKit
variable {v w:World} {G:Nat->Prop} {b:Nat} {l:List Nat}
end
section
open Go.RowKit
variable {v w w':World} {b:Nat} {s s':RS}
end
section
open Go.RowKit
theorem bx2(w:World)(c t2:TypeId)(c1 c2:Array Value):Bx ((w.alloc (.cells c1 c)).alloc (.cells c2 t2)) c w.heap.size c1/\Bx ((w.alloc (.cells c1 c)).alloc (.cells c2 t2)) t2 (w.heap.size+1) c2:=by
 refine⟨(Bx.new w c c1).keep (al _ _),?_⟩;have:=Bx.new (w.alloc (.cells c1 c)) t2 c2;rwa [size_alloc] at this
end
section
open Go.RowKit
theorem Bx.setc{w:World}{t:TypeId}{g:Nat}{cs:Array Value}(h:Bx w t g cs)(i:Nat)(u:Value):Bx (w.setCell ⟨g,i,none⟩ u) t g (cs.setIfInBounds i u):=ay w g i _ _ _ h
theorem Rw.nty{w:World}{a:Option Addr}{c:Nat}{l:List Nat}(h:Rw w a c l){t:TypeId}{g:Nat}{cs:Array Value}(d:Bx w t g cs)(i:t≠5){x:Addr}(f:a=some x):x.block≠g:=by
 intro e;rcases h.cases with⟨rfl,_⟩|⟨g',cur,rfl,hg',_⟩
 . cases f
 . cases f;dsimp only at e;subst e;unfold Bx at d;rw[hg'] at d;simp only[au,eU] at d;exact absurd d.2.1.symm i
theorem ti(w:World)(g:Nat)(cs:Array Value):But (λk=>k=g) w (w.setRow g cs):=by
 have h:=below_setRow (Below.refl 0 w) (ar g) cs;exact⟨h.os,h.tape,h.output,h.size,λk _ c=>setRow_other _ _ _ _ c⟩
end
section
open Go.RowKit
theorem ij(g:Nat):∀(vs:List Value)(w:World)(o:Nat),But (λk=>k=g) w (w.setCells g o vs)
 | [],_,_=>But.refl _ _
 |v::vs,w,o=>((But.refl (λk=>k=g) w).setCell (p:=⟨g,o,none⟩) (λ_=>rfl) v).trans (ij g vs _ (o+1)) λ_ _ h=>h
end
section
open Go.RowKit
structure Pn(v wx:World)(P:Pv):Prop where
 it:Jw wx P.aI P.cI P.items
 itn:New v none P.aI
 d:Rw wx P.aD P.cD P.data
 dn:New v none P.aD
 fr:∀t∈fI P.items,Rw wx t.a t.c t.l/\New v none t.a/\B8 t.l
 dist:((⟨P.aD,P.cD,P.data⟩:Br)::fI P.items).Pairwise gV
 d8:B8 P.data
 ns:∀r∈P.items,N64 r.child/\N64 r.size
 nk:N64 P.kind
 nl:N64 P.level
 nn:N64 P.next
theorem Jw.nty{w:World}{a:Option Addr}{c:Nat}{L:List Iv}(h:Jw w a c L){t:TypeId}{g:Nat}{cs:Array Value}(d:Bx w t g cs)(i:t≠89){x:Addr}(f:a=some x):x.block≠g:=by
 intro e;rcases h.cases with⟨rfl,_⟩|⟨g',cur,rfl,hg',_⟩
 . cases f
 . cases f;dsimp only at e;subst e;unfold Bx at d;rw[hg'] at d;simp only[au,eU] at d;exact absurd d.2.1.symm i
theorem Pn.but{S:Nat->Prop}{v e j:World}{P:Pv}(h:Pn v e P)(hb:But S e j)(p:∀k,S k->∃t cs,Bx e t k cs/\t≠5/\t≠89):Pn v j P:=by
 have d:∀{a c l},Rw e a c l->Rw j a c l:=λd=>d.but hb λx i g=>by
  obtain⟨t,cs,f,m,n⟩:=p _ g;exact d.nty f m i rfl
 exact⟨h.it.but hb λx i g=>by
  obtain⟨t,cs,f,m,n⟩:=p _ g;exact h.it.nty f n i rfl,h.itn,d h.d,h.dn,λt q=>⟨d (h.fr t q).1,(h.fr t q).2⟩,h.dist,h.d8,h.ns,h.nk,h.nl,h.nn⟩
theorem Pn.keep{v c d:World}{P:Pv}(h:Pn v c P)(hb:Below c.heap.size c d):Pn v d P:=h.but (S:=λ_=>False) (But.ofBelow hb) λ_ h=>h.elim
theorem dr2(w:World):Below w.heap.size w w.drew:=(Below.refl _ _).drew
end
section
open Go.RowKit
theorem Pn.zero(v w:World):Pn v w Pv.zero:=⟨Jw.nil _,New.none _ _,Rw.nil _,New.none _ _,(λ_ h=>by cases h),d7 _ _,B8.nil,(λ_ h=>by cases h),by simp[N64,Pv.zero],by simp[N64,Pv.zero],by simp[N64,Pv.zero]⟩
theorem Pn.pre{v v' w:World}{P:Pv}(h:Pn v w P)(d:v'.heap.size<=v.heap.size):Pn v' w P:=⟨h.it,h.itn.mono d,h.d,h.dn.mono d,λt c=>⟨(h.fr t c).1,(h.fr t c).2.1.mono d,(h.fr t c).2.2⟩,h.dist,h.d8,h.ns,h.nk,h.nl,h.nn⟩
theorem Pn.row{v w:World}{P:Pv}(h:Pn v w P){t:TypeId}{g:Nat}{cs:Array Value}(e:Bx w t g cs)(c:t≠5)(d:t≠89)(i:Array Value):Pn v (w.setRow g i) P:=
 h.but (ti _ _ _) λk f=>by subst f;exact⟨t,cs,e,c,d⟩
theorem Pn.pi{v w:World}{P:Pv}(h:Pn v w P)(k:P.items.length<=2199023255520):Pi w P:=by
 have i:P.items.length<=P.cI:=by
  rcases h.it.cases with⟨_,h1,h2⟩|⟨g,cur,_,_,h1,_⟩
  . rw[h1,h2];simp
  . exact h1
 have j:∀r∈P.items,Ii w r:=λr c=>by
  have f:=(pJ c).subset;obtain⟨d,p,m⟩:=h.fr ⟨r.aK,r.cK,r.key⟩ (f (by simp[Iv.rows]))
  obtain⟨e,q,n⟩:=h.fr ⟨r.aV,r.cV,r.val⟩ (f (by simp[Iv.rows]))
  exact⟨d.bs m d.len_le,d.cap,e.bs n e.len_le,e.cap,(h.ns r c).1,(h.ns r c).2⟩
 exact⟨h.it.qs j k,i,h.d.bs h.d8 h.d.len_le,h.d.cap,h.nk,h.nl,h.nn⟩
end
section
open Go.RowKit
theorem qQ(w:World)(x y:Iv)(r:Ii w x)(t:Ii w y)(C:x.it=y.it):Calls prog 95 #[x.vl,y.vl] w λe w'=>e=.returned (.bool true)/\Below w.heap.size w w':=by
 obtain⟨h,m,c,i,n,val,g,f⟩:=x;obtain⟨j,p,R,k,q,S,V,U⟩:=y;simp only[Iv.it,It.mk.injEq] at C;obtain⟨rfl,rfl,rfl,rfl⟩:=C;have I:=e7 λ(d:World)(hb:Below w.heap.size w d)=>jo d h j c.length c.length m p c (r.bk.keep hb) (t.bk.keep hb) rfl rfl
 have J:=e7 λ(d:World)(hb:Below w.heap.size w d)=>jo d i k val.length val.length n q val (r.bv.keep hb) (t.bv.keep hb) rfl rfl
 obtain⟨D,E⟩:=bx2 w 89 89 (Iv.cs ⟨h,m,c,i,n,val,g,f⟩) (Iv.cs ⟨j,p,c,k,q,val,g,f⟩);have H:=e7 λ(d:World)(hb:Below ((w.alloc (.cells (Iv.cs ⟨h,m,c,i,n,val,g,f⟩) 89)).alloc (.cells (Iv.cs ⟨j,p,c,k,q,val,g,f⟩) 89)).heap.size ((w.alloc (.cells (Iv.cs ⟨h,m,c,i,n,val,g,f⟩) 89)).alloc (.cells (Iv.cs ⟨j,p,c,k,q,val,g,f⟩) 89)) d)=>And.intro (Bx.item (D.keep hb)) (Bx.item (E.keep hb))
 clear r t D E;unfold Iv.vl;simp only[Iv.cs] at *;go_enter func95,ntmps95;go_wp2_with fail
 refine(I.o _ (bt (al _ _) (al _ _))).mono ?_;rintro y d ⟨rfl,A⟩;obtain⟨⟨c0,c1,c2,c3⟩,L,M,N,O⟩:=H.o _ A;have B:=e7 (bt (bt (al w _) (al _ _)) A);clear A;go_wp2_with fail
 refine(J.o _ B.o).mono ?_;rintro y P ⟨rfl,F⟩;have K:=e7 (bt B.o F);clear F;go_wp2;go_ret;exact⟨by simp,K.o⟩
theorem qI(w:World)(p q:Pv)(U:Pi w p)(hq:Pi w q)(B:p.pg=q.pg):Calls prog 54 #[p.vl,q.vl] w λe w'=>e=.returned (.bool true)/\Below w.heap.size w w':=by
 have au:p.items.length<=2199023255520:=U.it.2.1;have H:=e7 U;have I:=e7 hq;obtain⟨X,Y⟩:=bx2 w 77 77 p.cs q.cs;have m:=e7 (bt (al w (.cells p.cs 77)) (al _ (.cells q.cs 77)));obtain⟨v,V⟩:∃v,(w.alloc (.cells p.cs 77)).alloc (.cells q.cs 77)=v:=⟨_,rfl⟩;rw[V] at X Y m;have h:=e7 λ(d:World)(hb:Below v.heap.size v d)=>And.intro (Bx.page (X.keep hb)) (Bx.page (Y.keep hb))
 have Z:Hid (p.items.map Iv.it=q.items.map Iv.it):=aU Pg.items B;have ai:q.items.length=p.items.length:=by have:=aU List.length Z.o;simpa using this.symm
 have aa:=e7 λ(k:Nat)(hk:k<p.items.length)(d:World)(hb:Below v.heap.size v d)=>qQ d (p.items.getD k Iv.zero) (q.items.getD k Iv.zero) ((H.o.it.keep (bt m.o hb)).1 _ (fh hk)) ((I.o.it.keep (bt m.o hb)).1 _ (fh (by omega))) (by
  have P:=aU (λad=>ad.getD k It.zero) Z.o
  have M:=Pv.at p k;have t:=Pv.at q k;unfold Pg.at at M t;rw[<-M,<-t];exact P)
 have L:=e7 λ(d:World)(hb:Below v.heap.size v d)=>H.o.it.keep (bt m.o hb)
 have K:=e7 λ(d:World)(hb:Below v.heap.size v d)=>I.o.it.keep (bt m.o hb)
 have R:q.data=p.data:=(aU Pg.data B).symm;have ED:=e7 λ(d:World)(hb:Below v.heap.size v d)=>jo d p.aD q.aD p.data.length q.data.length p.cD q.cD p.data (H.o.bd.keep (bt m.o hb)) (R▸I.o.bd.keep (bt m.o hb)) rfl (by rw[R])
 have P:q.kind=p.kind:=(aU Pg.kind B).symm;have h2:q.level=p.level:=(aU Pg.level B).symm;have h3:q.next=p.next:=(aU Pg.next B).symm;clear B U hq X Y Z R H I;obtain⟨kind,ay,aI,cI,A,aD,cD,av,next⟩:=p
 obtain⟨kind',aA,af,dI,aq,bD,dD,ax,az⟩:=q;unfold Pv.vl;simp only[Pv.cs] at *;subst P h2 h3;rw[ai] at V h ⊢;obtain⟨⟨b0,b1,C,b3,b4⟩,e0,M,t,e3,e4⟩:=h.o _ (Below.refl _ _);go_enter func54,ntmps54;go_wp2_with fail
 refine(ED.o _ (Below.refl _ _)).mono ?_;rintro y d ⟨rfl,ab⟩;have c:=e7 ab;clear ab V b0 b1 C b3 b4 e0 M t e3 e4;obtain⟨⟨c0,c1,c2,c3,c4⟩,d0,d1,d2,d3,d4⟩:=h.o _ c.o;go_wp2;go_loopw [5] (λi wx=>∃k:Nat,k<=A.length/\i=.int .i64 k/\Below v.heap.size v wx) (λi _=>A.length-(intOf i).toNat)
 case atStart=>exact⟨0,ar _,rfl,c.o⟩
 case round=>
  clear c c0 c1 c2 c3 c4 d0 d1 d2 d3 d4;obtain⟨k,hk,rfl,hT⟩:=hrel;have c:=e7 hT;clear hT;obtain⟨⟨c0,c1,c2,c3,c4⟩,d0,d1,d2,d3,d4⟩:=h.o _ c.o;by_cases F:k<A.length
  . have aw:(k:Int)<(A.length:Int):=by omega
    have ag:=w64 (j:=k) (by omega)
    have x:=e7 (aa.o k F);obtain⟨f,g,rfl⟩:∃f g,aI=some ⟨f,g,none⟩:=by obtain⟨C,W,t,_⟩:=(L.o _ (Below.refl _ _)).at F;exact⟨C,W,t⟩
    obtain⟨D,E,rfl⟩:∃f g,af=some ⟨f,g,none⟩:=by obtain⟨C,W,t,_⟩:=(K.o _ (Below.refl _ _)).at (r:=k) (by omega);exact⟨C,W,t⟩
    have N:=e7 λ(d:World)(hb:Below v.heap.size v d)=>pd (L.o d hb) F
    have O:=e7 λ(d:World)(hb:Below v.heap.size v d)=>pd (K.o d hb) (k:=k) (by omega)
    clear aa L K;generalize A.getD k Iv.zero=ae at *;generalize aq.getD k Iv.zero=y at *;generalize A.length=n at *;obtain⟨aK,cK,ah,aV,cV,val,an,ak⟩:=ae;obtain⟨bK,dK,aj,bV,dV,am,ap,ao⟩:=y;simp only[Iv.vl,Iv.cs] at x N O;go_wp2;have c:=e7 (bt c.o (dr2 _));have J:=And.intro (And.intro (h.o _ c.o).1.2.2.1 (h.o _ c.o).2.2.2.1) (And.intro (N.o _ c.o) (O.o _ c.o));refine aX (S:=λw'=>(w'.cell? ⟨w.heap.size,2,none⟩=some (.slice (some ⟨f,g,none⟩) n cI)/\w'.cell? ⟨w.heap.size+1,2,none⟩=some (.slice (some ⟨D,E,none⟩) n dI))/\(w'.cell? ⟨f,g+k*4,none⟩=some (.slice aK ah.length cK)/\w'.cell? ⟨f,g+k*4+1,none⟩=some (.slice aV val.length cV)/\w'.cell? ⟨f,g+k*4+2,none⟩=some (.int .i64 an)/\w'.cell? ⟨f,g+k*4+3,none⟩=some (.int .i64 ak))/\(w'.cell? ⟨D,E+k*4,none⟩=some (.slice bK aj.length dK)/\w'.cell? ⟨D,E+k*4+1,none⟩=some (.slice bV am.length dV)/\w'.cell? ⟨D,E+k*4+2,none⟩=some (.int .i64 ap)/\w'.cell? ⟨D,E+k*4+3,none⟩=some (.int .i64 ao))) (by kernel_rfl) (by exact J) (λhHeld=>?_)
    refine tkd 0 1 2 3 ?_;refine tkd 4 5 6 7 ?_;refine tkb 8 9 ?_;refine tw 10 λac hK=>?_
    go_simp;refine(x.o _ c.o).mono ?_;rintro e w9 ⟨rfl,hb⟩;have c:=e7 (bt c.o hb);have J:=And.intro (And.intro (h.o _ c.o).1.2.2.1 (h.o _ c.o).2.2.2.1) (And.intro (N.o _ c.o) (O.o _ c.o));clear hb;go_wp2_with fail
    refine hK.o _ _ (by exact J) (λhHeld=>?_)
    clear hK ac;try simp only[pt]
    refine tk 11 ?_;refine td ?_;clear J;go_wp2;go_roundw
    case rel=>exact⟨k+1,by omega,by first|(go_num;done)|exact aU (Value.int IntKind.i64) (by omega),c.o⟩
    case measure=>first|exact gy _ _ _ ag F|exact gy _ _ _ rfl F|(simp[intOf];omega)
  . obtain rfl:k=A.length:=by omega
    go_wp2;go_ret;exact⟨rfl,bt m.o c.o⟩
end
section
open Go.RowKit
theorem Jw.butg{d f:World}{a:Option Addr}{c:Nat}{L:List Iv}(_:Jw d a c L)(g:d.grownBy f (a.map Addr.block)):But (λk=>∃x,a=some x/\x.block=k) d f:=
 (But.refl _ _).grown g λk h _=>by
   obtain⟨x,i,e⟩:=map_some h;exact⟨x,i,e⟩
end
section
open Go.RowKit
end
section
open Go.RowKit
theorem yq{w:World}{a:Option Addr}(h:New w none a){x:Addr}(c:a=some x):w.heap.size<=x.block:=by
 rcases h x c with⟨y,hy,_⟩|h
 . cases hy
 . exact h
end
section
open Go.RowKit
theorem fd(w:World)(o p:Obj){c:World}(hb:Below ((w.alloc o).alloc p).heap.size ((w.alloc o).alloc p) c):c.heap[w.heap.size]?=some o/\c.heap[w.heap.size+1]?=some p/\Below w.heap.size w c/\w.heap.size+2<=c.heap.size:=by
 have d:((w.alloc o).alloc p).heap.size=w.heap.size+2:=by rw[size_alloc,size_alloc]
 refine⟨(hb.block _ (by rw[d];omega)).trans ?_,(hb.block _ (by rw[d];omega)).trans ?_,bt (bt (al _ _) (al _ _)) hb,by have:=hb.size;omega⟩
 . rw[heap_alloc_old _ _ (by rw[size_alloc];omega)];exact aF _ _
 . have:=aF (w.alloc o) p;rw[size_alloc] at this;exact this
theorem iR(w:World)(d:Option Addr)(n f:Nat)(p:List Nat)(m:Bs w d p)(q:n=p.length)(r:p.length<=140737488355264):
 Calls prog 73 #[.slice d n f] w λx w'=>∃c e,x=.returned (.slice c p.length e)/\Own w w' c e p:=by
 subst q;exact(fP w d p.length f p m rfl (by omega)).mono λ_ _ ⟨c,g,h,i,j,k⟩=>⟨c,g,h,i,j,k⟩
theorem lH(g:Nat)(w:World)(a b c d:Value):But (λk=>k=g) w ((((w.setCell ⟨g,0,none⟩ a).setCell ⟨g,1,none⟩ b).setCell ⟨g,2,none⟩ c).setCell ⟨g,3,none⟩ d):=
 ((((But.refl (λk=>k=g) w).setCell (p:=⟨g,0,none⟩) (λ_=>rfl) a).setCell (p:=⟨g,1,none⟩) (λ_=>rfl) b).setCell (p:=⟨g,2,none⟩) (λ_=>rfl) c).setCell (p:=⟨g,3,none⟩) (λ_=>rfl) d
theorem jU(g:Nat)(w:World)(a b c d e:Value):But (λk=>k=g) w (((((w.setCell ⟨g,0,none⟩ a).setCell ⟨g,1,none⟩ b).setCell ⟨g,2,none⟩ c).setCell ⟨g,3,none⟩ d).setCell ⟨g,4,none⟩ e):=
 (lH g w a b c d).setCell (p:=⟨g,4,none⟩) (λ_=>rfl) e
theorem xj{w:World}{g:Nat}{t:TypeId}{i j k m:Value}(h:Bx w t g #[i,j,k,m])(a b c d:Value):Bx ((((w.setCell ⟨g,0,none⟩ a).setCell ⟨g,1,none⟩ b).setCell ⟨g,2,none⟩ c).setCell ⟨g,3,none⟩ d) t g #[a,b,c,d]:=by
 have f:=(((h.setc 0 a).setc 1 b).setc 2 c).setc 3 d;have e:(((#[i,j,k,m].setIfInBounds 0 a).setIfInBounds 1 b).setIfInBounds 2 c).setIfInBounds 3 d=#[a,b,c,d]:=by simp
 rw[e] at f;exact f
theorem rF{w:World}{g:Nat}{t:TypeId}{j k m n p:Value}(h:Bx w t g #[j,k,m,n,p])(a b c d f:Value):Bx (((((w.setCell ⟨g,0,none⟩ a).setCell ⟨g,1,none⟩ b).setCell ⟨g,2,none⟩ c).setCell ⟨g,3,none⟩ d).setCell ⟨g,4,none⟩ f) t g #[a,b,c,d,f]:=by
 have i:=((((h.setc 0 a).setc 1 b).setc 2 c).setc 3 d).setc 4 f;have e:((((#[j,k,m,n,p].setIfInBounds 0 a).setIfInBounds 1 b).setIfInBounds 2 c).setIfInBounds 3 d).setIfInBounds 4 f=#[a,b,c,d,f]:=by simp
 rw[e] at i;exact i
theorem fr4{w:World}{g:Nat}{t:TypeId}{cs:Array Value}(h:Bx w t g cs):w.frozen? ⟨g,0,none⟩=false/\w.frozen? ⟨g,1,none⟩=false/\w.frozen? ⟨g,2,none⟩=false/\w.frozen? ⟨g,3,none⟩=false/\w.frozen? ⟨g,4,none⟩=false:=
 ⟨aQ _ _ _ _ _ h,aQ _ _ _ _ _ h,aQ _ _ _ _ _ h,aQ _ _ _ _ _ h,aQ _ _ _ _ _ h⟩
theorem qy(w:World)(r:Iv)(F:Ii w r)(hl:r.key.length<=140737488355264)(hh:r.val.length<=140737488355264):
 Calls prog 174 #[r.vl] w λe w'=>∃q:Iv,e=.returned q.vl/\Io w w' q/\q.it=r.it:=by
 have S1:=e7 λC (hb:Below w.heap.size w C)=>iR C r.aK r.key.length r.cK r.key (F.bk.keep hb) rfl hl
 have S2:=e7 λC (hb:Below w.heap.size w C)=>iR C r.aV r.val.length r.cV r.val (F.bv.keep hb) rfl hh
 have L8:=e7 F.bk.1;have Z:=e7 F.bv.1;clear F;unfold Iv.vl;obtain⟨n,A,i,t,B,val,m,j⟩:=r;have M:=e7 λ(W:World)(h:W.heap[w.heap.size]?=some (.cells (Iv.cs ⟨n,A,i,t,B,val,m,j⟩) 89))=>Bx.item (p:=⟨n,A,i,t,B,val,m,j⟩) h
 have IS:=e7 λ(W:World)(h:W.heap[w.heap.size]?=some (.cells (Iv.cs ⟨n,A,i,t,B,val,m,j⟩) 89))(a b c d:Value)=>Bx.item (p:=⟨n,A,i,t,B,val,m,j⟩) ((show Bx W 89 w.heap.size _ from h).but (lH (w.heap.size+1) W a b c d) (by omega))
 have TZ:=e7 λ(W:World)(h:W.heap[w.heap.size+1]?=some (.cells (Iv.cs Iv.zero) 89))=>And.intro (Bx.item (p:=Iv.zero) h) (fr4 (show Bx W 89 (w.heap.size+1) _ from h))
 have TM:=e7 λ(W:World)(h:W.heap[w.heap.size+1]?=some (.cells (Iv.cs Iv.zero) 89))(a b c d:Value)=>xj (show Bx W 89 (w.heap.size+1) _ from h) a b c d
 dsimp only[Iv.cs,Iv.zero,aO] at *;go_enter func174,ntmps174;go_wp2;have f:Hid (Below ((w.alloc (.cells #[.slice n i.length A,.slice t val.length B,.int .i64 m,.int .i64 j] 89)).alloc (.cells #[.slice none 0 0,.slice none 0 0,.int .i64 0,.int .i64 0] 89)).heap.size ((w.alloc (.cells #[.slice n i.length A,.slice t val.length B,.int .i64 m,.int .i64 j] 89)).alloc (.cells #[.slice none 0 0,.slice none 0 0,.int .i64 0,.int .i64 0] 89)) ((w.alloc (.cells #[.slice n i.length A,.slice t val.length B,.int .i64 m,.int .i64 j] 89)).alloc (.cells #[.slice none 0 0,.slice none 0 0,.int .i64 0,.int .i64 0] 89)).drew):=(Below.refl _ _).drew;have K:=M.o _ (fd w _ _ f.o).1;have hn:w.heap.size+1≠w.heap.size:=by omega
 go_region_held3 (λw'=>w'.cell? ⟨w.heap.size,0,none⟩=some (.slice n i.length A)/\w'.cell? ⟨w.heap.size,1,none⟩=some (.slice t val.length B)/\w'.cell? ⟨w.heap.size,2,none⟩=some (.int .i64 m)/\w'.cell? ⟨w.heap.size,3,none⟩=some (.int .i64 j))
  (first|with_reducible exact K|with_reducible exact IS.o _ (fd w _ _ f.o).1 _ _ _ _)
  (first|(go_at_call 73;with_reducible refine(S1.o _ (fd w _ _ f.o).2.2.1).mono ?_;rintro e C ⟨D,O,rfl,I⟩;have Y:=I.b;have U:=e7 (λx (g:D=some x)=>az (fd w _ _ f.o).2.2.2 (I.fresh g));have L1:=e7 (λx (g:D=some x)=>I.r.lt g);have f:=e7 (bt f.o Y);have K:=M.o _ (fd w _ _ f.o).1;have N:=e7 I.r;clear Y I)|(go_at_call 73;with_reducible refine(S2.o _ (fd w _ _ f.o).2.2.1).mono ?_;rintro e w2 ⟨E,P,rfl,J⟩;have R:=J.b;have Z2:=e7 (λx y (g:D=some x)(H:E=some y)=>aE (L1.o x g) (J.fresh H));have V:=e7 (λy (H:E=some y)=>az (fd w _ _ f.o).2.2.2 (J.fresh H));have f:=e7 (bt f.o R);have K:=M.o _ (fd w _ _ f.o).1;obtain⟨⟨y0,y1,y2,y3⟩,f0,f1,f2,f3,f4⟩:=TZ.o _ (fd w _ _ f.o).2.1;have N:=e7 (N.o.keep R);have R2:=e7 J.r;clear R J))
 clear K;have M1:=e7 (TM.o _ (fd w _ _ f.o).2.1 (.slice D i.length O) (.slice E val.length P) (.int .i64 m) (.int .i64 j));have L:=e7 (lH (w.heap.size+1) w2 (.slice D i.length O) (.slice E val.length P) (.int .i64 m) (.int .i64 j));have TB:=e7 (fd w _ _ f.o).2.2.1;clear y0 y1 y2 y3 f0 f1 f2 f3 f4 f;go_wp2;refine aG (v:=.agg _) (cF results174 _ _ (w.heap.size+1) 89 _ (0,0) _ rfl M1.o underlying89 rfl mc) rfl ?_;have X:Below w.heap.size w _:=((But.ofBelow (S:=λk=>k=w.heap.size+1) TB.o).trans L.o λ_ _ e=>e).below λk hk e=>by omega
 have C:=N.o.but L.o λx g e=>by have:=U.o x g;omega
 have aa:=R2.o.but L.o λx g e=>by have:=V.o x g;omega
 exact⟨⟨D,O,i,E,P,val,m,j⟩,rfl,⟨⟨C,λx g=>.inr (by have:=U.o x g;omega),X⟩,⟨aa,λx g=>.inr (by have:=V.o x g;omega),X⟩,λx y g H e=>by have:=Z2.o x y g H;omega,L8.o,Z.o⟩,rfl⟩
end
section
open Go.RowKit
theorem Fam.grown{w d g:World}{T:List Br}{a:Option Addr}{c:Nat}{L:List Iv}(f:Fam w d T)(h:Jw d a c L)(i:d.grownBy g (a.map Addr.block))(k:Below w.heap.size w g):Fam w g T:=
 f.but (h.butg i) k λt j _ m ⟨_,n,e⟩=>h.ne (f.own t j).1.r n m e
structure Ck(w W:World)(a:Option Addr)(c:Nat)(M:List Iv)(L:List Iv):Prop where
 j:JOwn w W a c M
 f:Fam w W (fI M)
 e:M.map Iv.it=L.map Iv.it
 n:∀r∈M,N64 r.child/\N64 r.size
theorem Ck.len{w W:World}{a:Option Addr}{c:Nat}{M L:List Iv}(h:Ck w W a c M L):M.length=L.length:=by have:=aU List.length h.e;simpa using this
theorem Ck.keep{w W d:World}{a:Option Addr}{c:Nat}{M L:List Iv}(h:Ck w W a c M L)(hb:Below W.heap.size W d):Ck w d a c M L:=⟨h.j.keep hb,h.f.keep hb,h.e,h.n⟩
theorem Ck.nil(w:World){W:World}(hb:Below w.heap.size w W):Ck w W none 0 [] []:=⟨JOwn.nil w hb,Fam.nil _ _,rfl,(λ_ h=>by cases h)⟩
theorem jv(w:World)(x:Iv)(g:Nat)(c:g=w.heap.size):∀j u,x.cs.toList[j]?=some u->(w.alloc (.cells x.cs 89)).cell? ((⟨g,0,none⟩:Addr).add j)=some u:=by
 subst c;intro j u h;rw[Addr.add_mid,bP,ah _ _ _ _ _ _ (aF _ _)];simpa using h
theorem Ck.push{w W e d f:World}{a:Option Addr}{c g c2:Nat}{M L:List Iv}{q x:Iv}(h:Ck w W a c M L)(k:Io W e q)(y:q.it=x.it)(A:N64 q.child/\N64 q.size)(hb:Below e.heap.size e d)(p:Jw f (some ⟨g,0,none⟩) c2 (M++[q]))(t:New d a (some ⟨g,0,none⟩))(j:d.grownBy f (a.map Addr.block)):
 Ck w f (some ⟨g,0,none⟩) c2 (M++[q]) (L++[x]):=by
 have i:Below W.heap.size W d:=bt k.k.b hb;have m:=h.j.step i p t j;have n:Fam w d (fI M++q.rows):=h.f.add (k.fam.keep hb) i h.j.b;refine⟨m,?_,by rw[dh,dh,h.e];simp[y],λr hr=>?_⟩
 . rw[gR,jj];exact n.grown (h.j.r.keep i) j m.b
 . rcases bg.1 hr with hr|hr
   . exact h.n r hr
   . rw[aS.1 hr];exact A
theorem it_n{q x:Iv}(h:q.it=x.it)(e:N64 x.child/\N64 x.size):N64 q.child/\N64 q.size:=by
 have c:q.child=x.child:=aU It.child h;have d:q.size=x.size:=aU It.size h;rw[c,d];exact e
theorem kh(w:World)(a:Option Addr)(n c:Nat)(L:List Iv)(f:Js w a L)(hn:n=L.length)(hL:L.length<=1048576)(D:∀r∈L,r.key.length<=140737488355264/\r.val.length<=140737488355264):
 Calls prog 139 #[.slice a n c] w λe w'=>∃R S M,e=.returned (.slice R L.length S)/\Ck w w' R S M L:=by
 subst hn;have K:=e7 λ(t:World)(hb:Below w.heap.size w t)(k:Nat)(d:k<L.length)=>(f.keep hb).at d
 have H:=e7 λ(t:World)(hb:Below w.heap.size w t)(k:Nat)(d:k<L.length)=>qy t (L.getD k Iv.zero) ((f.1 _ (fh d)).keep hb) (D _ (fh d)).1 (D _ (fh d)).2
 have J:=e7 λ(k:Nat)(d:k<L.length)=>And.intro (f.1 _ (fh d)).nc (f.1 _ (fh d)).ns
 have N:=e7 λ(k:Nat)(d:k<L.length)=>(show L.take (k+1)=L.take k++[L.getD k Iv.zero] from by rw[bO d];simp[d])
 clear f D;go_enter func139,ntmps139;go_wp2;go_loopw [3,4] (λo i wx=>∃(k:Nat)(j:Option Addr)(m:Nat)(M:List Iv),k<=L.length/\i=.int .i64 k/\o=.slice j k m/\Ck w wx j m M (L.take k)) (λ_ i _=>L.length-(intOf i).toNat)
 case atStart=>exact⟨0,none,0,[],ar _,rfl,rfl,Ck.nil w (Below.refl _ _)⟩
 case round=>
  obtain⟨k,j,m,M,d,rfl,rfl,A⟩:=hrel;have g:=e7 A;have I:Hid (k=M.length):=by show _=_;rw[A.len,b9];omega
  clear A;by_cases p:k<L.length
  . have ag:(k:Int)<(L.length:Int):=by omega
    have ac:k+1<=L.length:=by omega
    obtain⟨bI,af,rfl,W⟩:=K.o _ g.o.j.b k p;obtain⟨X,Y,Z,h⟩:=fY W;have y:=e7 (H.o _ g.o.j.b k p);have N1:=e7 (J.o k p);have T1:=e7 (N.o k p);have ad:M.length+1<=2199023255520:=by have:=I.o;omega
    clear W K H J N;generalize L.getD k Iv.zero=x at *;have ab:=e7 λ(q:Iv)(aa:q.it=x.it)=>it_n aa N1.o
    obtain⟨aK,cK,ae,aV,cV,val,ai,ah⟩:=x;simp only[Iv.vl,Iv.cs] at y X Y Z h;go_wp2_with fail
    refine y.o.mono ?_;rintro e E ⟨q,rfl,C,B⟩;have Q1:=e7 C;have Q2:=e7 B;have Q3:=e7 (ab.o q B);have O:=e7 ((g.o.j.keep C.k.b).r.keep (al E (.cells q.cs 89)));have F:=e7 (jv E q E.heap.size rfl);clear C B y X Y Z h;obtain⟨qK,dK,kq,qV,dV,vq,cq,sq⟩:=q;simp only[Iv.cs] at O F ⊢;go_wp2_with (at_builtin;refine sb rfl _ _ rfl j k m M rfl I.o O.o ⟨_,0,none⟩ 1 ⟨qK,dK,kq,qV,dV,vq,cq,sq⟩ rfl F.o ad ?_)
    intro g2 c2 w5 f U V;have P:=e7 (g.o.push Q1.o Q2.o Q3.o (al _ _) f U V);rw[<-T1.o] at P;clear f U V;go_wp2;go_roundw
    case rel=>exact⟨k+1,_,c2,_,ac,by first|(go_num;done)|exact aU (Value.int IntKind.i64) (by omega),rfl,P.o⟩
    case measure=>first|exact gy _ _ _ rfl p|(simp[intOf];omega)
  . obtain rfl:k=L.length:=by omega
    rw[ce] at g;go_wp2;go_ret;exact⟨j,m,M,rfl,g.o⟩
theorem CopyPage_any(w:World)(r:Pv)(D:Pi w r)(hd:r.data.length<=140737488355264)(hi:r.items.length<=1048576)(hs:∀x∈r.items,x.key.length<=140737488355264/\x.val.length<=140737488355264):
 Calls prog 94 #[r.vl] w λe w'=>∃q:Pv,e=.returned q.vl/\Pi w' q/\q.pg=r.pg/\Below w.heap.size w w':=by
 have S1:=e7 λF (hb:Below w.heap.size w F)=>kh F r.aI r.items.length r.cI r.items (D.it.keep hb) rfl hi hs
 have S2:=e7 λF (hb:Below w.heap.size w F)=>iR F r.aD r.data.length r.cD r.data (D.bd.keep hb) rfl hd
 have L8:=e7 D.bd.1;have N:=e7 (And.intro D.nk (And.intro D.nl D.nn));clear D;unfold Pv.vl;obtain⟨kind,m,A,C,n,y,B,j,next⟩:=r
 have L:=e7 λ(W:World)(h:W.heap[w.heap.size]?=some (.cells (Pv.cs ⟨kind,m,A,C,n,y,B,j,next⟩) 77))=>Bx.page (p:=⟨kind,m,A,C,n,y,B,j,next⟩) h
 have IS:=e7 λ(W:World)(h:W.heap[w.heap.size]?=some (.cells (Pv.cs ⟨kind,m,A,C,n,y,B,j,next⟩) 77))(a b c d f:Value)=>Bx.page (p:=⟨kind,m,A,C,n,y,B,j,next⟩) ((show Bx W 77 w.heap.size _ from h).but (jU (w.heap.size+1) W a b c d f) (by omega))
 have TZ:=e7 λ(W:World)(h:W.heap[w.heap.size+1]?=some (.cells (Pv.cs Pv.zero) 77))=>And.intro (Bx.page (p:=Pv.zero) h) (fr4 (show Bx W 77 (w.heap.size+1) _ from h))
 have TM:=e7 λ(W:World)(h:W.heap[w.heap.size+1]?=some (.cells (Pv.cs Pv.zero) 77))(a b c d f:Value)=>rF (show Bx W 77 (w.heap.size+1) _ from h) a b c d f
 dsimp only[Pv.cs,Pv.zero,aO] at *;go_enter func94,ntmps94;go_wp2;have i:Hid (Below ((w.alloc (.cells #[.int .i64 kind,.int .i64 m,.slice A n.length C,.slice y j.length B,.int .i64 next] 77)).alloc (.cells #[.int .i64 0,.int .i64 0,.slice none 0 0,.slice none 0 0,.int .i64 0] 77)).heap.size ((w.alloc (.cells #[.int .i64 kind,.int .i64 m,.slice A n.length C,.slice y j.length B,.int .i64 next] 77)).alloc (.cells #[.int .i64 0,.int .i64 0,.slice none 0 0,.slice none 0 0,.int .i64 0] 77)) ((w.alloc (.cells #[.int .i64 kind,.int .i64 m,.slice A n.length C,.slice y j.length B,.int .i64 next] 77)).alloc (.cells #[.int .i64 0,.int .i64 0,.slice none 0 0,.slice none 0 0,.int .i64 0] 77)).drew):=(Below.refl _ _).drew
 have I:=L.o _ (fd w _ _ i.o).1;have hn:w.heap.size+1≠w.heap.size:=by omega
 go_region_held3 (λw'=>w'.cell? ⟨w.heap.size,0,none⟩=some (.int .i64 kind)/\w'.cell? ⟨w.heap.size,1,none⟩=some (.int .i64 m)/\w'.cell? ⟨w.heap.size,2,none⟩=some (.slice A n.length C)/\w'.cell? ⟨w.heap.size,3,none⟩=some (.slice y j.length B)/\w'.cell? ⟨w.heap.size,4,none⟩=some (.int .i64 next))
  (first|with_reducible exact I|with_reducible exact IS.o _ (fd w _ _ i.o).1 _ _ _ _ _)
  (first|(go_at_call 139;with_reducible refine(S1.o _ (fd w _ _ i.o).2.2.1).mono ?_;rintro e F ⟨P,K,M,rfl,Y⟩;have ab:=Y.j.b;have i:=e7 (bt i.o ab);have I:=L.o _ (fd w _ _ i.o).1;have t:=e7 Y;clear ab Y)|(go_at_call 73;with_reducible refine(S2.o _ (fd w _ _ i.o).2.2.1).mono ?_;rintro e w2 ⟨R,O,rfl,Z⟩;have aa:=Z.b;have i:=e7 (bt i.o aa);have I:=L.o _ (fd w _ _ i.o).1;obtain⟨⟨y0,y1,y2,y3,y4⟩,f0,f1,f2,f3,f4⟩:=TZ.o _ (fd w _ _ i.o).2.1;have t:=e7 (t.o.keep aa);have R2:=e7 Z.r;clear aa Z))
 clear I;have M1:=e7 (TM.o _ (fd w _ _ i.o).2.1 (.int .i64 kind) (.int .i64 m) (.slice P n.length K) (.slice R j.length O) (.int .i64 next))
 have H:=e7 (jU (w.heap.size+1) w2 (.int .i64 kind) (.int .i64 m) (.slice P n.length K) (.slice R j.length O) (.int .i64 next))
 have TB:=e7 (fd w _ _ i.o).2.2.1;have J:Hid (Bx w2 77 (w.heap.size+1) _):=(fd w _ _ i.o).2.1;clear y0 y1 y2 y3 y4 f0 f1 f2 f3 f4 i;go_wp2;refine aG (v:=.agg _) (cF results94 _ _ (w.heap.size+1) 77 _ (0,0) _ rfl M1.o underlying77 rfl fu) rfl ?_;have ac:Below w.heap.size w _:=((But.ofBelow (S:=λk=>k=w.heap.size+1) TB.o).trans H.o λ_ _ e=>e).below λk hk e=>by omega
 have r2:=R2.o.but H.o λx E e=>R2.o.nty J.o (by decide) E e
 have j2:=t.o.j.r.but H.o λx E e=>t.o.j.r.nty J.o (by decide) E e
 have ae:=t.o.len
 have ii:∀r∈M,Ii _ r:=λr U=>by
  have k:=Fam.io (t.o.f.sub (pJ U));have V:=k.k.r.but H.o λx E e=>k.k.r.nty J.o (by decide) E e
  have X:=k.v.r.but H.o λx E e=>k.v.r.nty J.o (by decide) E e
  exact⟨V.bs k.k8 V.len_le,V.cap,X.bs k.v8 X.len_le,X.cap,(t.o.n r U).1,(t.o.n r U).2⟩
 have ad:M.length<=K:=by
  rcases j2.cases with⟨_,h1,h2⟩|⟨g,cur,_,_,h1,_⟩
  . rw[h1,h2];simp
  . exact h1
 refine⟨⟨kind,m,P,K,M,R,O,j,next⟩,by rw[<-ae],⟨j2.qs ii (by omega),ad,r2.bs L8.o r2.len_le,r2.cap,N.o.1,N.o.2.1,N.o.2.2⟩,?_,ac⟩
 unfold Pv.pg;dsimp only;rw[t.o.e]
end
section
open Go.RowKit
variable {v0 W W2:World} {p:Pv} {g3 gD g j:Nat} {D:List Iv}
end
section
open Go.RowKit
theorem Rw.addr2{w:World}{a:Option Addr}{cap:Nat}{l:List Nat}(h:Rw w a cap l)(c:0<l.length):∃g,a=some ⟨g,0,none⟩/\l.length<=cap/\cap<=maxLen:=by
 rcases h.cases with⟨rfl,rfl,rfl⟩|⟨g,cur,rfl,hg,h1,h2,h3,h4⟩
 . simp at c
 . exact⟨g,rfl,h1,h2⟩
theorem vV{W c:World}{g:Nat}{o:Obj}(h:W.heap[g]?=some o)(hb:Below W.heap.size W c):c.heap[g]?=some o:=(hb.block _ (ae.1 h).1).trans h
end
section
open Go.RowKit
end
section
open Go.RowKit
end
section
open Go.RowKit
end
section
open Go.RowKit
end
section
open Go.RowKit
end
section
open Go.RowKit
end
section
open Go.RowKit
end
section
open Go.RowKit
theorem lh(w:World)(r:Pv)(J:Pi w r)(hd:r.data.length<=140737488355264)(hi:r.items.length<=1048576)(hs:∀x∈r.items,x.key.length<=140737488355264/\x.val.length<=140737488355264):
 Calls prog 94 #[r.vl] w λe w'=>∃q:Pv,e=.returned q.vl/\Pn w w' q/\q.items.length=r.items.length/\q.pg=r.pg/\Below w.heap.size w w':=by
 have S1:=e7 λK (hb:Below w.heap.size w K)=>kh K r.aI r.items.length r.cI r.items (J.it.keep hb) rfl hi hs
 have S2:=e7 λK (hb:Below w.heap.size w K)=>iR K r.aD r.data.length r.cD r.data (J.bd.keep hb) rfl hd
 have L8:=e7 J.bd.1;have Y:=e7 (And.intro J.nk (And.intro J.nl J.nn));clear J;unfold Pv.vl;obtain⟨kind,A,F,I,B,E,H,n,next⟩:=r
 have X:=e7 λ(W:World)(h:W.heap[w.heap.size]?=some (.cells (Pv.cs ⟨kind,A,F,I,B,E,H,n,next⟩) 77))=>Bx.page (p:=⟨kind,A,F,I,B,E,H,n,next⟩) h
 have IS:=e7 λ(W:World)(h:W.heap[w.heap.size]?=some (.cells (Pv.cs ⟨kind,A,F,I,B,E,H,n,next⟩) 77))(a b c d f:Value)=>Bx.page (p:=⟨kind,A,F,I,B,E,H,n,next⟩) ((show Bx W 77 w.heap.size _ from h).but (jU (w.heap.size+1) W a b c d f) (by omega))
 have TZ:=e7 λ(W:World)(h:W.heap[w.heap.size+1]?=some (.cells (Pv.cs Pv.zero) 77))=>And.intro (Bx.page (p:=Pv.zero) h) (fr4 (show Bx W 77 (w.heap.size+1) _ from h))
 have TM:=e7 λ(W:World)(h:W.heap[w.heap.size+1]?=some (.cells (Pv.cs Pv.zero) 77))(a b c d f:Value)=>rF (show Bx W 77 (w.heap.size+1) _ from h) a b c d f
 dsimp only[Pv.cs,Pv.zero,aO] at *;go_enter func94,ntmps94;go_wp2;have i:Hid (Below ((w.alloc (.cells #[.int .i64 kind,.int .i64 A,.slice F B.length I,.slice E n.length H,.int .i64 next] 77)).alloc (.cells #[.int .i64 0,.int .i64 0,.slice none 0 0,.slice none 0 0,.int .i64 0] 77)).heap.size ((w.alloc (.cells #[.int .i64 kind,.int .i64 A,.slice F B.length I,.slice E n.length H,.int .i64 next] 77)).alloc (.cells #[.int .i64 0,.int .i64 0,.slice none 0 0,.slice none 0 0,.int .i64 0] 77)) ((w.alloc (.cells #[.int .i64 kind,.int .i64 A,.slice F B.length I,.slice E n.length H,.int .i64 next] 77)).alloc (.cells #[.int .i64 0,.int .i64 0,.slice none 0 0,.slice none 0 0,.int .i64 0] 77)).drew):=(Below.refl _ _).drew
 have P:=X.o _ (fd w _ _ i.o).1;have hn:w.heap.size+1≠w.heap.size:=by omega
 go_region_held3 (λw'=>w'.cell? ⟨w.heap.size,0,none⟩=some (.int .i64 kind)/\w'.cell? ⟨w.heap.size,1,none⟩=some (.int .i64 A)/\w'.cell? ⟨w.heap.size,2,none⟩=some (.slice F B.length I)/\w'.cell? ⟨w.heap.size,3,none⟩=some (.slice E n.length H)/\w'.cell? ⟨w.heap.size,4,none⟩=some (.int .i64 next))
  (first|with_reducible exact P|with_reducible exact IS.o _ (fd w _ _ i.o).1 _ _ _ _ _)
  (first|(go_at_call 139;with_reducible refine(S1.o _ (fd w _ _ i.o).2.2.1).mono ?_;rintro e K ⟨g1,k,ab,rfl,U⟩;have ad:=U.j.b;have Z:=e7 (az (az (eC _) (eC _)) (fd w _ _ i.o).2.2.2);have RL:=e7 (λt (L:t∈fI ab) x (C:t.a=some x)=>(U.f.own t L).1.r.lt C);have i:=e7 (bt i.o ad);have P:=X.o _ (fd w _ _ i.o).1;have m:=e7 U;clear ad U)|(go_at_call 73;with_reducible refine(S2.o _ (fd w _ _ i.o).2.2.1).mono ?_;rintro e w2 ⟨R,d2,rfl,V⟩;have aa:=V.b;have af:=e7 (az Z.o m.o.j.b.size);have RF:=e7 (λy (N:R=some y)=>V.fresh N);have i:=e7 (bt i.o aa);have P:=X.o _ (fd w _ _ i.o).1;obtain⟨⟨y0,y1,y2,y3,y4⟩,f0,f1,f2,f3,f4⟩:=TZ.o _ (fd w _ _ i.o).2.1;have m:=e7 (m.o.keep aa);have R2:=e7 V.r;clear aa V))
 clear P;have M1:=e7 (TM.o _ (fd w _ _ i.o).2.1 (.int .i64 kind) (.int .i64 A) (.slice g1 B.length k) (.slice R n.length d2) (.int .i64 next))
 have O:=e7 (jU (w.heap.size+1) w2 (.int .i64 kind) (.int .i64 A) (.slice g1 B.length k) (.slice R n.length d2) (.int .i64 next))
 have TB:=e7 (fd w _ _ i.o).2.2.1;have M:Hid (Bx w2 77 (w.heap.size+1) _):=(fd w _ _ i.o).2.1;clear y0 y1 y2 y3 y4 f0 f1 f2 f3 f4 i;go_wp2;refine aG (v:=.agg _) (cF results94 _ _ (w.heap.size+1) 77 _ (0,0) _ rfl M1.o underlying77 rfl fu) rfl ?_;have ag:Below w.heap.size w _:=((But.ofBelow (S:=λac=>ac=w.heap.size+1) TB.o).trans O.o λ_ _ e=>e).below λac hk e=>by omega
 have r2:=R2.o.but O.o λx C e=>R2.o.nty M.o (by decide) C e
 have j2:=m.o.j.r.but O.o λx C e=>m.o.j.r.nty M.o (by decide) C e
 have ae:=m.o.len;have ah:∀{a c l},Rw w2 a c l->Rw _ a c l:=λhr=>hr.but O.o λx C e=>hr.nty M.o (by decide) C e
 refine⟨⟨kind,A,g1,k,ab,R,d2,n,next⟩,by rw[<-ae],⟨j2,m.o.j.n.mono Z.o,r2,λy N=>.inr (by have h1:=RF.o y N;have h2:=af.o;omega),λt L=>?_,?_,L8.o,m.o.n,Y.o.1,Y.o.2.1,Y.o.2.2⟩,ae,?_,ag⟩
 . obtain⟨o,o8⟩:=m.o.f.own t L;exact⟨ah o.r,o.n.mono Z.o,o8⟩
 . refine bz.2 ⟨λt L x y C N e=>?_,m.o.f.dist⟩
   have h1:=RF.o x C;have h2:=RL.o t L y N;omega
 unfold Pv.pg;dsimp only;rw[m.o.e]
end
end Go.Proofs.YtnnieandfdbhgaaGreat
