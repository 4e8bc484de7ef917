import Derived.Test.YtbdkogimlbnlmaaGreatWlB9
set_option linter.all false
set_option maxHeartbeats 6400000
set_option maxRecDepth 8000
namespace Go.Proofs.YtbdkogimlbnlmaaGreat
open Tryz
open Go.RowKit
variable {b n:Nat}{t:TypeId}{w w':World}
theorem tX(w:World)(p:Pv)(hP:Pi w p)(R:p.pg.formE=0)(k1:p.kind=1\/p.kind=2):Calls prog 68 #[p.vl] w λe w'=>e=.returned (.int .i64 (p.pg.check:Int))/\Below w.heap.size w w':=by
 have G:=iJ (hP.keep (al w (.cells p.cs 31)));have ay:p.items.length<=2199023255489:=hP.it.2.1;have B0:=iJ (Bx.new w 31 p.cs);have B:=iJ (al w (.cells p.cs 31));obtain⟨v,hv⟩:∃v,w.alloc (.cells p.cs 31)=v:=⟨_,rfl⟩;rw[hv] at G B0 B;have q:=iJ λ(m:World)(hb:Below v.heap.size v m)=>Bx.page (B0.o.keep hb)
 have FO:=iJ λ(m:World)=>pC m p
 have HX:=iJ (jI R);have am:=iJ (Pg.kindOk_iff.1 (jI R).1);have af:=iJ λ(k:Nat)(h:k<p.items.length)(m:World)(hb:Below v.heap.size v m)=>vc m p k (G.o.keep hb) h
 have ag:=iJ λ(x:Iv)(m:World)(hb:Below v.heap.size v m)=>rT m p x
 have ab:=iJ λ(x:Iv)(m:World)(hb:Below v.heap.size v m)=>rI m p x
 have ac:=iJ λ(k:Nat)(P:ju p.pg.itemE k=0)(h:k<p.items.length)(x:Nat)(hx:x≠0)(e:p.pg.itemE k=x)=>(show p.pg.check=x from by
  rw[uL R P (by simpa[Pv.pg] using h) (by rw[e];exact hx),e])
 have ad:=iJ λ(P:ju p.pg.itemE p.items.length=0)=>(tZ R (by simpa[Pv.pg] using P))
 have ae:=iJ λk=>(show p.pg.itemE k=if p.pg.keyOk k=false then 7 else if (decide (k=0)||decide (0<jo (p.items.getD k Iv.zero).key (p.items.getD (k-1) Iv.zero).key))=false then 11 else if (p.items.getD k Iv.zero).it.valOk p.kind=false then 8 else if (p.items.getD k Iv.zero).it.kidOk p.kind=false then 15 else 0 from by
  unfold Pg.itemE Pg.ordOk;rw[Pv.at,Pv.at];rfl)
 have aw:=iJ λ(ak:p.kind=3)=>(show p.items.length=0 from by have Z:=(jI R).2;unfold Pg.form at Z;rw[if_pos (show p.pg.kind=3 from ak)] at Z;simp[Pv.pg] at Z;rw[Z.1.1.2];rfl)
 have an:Hid (p.pg.nextOk= !(decide (p.kind=3)&&decide (p.next≠0)&& !kO p.next)):=rfl;rw[HX.o.2] at FO;have aj:p.pg.kind=p.kind:=rfl;rw[aj] at am;clear aj HX hP R;generalize p.pg.check=ax at *;generalize p.pg.itemE=f at *;generalize p.pg.nextOk=nx at *;obtain⟨aH,X,aI,M,items,H,L,U,next⟩:=p
 unfold Pv.vl;simp only[Pv.cs,Pv.vl] at *;rcases k1 with rfl|rfl
 all_goals
  obtain⟨b0,b1,b2,b3,b4⟩:=q.o _ (Below.refl _ _);go_enter func68,ntmps68;go_wp2_with fail
  refine(FO.o _).mono ?_;rintro y m ⟨rfl,hb⟩;have d:=iJ hb;clear hb hv FO b0 b1 b2 b3 b4;obtain⟨c0,c1,c2,c3,c4⟩:=q.o _ d.o;go_wp2;go_loopw [3] (λaa wx=>∃k:Nat,k<=items.length/\aa=.int .i64 k/\Below v.heap.size v wx/\ju f k=0) (λaa _=>items.length-(intOf aa).toNat)
  case atStart=>exact⟨0,az _,rfl,d.o,rfl⟩
  case round=>
   clear d c0 c1 c2 c3 c4;obtain⟨k,h,rfl,hT,P⟩:=hrel;have d:=iJ hT;have Y:=iJ P;clear hT P;obtain⟨c0,c1,c2,c3,c4⟩:=q.o _ d.o;by_cases D:k<items.length
   . have aG:(k:Int)<(items.length:Int):=by omega
     have ah:=w64 (j:=k) (by omega)
     have KY:=iJ (af.o k D);have VA:=iJ (ag.o (items.getD k Iv.zero));have CH:=iJ (ab.o (items.getD k Iv.zero));have E:=iJ (ac.o k Y.o D);have A:=iJ (ae.o k);obtain⟨g,off,rfl⟩:∃g off,aI=some ⟨g,off,none⟩:=by obtain⟨b2,o2,e2,_⟩:=G.o.it.at D;exact⟨b2,o2,e2⟩
     have r:=iJ λ(m:World)(hb:Below v.heap.size v m)=>ur (G.o.it.keep hb) D
     have ai:k-1<items.length:=by omega
     have HQ:=iJ λ(m:World)(hb:Below v.heap.size v m)=>(ur (G.o.it.keep hb) ai).1
     have CM:=iJ λ(m:World)(hb:Below v.heap.size v m)=>qL m (items.getD k Iv.zero).aK (items.getD (k-1) Iv.zero).aK _ _ (items.getD k Iv.zero).cK (items.getD (k-1) Iv.zero).cK (items.getD k Iv.zero).key (items.getD (k-1) Iv.zero).key ((G.o.it.keep hb).1 _ (ja D)).bk ((G.o.it.keep hb).1 _ (ja ai)).bk rfl rfl
     generalize items.getD k Iv.zero=x at *;generalize items.getD (k-1) Iv.zero=y at *;simp only[Iv.vl] at VA CH;generalize Pg.keyOk _ k=kk at *;generalize aq:x.it.valOk _=vv at *;generalize ao:x.it.kidOk _=cc at *;clear aq ao;generalize jo x.key y.key=z at *;obtain⟨I,N,T,J,O,val,W,V⟩:=x;obtain⟨au,av,yk,aE,aF,aJ,aM,aL⟩:=y;simp only[Iv.cs] at *;clear af ag ab ac ae ad;by_cases ap:k=0
     . subst ap;simp only[eE,bY] at r;go_wp2_with fail
       refine(KY.o _ d.o).mono ?_;rintro y m ⟨rfl,hb⟩;have d:=iJ (bt d.o hb);clear hb;obtain⟨c0,c1,c2,c3,c4⟩:=q.o _ d.o;cases kk with
       |false=>
        go_wp2;go_ret;exact⟨j7 (E.o 7 (by decide) (by simp[A.o])),bt B.o d.o⟩
       |true=>
        go_wp2;have d:=iJ (bt d.o (dr1 _));have l:=And.intro (q.o _ d.o) (r.o _ d.o);refine bC (S:=λw'=>(w'.cell? ⟨w.heap.size,0,none⟩=some (.int .i64 _)/\w'.cell? ⟨w.heap.size,1,none⟩=some (.int .i64 X)/\w'.cell? ⟨w.heap.size,2,none⟩=some (.slice (some ⟨g,off,none⟩) items.length M)/\w'.cell? ⟨w.heap.size,3,none⟩=some (.slice H U.length L)/\w'.cell? ⟨w.heap.size,4,none⟩=some (.int .i64 next))/\(w'.cell? ⟨g,off,none⟩=some (.slice I T.length N)/\w'.cell? ⟨g,off+1,none⟩=some (.slice J val.length O)/\w'.cell? ⟨g,off+2,none⟩=some (.int .i64 W)/\w'.cell? ⟨g,off+3,none⟩=some (.int .i64 V))) (by kernel_rfl) (by exact l) (λhHeld=>?_)
        refine tkb 0 1 ?_;refine tk 2 ?_;refine tu 3 ?_;refine tu 4 ?_;refine tu 5 ?_;refine tu 6 ?_;refine tu 7 ?_;refine tu 8 ?_;refine tu 9 ?_;refine tu 10 ?_;refine tu 11 ?_;refine tu 12 ?_;refine tu 13 ?_;refine tu 14 ?_;refine tu 15 ?_;refine tu 16 ?_;refine tu 17 ?_;refine tk 18 ?_;refine td ?_;clear l;go_wp2;have d:=iJ (bt d.o (dr1 _));have l:=And.intro (q.o _ d.o) (r.o _ d.o);refine bC (S:=λw'=>(w'.cell? ⟨w.heap.size,0,none⟩=some (.int .i64 _)/\w'.cell? ⟨w.heap.size,1,none⟩=some (.int .i64 X)/\w'.cell? ⟨w.heap.size,2,none⟩=some (.slice (some ⟨g,off,none⟩) items.length M)/\w'.cell? ⟨w.heap.size,3,none⟩=some (.slice H U.length L)/\w'.cell? ⟨w.heap.size,4,none⟩=some (.int .i64 next))/\(w'.cell? ⟨g,off,none⟩=some (.slice I T.length N)/\w'.cell? ⟨g,off+1,none⟩=some (.slice J val.length O)/\w'.cell? ⟨g,off+2,none⟩=some (.int .i64 W)/\w'.cell? ⟨g,off+3,none⟩=some (.int .i64 V))) (by kernel_rfl) (by exact l) (λhHeld=>?_)
        refine tkd 0 1 2 3 ?_;refine tkb 4 5 ?_;refine tw 6 λK C=>?_
        go_simp;refine(VA.o _ d.o).mono ?_;rintro e i ⟨rfl,hb⟩;have d:=iJ (bt d.o hb);have l:=And.intro (q.o _ d.o) (r.o _ d.o);clear hb;go_wp2_with fail
        refine C.o _ _ (by exact l) (λhHeld=>?_)
        refine tk 7 ?_;refine td ?_;clear l;cases vv with
        |false=>
         go_wp2;go_ret;exact⟨j7 (E.o 8 (by decide) (by rw[A.o];first|(simp;done)|(simp;omega))),bt B.o d.o⟩
        |true=>
         go_wp2;have d:=iJ (bt d.o (dr1 _));have l:=And.intro (q.o _ d.o) (r.o _ d.o);refine bC (S:=λw'=>(w'.cell? ⟨w.heap.size,0,none⟩=some (.int .i64 _)/\w'.cell? ⟨w.heap.size,1,none⟩=some (.int .i64 X)/\w'.cell? ⟨w.heap.size,2,none⟩=some (.slice (some ⟨g,off,none⟩) items.length M)/\w'.cell? ⟨w.heap.size,3,none⟩=some (.slice H U.length L)/\w'.cell? ⟨w.heap.size,4,none⟩=some (.int .i64 next))/\(w'.cell? ⟨g,off,none⟩=some (.slice I T.length N)/\w'.cell? ⟨g,off+1,none⟩=some (.slice J val.length O)/\w'.cell? ⟨g,off+2,none⟩=some (.int .i64 W)/\w'.cell? ⟨g,off+3,none⟩=some (.int .i64 V))) (by kernel_rfl) (by exact l) (λhHeld=>?_)
         refine tkd 0 1 2 3 ?_;refine tkb 4 5 ?_;refine tw 6 λK C=>?_
         go_simp;refine(CH.o _ d.o).mono ?_;rintro e i ⟨rfl,hb⟩;have d:=iJ (bt d.o hb);have l:=And.intro (q.o _ d.o) (r.o _ d.o);clear hb;go_wp2_with fail
         refine C.o _ _ (by exact l) (λhHeld=>?_)
         refine tk 7 ?_;refine td ?_;clear l;cases cc with
         |false=>
          go_wp2;go_ret;exact⟨j7 (E.o 15 (by decide) (by rw[A.o];first|(simp;done)|(simp;omega))),bt B.o d.o⟩
         |true=>
          go_wp2;go_roundw
          case rel=>exact⟨0+1,by omega,by first|(go_num;done)|exact a7 (Value.int IntKind.i64) (by omega),d.o,by rw[mX,Y.o];show f 0=0;rw[A.o];first|(simp;done)|(simp;omega)⟩
          case measure=>first|exact jb _ _ _ ah D|exact jb _ _ _ rfl D|(simp[intOf];omega)
     . obtain⟨j,rfl⟩:∃j,k=j+1:=⟨k-1,by omega⟩
       rw[show j+1-1=j by omega] at HQ
       have aC:IntKind.i64.wrap (j:Int)=(j:Int):=iT (by omega) (by omega)
       have aB:(j:Int)<(items.length:Int):=by omega
       have aA:(0:Int)<=(j:Int)+1:=by omega
       go_wp2_with fail
       refine(KY.o _ d.o).mono ?_;rintro y m ⟨rfl,hb⟩;have d:=iJ (bt d.o hb);clear hb;obtain⟨c0,c1,c2,c3,c4⟩:=q.o _ d.o;cases kk with
       |false=>
        go_wp2;go_ret;exact⟨j7 (E.o 7 (by decide) (by simp[A.o])),bt B.o d.o⟩
       |true=>
        go_wp2;have d:=iJ (bt d.o (dr1 _));have l:=And.intro (q.o _ d.o) (And.intro (r.o _ d.o) (HQ.o _ d.o));refine bC (S:=λw'=>(w'.cell? ⟨w.heap.size,0,none⟩=some (.int .i64 _)/\w'.cell? ⟨w.heap.size,1,none⟩=some (.int .i64 X)/\w'.cell? ⟨w.heap.size,2,none⟩=some (.slice (some ⟨g,off,none⟩) items.length M)/\w'.cell? ⟨w.heap.size,3,none⟩=some (.slice H U.length L)/\w'.cell? ⟨w.heap.size,4,none⟩=some (.int .i64 next))/\(w'.cell? ⟨g,off+(j+1)*4,none⟩=some (.slice I T.length N)/\w'.cell? ⟨g,off+(j+1)*4+1,none⟩=some (.slice J val.length O)/\w'.cell? ⟨g,off+(j+1)*4+2,none⟩=some (.int .i64 W)/\w'.cell? ⟨g,off+(j+1)*4+3,none⟩=some (.int .i64 V))/\w'.cell? ⟨g,off+j*4,none⟩=some (.slice au yk.length av)) (by kernel_rfl) (by exact l) (λhHeld=>?_)
        refine tkd 0 1 2 3 ?_;refine tkd 4 5 6 7 ?_;refine tkd 8 9 10 11 ?_;refine tkd 12 13 14 15 ?_;refine tw 16 λK C=>?_
        go_simp;refine(CM.o _ d.o).mono ?_;rintro e i ⟨rfl,hb⟩;have d:=iJ (bt d.o hb);have l:=And.intro (q.o _ d.o) (And.intro (r.o _ d.o) (HQ.o _ d.o));clear hb;go_wp2_with fail
        refine C.o _ _ (by exact l) (λhHeld=>?_)
        refine tkb 17 18 ?_;refine td ?_;clear l;by_cases s:z<=0
        . have ar:decide (z<=0)=true:=by simpa using s
          go_wp2;go_ret;exact⟨j7 (E.o 11 (by decide) (by rw[A.o];first|(simp;done)|(simp;omega)|(simp[s];done)|(simp[s];omega))),bt B.o d.o⟩
        . have ar:decide (z<=0)=false:=by simpa using s
          go_wp2;have d:=iJ (bt d.o (dr1 _));have l:=And.intro (q.o _ d.o) (r.o _ d.o);refine bC (S:=λw'=>(w'.cell? ⟨w.heap.size,0,none⟩=some (.int .i64 _)/\w'.cell? ⟨w.heap.size,1,none⟩=some (.int .i64 X)/\w'.cell? ⟨w.heap.size,2,none⟩=some (.slice (some ⟨g,off,none⟩) items.length M)/\w'.cell? ⟨w.heap.size,3,none⟩=some (.slice H U.length L)/\w'.cell? ⟨w.heap.size,4,none⟩=some (.int .i64 next))/\(w'.cell? ⟨g,off+(j+1)*4,none⟩=some (.slice I T.length N)/\w'.cell? ⟨g,off+(j+1)*4+1,none⟩=some (.slice J val.length O)/\w'.cell? ⟨g,off+(j+1)*4+2,none⟩=some (.int .i64 W)/\w'.cell? ⟨g,off+(j+1)*4+3,none⟩=some (.int .i64 V))) (by kernel_rfl) (by exact l) (λhHeld=>?_)
          refine tkd 0 1 2 3 ?_;refine tkb 4 5 ?_;refine tw 6 λK C=>?_
          go_simp;refine(VA.o _ d.o).mono ?_;rintro e i ⟨rfl,hb⟩;have d:=iJ (bt d.o hb);have l:=And.intro (q.o _ d.o) (r.o _ d.o);clear hb;go_wp2_with fail
          refine C.o _ _ (by exact l) (λhHeld=>?_)
          refine tk 7 ?_;refine td ?_;clear l;cases vv with
          |false=>
           go_wp2;go_ret;exact⟨j7 (E.o 8 (by decide) (by rw[A.o];first|(simp;done)|(simp;omega)|(simp[s];done)|(simp[s];omega))),bt B.o d.o⟩
          |true=>
           go_wp2;have d:=iJ (bt d.o (dr1 _));have l:=And.intro (q.o _ d.o) (r.o _ d.o);refine bC (S:=λw'=>(w'.cell? ⟨w.heap.size,0,none⟩=some (.int .i64 _)/\w'.cell? ⟨w.heap.size,1,none⟩=some (.int .i64 X)/\w'.cell? ⟨w.heap.size,2,none⟩=some (.slice (some ⟨g,off,none⟩) items.length M)/\w'.cell? ⟨w.heap.size,3,none⟩=some (.slice H U.length L)/\w'.cell? ⟨w.heap.size,4,none⟩=some (.int .i64 next))/\(w'.cell? ⟨g,off+(j+1)*4,none⟩=some (.slice I T.length N)/\w'.cell? ⟨g,off+(j+1)*4+1,none⟩=some (.slice J val.length O)/\w'.cell? ⟨g,off+(j+1)*4+2,none⟩=some (.int .i64 W)/\w'.cell? ⟨g,off+(j+1)*4+3,none⟩=some (.int .i64 V))) (by kernel_rfl) (by exact l) (λhHeld=>?_)
           refine tkd 0 1 2 3 ?_;refine tkb 4 5 ?_;refine tw 6 λK C=>?_
           go_simp;refine(CH.o _ d.o).mono ?_;rintro e i ⟨rfl,hb⟩;have d:=iJ (bt d.o hb);have l:=And.intro (q.o _ d.o) (r.o _ d.o);clear hb;go_wp2_with fail
           refine C.o _ _ (by exact l) (λhHeld=>?_)
           refine tk 7 ?_;refine td ?_;clear l;cases cc with
           |false=>
            go_wp2;go_ret;exact⟨j7 (E.o 15 (by decide) (by rw[A.o];first|(simp;done)|(simp;omega)|(simp[s];done)|(simp[s];omega))),bt B.o d.o⟩
           |true=>
            go_wp2;go_roundw
            case rel=>exact⟨j+1+1,by omega,by first|(go_num;done)|exact a7 (Value.int IntKind.i64) (by omega),d.o,by rw[mX,Y.o];show f (j+1)=0;rw[A.o];first|(simp;done)|(simp;omega)|(simp[s];done)|(simp[s];omega)⟩
            case measure=>first|exact jb _ _ _ ah D|exact jb _ _ _ rfl D|(simp[intOf];omega)
   . obtain rfl:k=items.length:=by omega
     go_wp2;go_ret;exact⟨j7 (by rw[ad.o Y.o,an.o];simp),bt B.o d.o⟩
theorem C9(w:World)(p:Pv)(B:Pi w p)(l:p.pg.formE=0)(U:p.kind=3):Calls prog 68 #[p.vl] w λe w'=>e=.returned (.int .i64 (p.pg.check:Int))/\Below w.heap.size w w':=by
 have H:=iJ (B.keep (al w (.cells p.cs 31)));have ag:p.items.length<=2199023255489:=B.it.2.1;have G:=iJ (Bx.new w 31 p.cs);have q:=iJ (al w (.cells p.cs 31));obtain⟨v,K⟩:∃v,w.alloc (.cells p.cs 31)=v:=⟨_,rfl⟩;rw[K] at H G q;have A:=iJ λ(d:World)(hb:Below v.heap.size v d)=>Bx.page (G.o.keep hb)
 have s:=iJ λ(d:World)=>pC d p
 have I:=iJ (jI l);have W:=iJ (Pg.kindOk_iff.1 (jI l).1);have ad:=iJ λ(k:Nat)(m:k<p.items.length)(d:World)(hb:Below v.heap.size v d)=>vc d p k (H.o.keep hb) m
 have ae:=iJ λ(x:Iv)(d:World)(hb:Below v.heap.size v d)=>rT d p x
 have aa:=iJ λ(x:Iv)(d:World)(hb:Below v.heap.size v d)=>rI d p x
 have ab:=iJ λ(k:Nat)(j:ju p.pg.itemE k=0)(m:k<p.items.length)(x:Nat)(T:x≠0)(e:p.pg.itemE k=x)=>(show p.pg.check=x from by
  rw[uL l j (by simpa[Pv.pg] using m) (by rw[e];exact T),e])
 have C:=iJ λ(j:ju p.pg.itemE p.items.length=0)=>(tZ l (by simpa[Pv.pg] using j))
 have ac:=iJ λk=>(show p.pg.itemE k=if p.pg.keyOk k=false then 7 else if (decide (k=0)||decide (0<jo (p.items.getD k Iv.zero).key (p.items.getD (k-1) Iv.zero).key))=false then 11 else if (p.items.getD k Iv.zero).it.valOk p.kind=false then 8 else if (p.items.getD k Iv.zero).it.kidOk p.kind=false then 15 else 0 from by
  unfold Pg.itemE Pg.ordOk;rw[Pv.at,Pv.at];rfl)
 have X:=iJ λ(h:p.kind=3)=>(show p.items.length=0 from by have r:=(jI l).2;unfold Pg.form at r;rw[if_pos (show p.pg.kind=3 from h)] at r;simp[Pv.pg] at r;rw[r.1.1.2];rfl)
 have D:Hid (p.pg.nextOk= !(decide (p.kind=3)&&decide (p.next≠0)&& !kO p.next)):=rfl;rw[I.o.2] at s;have L:p.pg.kind=p.kind:=rfl;rw[L] at W;clear L I B l;generalize p.pg.check=af at *;generalize p.pg.itemE=f at *;generalize p.pg.nextOk=nx at *;obtain⟨aj,ak,aI,cI,items,Z,cD,ah,next⟩:=p
 unfold Pv.vl;simp only[Pv.cs,Pv.vl] at *;subst U;obtain rfl:=co.1 (X.o rfl);simp only[bj] at *;obtain⟨M,N,O,P,R⟩:=A.o _ (Below.refl _ _);go_enter func68,ntmps68;go_wp2_with fail
 refine(s.o _).mono ?_;rintro y d ⟨rfl,hb⟩;have g:=iJ hb;clear hb K s M N O P R;obtain⟨c0,c1,c2,c3,c4⟩:=A.o _ g.o;go_wp2;go_loopw [3] (λi V=>∃k:Nat,k<=0/\i=.int .i64 k/\Below v.heap.size v V/\ju f k=0) (λi _=>0-(intOf i).toNat)
 case atStart=>exact⟨0,az _,rfl,g.o,rfl⟩
 case round=>
  clear g c0 c1 c2 c3 c4;obtain⟨k,m,rfl,J,j⟩:=hrel;have g:=iJ J;have Y:=iJ j;clear J j;obtain⟨c0,c1,c2,c3,c4⟩:=A.o _ g.o;obtain rfl:k=0:=by simpa using m
  by_cases E:next=0
  . subst E;go_wp2;go_ret;exact⟨j7 (by rw[C.o rfl,D.o];simp),bt q.o g.o⟩
  . have ai:(next==0)=false:=by simpa using E
    go_wp2_with fail
    refine(ov _ _).mono ?_;rintro y w2 ⟨rfl,S⟩;obtain rfl:=S.symm;cases hisn:kO next with
    |false=>
     go_wp2;go_ret;exact⟨j7 (by rw[C.o rfl,D.o];simp[E,hisn]),bt q.o g.o⟩
    |true=>
     go_wp2;go_ret;exact⟨j7 (by rw[C.o rfl,D.o];simp[hisn]),bt q.o g.o⟩
theorem oR(w:World)(p:Pv)(g:Pi w p):Calls prog 68 #[p.vl] w λe w'=>e=.returned (.int .i64 (p.pg.check:Int))/\Below w.heap.size w w':=by
 by_cases d:p.pg.formE=0
 . rcases Pg.kindOk_iff.1 (jI d).1 with k|k|k
   . exact tX w p g d (.inl k)
   . exact tX w p g d (.inr k)
   . exact C9 w p g d k
 . rw[rU d];have j:=iJ λ(s:World)=>pC s p
   cases hk:p.pg.kindOk with
   |false=>
    have i:p.pg.formE=22:=by unfold Pg.formE;rw[if_pos hk]
    have E:¬p.kind=1/\¬p.kind=2/\¬p.kind=3:=by
     refine⟨λh=>?_,λh=>?_,λh=>?_⟩<;>simp[Pg.kindOk,Pv.pg,h] at hk
    rw[i];clear j d g hk i;obtain⟨f,H,B,D,items,A,C,G,next⟩:=p
    unfold Pv.vl;simp only[Pv.cs] at *;obtain⟨m,q,r⟩:=E;have M:(f==1)=false:=by simpa using m
    have N:(f==2)=false:=by simpa using q
    have O:(f==3)=false:=by simpa using r
    have J:(f != 1)=true:=by simpa using m
    have K:(f != 2)=true:=by simpa using q
    have L:(f != 3)=true:=by simpa using r
    go_enter func68,ntmps68;go_wp2;go_ret;exact⟨rfl,al _ _⟩
   |true=>
    have l:p.pg.form=false:=by
     cases h:p.pg.form with
     |false=>rfl
     |true=>exact absurd (by unfold Pg.formE;simp[hk,h]) d
    have i:p.pg.formE=5:=by unfold Pg.formE;simp[hk,l]
    rw[i];rw[l] at j;have I:=iJ (Bx.new w 31 p.cs);have v:=Pg.kindOk_iff.1 hk;have x:p.pg.kind=p.kind:=rfl;rw[x] at v;clear d g hk i l x;obtain⟨f,H,B,D,items,A,C,G,next⟩:=p
    unfold Pv.vl at *;simp only[Pv.cs] at *;rcases v with rfl|rfl|rfl
    all_goals
     go_enter func68,ntmps68;go_wp2_with fail
     refine(j.o _).mono ?_;rintro y s ⟨rfl,hb⟩;go_wp2;go_ret;exact⟨rfl,bt (al _ _) hb⟩
def spF(l:List Nat)(i:Nat):Value:=if i<l.length then .int .u8 ((l.getD i 0:Nat):Int) else .int .u8 (bits .xor .i64 165 (i:Int)%256)
theorem ky{f:Nat->Value}(h:w.rowIs b t n f)(hb:Below w.heap.size w w'):w'.rowIs b t n f:=h.of_block (hb.block b h.lt)
theorem Ai{S:Nat->Prop}{f:Nat->Value}(h:w.rowIs b t n f)(hb:But S w w')(d:¬S b):w'.rowIs b t n f:=h.of_block (hb.block b h.lt d)
theorem Cm{g:Nat}{l:List Nat}(h:w.rowIs g 5 n (spF l))(j:l.length<=n)(e:∀x∈l,x<256)(f:l.length<=9223372036854775807):Bs w (some ⟨g,0,none⟩) l:=
 ⟨e,f,.inr ⟨g,0,rfl,λi d=>by rw[bN,h.cell (by omega)];unfold spF;rw[if_pos d]⟩⟩
theorem zN(w:World)(aa:Option Addr)(n D:Nat)(l:List Nat)(m:Bs w aa l)(A:n=l.length)(L:l.length+64<=281474976710656):
 Calls prog 62 #[.slice aa n D] w λx w'=>x=.returned (.slice (some ⟨w.heap.size,0,none⟩) l.length (l.length+64))/\w'.rowIs w.heap.size 5 (l.length+64) (spF l)/\Below w.heap.size w w':=by
 subst A;have J:=xH (l.length+64) (l.length+64) (ai _) (by omega)
 have K:IntKind.i64.wrap ((l.length:Int)+64)=((l.length+64:Nat):Int):=by rw[iT (by omega) (by omega)];omega
 have s:=iJ m;clear m;generalize q:l.length+64=N at *;have v:=iJ q;clear q;go_enter func62,ntmps62;go_wp2;go_loopw [4] (λi r=>∃j:Nat,j<=N/\i=.int .i64 j/\(r.rowIs w.heap.size 5 N (λi=>if i<j then spF l i else .int .u8 0)/\Below w.heap.size w r)) (λi _=>N-(intOf i).toNat)
 case atStart=>exact⟨0,az _,rfl,(World.rowIs_made w (.int .u8 0) N 5).congr λi _=>by simp,(Below.refl _ _).alloc (ai _) _⟩
 case round=>
  obtain⟨j,G,rfl,p⟩:=hrel;have d:=iJ p;clear p;by_cases C:j<N
  . have g:(j:Int)<(N:Int):=by omega
    have y:=d.o.1.cell C;have E:=d.o.1.frozen j;simp only[eG,if_false] at y;by_cases k:j<l.length
    . have B:(j:Int)<(l.length:Int):=by omega
      obtain⟨bs,off,rfl,I⟩:=qp s.o d.o.2 k;have h:Hid (spF l j=.int .u8 ((l.getD j 0:Nat):Int)):=by unfold spF;rw[if_pos k];exact rfl
      generalize l.getD j 0=x at *;go_wp2;go_roundw
      case rel=>
       refine⟨j+1,by omega,by go_num,(d.o.1.set j _).congr λi g=>?_,d.o.2.setCell (ai _) _⟩
       by_cases e:i=j
       . subst e;rw[if_pos rfl,if_pos (by omega),h.o]
       . rw[if_neg e];by_cases f:i<j
         . rw[if_pos f,if_pos (by omega)]
         . rw[if_neg f,if_neg (by omega)]
      case measure=>simp[intOf];omega
    . have B:¬(j:Int)<(l.length:Int):=by omega
      have h:Hid (spF l j=.int .u8 (bits .xor .i64 165 (j:Int)%256)):=by unfold spF;rw[if_neg k];exact rfl
      go_wp2;go_roundw
      case rel=>
       refine⟨j+1,by omega,by go_num,(d.o.1.set j _).congr λi g=>?_,d.o.2.setCell (ai _) _⟩
       by_cases e:i=j
       . subst e;rw[if_pos rfl,if_pos (by omega),h.o]
       . rw[if_neg e];by_cases f:i<j
         . rw[if_pos f,if_pos (by omega)]
         . rw[if_neg f,if_neg (by omega)]
      case measure=>simp[intOf];omega
  . obtain rfl:N=j:=by omega
    have H:(l.length:Int)<=(N:Int):=by have:=v.o;omega
    go_wp2;go_ret;exact⟨rfl,d.o.1.congr λi g=>by rw[if_pos g],d.o.2⟩
theorem DK(w:World)(g N:Nat)(f:Option Addr)(n m r:Nat)(l:List Nat)(h:w.rowIs g 5 N (spF l))(d:Bs w f l)(B:n=l.length)(A:m=l.length)(p:N=l.length+64)(M:l.length+64<=281474976710656):
 Calls prog 70 #[.slice (some ⟨g,0,none⟩) n N,.slice f m r] w λx w'=>x=.returned (.bool true)/\Below w.heap.size w w':=by
 subst B A;have L:IntKind.i64.wrap ((l.length:Int)+64)=(N:Int):=by rw[iT (by omega) (by omega)];omega
 have s:=iJ (lh w (some ⟨g,0,none⟩) f l.length l.length N r l (Cm h (by omega) d.1 d.2.1) d rfl rfl)
 have y:=iJ h;have v:=iJ p;have J:N<=281474976710656:=by omega
 clear d h p;have I:(0:Int)<=(N:Int):=by omega
 go_enter func70,ntmps70;go_wp2_with fail
 refine s.o.mono ?_;rintro e H ⟨rfl,q⟩;go_wp2;go_loopw [6] (λi C=>∃j:Nat,l.length<=j/\j<=N/\i=.int .i64 j/\Below w.heap.size w C) (λi _=>N-(intOf i).toNat)
 case atStart=>exact⟨l.length,ai _,by have:=v.o;omega,rfl,q⟩
 case round=>
  clear q;obtain⟨j,K,G,rfl,hb⟩:=hrel;by_cases D:j<N
  . have E:(j:Int)<(N:Int):=by omega
    have k:=(ky y.o hb).cell D;unfold spF at k;rw[if_neg (by omega)] at k
    go_wp2;go_roundw
    case rel=>exact⟨j+1,by omega,by omega,by go_num,hb⟩
    case measure=>simp[intOf];omega
  . obtain rfl:N=j:=by omega
    go_wp2;go_ret;exact⟨rfl,hb⟩
end Go.Proofs.YtbdkogimlbnlmaaGreat
