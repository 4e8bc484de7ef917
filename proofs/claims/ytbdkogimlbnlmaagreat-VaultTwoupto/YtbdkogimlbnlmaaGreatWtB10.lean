import Derived.Test.YtbdkogimlbnlmaaGreatWtB9
set_option linter.unusedVariables false
set_option linter.unusedSimpArgs false
set_option maxHeartbeats 3200000
set_option maxRecDepth 8000
namespace Go.Proofs.YtbdkogimlbnlmaaGreat
open Go.RowKit
theorem dr1(w:World):Below w.heap.size w w.drew:=(Below.refl _ _).drew
theorem sZ(w0:World)(w:World)(kb e:Nat)(g g2:Nat)(cs cs2:Array Value)(h:Kt w0 kb w e)(hg:Bx w 31 g cs)(hg2:Bx w 51 g2 cs2)(ne:g≠kb)(ne2:g2≠kb)(wrong:Bool)(xi:Int)(hx:0<=xi):
 Calls Tryz.prog 179 #[.bool wrong,.int .i64 xi,.pointer (some ⟨kb,0,none⟩)] w λy w'=>y=.returned (.tuple #[])/\Kt w0 kb w' (tel e wrong xi.toNat)/\Bx w' 31 g cs/\Bx w' 51 g2 cs2:=by
 refine(no w0 w kb e 31 g cs h hg ne wrong xi xi.toNat (by omega)).mono ?_
 rintro y w' ⟨rfl,h1,h2,h3⟩;exact⟨rfl,h1,h2,hg2.but h3 ne2⟩
theorem mW(w:World)(cs cs2:Array Value):Bx ((w.alloc (.cells cs 31)).alloc (.cells cs2 51)) 51 (w.heap.size+1) cs2:=by
 have:=Bx.new (w.alloc (.cells cs 31)) 51 cs2;rwa [size_alloc] at this
def rj(kind:Int)(i:Nat)(x:It)(prev:List Nat):Nat:=
 if (if kind=2/\i=0 then decide (x.key.length=0) else decide (1<=x.key.length)&&decide (x.key.length<=24))=false then 7
 else if (decide (i=0)||decide (iP prev x.key<0))=false then 11 else if x.valOk kind=false then 8 else if x.kidOk kind=false then 15 else 0
theorem oV(p:Pg)(i:Nat):p.itemE i=rj p.kind i (p.at i) (p.at (i-1)).key:=by
 unfold Pg.itemE rj Pg.keyOk Pg.ordOk
 have h:decide (0<iP (p.at i).key (p.at (i-1)).key)=decide (iP (p.at (i-1)).key (p.at i).key<0):=by
  rw[sx (p.at (i-1)).key (p.at i).key,decide_eq_decide];omega
 rw[h]
theorem fin4(e:Nat)(k o v c:Bool):tel (tel (tel (tel e (!k) 7) (!o) 11) (!v) 8) (!c) 15=els e (if k=false then 7 else if o=false then 11 else if v=false then 8 else if c=false then 15 else 0):=by
 unfold tel els;by_cases he:e=0<;>cases k<;>cases o<;>cases v<;>cases c<;>simp[he]
theorem fin2(e:Nat)(k o v c:Bool):els (tel (tel e (!k) 7) (!o) 11) (if v=false then 8 else if c=false then 15 else 0)=els e (if k=false then 7 else if o=false then 11 else if v=false then 8 else if c=false then 15 else 0):=by
 unfold tel els;by_cases he:e=0<;>cases k<;>cases o<;>cases v<;>cases c<;>simp[he]
theorem vY(e i:Nat)(x:It)(prev:List Nat)(a b c d:Bool)(ha:a= !(if (2:Int)=2/\i=0 then decide (x.key.length=0) else decide (1<=x.key.length)&&decide (x.key.length<=24)))(hb:b= !(decide (i=0)||decide (iP prev x.key<0)))
 (hc:c= !(decide (x.val.length=0)&&decide (x.size=0))) (hd:d= !j6 x.child):tel (tel (tel (tel e a (Int.toNat 7)) b (Int.toNat 11)) c (Int.toNat 8)) d (Int.toNat 15)=els e (rj 2 i x prev):=by
 have hv:x.valOk 2=(decide (x.val.length=0)&&decide (x.size=0)):=by unfold It.valOk;rw[if_pos rfl]
 have hk:x.kidOk 2=j6 x.child:=by unfold It.kidOk;rw[if_neg (by simp)]
 rw[<-hv] at hc;rw[<-hk] at hd;rw[ha,hb,hc,hd];unfold rj;exact fin4 _ _ _ _ _
theorem tJ(e i:Nat)(x:It)(prev:List Nat)(a b:Bool)(ha:a= !(decide (1<=x.key.length)&&decide (x.key.length<=24)))(hb:b= !(decide (i=0)||decide (iP prev x.key<0))):
 els (tel (tel e a (Int.toNat 7)) b (Int.toNat 11)) x.leafE=els e (rj 1 i x prev):=by
 rw[ha,hb];unfold rj It.leafE;rw[if_neg (show ¬((1:Int)=2/\i=0) by simp)]
 exact fin2 _ _ _ _ _
theorem tO(w0 w:World)(kb e i:Nat)(p:Pv)(h:Kt w0 kb w e)(hP:Pi w0 p)(hi:i<p.items.length)(hk:p.kind=1)(h0:i=0):Calls Tryz.prog 158 #[p.vl,.int .i64 (i:Int),tv kb] w λx w'=>x=.returned (.tuple #[])/\Kt w0 kb w' (els e (p.pg.itemE i)):=by
 have hne:=mo h;have hlt:=h.c.lt;have hne2:w.heap.size+1≠kb:=by omega
 have hPa:=Pv.at p i;have hPb:=Pv.at p (i-1);obtain⟨bI,off,hbo,hr⟩:=(hP.it.keep (bt h.b (al w (.cells p.cs 31)))).at hi;have HI:=ig (hP.it.1 _ (iE hi));obtain⟨k0,k1,k2,k3⟩:=jc hr;rw[oV,hPa,hPb];clear hPa hPb;generalize hx:p.items.getD i Iv.zero=x at *;generalize hy:p.items.getD (i-1) Iv.zero=y at *;have H:=ig ((h.keep (al w (.cells p.cs 31))).keep (al _ (.cells x.cs 51)));have B:=ig ((Bx.new w 31 p.cs).keep (al _ (.cells x.cs 51)));have D:=ig (mW w p.cs x.cs);have TN:=ig λ(w1:World)(e:Nat)(hk:Kt w0 kb w1 e)(hB:Bx w1 31 w.heap.size p.cs)(hD:Bx w1 51 (w.heap.size+1) x.cs)(wrong:Bool)(xi:Int)(hx:0<=xi)=>sZ w0 w1 kb e w.heap.size (w.heap.size+1) p.cs x.cs hk hB hD hne hne2 wrong xi hx
 have CV:=ig λ(w1:World)(e:Nat)(hk:Kt w0 kb w1 e)=>jV w0 w1 kb e x hk
 have PG:=ig λ(w1:World)(hB:Bx w1 31 w.heap.size p.cs)=>Bx.page hB
 have PI:=ig λ(w1:World)(hB:Bx w1 51 (w.heap.size+1) x.cs)=>Bx.item hB
 have HL:=ig hP.ci;have HLN:=ig hP.it.2.1;clear h hr hP hx hy;obtain⟨kind,level,aI,cI,items,aD,cD,data,next⟩:=p
 obtain⟨aK,cK,key,aV,cV,val,child,size⟩:=x;unfold Pv.vl tv;simp only[Pv.cs,Iv.cs,Iv.vl,tv] at *;subst hbo hk;subst h0;have hiI:(0:Int)<(items.length:Int):=by omega
 simp only[dX,cE] at k0 k1 k2 k3;generalize y.key=yk at *;cases hkd:decide (((key.length:Nat):Int)<1)
 all_goals
  go_enter Tryz.func158,Tryz.ntmps158;go_wp2_with (first|(go_at_call 179;refine(TN.o _ _ H.o B.o D.o _ _ (by decide)).mono ?_;rintro y w1 ⟨rfl,hk,hb,hd⟩;have H:=ig hk;have B:=ig hb;have D:=ig hd;obtain⟨c0,c1,c2,c3,c4⟩:=PG.o _ hb;obtain⟨d0,d1,d2,d3⟩:=PI.o _ hd;clear hk hb hd)|(go_at_call 159;refine(iV _ _).mono ?_;rintro y w1 ⟨rfl,hww⟩;obtain rfl:=hww.symm)|(go_at_call 183;refine(CV.o _ _ H.o).mono ?_;rintro y w1 ⟨rfl,hk,_⟩;have H:=ig hk))
  have H:=ig (H.o.keep (dr1 _));have B:=ig (B.o.keep (dr1 _));have D:=ig (D.o.keep (dr1 _));have S1:True:=trivial;refine bu (S:=λw'=>True) (by kernel_rfl) (by exact S1) (λhHeld=>?_)
  refine tkd 0 1 2 3 ?_;refine tu 4 ?_;refine tu 5 ?_;refine tu 6 ?_;refine tu 7 ?_;refine tu 8 ?_;refine tu 9 ?_;refine tu 10 ?_;refine tu 11 ?_;refine tu 12 ?_;refine tu 13 ?_;refine tu 14 ?_;refine tk 15 ?_;refine tw 16 λK hK=>?_
  go_simp;refine(TN.o _ _ H.o B.o D.o _ _ (by decide)).mono ?_
  rintro y w1 ⟨rfl,hk,hb,hd⟩;have H:=ig hk;have B:=ig hb;have D:=ig hd;obtain⟨c0,c1,c2,c3,c4⟩:=PG.o _ hb;obtain⟨d0,d1,d2,d3⟩:=PI.o _ hd;clear hk hb hd;go_wp2_with fail
  refine hK.o _ _ (by exact S1) (λhHeld=>?_)
  clear hK K;try simp only[pt]
  refine td ?_;clear S1;go_wp2_with (first|(go_at_call 179;refine(TN.o _ _ H.o B.o D.o _ _ (by decide)).mono ?_;rintro y w1 ⟨rfl,hk,hb,hd⟩;have H:=ig hk;have B:=ig hb;have D:=ig hd;obtain⟨c0,c1,c2,c3,c4⟩:=PG.o _ hb;obtain⟨d0,d1,d2,d3⟩:=PI.o _ hd;clear hk hb hd)|(go_at_call 159;refine(iV _ _).mono ?_;rintro y w1 ⟨rfl,hww⟩;obtain rfl:=hww.symm)|(go_at_call 183;refine(CV.o _ _ H.o).mono ?_;rintro y w1 ⟨rfl,hk,_⟩;have H:=ig hk))
  all_goals ((first|go_end0|refine bU (eu rfl _ _ _) rfl ?_);refine⟨rfl,(aY (Kt w0 kb _) (tJ e 0 (Iv.it ⟨aK,cK,key,aV,cV,val,child,size⟩) yk _ _ ?_ ?_)).mp H.o⟩<;>clear H B D TN PG PI HI HL CV)
  all_goals (simp[Iv.it];try grind)
theorem uk(w0 w:World)(kb e i:Nat)(p:Pv)(h:Kt w0 kb w e)(hP:Pi w0 p)(hi:i<p.items.length)(hk:p.kind=1)(h0:i≠0):Calls Tryz.prog 158 #[p.vl,.int .i64 (i:Int),tv kb] w λx w'=>x=.returned (.tuple #[])/\Kt w0 kb w' (els e (p.pg.itemE i)):=by
 have hne:=mo h;have hlt:=h.c.lt;have hne2:w.heap.size+1≠kb:=by omega
 have hPa:=Pv.at p i;have hPb:=Pv.at p (i-1);obtain⟨bI,off,hbo,hr⟩:=(hP.it.keep (bt h.b (al w (.cells p.cs 31)))).at hi;have hi':i-1<p.items.length:=by omega
 have HJ:=ig (hP.it.1 _ (iE hi'));have HR:=ig λ(w1:World)(hb:Below w0.heap.size w0 w1)=>(show w1.cell? ⟨bI,off+(i-1)*4,none⟩=some (.slice (p.items.getD (i-1) Iv.zero).aK (p.items.getD (i-1) Iv.zero).key.length (p.items.getD (i-1) Iv.zero).cK) from by obtain⟨b2,o2,e2,r2⟩:=(hP.it.keep hb).at hi';rw[hbo] at e2;simp only[aE,Addr.mk.injEq,dL] at e2;obtain⟨rfl,rfl⟩:=e2;exact(jc r2).1)
 have HI:=ig (hP.it.1 _ (iE hi));obtain⟨k0,k1,k2,k3⟩:=jc hr;rw[oV,hPa,hPb];clear hPa hPb;generalize hx:p.items.getD i Iv.zero=x at *;generalize hy:p.items.getD (i-1) Iv.zero=y at *;have CM:=ig λ(w1:World)(hb:Below w0.heap.size w0 w1)=>oe w1 y.aK x.aK y.key.length y.cK x.key.length x.cK y.key x.key (HJ.o.bk.keep hb) (HI.o.bk.keep hb) rfl rfl
 have H:=ig ((h.keep (al w (.cells p.cs 31))).keep (al _ (.cells x.cs 51)));have B:=ig ((Bx.new w 31 p.cs).keep (al _ (.cells x.cs 51)));have D:=ig (mW w p.cs x.cs);have TN:=ig λ(w1:World)(e:Nat)(hk:Kt w0 kb w1 e)(hB:Bx w1 31 w.heap.size p.cs)(hD:Bx w1 51 (w.heap.size+1) x.cs)(wrong:Bool)(xi:Int)(hx:0<=xi)=>sZ w0 w1 kb e w.heap.size (w.heap.size+1) p.cs x.cs hk hB hD hne hne2 wrong xi hx
 have CV:=ig λ(w1:World)(e:Nat)(hk:Kt w0 kb w1 e)=>jV w0 w1 kb e x hk
 have PG:=ig λ(w1:World)(hB:Bx w1 31 w.heap.size p.cs)=>Bx.page hB
 have PI:=ig λ(w1:World)(hB:Bx w1 51 (w.heap.size+1) x.cs)=>Bx.item hB
 have HL:=ig hP.ci;have HLN:=ig hP.it.2.1;clear h hr hP hx hy;obtain⟨kind,level,aI,cI,items,aD,cD,data,next⟩:=p
 obtain⟨aK,cK,key,aV,cV,val,child,size⟩:=x;unfold Pv.vl tv;simp only[Pv.cs,Iv.cs,Iv.vl,tv] at *;subst hbo hk;have hiI:(i:Int)<(items.length:Int):=by omega
 have hip:decide ((0:Int)<(i:Int))=true:=by simp;omega
 have hi0:((i:Int)==0)=false:=by simpa using h0
 have hwj:IntKind.i64.wrap ((i:Int)-1)=((i-1:Nat):Int):=by have:=HLN.o;rw[iw (by omega) (by omega)];omega
 obtain⟨j,rfl⟩:∃j,i=j+1:=⟨i-1,by omega⟩
 rw[show j+1-1=j by omega] at HR hwj
 rw[show((j+1:Nat):Int)-1=(j:Int) by omega] at hwj
 have hiJ:(j:Int)<(items.length:Int):=by omega
 obtain⟨yaK,ycK,yk,yaV,ycV,yval,ychild,ysize⟩:=y;dsimp only at HR CM ⊢;generalize hz:iP yk key=z at *;have HZ:=ig hz;clear hz;cases hkd:decide (((key.length:Nat):Int)<1)
 all_goals
  go_enter Tryz.func158,Tryz.ntmps158;go_wp2_with (first|(go_at_call 179;refine(TN.o _ _ H.o B.o D.o _ _ (by decide)).mono ?_;rintro y w1 ⟨rfl,hk,hb,hd⟩;have H:=ig hk;have B:=ig hb;have D:=ig hd;obtain⟨c0,c1,c2,c3,c4⟩:=PG.o _ hb;obtain⟨d0,d1,d2,d3⟩:=PI.o _ hd;clear hk hb hd)|(go_at_call 159;refine(iV _ _).mono ?_;rintro y w1 ⟨rfl,hww⟩;obtain rfl:=hww.symm)|(go_at_call 183;refine(CV.o _ _ H.o).mono ?_;rintro y w1 ⟨rfl,hk,_⟩;have H:=ig hk))
  have H:=ig (H.o.keep (dr1 _));have B:=ig (B.o.keep (dr1 _));have D:=ig (D.o.keep (dr1 _));have S1:=And.intro (PG.o _ B.o).2.2.1 (And.intro (PI.o _ D.o).1 (HR.o _ H.o.b));refine bu (S:=λw'=>w'.cell? ⟨w.heap.size,2,none⟩=some (.slice (some ⟨bI,off,none⟩) items.length cI)/\w'.cell? ⟨w.heap.size+1,0,none⟩=some (.slice aK key.length cK)/\w'.cell? ⟨bI,off+j*4,none⟩=some (.slice yaK yk.length ycK)) (by kernel_rfl) (by exact S1) (λhHeld=>?_)
  refine tkd 0 1 2 3 ?_;refine tkd 4 5 6 7 ?_;refine tkd 8 9 10 11 ?_;refine tk 12 ?_;refine tw 13 λK hK=>?_
  go_simp;refine(CM.o _ H.o.b).mono ?_;rintro e w9 ⟨rfl,hw⟩;obtain rfl:=hw.symm;clear hw;go_wp2_with fail
  refine hK.o _ _ (by exact S1) (λhHeld=>?_)
  clear hK K;try simp only[pt]
  refine tkb 14 15 ?_;refine tw 16 λK hK=>?_
  go_simp;refine(TN.o _ _ H.o B.o D.o _ _ (by decide)).mono ?_
  rintro y w1 ⟨rfl,hk,hb,hd⟩;have H:=ig hk;have B:=ig hb;have D:=ig hd;obtain⟨c0,c1,c2,c3,c4⟩:=PG.o _ hb;obtain⟨d0,d1,d2,d3⟩:=PI.o _ hd;clear hk hb hd;have S1:=And.intro (PG.o _ B.o).2.2.1 (And.intro (PI.o _ D.o).1 (HR.o _ H.o.b));go_wp2_with fail
  refine hK.o _ _ (by exact S1) (λhHeld=>?_)
  clear hK K;try simp only[pt]
  refine td ?_;clear S1;go_wp2_with (first|(go_at_call 179;refine(TN.o _ _ H.o B.o D.o _ _ (by decide)).mono ?_;rintro y w1 ⟨rfl,hk,hb,hd⟩;have H:=ig hk;have B:=ig hb;have D:=ig hd;obtain⟨c0,c1,c2,c3,c4⟩:=PG.o _ hb;obtain⟨d0,d1,d2,d3⟩:=PI.o _ hd;clear hk hb hd)|(go_at_call 159;refine(iV _ _).mono ?_;rintro y w1 ⟨rfl,hww⟩;obtain rfl:=hww.symm)|(go_at_call 183;refine(CV.o _ _ H.o).mono ?_;rintro y w1 ⟨rfl,hk,_⟩;have H:=ig hk))
  all_goals ((first|go_end0|refine bU (eu rfl _ _ _) rfl ?_);refine⟨rfl,(aY (Kt w0 kb _) (tJ e (j+1) (Iv.it ⟨aK,cK,key,aV,cV,val,child,size⟩) yk _ _ ?_ ?_)).mp H.o⟩<;>clear H B D TN PG PI HI HL CV)
  all_goals (have HZ:=HZ.o;simp[Iv.it,HZ];try grind)
theorem um(w0 w:World)(kb e i:Nat)(p:Pv)(h:Kt w0 kb w e)(hP:Pi w0 p)(hi:i<p.items.length)(hk:p.kind=2)(h0:i=0):Calls Tryz.prog 158 #[p.vl,.int .i64 (i:Int),tv kb] w λx w'=>x=.returned (.tuple #[])/\Kt w0 kb w' (els e (p.pg.itemE i)):=by
 have hne:=mo h;have hlt:=h.c.lt;have hne2:w.heap.size+1≠kb:=by omega
 have hPa:=Pv.at p i;have hPb:=Pv.at p (i-1);obtain⟨bI,off,hbo,hr⟩:=(hP.it.keep (bt h.b (al w (.cells p.cs 31)))).at hi;have HI:=ig (hP.it.1 _ (iE hi));obtain⟨k0,k1,k2,k3⟩:=jc hr;rw[oV,hPa,hPb];clear hPa hPb;generalize hx:p.items.getD i Iv.zero=x at *;generalize hy:p.items.getD (i-1) Iv.zero=y at *;have H:=ig ((h.keep (al w (.cells p.cs 31))).keep (al _ (.cells x.cs 51)));have B:=ig ((Bx.new w 31 p.cs).keep (al _ (.cells x.cs 51)));have D:=ig (mW w p.cs x.cs);have TN:=ig λ(w1:World)(e:Nat)(hk:Kt w0 kb w1 e)(hB:Bx w1 31 w.heap.size p.cs)(hD:Bx w1 51 (w.heap.size+1) x.cs)(wrong:Bool)(xi:Int)(hx:0<=xi)=>sZ w0 w1 kb e w.heap.size (w.heap.size+1) p.cs x.cs hk hB hD hne hne2 wrong xi hx
 have CV:=ig λ(w1:World)(e:Nat)(hk:Kt w0 kb w1 e)=>jV w0 w1 kb e x hk
 have PG:=ig λ(w1:World)(hB:Bx w1 31 w.heap.size p.cs)=>Bx.page hB
 have PI:=ig λ(w1:World)(hB:Bx w1 51 (w.heap.size+1) x.cs)=>Bx.item hB
 have HL:=ig hP.ci;have HLN:=ig hP.it.2.1;clear h hr hP hx hy;obtain⟨kind,level,aI,cI,items,aD,cD,data,next⟩:=p
 obtain⟨aK,cK,key,aV,cV,val,child,size⟩:=x;unfold Pv.vl tv;simp only[Pv.cs,Iv.cs,Iv.vl,tv] at *;subst hbo hk;subst h0;have hiI:(0:Int)<(items.length:Int):=by omega
 simp only[dX,cE] at k0 k1 k2 k3;generalize y.key=yk at *;clear CV;generalize hvn:val.length=vn at *;have HVN:=ig hvn;clear hvn;by_cases hv0:vn=0
 all_goals
  first
  |subst hv0
  |have hvd:decide ((0:Int)<(vn:Int))=true:=by simp;omega
  go_enter Tryz.func158,Tryz.ntmps158;go_wp2_with (first|(go_at_call 179;refine(TN.o _ _ H.o B.o D.o _ _ (by decide)).mono ?_;rintro y w1 ⟨rfl,hk,hb,hd⟩;have H:=ig hk;have B:=ig hb;have D:=ig hd;obtain⟨c0,c1,c2,c3,c4⟩:=PG.o _ hb;obtain⟨d0,d1,d2,d3⟩:=PI.o _ hd;clear hk hb hd)|(go_at_call 159;refine(iV _ _).mono ?_;rintro y w1 ⟨rfl,hww⟩;obtain rfl:=hww.symm)|(go_at_call 183;refine(CV.o _ _ H.o).mono ?_;rintro y w1 ⟨rfl,hk,_⟩;have H:=ig hk))
  have H:=ig (H.o.keep (dr1 _));have B:=ig (B.o.keep (dr1 _));have D:=ig (D.o.keep (dr1 _));have S1:True:=trivial;refine bu (S:=λw'=>True) (by kernel_rfl) (by exact S1) (λhHeld=>?_)
  refine tkd 0 1 2 3 ?_;refine tu 4 ?_;refine tu 5 ?_;refine tu 6 ?_;refine tu 7 ?_;refine tu 8 ?_;refine tu 9 ?_;refine tu 10 ?_;refine tu 11 ?_;refine tu 12 ?_;refine tu 13 ?_;refine tu 14 ?_;refine tk 15 ?_;refine tw 16 λK hK=>?_
  go_simp;refine(TN.o _ _ H.o B.o D.o _ _ (by decide)).mono ?_
  rintro y w1 ⟨rfl,hk,hb,hd⟩;have H:=ig hk;have B:=ig hb;have D:=ig hd;obtain⟨c0,c1,c2,c3,c4⟩:=PG.o _ hb;obtain⟨d0,d1,d2,d3⟩:=PI.o _ hd;clear hk hb hd;go_wp2_with fail
  refine hK.o _ _ (by exact S1) (λhHeld=>?_)
  clear hK K;try simp only[pt]
  refine td ?_;clear S1;go_wp2_with (first|(go_at_call 179;refine(TN.o _ _ H.o B.o D.o _ _ (by decide)).mono ?_;rintro y w1 ⟨rfl,hk,hb,hd⟩;have H:=ig hk;have B:=ig hb;have D:=ig hd;obtain⟨c0,c1,c2,c3,c4⟩:=PG.o _ hb;obtain⟨d0,d1,d2,d3⟩:=PI.o _ hd;clear hk hb hd)|(go_at_call 159;refine(iV _ _).mono ?_;rintro y w1 ⟨rfl,hww⟩;obtain rfl:=hww.symm)|(go_at_call 183;refine(CV.o _ _ H.o).mono ?_;rintro y w1 ⟨rfl,hk,_⟩;have H:=ig hk))
  all_goals ((first|go_end0|refine bU (eu rfl _ _ _) rfl ?_);have HV:=HVN.o;refine⟨rfl,(aY (Kt w0 kb _) (vY e 0 (Iv.it ⟨aK,cK,key,aV,cV,val,child,size⟩) yk _ _ _ _ ?_ ?_ ?_ ?_)).mp H.o⟩<;>clear H B D TN PG PI HI HL<;>have hkl:(0<key.length)=¬key=[]:=(by rw[bN]))
  all_goals (simp[Iv.it];try grind)
theorem ua(w0 w:World)(kb e i:Nat)(p:Pv)(h:Kt w0 kb w e)(hP:Pi w0 p)(hi:i<p.items.length)(hk:p.kind=2)(h0:i≠0):Calls Tryz.prog 158 #[p.vl,.int .i64 (i:Int),tv kb] w λx w'=>x=.returned (.tuple #[])/\Kt w0 kb w' (els e (p.pg.itemE i)):=by
 have hne:=mo h;have hlt:=h.c.lt;have hne2:w.heap.size+1≠kb:=by omega
 have hPa:=Pv.at p i;have hPb:=Pv.at p (i-1);obtain⟨bI,off,hbo,hr⟩:=(hP.it.keep (bt h.b (al w (.cells p.cs 31)))).at hi;have hi':i-1<p.items.length:=by omega
 have HJ:=ig (hP.it.1 _ (iE hi'));have HR:=ig λ(w1:World)(hb:Below w0.heap.size w0 w1)=>(show w1.cell? ⟨bI,off+(i-1)*4,none⟩=some (.slice (p.items.getD (i-1) Iv.zero).aK (p.items.getD (i-1) Iv.zero).key.length (p.items.getD (i-1) Iv.zero).cK) from by obtain⟨b2,o2,e2,r2⟩:=(hP.it.keep hb).at hi';rw[hbo] at e2;simp only[aE,Addr.mk.injEq,dL] at e2;obtain⟨rfl,rfl⟩:=e2;exact(jc r2).1)
 have HI:=ig (hP.it.1 _ (iE hi));obtain⟨k0,k1,k2,k3⟩:=jc hr;rw[oV,hPa,hPb];clear hPa hPb;generalize hx:p.items.getD i Iv.zero=x at *;generalize hy:p.items.getD (i-1) Iv.zero=y at *;have CM:=ig λ(w1:World)(hb:Below w0.heap.size w0 w1)=>oe w1 y.aK x.aK y.key.length y.cK x.key.length x.cK y.key x.key (HJ.o.bk.keep hb) (HI.o.bk.keep hb) rfl rfl
 have H:=ig ((h.keep (al w (.cells p.cs 31))).keep (al _ (.cells x.cs 51)));have B:=ig ((Bx.new w 31 p.cs).keep (al _ (.cells x.cs 51)));have D:=ig (mW w p.cs x.cs);have TN:=ig λ(w1:World)(e:Nat)(hk:Kt w0 kb w1 e)(hB:Bx w1 31 w.heap.size p.cs)(hD:Bx w1 51 (w.heap.size+1) x.cs)(wrong:Bool)(xi:Int)(hx:0<=xi)=>sZ w0 w1 kb e w.heap.size (w.heap.size+1) p.cs x.cs hk hB hD hne hne2 wrong xi hx
 have CV:=ig λ(w1:World)(e:Nat)(hk:Kt w0 kb w1 e)=>jV w0 w1 kb e x hk
 have PG:=ig λ(w1:World)(hB:Bx w1 31 w.heap.size p.cs)=>Bx.page hB
 have PI:=ig λ(w1:World)(hB:Bx w1 51 (w.heap.size+1) x.cs)=>Bx.item hB
 have HL:=ig hP.ci;have HLN:=ig hP.it.2.1;clear h hr hP hx hy;obtain⟨kind,level,aI,cI,items,aD,cD,data,next⟩:=p
 obtain⟨aK,cK,key,aV,cV,val,child,size⟩:=x;unfold Pv.vl tv;simp only[Pv.cs,Iv.cs,Iv.vl,tv] at *;subst hbo hk;have hiI:(i:Int)<(items.length:Int):=by omega
 have hip:decide ((0:Int)<(i:Int))=true:=by simp;omega
 have hi0:((i:Int)==0)=false:=by simpa using h0
 have hwj:IntKind.i64.wrap ((i:Int)-1)=((i-1:Nat):Int):=by have:=HLN.o;rw[iw (by omega) (by omega)];omega
 obtain⟨j,rfl⟩:∃j,i=j+1:=⟨i-1,by omega⟩
 rw[show j+1-1=j by omega] at HR hwj
 rw[show((j+1:Nat):Int)-1=(j:Int) by omega] at hwj
 have hiJ:(j:Int)<(items.length:Int):=by omega
 obtain⟨yaK,ycK,yk,yaV,ycV,yval,ychild,ysize⟩:=y;dsimp only at HR CM ⊢;generalize hz:iP yk key=z at *;have HZ:=ig hz;clear hz;clear CV;generalize hvn:val.length=vn at *;have HVN:=ig hvn;clear hvn;cases hkd:decide (((key.length:Nat):Int)<1)
 all_goals
  by_cases hv0:vn=0
  all_goals
   first
   |subst hv0
   |have hvd:decide ((0:Int)<(vn:Int))=true:=by simp;omega
   go_enter Tryz.func158,Tryz.ntmps158;go_wp2_with (first|(go_at_call 179;refine(TN.o _ _ H.o B.o D.o _ _ (by decide)).mono ?_;rintro y w1 ⟨rfl,hk,hb,hd⟩;have H:=ig hk;have B:=ig hb;have D:=ig hd;obtain⟨c0,c1,c2,c3,c4⟩:=PG.o _ hb;obtain⟨d0,d1,d2,d3⟩:=PI.o _ hd;clear hk hb hd)|(go_at_call 159;refine(iV _ _).mono ?_;rintro y w1 ⟨rfl,hww⟩;obtain rfl:=hww.symm)|(go_at_call 183;refine(CV.o _ _ H.o).mono ?_;rintro y w1 ⟨rfl,hk,_⟩;have H:=ig hk))
   have H:=ig (H.o.keep (dr1 _));have B:=ig (B.o.keep (dr1 _));have D:=ig (D.o.keep (dr1 _));have S1:=And.intro (PG.o _ B.o).2.2.1 (And.intro (PI.o _ D.o).1 (HR.o _ H.o.b));refine bu (S:=λw'=>w'.cell? ⟨w.heap.size,2,none⟩=some (.slice (some ⟨bI,off,none⟩) items.length cI)/\w'.cell? ⟨w.heap.size+1,0,none⟩=some (.slice aK key.length cK)/\w'.cell? ⟨bI,off+j*4,none⟩=some (.slice yaK yk.length ycK)) (by kernel_rfl) (by exact S1) (λhHeld=>?_)
   refine tkd 0 1 2 3 ?_;refine tkd 4 5 6 7 ?_;refine tkd 8 9 10 11 ?_;refine tk 12 ?_;refine tw 13 λK hK=>?_
   go_simp;refine(CM.o _ H.o.b).mono ?_;rintro e w9 ⟨rfl,hw⟩;obtain rfl:=hw.symm;clear hw;go_wp2_with fail
   refine hK.o _ _ (by exact S1) (λhHeld=>?_)
   clear hK K;try simp only[pt]
   refine tkb 14 15 ?_;refine tw 16 λK hK=>?_
   go_simp;refine(TN.o _ _ H.o B.o D.o _ _ (by decide)).mono ?_
   rintro y w1 ⟨rfl,hk,hb,hd⟩;have H:=ig hk;have B:=ig hb;have D:=ig hd;obtain⟨c0,c1,c2,c3,c4⟩:=PG.o _ hb;obtain⟨d0,d1,d2,d3⟩:=PI.o _ hd;clear hk hb hd;have S1:=And.intro (PG.o _ B.o).2.2.1 (And.intro (PI.o _ D.o).1 (HR.o _ H.o.b));go_wp2_with fail
   refine hK.o _ _ (by exact S1) (λhHeld=>?_)
   clear hK K;try simp only[pt]
   refine td ?_;clear S1;go_wp2_with (first|(go_at_call 179;refine(TN.o _ _ H.o B.o D.o _ _ (by decide)).mono ?_;rintro y w1 ⟨rfl,hk,hb,hd⟩;have H:=ig hk;have B:=ig hb;have D:=ig hd;obtain⟨c0,c1,c2,c3,c4⟩:=PG.o _ hb;obtain⟨d0,d1,d2,d3⟩:=PI.o _ hd;clear hk hb hd)|(go_at_call 159;refine(iV _ _).mono ?_;rintro y w1 ⟨rfl,hww⟩;obtain rfl:=hww.symm)|(go_at_call 183;refine(CV.o _ _ H.o).mono ?_;rintro y w1 ⟨rfl,hk,_⟩;have H:=ig hk))
   all_goals ((first|go_end0|refine bU (eu rfl _ _ _) rfl ?_);have HV:=HVN.o;refine⟨rfl,(aY (Kt w0 kb _) (vY e (j+1) (Iv.it ⟨aK,cK,key,aV,cV,val,child,size⟩) yk _ _ _ _ ?_ ?_ ?_ ?_)).mp H.o⟩<;>clear H B D TN PG PI HI HL<;>have hkl:(0<key.length)=¬key=[]:=(by rw[bN]))
   all_goals (have HZ:=HZ.o;simp[Iv.it,HZ];try grind)
end Go.Proofs.YtbdkogimlbnlmaaGreat
namespace Go.Proofs.YtbdkogimlbnlmaaGreat
theorem sS(w0 w:World)(kb e i:Nat)(p:Pv)(h:Kt w0 kb w e)(hP:Pi w0 p)(hi:i<p.items.length)(hk:p.kind=1\/p.kind=2):Calls Tryz.prog 158 #[p.vl,.int .i64 (i:Int),tv kb] w λx w'=>x=.returned (.tuple #[])/\Kt w0 kb w' (els e (p.pg.itemE i)):=by
 by_cases h0:i=0
 . rcases hk with hk|hk
   . exact tO w0 w kb e i p h hP hi hk h0
   . exact um w0 w kb e i p h hP hi hk h0
 . rcases hk with hk|hk
   . exact uk w0 w kb e i p h hP hi hk h0
   . exact ua w0 w kb e i p h hP hi hk h0
end Go.Proofs.YtbdkogimlbnlmaaGreat
namespace Go.Proofs.YtbdkogimlbnlmaaGreat
open Go.RowKit
variable {l:List Int}{cap:Nat}{a:Option Addr}{p:Pg}{w w' wx wy:World}
theorem qP(h:p.formE≠0):p.check=p.formE:=by
 unfold Pg.check Pg.formE at *;split
 . rfl
 . rename_i h1;rw[if_neg h1] at h;split
   . rfl
   . rename_i h2;rw[if_neg h2] at h;exact absurd rfl h
theorem jd(h:p.formE=0):p.kindOk=true/\p.form=true:=by
 unfold Pg.formE at h;cases hk:p.kindOk<;>cases hf:p.form<;>simp[hk,hf] at h ⊢
theorem AK(h:p.formE=0):p.check=tel (iU p.itemE p.items.length) (decide (p.next≠0)&& !j6 p.next) 15:=by
 obtain⟨h1,h2⟩:=jd h;unfold Pg.check tel;rw[if_neg (by rw[h1];simp),if_neg (by rw[h2];simp)]
 by_cases he:iU p.itemE p.items.length=0
 . rw[if_neg (by rw[he];simp),he]
   unfold Pg.nextOk
   have hn:p.kind≠3->p.next=0:=by
    intro hk;unfold Pg.form at h2;rw[if_neg hk] at h2;simp at h2;exact h2.1.1.2
   by_cases hk:p.kind=3
   . simp[hk]
   . simp[hk,hn hk]
 . rw[if_pos he,if_neg (by simp[he])]
theorem lY(f:Nat->Nat)(n:Nat):iU f (n+1)=els (iU f n) (f n):=rfl
theorem FD(h:p.formE=0)(hi:0<p.items.length):p.kind=1\/p.kind=2:=by
 obtain⟨h1,h2⟩:=jd h;rcases Pg.kindOk_iff.1 h1 with h|h|h
 . exact .inl h
 . exact .inr h
 . unfold Pg.form at h2;rw[if_pos h] at h2;simp at h2;rw[h2.1.1.2] at hi;simp at hi
theorem rY(w:World)(p:Pv)(hP:Pi w p):Calls Tryz.prog 124 #[p.vl] w λe w'=>e=.returned (.int .i64 (p.pg.check:Int))/\Below w.heap.size w w':=by
 have HP:=ig (hP.keep (al w (.cells p.cs 31)));have hin:p.items.length<=9223372036854775807:=by have:=hP.it.2.1;omega
 have B0:=ig (Bx.new w 31 p.cs);have hsz:=size_alloc w (.cells p.cs 31);have HW:=ig (al w (.cells p.cs 31));obtain⟨v,hv⟩:∃v,w.alloc (.cells p.cs 31)=v:=⟨_,rfl⟩;rw[hv] at HP B0 hsz HW;have hne:w.heap.size≠v.heap.size:=by omega
 have FA:=ig (x9 v);have H0:Hid (Kt v v.heap.size (v.alloc (.cells #[.int .i64 0] 42)) 0):=⟨Bx.new v 42 #[.int .i64 0],al _ _,ai _⟩;have TN:=ig λ(w1:World)(e:Nat)(hk:Kt v v.heap.size w1 e)(wrong:Bool)(xi:Int)(hx:0<=xi)=>no v w1 v.heap.size e 31 w.heap.size p.cs hk (B0.o.keep hk.b) hne wrong xi xi.toNat (by omega)
 have CF:=ig λ(w1:World)(hk:Kt v v.heap.size w1 0)=>sR v w1 v.heap.size p hk
 have CI:=ig λ(w1:World)(e i:Nat)(hk:Kt v v.heap.size w1 e)(hi:i<p.items.length)(hkd:p.kind=1\/p.kind=2)=>sS v w1 v.heap.size e i p hk HP.o hi hkd
 have PG:=ig λ(w1:World)(hb:Below v.heap.size v w1)=>Bx.page (B0.o.keep hb)
 have HF:=ig (λh:p.pg.formE≠0=>qP h)
 have HO:=ig (λh:p.pg.formE=0=>AK h)
 have HK:=ig (λ(h:p.pg.formE=0)(hi:0<p.pg.items.length)=>FD h hi)
 have HS:=ig λn=>lY p.pg.itemE n
 have hpl:p.pg.items.length=p.items.length:=by simp[Pv.pg]
 have hpn:p.pg.next=p.next:=rfl;have hpk:p.pg.kind=p.kind:=rfl;rw[hpl,hpn] at HO;rw[hpl,hpk] at HK;clear hpl hpn hpk hP;generalize p.pg.check=ans at *;generalize p.pg.formE=fe at *;generalize p.pg.itemE=f at *;obtain⟨kind,level,aI,cI,items,aD,cD,data,next⟩:=p
 unfold Pv.vl;simp only[Pv.cs,Pv.vl,tv,fv] at *;generalize hvb:v.heap.size=kb at *;have HVB:=ig hvb;rw[<-hvb] at PG;clear hvb;by_cases hfe:fe=0
 . subst hfe;obtain rfl:=HO.o rfl;clear HF HO;have HK2:Hid (0<items.length->kind=1\/kind=2):=λh=>HK.o rfl h
   go_enter Tryz.func124,Tryz.ntmps124;go_wp2_with fail
   refine FA.o.mono ?_;rintro y w1 ⟨rfl,hw⟩;obtain rfl:=hw.symm;clear hv hsz hw FA;obtain⟨b0,b1,b2,b3,b4⟩:=PG.o _ (al v (.cells #[.int .i64 0] 42));go_wp2_with (first|(go_at_call 157;refine(CF.o _ H0.o).mono ?_;rintro y w1 ⟨rfl,hk⟩;have H:=ig hk;obtain⟨c0,c1,c2,c3,c4⟩:=PG.o _ hk.b;clear hk)|(go_at_call 180;refine(lS _ _ _ H.o.c).mono ?_;rintro y w2 ⟨rfl,hw⟩;obtain rfl:=hw.symm))
   go_loopw [6,22] (λ_ i wx=>∃k:Nat,k<=items.length/\i=.int .i64 k/\Hid (Kt v kb wx (iU f k))) (λ_ i _=>items.length-(intOf i).toNat)
   case atStart=>exact⟨0,aF _,rfl,H.o⟩
   case round=>
    obtain⟨k,hk,rfl,H⟩:=hrel;obtain⟨c0,c1,c2,c3,c4⟩:=PG.o _ H.o.b;by_cases hlt:k<items.length
    . have hlti:(k:Int)<(items.length:Int):=by omega
      have hj1:=w64 (j:=k) (by omega)
      go_wp2_with fail
      refine(CI.o _ _ k H.o hlt (HK2.o (by omega))).mono ?_
      rintro y w1 ⟨rfl,hk1⟩;have H:=ig hk1;clear hk1;go_wp2;go_roundw
      case rel=>exact⟨k+1,by omega,by first|(go_num;done)|exact aY (Value.int IntKind.i64) (by omega),by rw[HS.o];exact H.o⟩
      case measure=>first|exact iF _ _ _ hj1 hlt|exact iF _ _ _ rfl hlt|(simp[intOf];omega)
    . obtain rfl:k=items.length:=by omega
      by_cases hn0:next=0
      . subst hn0;go_wp2_with (first|(go_at_call 179;refine(TN.o _ _ H.o _ _ (by decide)).mono ?_;rintro y w1 ⟨rfl,hk1,_,_⟩;have H:=ig hk1;clear hk1)|(go_at_call 180;refine(lS _ _ _ H.o.c).mono ?_;rintro y w2 ⟨rfl,hw⟩;obtain rfl:=hw.symm))
        go_ret;exact⟨by simp,bt HW.o H.o.b⟩
      . have hn0':(next==0)=false:=by simpa using hn0
        go_wp2_with (first|(go_at_call 159;refine(iV _ _).mono ?_;rintro y w1 ⟨rfl,hww⟩;obtain rfl:=hww.symm)|(go_at_call 179;refine(TN.o _ _ H.o _ _ (by decide)).mono ?_;rintro y w1 ⟨rfl,hk1,_,_⟩;have H:=ig hk1;clear hk1)|(go_at_call 180;refine(lS _ _ _ H.o.c).mono ?_;rintro y w2 ⟨rfl,hw⟩;obtain rfl:=hw.symm))
        go_ret;exact⟨by simp[bne,hn0',hn0],bt HW.o H.o.b⟩
 . have hfe':(((fe:Nat):Int)==0)=false:=by simpa using hfe
   obtain rfl:=HF.o hfe;clear HO;go_enter Tryz.func124,Tryz.ntmps124;go_wp2_with fail
   refine FA.o.mono ?_;rintro y w1 ⟨rfl,hw⟩;obtain rfl:=hw.symm;clear hv hsz hw FA;obtain⟨b0,b1,b2,b3,b4⟩:=PG.o _ (al v (.cells #[.int .i64 0] 42));go_wp2_with (first|(go_at_call 157;refine(CF.o _ H0.o).mono ?_;rintro y w1 ⟨rfl,hk⟩;have H:=ig hk;obtain⟨c0,c1,c2,c3,c4⟩:=PG.o _ hk.b;clear hk)|(go_at_call 180;refine(lS _ _ _ H.o.c).mono ?_;rintro y w2 ⟨rfl,hw⟩;obtain rfl:=hw.symm))
   go_ret;exact⟨rfl,bt HW.o H.o.b⟩
theorem ms{T:Nat->Prop}{e s n:Nat}{m c:Nat}{C:List Value}(h:w.ownsRow 0 e s (.slice a m c) n C)(hb:But T w w')(hn:∀x,a=some x->¬T x.block):w'.ownsRow 0 e s (.slice a m c) n C:=by
 obtain⟨h1,h2⟩:=h;refine⟨h1,?_⟩;rcases h2 with⟨hv,h0⟩|⟨g,cap',cur,hv,h3,hg,hr⟩
 . exact .inl ⟨hv,h0⟩
 . simp only[bE] at hv;exact .inr ⟨g,cap',cur,by simp only[bE];exact hv,h3,(hb.block g (af.1 hg).1 (hn _ hv.1)).trans hg,hr⟩
def vi(l:List Int):List Value:=l.map λx=>Value.int .i64 x
theorem oB(a b:List Int):vi (a++b)=vi a++vi b:=by unfold vi;rw[bL]
theorem nU(l:List Int)(i:Nat)(hi:i<l.length):(vi l)[i]?=some (.int .i64 (l.getD i 0)):=by simp[vi,hi]
def Ig(w:World)(a:Option Addr)(cap:Nat)(l:List Int):Prop:=w.ownsRow 0 3 1 (.slice a l.length cap) l.length (vi l)
theorem mz:(Tryz.prog.info? 3).map (λi=>(i.zero,i.size,i.bytes))=some (some (.int .i64 0),1,8):=by kernel_rfl
theorem Ig.nil(w:World):Ig w none 0 []:=e7 w 0 3 1
theorem Ig.keep(h:Ig w a cap l)(hb:Below w.heap.size w w'):Ig w' a cap l:=ms (T:=λ_=>False) h (But.ofBelow hb) (λ_ _ h=>h)
def Ir(w:World)(a:Option Addr)(l:List Int):Prop:=l=[]\/∃b off,a=some ⟨b,off,none⟩/\∀i,i<l.length->w.cell? ⟨b,off+i,none⟩=some (.int .i64 (l.getD i 0))
theorem Ig.but{S:Nat->Prop}(h:Ig w a cap l)(hb:But S w w')(hn:∀x,a=some x->¬S x.block):Ig w' a cap l:=ms h hb hn
theorem Ir.at(h:Ir w a l){j:Nat}(hj:j<l.length):∃b off,a=some ⟨b,off,none⟩/\w.cell? ⟨b,off+j,none⟩=some (.int .i64 (l.getD j 0)):=by
 rcases h with rfl|⟨b,off,rfl,hc⟩
 . simp at hj
 . exact⟨b,off,rfl,hc j hj⟩
theorem Ig.ir(h:Ig w a cap l):Ir w a l:=by
 obtain⟨_,h2⟩:=h;rcases h2 with⟨_,h0⟩|⟨g,cap',cur,hv,h3,hg,hn,hm,hs,ht⟩
 . exact .inl (bY.1 h0)
 . simp only[bE] at hv;obtain⟨e1,_,rfl⟩:=hv;refine .inr ⟨g,0,e1,λi hi=>?_⟩
   rw[bH,au _ _ _ _ _ _ hg,<-nU l i hi,<-ht,cw,if_pos (by omega)]
   simp
theorem ri(w:World)(ty:TypeId)(a:Option Addr)(n cap:Nat)(l:List Int)(hn:n=l.length)(hR:Ig w a cap l)(ad:Addr)(c:Nat)(x:Int)(hc:w.cell? ad=some (.int .i64 x))(hlen:l.length+1<=17592186044416):
 ∃g cap' w',(Builtin.append_ #[35,35] ty #[.slice a n cap,.slice (some ad) 1 c]).run Tryz.prog w=.ok (.slice (some ⟨g,0,none⟩) (n+1) cap') w'/\
  Ig w' (some ⟨g,0,none⟩) cap' (l++[x])/\New w a (some ⟨g,0,none⟩)/\w.grownBy w' (a.map Addr.block)/\g<w'.heap.size:=by
 subst hn;obtain⟨i0,hi,hz0,hz1,hz2⟩:=dc mz
 obtain⟨g,cap',w',hr,h1,h2,h3,h4⟩:=dE (P:=Tryz.prog) w 35 ty 0 3 i0 (.int .i64 0) 1 8 Tryz.underlying35 hi hz0 hz1 hz2 rfl (by decide) (.slice a l.length cap) l.length (vi l) hR ad 1 c [.int .i64 x] rfl
  (by intro j u hj
      match j,hj with
      |0,hj=>simp at hj;subst hj;simpa[Addr.add] using hc) (by intro u hu;simp at hu;subst hu;rfl) (by decide) (by unfold maxLen;omega) (by omega) (aF _) w.heap.size rfl
 rw[jN] at h2 h3;refine⟨g,cap',w',hr,?_,?_,h2,h4⟩
 . unfold Ig;rw[oB,ae];exact h1
 . intro y hy;simp only[aE] at hy;subst hy;rcases h3 with h3|h3
   . obtain⟨z,hz,e⟩:=map_some h3;exact .inl ⟨z,hz,e⟩
   . exact .inr (by show _<=g;omega)
theorem tL{w:World}{o:Oper}{a:Act}{K:Act->World->Prop}{Q:Exit->Act->World->Prop}(s x:Operand)
 (ho:o.op=.call {callee:=.builtin .append,args:=#[s,x],argTypes:=#[35,35]}) (ao:Option Addr) (n cap:Nat) (l:List Int) (hs:a.eval s=.slice ao n cap) (hn:n=l.length) (hR:Ig w ao cap l)
 (ad:Addr) (c:Nat) (xx:Int) (hx:a.eval x=.slice (some ad) 1 c) (hc:w.cell? ad=some (.int .i64 xx)) (hlen:l.length+1<=17592186044416)
 (h:∀g cap' w',Ig w' (some ⟨g,0,none⟩) cap' (l++[xx])->New w ao (some ⟨g,0,none⟩)->w.grownBy w' (ao.map Addr.block)->g<w'.heap.size->K (a.put o.dst (.slice (some ⟨g,0,none⟩) (n+1) cap')) w'):o.wp Tryz.prog a w K Q:=by
 obtain⟨g,cap',w',hr,h1,h2,h3,h4⟩:=ri w o.type ao n cap l hn hR ad c xx hc hlen;unfold Oper.wp execOp;simp only[ho,resolve,invoke,builtin,dt,du,bO,cJ,bC,cZ,hs,hx,hr];exact h g cap' w' h1 h2 h3 h4
theorem ji{w:World}{ops:Array Oper}{rest:List Oper}{o:Oper}{a:Act}{Q:Exit->Act->World->Prop}(hgd:o.guard=none)(s x:Operand)
 (ho:o.op=.call {callee:=.builtin .append,args:=#[s,x],argTypes:=#[35,35]}) (ao:Option Addr) (n cap:Nat) (l:List Int) (hs:a.eval s=.slice ao n cap) (hn:n=l.length) (hR:Ig w ao cap l)
 (ad:Addr) (c:Nat) (xx:Int) (hx:a.eval x=.slice (some ad) 1 c) (hc:w.cell? ad=some (.int .i64 xx)) (hlen:l.length+1<=17592186044416)
 (h:∀g cap' w',Ig w' (some ⟨g,0,none⟩) cap' (l++[xx])->New w ao (some ⟨g,0,none⟩)->w.grownBy w' (ao.map Addr.block)->g<w'.heap.size->wpList Tryz.prog ops Q rest (a.put o.dst (.slice (some ⟨g,0,none⟩) (n+1) cap')) w'):wpList Tryz.prog ops Q (o::rest) a w:=
 eH hgd λ_ hK=>tL s x ho ao n cap l hs hn hR ad c xx hx hc hlen λg cap' w' h1 h2 h3 h4=>hK _ _ (h g cap' w' h1 h2 h3 h4)
structure IOwn(w wx:World)(a:Option Addr)(cap:Nat)(l:List Int):Prop where
 r:Ig wx a cap l
 n:New w none a
 b:Below w.heap.size w wx
theorem IOwn.keep(h:IOwn w wx a cap l)(hb:Below wx.heap.size wx wy):IOwn w wy a cap l:=⟨h.r.keep hb,h.n,bt h.b hb⟩
theorem IOwn.step{w1:World}{a':Option Addr}{cap':Nat}{l':List Int}(h:IOwn w wx a cap l)(hb:Below wx.heap.size wx w1)(hR:Ig wy a' cap' l')(hN:New w1 a a')(hg:w1.grownBy wy (a.map Addr.block)):IOwn w wy a' cap' l':=by
 refine⟨hR,h.n.trans hN (aO h.b.size hb.size),?_⟩;have h1:=bt h.b hb
 have hh:But (λ_=>False) w wy:=(But.ofBelow h1).grown hg λk hk hlt=>by
  obtain⟨y,hy,e⟩:=map_some hk;rcases h.n y hy with⟨z,hz,_⟩|h2
  . cases hz
  . omega
 exact hh.below λ_ _ h=>h
def iN(kind:Int)(L:List Iv):List Int:=if kind=2 then L.map Iv.child else (L.map Iv.child).filter (λc=>decide (c≠0))
theorem kN(kind:Int)(L:List Iv)(k:Nat)(hk:k<L.length):iN kind (L.take (k+1))=iN kind (L.take k)++(if kind=2\/(L.getD k Iv.zero).child≠0 then [(L.getD k Iv.zero).child] else []):=by
 have e:L.getD k Iv.zero=L[k]:=by simp[hk]
 unfold iN;rw[dQ hk,e];by_cases h2:kind=2
 . rw[if_pos h2,if_pos h2,if_pos (.inl h2),bL];rfl
 . rw[if_neg h2,if_neg h2,bL,fN];by_cases h0:L[k].child=0
   . rw[if_neg (by simp[h2,h0])]
     generalize List.filter (λc=>decide (c≠0)) (List.map Iv.child (List.take k L))=F
     simp[h0]
   . rw[if_pos (.inr h0)];generalize List.filter (λc=>decide (c≠0)) (List.map Iv.child (List.take k L))=F
     simp[h0]
theorem kU(kind:Int)(L:List Iv):(iN kind L).length<=L.length:=by
 unfold iN;split
 . simp
 . exact aO (fq _ _) (by simp)
theorem lK(P:Pv)(hk:P.kind=1\/P.kind=2):P.pg.kids=iN P.kind P.items:=by
 unfold Pg.kids iN;have h1:P.pg.kind=P.kind:=rfl;have h2:P.pg.items.map It.child=P.items.map Iv.child:=by simp[Pv.pg,Iv.it]
 rw[h1,h2];rcases hk with hk|hk
 . rw[if_neg (by omega),if_pos hk,if_neg (by omega)]
 . rw[if_pos hk,if_pos hk]
end Go.Proofs.YtbdkogimlbnlmaaGreat
