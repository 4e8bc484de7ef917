import Derived.Test.YtcpkinhneehomaaGreatWqB10
set_option linter.unusedVariables false
set_option linter.unusedSimpArgs false
set_option maxHeartbeats 3200000
set_option maxRecDepth 8000
namespace Go.Proofs.YtcpkinhneehomaaGreat
open Go.RowKit
theorem dr1(w:World):Below w.heap.size w w.drew:=(Below.refl _ _).drew
theorem tell2(w0:World)(w:World)(kb e:Nat)(g g2:Nat)(cs cs2:Array Value)(h:Kt w0 kb w e)(hg:Bx w 31 g cs)(hg2:Bx w 51 g2 cs2)(ne:g≠kb)(ne2:g2≠kb)(wrong:Bool)(xi:Int)(hx:0<=xi):
 Calls Tryz.prog 179 #[.bool wrong,.int .i64 xi,.pointer (some ⟨kb,0,none⟩)] w fun y w'=>y=.returned (.tuple #[])/\Kt w0 kb w' (tel e wrong xi.toNat)/\Bx w' 31 g cs/\Bx w' 51 g2 cs2:=by
 refine(tell_any w0 w kb e 31 g cs h hg ne wrong xi xi.toNat (by omega)).mono ?_
 rintro y w' ⟨rfl,h1,h2,h3⟩;exact⟨rfl,h1,h2,hg2.but h3 ne2⟩
theorem item_new(w:World)(cs cs2:Array Value):Bx ((w.alloc (.cells cs 31)).alloc (.cells cs2 51)) 51 (w.heap.size+1) cs2:=by
 have:=Bx.new (w.alloc (.cells cs 31)) 51 cs2;rwa [size_alloc] at this
def itmE(kind:Int)(i:Nat)(x:It)(prev:List Nat):Nat:=
 if (if kind=2/\i=0 then decide (x.key.length=0) else decide (1<=x.key.length)&&decide (x.key.length<=24))=false then 7
 else if (decide (i=0)||decide (cmpB prev x.key<0))=false then 11 else if x.valOk kind=false then 8 else if x.kidOk kind=false then 15 else 0
theorem itmE_eq(p:Pg)(i:Nat):p.itemE i=itmE p.kind i (p.at i) (p.at (i-1)).key:=by
 unfold Pg.itemE itmE Pg.keyOk Pg.ordOk
 have h:decide (0<cmpB (p.at i).key (p.at (i-1)).key)=decide (cmpB (p.at (i-1)).key (p.at i).key<0):=by
  rw[cmpB_flip (p.at (i-1)).key (p.at i).key,decide_eq_decide];omega
 rw[h]
theorem fin4(e:Nat)(k o v c:Bool):tel (tel (tel (tel e (!k) 7) (!o) 11) (!v) 8) (!c) 15=els e (if k=false then 7 else if o=false then 11 else if v=false then 8 else if c=false then 15 else 0):=by
 unfold tel els;by_cases he:e=0<;>cases k<;>cases o<;>cases v<;>cases c<;>simp[he]
theorem fin2(e:Nat)(k o v c:Bool):els (tel (tel e (!k) 7) (!o) 11) (if v=false then 8 else if c=false then 15 else 0)=els e (if k=false then 7 else if o=false then 11 else if v=false then 8 else if c=false then 15 else 0):=by
 unfold tel els;by_cases he:e=0<;>cases k<;>cases o<;>cases v<;>cases c<;>simp[he]
theorem idx_fin(e i:Nat)(x:It)(prev:List Nat)(a b c d:Bool)(ha:a= !(if (2:Int)=2/\i=0 then decide (x.key.length=0) else decide (1<=x.key.length)&&decide (x.key.length<=24)))(hb:b= !(decide (i=0)||decide (cmpB prev x.key<0)))
 (hc:c= !(decide (x.val.length=0)&&decide (x.size=0))) (hd:d= !isNum x.child):tel (tel (tel (tel e a (Int.toNat 7)) b (Int.toNat 11)) c (Int.toNat 8)) d (Int.toNat 15)=els e (itmE 2 i x prev):=by
 have hv:x.valOk 2=(decide (x.val.length=0)&&decide (x.size=0)):=by unfold It.valOk;rw[if_pos rfl]
 have hk:x.kidOk 2=isNum x.child:=by unfold It.kidOk;rw[if_neg (by simp)]
 rw[<-hv] at hc;rw[<-hk] at hd;rw[ha,hb,hc,hd];unfold itmE;exact fin4 _ _ _ _ _
theorem leaf_fin(e i:Nat)(x:It)(prev:List Nat)(a b:Bool)(ha:a= !(decide (1<=x.key.length)&&decide (x.key.length<=24)))(hb:b= !(decide (i=0)||decide (cmpB prev x.key<0))):
 els (tel (tel e a (Int.toNat 7)) b (Int.toNat 11)) x.leafE=els e (itmE 1 i x prev):=by
 rw[ha,hb];unfold itmE It.leafE;rw[if_neg (show ¬((1:Int)=2/\i=0) by simp)]
 exact fin2 _ _ _ _ _
theorem checkItem_l0(w0 w:World)(kb e i:Nat)(p:Pv)(h:Kt w0 kb w e)(hP:Pi w0 p)(hi:i<p.items.length)(hk:p.kind=1)(h0:i=0):Calls Tryz.prog 158 #[p.vl,.int .i64 (i:Int),tv kb] w fun x w'=>x=.returned (.tuple #[])/\Kt w0 kb w' (els e (p.pg.itemE i)):=by
 have hne:=box_ne h;have hlt:=h.c.lt;have hne2:w.heap.size+1≠kb:=by omega
 have hPa:=Pv.at p i;have hPb:=Pv.at p (i-1);obtain⟨bI,off,hbo,hr⟩:=(hP.it.keep (bt h.b (al w (.cells p.cs 31)))).at hi;have HI:=hide (hP.it.1 _ (getD_memR hi));obtain⟨k0,k1,k2,k3⟩:=range4 hr;rw[itmE_eq,hPa,hPb];clear hPa hPb;generalize hx:p.items.getD i Iv.zero=x at *;generalize hy:p.items.getD (i-1) Iv.zero=y at *;have H:=hide ((h.keep (al w (.cells p.cs 31))).keep (al _ (.cells x.cs 51)));have B:=hide ((Bx.new w 31 p.cs).keep (al _ (.cells x.cs 51)));have D:=hide (item_new w p.cs x.cs);have TN:=hide fun(w1:World)(e:Nat)(hk:Kt w0 kb w1 e)(hB:Bx w1 31 w.heap.size p.cs)(hD:Bx w1 51 (w.heap.size+1) x.cs)(wrong:Bool)(xi:Int)(hx:0<=xi)=>tell2 w0 w1 kb e w.heap.size (w.heap.size+1) p.cs x.cs hk hB hD hne hne2 wrong xi hx
 have CV:=hide fun(w1:World)(e:Nat)(hk:Kt w0 kb w1 e)=>checkValue_any w0 w1 kb e x hk
 have PG:=hide fun(w1:World)(hB:Bx w1 31 w.heap.size p.cs)=>Bx.page hB
 have PI:=hide fun(w1:World)(hB:Bx w1 51 (w.heap.size+1) x.cs)=>Bx.item hB
 have HL:=hide hP.ci;have HLN:=hide hP.it.2.1;clear h hr hP hx hy;obtain⟨kind,level,aI,cI,items,aD,cD,data,next⟩:=p
 obtain⟨aK,cK,key,aV,cV,val,child,size⟩:=x;unfold Pv.vl tv;simp only[Pv.cs,Iv.cs,Iv.vl,tv] at *;subst hbo hk;subst h0;have hiI:(0:Int)<(items.length:Int):=by omega
 simp only[Nat.zero_mul,Nat.add_zero] at k0 k1 k2 k3;generalize y.key=yk at *;cases hkd:decide (((key.length:Nat):Int)<1)
 · skip
   go_enter Tryz.func158,Tryz.ntmps158;go_wp2_with (first|(go_at_call 179;refine(TN.out _ _ H.out B.out D.out _ _ (by decide)).mono ?_;rintro y w1 ⟨rfl,hk,hb,hd⟩;have H:=hide hk;have B:=hide hb;have D:=hide hd;obtain⟨c0,c1,c2,c3,c4⟩:=PG.out _ hb;obtain⟨d0,d1,d2,d3⟩:=PI.out _ hd;clear hk hb hd)|(go_at_call 159;refine(isNumber_any _ _).mono ?_;rintro y w1 ⟨rfl,hww⟩;obtain rfl:=hww.symm)|(go_at_call 183;refine(CV.out _ _ H.out).mono ?_;rintro y w1 ⟨rfl,hk,_⟩;have H:=hide hk))
   have H:=hide (H.out.keep (dr1 _));have B:=hide (B.out.keep (dr1 _));have D:=hide (D.out.keep (dr1 _));have S1:True:=trivial;refine wp_region_held_drew (S:=fun w'=>True) (by kernel_rfl) (by exact S1) (fun hHeld=>?_)
   refine tk 0 ?_;refine tk 1 ?_;refine tk 2 ?_;refine tk 3 ?_;refine tu 4 ?_;refine tu 5 ?_;refine tu 6 ?_;refine tu 7 ?_;refine tu 8 ?_;refine tu 9 ?_;refine tu 10 ?_;refine tu 11 ?_;refine tu 12 ?_;refine tu 13 ?_;refine tu 14 ?_;refine tk 15 ?_;refine tw 16 fun K hK=>?_
   go_simp;refine(TN.out _ _ H.out B.out D.out _ _ (by decide)).mono ?_
   rintro y w1 ⟨rfl,hk,hb,hd⟩;have H:=hide hk;have B:=hide hb;have D:=hide hd;obtain⟨c0,c1,c2,c3,c4⟩:=PG.out _ hb;obtain⟨d0,d1,d2,d3⟩:=PI.out _ hd;clear hk hb hd;go_wp2_with fail
   refine hK.out _ _ (by exact S1) (fun hHeld=>?_)
   clear hK K;try simp only[pt]
   refine td ?_;clear S1;go_wp2_with (first|(go_at_call 179;refine(TN.out _ _ H.out B.out D.out _ _ (by decide)).mono ?_;rintro y w1 ⟨rfl,hk,hb,hd⟩;have H:=hide hk;have B:=hide hb;have D:=hide hd;obtain⟨c0,c1,c2,c3,c4⟩:=PG.out _ hb;obtain⟨d0,d1,d2,d3⟩:=PI.out _ hd;clear hk hb hd)|(go_at_call 159;refine(isNumber_any _ _).mono ?_;rintro y w1 ⟨rfl,hww⟩;obtain rfl:=hww.symm)|(go_at_call 183;refine(CV.out _ _ H.out).mono ?_;rintro y w1 ⟨rfl,hk,_⟩;have H:=hide hk))
   all_goals ((first|go_end0|refine bodyPost_ret (results_none rfl _ _ _) rfl ?_);refine⟨rfl,(congrArg (Kt w0 kb _) (leaf_fin e 0 (Iv.it ⟨aK,cK,key,aV,cV,val,child,size⟩) yk _ _ ?_ ?_)).mp H.out⟩<;>clear H B D TN PG PI HI HL CV)
   all_goals (simp[Iv.it];try grind)
 · skip
   go_enter Tryz.func158,Tryz.ntmps158;go_wp2_with (first|(go_at_call 179;refine(TN.out _ _ H.out B.out D.out _ _ (by decide)).mono ?_;rintro y w1 ⟨rfl,hk,hb,hd⟩;have H:=hide hk;have B:=hide hb;have D:=hide hd;obtain⟨c0,c1,c2,c3,c4⟩:=PG.out _ hb;obtain⟨d0,d1,d2,d3⟩:=PI.out _ hd;clear hk hb hd)|(go_at_call 159;refine(isNumber_any _ _).mono ?_;rintro y w1 ⟨rfl,hww⟩;obtain rfl:=hww.symm)|(go_at_call 183;refine(CV.out _ _ H.out).mono ?_;rintro y w1 ⟨rfl,hk,_⟩;have H:=hide hk))
   have H:=hide (H.out.keep (dr1 _));have B:=hide (B.out.keep (dr1 _));have D:=hide (D.out.keep (dr1 _));have S1:True:=trivial;refine wp_region_held_drew (S:=fun w'=>True) (by kernel_rfl) (by exact S1) (fun hHeld=>?_)
   refine tk 0 ?_;refine tk 1 ?_;refine tk 2 ?_;refine tk 3 ?_;refine tu 4 ?_;refine tu 5 ?_;refine tu 6 ?_;refine tu 7 ?_;refine tu 8 ?_;refine tu 9 ?_;refine tu 10 ?_;refine tu 11 ?_;refine tu 12 ?_;refine tu 13 ?_;refine tu 14 ?_;refine tk 15 ?_;refine tw 16 fun K hK=>?_
   go_simp;refine(TN.out _ _ H.out B.out D.out _ _ (by decide)).mono ?_
   rintro y w1 ⟨rfl,hk,hb,hd⟩;have H:=hide hk;have B:=hide hb;have D:=hide hd;obtain⟨c0,c1,c2,c3,c4⟩:=PG.out _ hb;obtain⟨d0,d1,d2,d3⟩:=PI.out _ hd;clear hk hb hd;go_wp2_with fail
   refine hK.out _ _ (by exact S1) (fun hHeld=>?_)
   clear hK K;try simp only[pt]
   refine td ?_;clear S1;go_wp2_with (first|(go_at_call 179;refine(TN.out _ _ H.out B.out D.out _ _ (by decide)).mono ?_;rintro y w1 ⟨rfl,hk,hb,hd⟩;have H:=hide hk;have B:=hide hb;have D:=hide hd;obtain⟨c0,c1,c2,c3,c4⟩:=PG.out _ hb;obtain⟨d0,d1,d2,d3⟩:=PI.out _ hd;clear hk hb hd)|(go_at_call 159;refine(isNumber_any _ _).mono ?_;rintro y w1 ⟨rfl,hww⟩;obtain rfl:=hww.symm)|(go_at_call 183;refine(CV.out _ _ H.out).mono ?_;rintro y w1 ⟨rfl,hk,_⟩;have H:=hide hk))
   all_goals ((first|go_end0|refine bodyPost_ret (results_none rfl _ _ _) rfl ?_);refine⟨rfl,(congrArg (Kt w0 kb _) (leaf_fin e 0 (Iv.it ⟨aK,cK,key,aV,cV,val,child,size⟩) yk _ _ ?_ ?_)).mp H.out⟩<;>clear H B D TN PG PI HI HL CV)
   all_goals (simp[Iv.it];try grind)
theorem checkItem_lN(w0 w:World)(kb e i:Nat)(p:Pv)(h:Kt w0 kb w e)(hP:Pi w0 p)(hi:i<p.items.length)(hk:p.kind=1)(h0:i≠0):Calls Tryz.prog 158 #[p.vl,.int .i64 (i:Int),tv kb] w fun x w'=>x=.returned (.tuple #[])/\Kt w0 kb w' (els e (p.pg.itemE i)):=by
 have hne:=box_ne h;have hlt:=h.c.lt;have hne2:w.heap.size+1≠kb:=by omega
 have hPa:=Pv.at p i;have hPb:=Pv.at p (i-1);obtain⟨bI,off,hbo,hr⟩:=(hP.it.keep (bt h.b (al w (.cells p.cs 31)))).at hi;have hi':i-1<p.items.length:=by omega
 have HJ:=hide (hP.it.1 _ (getD_memR hi'));have HR:=hide fun(w1:World)(hb:Below w0.heap.size w0 w1)=>(show w1.cell? ⟨bI,off+(i-1)*4,none⟩=some (.slice (p.items.getD (i-1) Iv.zero).aK (p.items.getD (i-1) Iv.zero).key.length (p.items.getD (i-1) Iv.zero).cK) from by obtain⟨b2,o2,e2,r2⟩:=(hP.it.keep hb).at hi';rw[hbo] at e2;simp only[Option.some.injEq,Addr.mk.injEq,and_true] at e2;obtain⟨rfl,rfl⟩:=e2;exact(range4 r2).1)
 have HI:=hide (hP.it.1 _ (getD_memR hi));obtain⟨k0,k1,k2,k3⟩:=range4 hr;rw[itmE_eq,hPa,hPb];clear hPa hPb;generalize hx:p.items.getD i Iv.zero=x at *;generalize hy:p.items.getD (i-1) Iv.zero=y at *;have CM:=hide fun(w1:World)(hb:Below w0.heap.size w0 w1)=>bCompare_any w1 y.aK x.aK y.key.length y.cK x.key.length x.cK y.key x.key (HJ.out.bk.keep hb) (HI.out.bk.keep hb) rfl rfl
 have H:=hide ((h.keep (al w (.cells p.cs 31))).keep (al _ (.cells x.cs 51)));have B:=hide ((Bx.new w 31 p.cs).keep (al _ (.cells x.cs 51)));have D:=hide (item_new w p.cs x.cs);have TN:=hide fun(w1:World)(e:Nat)(hk:Kt w0 kb w1 e)(hB:Bx w1 31 w.heap.size p.cs)(hD:Bx w1 51 (w.heap.size+1) x.cs)(wrong:Bool)(xi:Int)(hx:0<=xi)=>tell2 w0 w1 kb e w.heap.size (w.heap.size+1) p.cs x.cs hk hB hD hne hne2 wrong xi hx
 have CV:=hide fun(w1:World)(e:Nat)(hk:Kt w0 kb w1 e)=>checkValue_any w0 w1 kb e x hk
 have PG:=hide fun(w1:World)(hB:Bx w1 31 w.heap.size p.cs)=>Bx.page hB
 have PI:=hide fun(w1:World)(hB:Bx w1 51 (w.heap.size+1) x.cs)=>Bx.item hB
 have HL:=hide hP.ci;have HLN:=hide hP.it.2.1;clear h hr hP hx hy;obtain⟨kind,level,aI,cI,items,aD,cD,data,next⟩:=p
 obtain⟨aK,cK,key,aV,cV,val,child,size⟩:=x;unfold Pv.vl tv;simp only[Pv.cs,Iv.cs,Iv.vl,tv] at *;subst hbo hk;have hiI:(i:Int)<(items.length:Int):=by omega
 have hip:decide ((0:Int)<(i:Int))=true:=by simp;omega
 have hi0:((i:Int)==0)=false:=by simpa using h0
 have hwj:IntKind.i64.wrap ((i:Int)-1)=((i-1:Nat):Int):=by have:=HLN.out;rw[wrapI (by omega) (by omega)];omega
 obtain⟨j,rfl⟩:∃j,i=j+1:=⟨i-1,by omega⟩
 rw[show j+1-1=j by omega] at HR hwj
 rw[show((j+1:Nat):Int)-1=(j:Int) by omega] at hwj
 have hiJ:(j:Int)<(items.length:Int):=by omega
 obtain⟨yaK,ycK,yk,yaV,ycV,yval,ychild,ysize⟩:=y;dsimp only at HR CM ⊢;generalize hz:cmpB yk key=z at *;have HZ:=hide hz;clear hz;cases hkd:decide (((key.length:Nat):Int)<1)
 · skip
   go_enter Tryz.func158,Tryz.ntmps158;go_wp2_with (first|(go_at_call 179;refine(TN.out _ _ H.out B.out D.out _ _ (by decide)).mono ?_;rintro y w1 ⟨rfl,hk,hb,hd⟩;have H:=hide hk;have B:=hide hb;have D:=hide hd;obtain⟨c0,c1,c2,c3,c4⟩:=PG.out _ hb;obtain⟨d0,d1,d2,d3⟩:=PI.out _ hd;clear hk hb hd)|(go_at_call 159;refine(isNumber_any _ _).mono ?_;rintro y w1 ⟨rfl,hww⟩;obtain rfl:=hww.symm)|(go_at_call 183;refine(CV.out _ _ H.out).mono ?_;rintro y w1 ⟨rfl,hk,_⟩;have H:=hide hk))
   have H:=hide (H.out.keep (dr1 _));have B:=hide (B.out.keep (dr1 _));have D:=hide (D.out.keep (dr1 _));have S1:=And.intro (PG.out _ B.out).2.2.1 (And.intro (PI.out _ D.out).1 (HR.out _ H.out.b));refine wp_region_held_drew (S:=fun w'=>w'.cell? ⟨w.heap.size,2,none⟩=some (.slice (some ⟨bI,off,none⟩) items.length cI)/\w'.cell? ⟨w.heap.size+1,0,none⟩=some (.slice aK key.length cK)/\w'.cell? ⟨bI,off+j*4,none⟩=some (.slice yaK yk.length ycK)) (by kernel_rfl) (by exact S1) (fun hHeld=>?_)
   refine tk 0 ?_;refine tk 1 ?_;refine tk 2 ?_;refine tk 3 ?_;refine tk 4 ?_;refine tk 5 ?_;refine tk 6 ?_;refine tk 7 ?_;refine tk 8 ?_;refine tk 9 ?_;refine tk 10 ?_;refine tk 11 ?_;refine tk 12 ?_;refine tw 13 fun K hK=>?_
   go_simp;refine(CM.out _ H.out.b).mono ?_;rintro e w9 ⟨rfl,hw⟩;obtain rfl:=hw.symm;clear hw;go_wp2_with fail
   refine hK.out _ _ (by exact S1) (fun hHeld=>?_)
   clear hK K;try simp only[pt]
   refine tk 14 ?_;refine tk 15 ?_;refine tw 16 fun K hK=>?_
   go_simp;refine(TN.out _ _ H.out B.out D.out _ _ (by decide)).mono ?_
   rintro y w1 ⟨rfl,hk,hb,hd⟩;have H:=hide hk;have B:=hide hb;have D:=hide hd;obtain⟨c0,c1,c2,c3,c4⟩:=PG.out _ hb;obtain⟨d0,d1,d2,d3⟩:=PI.out _ hd;clear hk hb hd;have S1:=And.intro (PG.out _ B.out).2.2.1 (And.intro (PI.out _ D.out).1 (HR.out _ H.out.b));go_wp2_with fail
   refine hK.out _ _ (by exact S1) (fun hHeld=>?_)
   clear hK K;try simp only[pt]
   refine td ?_;clear S1;go_wp2_with (first|(go_at_call 179;refine(TN.out _ _ H.out B.out D.out _ _ (by decide)).mono ?_;rintro y w1 ⟨rfl,hk,hb,hd⟩;have H:=hide hk;have B:=hide hb;have D:=hide hd;obtain⟨c0,c1,c2,c3,c4⟩:=PG.out _ hb;obtain⟨d0,d1,d2,d3⟩:=PI.out _ hd;clear hk hb hd)|(go_at_call 159;refine(isNumber_any _ _).mono ?_;rintro y w1 ⟨rfl,hww⟩;obtain rfl:=hww.symm)|(go_at_call 183;refine(CV.out _ _ H.out).mono ?_;rintro y w1 ⟨rfl,hk,_⟩;have H:=hide hk))
   all_goals ((first|go_end0|refine bodyPost_ret (results_none rfl _ _ _) rfl ?_);refine⟨rfl,(congrArg (Kt w0 kb _) (leaf_fin e (j+1) (Iv.it ⟨aK,cK,key,aV,cV,val,child,size⟩) yk _ _ ?_ ?_)).mp H.out⟩<;>clear H B D TN PG PI HI HL CV)
   all_goals (have HZ:=HZ.out;simp[Iv.it,HZ];try grind)
 · skip
   go_enter Tryz.func158,Tryz.ntmps158;go_wp2_with (first|(go_at_call 179;refine(TN.out _ _ H.out B.out D.out _ _ (by decide)).mono ?_;rintro y w1 ⟨rfl,hk,hb,hd⟩;have H:=hide hk;have B:=hide hb;have D:=hide hd;obtain⟨c0,c1,c2,c3,c4⟩:=PG.out _ hb;obtain⟨d0,d1,d2,d3⟩:=PI.out _ hd;clear hk hb hd)|(go_at_call 159;refine(isNumber_any _ _).mono ?_;rintro y w1 ⟨rfl,hww⟩;obtain rfl:=hww.symm)|(go_at_call 183;refine(CV.out _ _ H.out).mono ?_;rintro y w1 ⟨rfl,hk,_⟩;have H:=hide hk))
   have H:=hide (H.out.keep (dr1 _));have B:=hide (B.out.keep (dr1 _));have D:=hide (D.out.keep (dr1 _));have S1:=And.intro (PG.out _ B.out).2.2.1 (And.intro (PI.out _ D.out).1 (HR.out _ H.out.b));refine wp_region_held_drew (S:=fun w'=>w'.cell? ⟨w.heap.size,2,none⟩=some (.slice (some ⟨bI,off,none⟩) items.length cI)/\w'.cell? ⟨w.heap.size+1,0,none⟩=some (.slice aK key.length cK)/\w'.cell? ⟨bI,off+j*4,none⟩=some (.slice yaK yk.length ycK)) (by kernel_rfl) (by exact S1) (fun hHeld=>?_)
   refine tk 0 ?_;refine tk 1 ?_;refine tk 2 ?_;refine tk 3 ?_;refine tk 4 ?_;refine tk 5 ?_;refine tk 6 ?_;refine tk 7 ?_;refine tk 8 ?_;refine tk 9 ?_;refine tk 10 ?_;refine tk 11 ?_;refine tk 12 ?_;refine tw 13 fun K hK=>?_
   go_simp;refine(CM.out _ H.out.b).mono ?_;rintro e w9 ⟨rfl,hw⟩;obtain rfl:=hw.symm;clear hw;go_wp2_with fail
   refine hK.out _ _ (by exact S1) (fun hHeld=>?_)
   clear hK K;try simp only[pt]
   refine tk 14 ?_;refine tk 15 ?_;refine tw 16 fun K hK=>?_
   go_simp;refine(TN.out _ _ H.out B.out D.out _ _ (by decide)).mono ?_
   rintro y w1 ⟨rfl,hk,hb,hd⟩;have H:=hide hk;have B:=hide hb;have D:=hide hd;obtain⟨c0,c1,c2,c3,c4⟩:=PG.out _ hb;obtain⟨d0,d1,d2,d3⟩:=PI.out _ hd;clear hk hb hd;have S1:=And.intro (PG.out _ B.out).2.2.1 (And.intro (PI.out _ D.out).1 (HR.out _ H.out.b));go_wp2_with fail
   refine hK.out _ _ (by exact S1) (fun hHeld=>?_)
   clear hK K;try simp only[pt]
   refine td ?_;clear S1;go_wp2_with (first|(go_at_call 179;refine(TN.out _ _ H.out B.out D.out _ _ (by decide)).mono ?_;rintro y w1 ⟨rfl,hk,hb,hd⟩;have H:=hide hk;have B:=hide hb;have D:=hide hd;obtain⟨c0,c1,c2,c3,c4⟩:=PG.out _ hb;obtain⟨d0,d1,d2,d3⟩:=PI.out _ hd;clear hk hb hd)|(go_at_call 159;refine(isNumber_any _ _).mono ?_;rintro y w1 ⟨rfl,hww⟩;obtain rfl:=hww.symm)|(go_at_call 183;refine(CV.out _ _ H.out).mono ?_;rintro y w1 ⟨rfl,hk,_⟩;have H:=hide hk))
   all_goals ((first|go_end0|refine bodyPost_ret (results_none rfl _ _ _) rfl ?_);refine⟨rfl,(congrArg (Kt w0 kb _) (leaf_fin e (j+1) (Iv.it ⟨aK,cK,key,aV,cV,val,child,size⟩) yk _ _ ?_ ?_)).mp H.out⟩<;>clear H B D TN PG PI HI HL CV)
   all_goals (have HZ:=HZ.out;simp[Iv.it,HZ];try grind)
theorem checkItem_i0(w0 w:World)(kb e i:Nat)(p:Pv)(h:Kt w0 kb w e)(hP:Pi w0 p)(hi:i<p.items.length)(hk:p.kind=2)(h0:i=0):Calls Tryz.prog 158 #[p.vl,.int .i64 (i:Int),tv kb] w fun x w'=>x=.returned (.tuple #[])/\Kt w0 kb w' (els e (p.pg.itemE i)):=by
 have hne:=box_ne h;have hlt:=h.c.lt;have hne2:w.heap.size+1≠kb:=by omega
 have hPa:=Pv.at p i;have hPb:=Pv.at p (i-1);obtain⟨bI,off,hbo,hr⟩:=(hP.it.keep (bt h.b (al w (.cells p.cs 31)))).at hi;have HI:=hide (hP.it.1 _ (getD_memR hi));obtain⟨k0,k1,k2,k3⟩:=range4 hr;rw[itmE_eq,hPa,hPb];clear hPa hPb;generalize hx:p.items.getD i Iv.zero=x at *;generalize hy:p.items.getD (i-1) Iv.zero=y at *;have H:=hide ((h.keep (al w (.cells p.cs 31))).keep (al _ (.cells x.cs 51)));have B:=hide ((Bx.new w 31 p.cs).keep (al _ (.cells x.cs 51)));have D:=hide (item_new w p.cs x.cs);have TN:=hide fun(w1:World)(e:Nat)(hk:Kt w0 kb w1 e)(hB:Bx w1 31 w.heap.size p.cs)(hD:Bx w1 51 (w.heap.size+1) x.cs)(wrong:Bool)(xi:Int)(hx:0<=xi)=>tell2 w0 w1 kb e w.heap.size (w.heap.size+1) p.cs x.cs hk hB hD hne hne2 wrong xi hx
 have CV:=hide fun(w1:World)(e:Nat)(hk:Kt w0 kb w1 e)=>checkValue_any w0 w1 kb e x hk
 have PG:=hide fun(w1:World)(hB:Bx w1 31 w.heap.size p.cs)=>Bx.page hB
 have PI:=hide fun(w1:World)(hB:Bx w1 51 (w.heap.size+1) x.cs)=>Bx.item hB
 have HL:=hide hP.ci;have HLN:=hide hP.it.2.1;clear h hr hP hx hy;obtain⟨kind,level,aI,cI,items,aD,cD,data,next⟩:=p
 obtain⟨aK,cK,key,aV,cV,val,child,size⟩:=x;unfold Pv.vl tv;simp only[Pv.cs,Iv.cs,Iv.vl,tv] at *;subst hbo hk;subst h0;have hiI:(0:Int)<(items.length:Int):=by omega
 simp only[Nat.zero_mul,Nat.add_zero] at k0 k1 k2 k3;generalize y.key=yk at *;clear CV;generalize hvn:val.length=vn at *;have HVN:=hide hvn;clear hvn;by_cases hv0:vn=0
 · subst hv0;go_enter Tryz.func158,Tryz.ntmps158;go_wp2_with (first|(go_at_call 179;refine(TN.out _ _ H.out B.out D.out _ _ (by decide)).mono ?_;rintro y w1 ⟨rfl,hk,hb,hd⟩;have H:=hide hk;have B:=hide hb;have D:=hide hd;obtain⟨c0,c1,c2,c3,c4⟩:=PG.out _ hb;obtain⟨d0,d1,d2,d3⟩:=PI.out _ hd;clear hk hb hd)|(go_at_call 159;refine(isNumber_any _ _).mono ?_;rintro y w1 ⟨rfl,hww⟩;obtain rfl:=hww.symm)|(go_at_call 183;refine(CV.out _ _ H.out).mono ?_;rintro y w1 ⟨rfl,hk,_⟩;have H:=hide hk))
   have H:=hide (H.out.keep (dr1 _));have B:=hide (B.out.keep (dr1 _));have D:=hide (D.out.keep (dr1 _));have S1:True:=trivial;refine wp_region_held_drew (S:=fun w'=>True) (by kernel_rfl) (by exact S1) (fun hHeld=>?_)
   refine tk 0 ?_;refine tk 1 ?_;refine tk 2 ?_;refine tk 3 ?_;refine tu 4 ?_;refine tu 5 ?_;refine tu 6 ?_;refine tu 7 ?_;refine tu 8 ?_;refine tu 9 ?_;refine tu 10 ?_;refine tu 11 ?_;refine tu 12 ?_;refine tu 13 ?_;refine tu 14 ?_;refine tk 15 ?_;refine tw 16 fun K hK=>?_
   go_simp;refine(TN.out _ _ H.out B.out D.out _ _ (by decide)).mono ?_
   rintro y w1 ⟨rfl,hk,hb,hd⟩;have H:=hide hk;have B:=hide hb;have D:=hide hd;obtain⟨c0,c1,c2,c3,c4⟩:=PG.out _ hb;obtain⟨d0,d1,d2,d3⟩:=PI.out _ hd;clear hk hb hd;go_wp2_with fail
   refine hK.out _ _ (by exact S1) (fun hHeld=>?_)
   clear hK K;try simp only[pt]
   refine td ?_;clear S1;go_wp2_with (first|(go_at_call 179;refine(TN.out _ _ H.out B.out D.out _ _ (by decide)).mono ?_;rintro y w1 ⟨rfl,hk,hb,hd⟩;have H:=hide hk;have B:=hide hb;have D:=hide hd;obtain⟨c0,c1,c2,c3,c4⟩:=PG.out _ hb;obtain⟨d0,d1,d2,d3⟩:=PI.out _ hd;clear hk hb hd)|(go_at_call 159;refine(isNumber_any _ _).mono ?_;rintro y w1 ⟨rfl,hww⟩;obtain rfl:=hww.symm)|(go_at_call 183;refine(CV.out _ _ H.out).mono ?_;rintro y w1 ⟨rfl,hk,_⟩;have H:=hide hk))
   all_goals ((first|go_end0|refine bodyPost_ret (results_none rfl _ _ _) rfl ?_);have HV:=HVN.out;refine⟨rfl,(congrArg (Kt w0 kb _) (idx_fin e 0 (Iv.it ⟨aK,cK,key,aV,cV,val,child,size⟩) yk _ _ _ _ ?_ ?_ ?_ ?_)).mp H.out⟩<;>clear H B D TN PG PI HI HL<;>have hkl:(0<key.length)=¬key=[]:=(by rw[List.length_pos_iff]))
   all_goals (simp[Iv.it];try grind)
 · have hvd:decide ((0:Int)<(vn:Int))=true:=by simp;omega
   go_enter Tryz.func158,Tryz.ntmps158;go_wp2_with (first|(go_at_call 179;refine(TN.out _ _ H.out B.out D.out _ _ (by decide)).mono ?_;rintro y w1 ⟨rfl,hk,hb,hd⟩;have H:=hide hk;have B:=hide hb;have D:=hide hd;obtain⟨c0,c1,c2,c3,c4⟩:=PG.out _ hb;obtain⟨d0,d1,d2,d3⟩:=PI.out _ hd;clear hk hb hd)|(go_at_call 159;refine(isNumber_any _ _).mono ?_;rintro y w1 ⟨rfl,hww⟩;obtain rfl:=hww.symm)|(go_at_call 183;refine(CV.out _ _ H.out).mono ?_;rintro y w1 ⟨rfl,hk,_⟩;have H:=hide hk))
   have H:=hide (H.out.keep (dr1 _));have B:=hide (B.out.keep (dr1 _));have D:=hide (D.out.keep (dr1 _));have S1:True:=trivial;refine wp_region_held_drew (S:=fun w'=>True) (by kernel_rfl) (by exact S1) (fun hHeld=>?_)
   refine tk 0 ?_;refine tk 1 ?_;refine tk 2 ?_;refine tk 3 ?_;refine tu 4 ?_;refine tu 5 ?_;refine tu 6 ?_;refine tu 7 ?_;refine tu 8 ?_;refine tu 9 ?_;refine tu 10 ?_;refine tu 11 ?_;refine tu 12 ?_;refine tu 13 ?_;refine tu 14 ?_;refine tk 15 ?_;refine tw 16 fun K hK=>?_
   go_simp;refine(TN.out _ _ H.out B.out D.out _ _ (by decide)).mono ?_
   rintro y w1 ⟨rfl,hk,hb,hd⟩;have H:=hide hk;have B:=hide hb;have D:=hide hd;obtain⟨c0,c1,c2,c3,c4⟩:=PG.out _ hb;obtain⟨d0,d1,d2,d3⟩:=PI.out _ hd;clear hk hb hd;go_wp2_with fail
   refine hK.out _ _ (by exact S1) (fun hHeld=>?_)
   clear hK K;try simp only[pt]
   refine td ?_;clear S1;go_wp2_with (first|(go_at_call 179;refine(TN.out _ _ H.out B.out D.out _ _ (by decide)).mono ?_;rintro y w1 ⟨rfl,hk,hb,hd⟩;have H:=hide hk;have B:=hide hb;have D:=hide hd;obtain⟨c0,c1,c2,c3,c4⟩:=PG.out _ hb;obtain⟨d0,d1,d2,d3⟩:=PI.out _ hd;clear hk hb hd)|(go_at_call 159;refine(isNumber_any _ _).mono ?_;rintro y w1 ⟨rfl,hww⟩;obtain rfl:=hww.symm)|(go_at_call 183;refine(CV.out _ _ H.out).mono ?_;rintro y w1 ⟨rfl,hk,_⟩;have H:=hide hk))
   all_goals ((first|go_end0|refine bodyPost_ret (results_none rfl _ _ _) rfl ?_);have HV:=HVN.out;refine⟨rfl,(congrArg (Kt w0 kb _) (idx_fin e 0 (Iv.it ⟨aK,cK,key,aV,cV,val,child,size⟩) yk _ _ _ _ ?_ ?_ ?_ ?_)).mp H.out⟩<;>clear H B D TN PG PI HI HL<;>have hkl:(0<key.length)=¬key=[]:=(by rw[List.length_pos_iff]))
   all_goals (simp[Iv.it];try grind)
theorem checkItem_iN(w0 w:World)(kb e i:Nat)(p:Pv)(h:Kt w0 kb w e)(hP:Pi w0 p)(hi:i<p.items.length)(hk:p.kind=2)(h0:i≠0):Calls Tryz.prog 158 #[p.vl,.int .i64 (i:Int),tv kb] w fun x w'=>x=.returned (.tuple #[])/\Kt w0 kb w' (els e (p.pg.itemE i)):=by
 have hne:=box_ne h;have hlt:=h.c.lt;have hne2:w.heap.size+1≠kb:=by omega
 have hPa:=Pv.at p i;have hPb:=Pv.at p (i-1);obtain⟨bI,off,hbo,hr⟩:=(hP.it.keep (bt h.b (al w (.cells p.cs 31)))).at hi;have hi':i-1<p.items.length:=by omega
 have HJ:=hide (hP.it.1 _ (getD_memR hi'));have HR:=hide fun(w1:World)(hb:Below w0.heap.size w0 w1)=>(show w1.cell? ⟨bI,off+(i-1)*4,none⟩=some (.slice (p.items.getD (i-1) Iv.zero).aK (p.items.getD (i-1) Iv.zero).key.length (p.items.getD (i-1) Iv.zero).cK) from by obtain⟨b2,o2,e2,r2⟩:=(hP.it.keep hb).at hi';rw[hbo] at e2;simp only[Option.some.injEq,Addr.mk.injEq,and_true] at e2;obtain⟨rfl,rfl⟩:=e2;exact(range4 r2).1)
 have HI:=hide (hP.it.1 _ (getD_memR hi));obtain⟨k0,k1,k2,k3⟩:=range4 hr;rw[itmE_eq,hPa,hPb];clear hPa hPb;generalize hx:p.items.getD i Iv.zero=x at *;generalize hy:p.items.getD (i-1) Iv.zero=y at *;have CM:=hide fun(w1:World)(hb:Below w0.heap.size w0 w1)=>bCompare_any w1 y.aK x.aK y.key.length y.cK x.key.length x.cK y.key x.key (HJ.out.bk.keep hb) (HI.out.bk.keep hb) rfl rfl
 have H:=hide ((h.keep (al w (.cells p.cs 31))).keep (al _ (.cells x.cs 51)));have B:=hide ((Bx.new w 31 p.cs).keep (al _ (.cells x.cs 51)));have D:=hide (item_new w p.cs x.cs);have TN:=hide fun(w1:World)(e:Nat)(hk:Kt w0 kb w1 e)(hB:Bx w1 31 w.heap.size p.cs)(hD:Bx w1 51 (w.heap.size+1) x.cs)(wrong:Bool)(xi:Int)(hx:0<=xi)=>tell2 w0 w1 kb e w.heap.size (w.heap.size+1) p.cs x.cs hk hB hD hne hne2 wrong xi hx
 have CV:=hide fun(w1:World)(e:Nat)(hk:Kt w0 kb w1 e)=>checkValue_any w0 w1 kb e x hk
 have PG:=hide fun(w1:World)(hB:Bx w1 31 w.heap.size p.cs)=>Bx.page hB
 have PI:=hide fun(w1:World)(hB:Bx w1 51 (w.heap.size+1) x.cs)=>Bx.item hB
 have HL:=hide hP.ci;have HLN:=hide hP.it.2.1;clear h hr hP hx hy;obtain⟨kind,level,aI,cI,items,aD,cD,data,next⟩:=p
 obtain⟨aK,cK,key,aV,cV,val,child,size⟩:=x;unfold Pv.vl tv;simp only[Pv.cs,Iv.cs,Iv.vl,tv] at *;subst hbo hk;have hiI:(i:Int)<(items.length:Int):=by omega
 have hip:decide ((0:Int)<(i:Int))=true:=by simp;omega
 have hi0:((i:Int)==0)=false:=by simpa using h0
 have hwj:IntKind.i64.wrap ((i:Int)-1)=((i-1:Nat):Int):=by have:=HLN.out;rw[wrapI (by omega) (by omega)];omega
 obtain⟨j,rfl⟩:∃j,i=j+1:=⟨i-1,by omega⟩
 rw[show j+1-1=j by omega] at HR hwj
 rw[show((j+1:Nat):Int)-1=(j:Int) by omega] at hwj
 have hiJ:(j:Int)<(items.length:Int):=by omega
 obtain⟨yaK,ycK,yk,yaV,ycV,yval,ychild,ysize⟩:=y;dsimp only at HR CM ⊢;generalize hz:cmpB yk key=z at *;have HZ:=hide hz;clear hz;clear CV;generalize hvn:val.length=vn at *;have HVN:=hide hvn;clear hvn;cases hkd:decide (((key.length:Nat):Int)<1)
 · skip
   by_cases hv0:vn=0
   · subst hv0;go_enter Tryz.func158,Tryz.ntmps158;go_wp2_with (first|(go_at_call 179;refine(TN.out _ _ H.out B.out D.out _ _ (by decide)).mono ?_;rintro y w1 ⟨rfl,hk,hb,hd⟩;have H:=hide hk;have B:=hide hb;have D:=hide hd;obtain⟨c0,c1,c2,c3,c4⟩:=PG.out _ hb;obtain⟨d0,d1,d2,d3⟩:=PI.out _ hd;clear hk hb hd)|(go_at_call 159;refine(isNumber_any _ _).mono ?_;rintro y w1 ⟨rfl,hww⟩;obtain rfl:=hww.symm)|(go_at_call 183;refine(CV.out _ _ H.out).mono ?_;rintro y w1 ⟨rfl,hk,_⟩;have H:=hide hk))
     have H:=hide (H.out.keep (dr1 _));have B:=hide (B.out.keep (dr1 _));have D:=hide (D.out.keep (dr1 _));have S1:=And.intro (PG.out _ B.out).2.2.1 (And.intro (PI.out _ D.out).1 (HR.out _ H.out.b));refine wp_region_held_drew (S:=fun w'=>w'.cell? ⟨w.heap.size,2,none⟩=some (.slice (some ⟨bI,off,none⟩) items.length cI)/\w'.cell? ⟨w.heap.size+1,0,none⟩=some (.slice aK key.length cK)/\w'.cell? ⟨bI,off+j*4,none⟩=some (.slice yaK yk.length ycK)) (by kernel_rfl) (by exact S1) (fun hHeld=>?_)
     refine tk 0 ?_;refine tk 1 ?_;refine tk 2 ?_;refine tk 3 ?_;refine tk 4 ?_;refine tk 5 ?_;refine tk 6 ?_;refine tk 7 ?_;refine tk 8 ?_;refine tk 9 ?_;refine tk 10 ?_;refine tk 11 ?_;refine tk 12 ?_;refine tw 13 fun K hK=>?_
     go_simp;refine(CM.out _ H.out.b).mono ?_;rintro e w9 ⟨rfl,hw⟩;obtain rfl:=hw.symm;clear hw;go_wp2_with fail
     refine hK.out _ _ (by exact S1) (fun hHeld=>?_)
     clear hK K;try simp only[pt]
     refine tk 14 ?_;refine tk 15 ?_;refine tw 16 fun K hK=>?_
     go_simp;refine(TN.out _ _ H.out B.out D.out _ _ (by decide)).mono ?_
     rintro y w1 ⟨rfl,hk,hb,hd⟩;have H:=hide hk;have B:=hide hb;have D:=hide hd;obtain⟨c0,c1,c2,c3,c4⟩:=PG.out _ hb;obtain⟨d0,d1,d2,d3⟩:=PI.out _ hd;clear hk hb hd;have S1:=And.intro (PG.out _ B.out).2.2.1 (And.intro (PI.out _ D.out).1 (HR.out _ H.out.b));go_wp2_with fail
     refine hK.out _ _ (by exact S1) (fun hHeld=>?_)
     clear hK K;try simp only[pt]
     refine td ?_;clear S1;go_wp2_with (first|(go_at_call 179;refine(TN.out _ _ H.out B.out D.out _ _ (by decide)).mono ?_;rintro y w1 ⟨rfl,hk,hb,hd⟩;have H:=hide hk;have B:=hide hb;have D:=hide hd;obtain⟨c0,c1,c2,c3,c4⟩:=PG.out _ hb;obtain⟨d0,d1,d2,d3⟩:=PI.out _ hd;clear hk hb hd)|(go_at_call 159;refine(isNumber_any _ _).mono ?_;rintro y w1 ⟨rfl,hww⟩;obtain rfl:=hww.symm)|(go_at_call 183;refine(CV.out _ _ H.out).mono ?_;rintro y w1 ⟨rfl,hk,_⟩;have H:=hide hk))
     all_goals ((first|go_end0|refine bodyPost_ret (results_none rfl _ _ _) rfl ?_);have HV:=HVN.out;refine⟨rfl,(congrArg (Kt w0 kb _) (idx_fin e (j+1) (Iv.it ⟨aK,cK,key,aV,cV,val,child,size⟩) yk _ _ _ _ ?_ ?_ ?_ ?_)).mp H.out⟩<;>clear H B D TN PG PI HI HL<;>have hkl:(0<key.length)=¬key=[]:=(by rw[List.length_pos_iff]))
     all_goals (have HZ:=HZ.out;simp[Iv.it,HZ];try grind)
   · have hvd:decide ((0:Int)<(vn:Int))=true:=by simp;omega
     go_enter Tryz.func158,Tryz.ntmps158;go_wp2_with (first|(go_at_call 179;refine(TN.out _ _ H.out B.out D.out _ _ (by decide)).mono ?_;rintro y w1 ⟨rfl,hk,hb,hd⟩;have H:=hide hk;have B:=hide hb;have D:=hide hd;obtain⟨c0,c1,c2,c3,c4⟩:=PG.out _ hb;obtain⟨d0,d1,d2,d3⟩:=PI.out _ hd;clear hk hb hd)|(go_at_call 159;refine(isNumber_any _ _).mono ?_;rintro y w1 ⟨rfl,hww⟩;obtain rfl:=hww.symm)|(go_at_call 183;refine(CV.out _ _ H.out).mono ?_;rintro y w1 ⟨rfl,hk,_⟩;have H:=hide hk))
     have H:=hide (H.out.keep (dr1 _));have B:=hide (B.out.keep (dr1 _));have D:=hide (D.out.keep (dr1 _));have S1:=And.intro (PG.out _ B.out).2.2.1 (And.intro (PI.out _ D.out).1 (HR.out _ H.out.b));refine wp_region_held_drew (S:=fun w'=>w'.cell? ⟨w.heap.size,2,none⟩=some (.slice (some ⟨bI,off,none⟩) items.length cI)/\w'.cell? ⟨w.heap.size+1,0,none⟩=some (.slice aK key.length cK)/\w'.cell? ⟨bI,off+j*4,none⟩=some (.slice yaK yk.length ycK)) (by kernel_rfl) (by exact S1) (fun hHeld=>?_)
     refine tk 0 ?_;refine tk 1 ?_;refine tk 2 ?_;refine tk 3 ?_;refine tk 4 ?_;refine tk 5 ?_;refine tk 6 ?_;refine tk 7 ?_;refine tk 8 ?_;refine tk 9 ?_;refine tk 10 ?_;refine tk 11 ?_;refine tk 12 ?_;refine tw 13 fun K hK=>?_
     go_simp;refine(CM.out _ H.out.b).mono ?_;rintro e w9 ⟨rfl,hw⟩;obtain rfl:=hw.symm;clear hw;go_wp2_with fail
     refine hK.out _ _ (by exact S1) (fun hHeld=>?_)
     clear hK K;try simp only[pt]
     refine tk 14 ?_;refine tk 15 ?_;refine tw 16 fun K hK=>?_
     go_simp;refine(TN.out _ _ H.out B.out D.out _ _ (by decide)).mono ?_
     rintro y w1 ⟨rfl,hk,hb,hd⟩;have H:=hide hk;have B:=hide hb;have D:=hide hd;obtain⟨c0,c1,c2,c3,c4⟩:=PG.out _ hb;obtain⟨d0,d1,d2,d3⟩:=PI.out _ hd;clear hk hb hd;have S1:=And.intro (PG.out _ B.out).2.2.1 (And.intro (PI.out _ D.out).1 (HR.out _ H.out.b));go_wp2_with fail
     refine hK.out _ _ (by exact S1) (fun hHeld=>?_)
     clear hK K;try simp only[pt]
     refine td ?_;clear S1;go_wp2_with (first|(go_at_call 179;refine(TN.out _ _ H.out B.out D.out _ _ (by decide)).mono ?_;rintro y w1 ⟨rfl,hk,hb,hd⟩;have H:=hide hk;have B:=hide hb;have D:=hide hd;obtain⟨c0,c1,c2,c3,c4⟩:=PG.out _ hb;obtain⟨d0,d1,d2,d3⟩:=PI.out _ hd;clear hk hb hd)|(go_at_call 159;refine(isNumber_any _ _).mono ?_;rintro y w1 ⟨rfl,hww⟩;obtain rfl:=hww.symm)|(go_at_call 183;refine(CV.out _ _ H.out).mono ?_;rintro y w1 ⟨rfl,hk,_⟩;have H:=hide hk))
     all_goals ((first|go_end0|refine bodyPost_ret (results_none rfl _ _ _) rfl ?_);have HV:=HVN.out;refine⟨rfl,(congrArg (Kt w0 kb _) (idx_fin e (j+1) (Iv.it ⟨aK,cK,key,aV,cV,val,child,size⟩) yk _ _ _ _ ?_ ?_ ?_ ?_)).mp H.out⟩<;>clear H B D TN PG PI HI HL<;>have hkl:(0<key.length)=¬key=[]:=(by rw[List.length_pos_iff]))
     all_goals (have HZ:=HZ.out;simp[Iv.it,HZ];try grind)
 · skip
   by_cases hv0:vn=0
   · subst hv0;go_enter Tryz.func158,Tryz.ntmps158;go_wp2_with (first|(go_at_call 179;refine(TN.out _ _ H.out B.out D.out _ _ (by decide)).mono ?_;rintro y w1 ⟨rfl,hk,hb,hd⟩;have H:=hide hk;have B:=hide hb;have D:=hide hd;obtain⟨c0,c1,c2,c3,c4⟩:=PG.out _ hb;obtain⟨d0,d1,d2,d3⟩:=PI.out _ hd;clear hk hb hd)|(go_at_call 159;refine(isNumber_any _ _).mono ?_;rintro y w1 ⟨rfl,hww⟩;obtain rfl:=hww.symm)|(go_at_call 183;refine(CV.out _ _ H.out).mono ?_;rintro y w1 ⟨rfl,hk,_⟩;have H:=hide hk))
     have H:=hide (H.out.keep (dr1 _));have B:=hide (B.out.keep (dr1 _));have D:=hide (D.out.keep (dr1 _));have S1:=And.intro (PG.out _ B.out).2.2.1 (And.intro (PI.out _ D.out).1 (HR.out _ H.out.b));refine wp_region_held_drew (S:=fun w'=>w'.cell? ⟨w.heap.size,2,none⟩=some (.slice (some ⟨bI,off,none⟩) items.length cI)/\w'.cell? ⟨w.heap.size+1,0,none⟩=some (.slice aK key.length cK)/\w'.cell? ⟨bI,off+j*4,none⟩=some (.slice yaK yk.length ycK)) (by kernel_rfl) (by exact S1) (fun hHeld=>?_)
     refine tk 0 ?_;refine tk 1 ?_;refine tk 2 ?_;refine tk 3 ?_;refine tk 4 ?_;refine tk 5 ?_;refine tk 6 ?_;refine tk 7 ?_;refine tk 8 ?_;refine tk 9 ?_;refine tk 10 ?_;refine tk 11 ?_;refine tk 12 ?_;refine tw 13 fun K hK=>?_
     go_simp;refine(CM.out _ H.out.b).mono ?_;rintro e w9 ⟨rfl,hw⟩;obtain rfl:=hw.symm;clear hw;go_wp2_with fail
     refine hK.out _ _ (by exact S1) (fun hHeld=>?_)
     clear hK K;try simp only[pt]
     refine tk 14 ?_;refine tk 15 ?_;refine tw 16 fun K hK=>?_
     go_simp;refine(TN.out _ _ H.out B.out D.out _ _ (by decide)).mono ?_
     rintro y w1 ⟨rfl,hk,hb,hd⟩;have H:=hide hk;have B:=hide hb;have D:=hide hd;obtain⟨c0,c1,c2,c3,c4⟩:=PG.out _ hb;obtain⟨d0,d1,d2,d3⟩:=PI.out _ hd;clear hk hb hd;have S1:=And.intro (PG.out _ B.out).2.2.1 (And.intro (PI.out _ D.out).1 (HR.out _ H.out.b));go_wp2_with fail
     refine hK.out _ _ (by exact S1) (fun hHeld=>?_)
     clear hK K;try simp only[pt]
     refine td ?_;clear S1;go_wp2_with (first|(go_at_call 179;refine(TN.out _ _ H.out B.out D.out _ _ (by decide)).mono ?_;rintro y w1 ⟨rfl,hk,hb,hd⟩;have H:=hide hk;have B:=hide hb;have D:=hide hd;obtain⟨c0,c1,c2,c3,c4⟩:=PG.out _ hb;obtain⟨d0,d1,d2,d3⟩:=PI.out _ hd;clear hk hb hd)|(go_at_call 159;refine(isNumber_any _ _).mono ?_;rintro y w1 ⟨rfl,hww⟩;obtain rfl:=hww.symm)|(go_at_call 183;refine(CV.out _ _ H.out).mono ?_;rintro y w1 ⟨rfl,hk,_⟩;have H:=hide hk))
     all_goals ((first|go_end0|refine bodyPost_ret (results_none rfl _ _ _) rfl ?_);have HV:=HVN.out;refine⟨rfl,(congrArg (Kt w0 kb _) (idx_fin e (j+1) (Iv.it ⟨aK,cK,key,aV,cV,val,child,size⟩) yk _ _ _ _ ?_ ?_ ?_ ?_)).mp H.out⟩<;>clear H B D TN PG PI HI HL<;>have hkl:(0<key.length)=¬key=[]:=(by rw[List.length_pos_iff]))
     all_goals (have HZ:=HZ.out;simp[Iv.it,HZ];try grind)
   · have hvd:decide ((0:Int)<(vn:Int))=true:=by simp;omega
     go_enter Tryz.func158,Tryz.ntmps158;go_wp2_with (first|(go_at_call 179;refine(TN.out _ _ H.out B.out D.out _ _ (by decide)).mono ?_;rintro y w1 ⟨rfl,hk,hb,hd⟩;have H:=hide hk;have B:=hide hb;have D:=hide hd;obtain⟨c0,c1,c2,c3,c4⟩:=PG.out _ hb;obtain⟨d0,d1,d2,d3⟩:=PI.out _ hd;clear hk hb hd)|(go_at_call 159;refine(isNumber_any _ _).mono ?_;rintro y w1 ⟨rfl,hww⟩;obtain rfl:=hww.symm)|(go_at_call 183;refine(CV.out _ _ H.out).mono ?_;rintro y w1 ⟨rfl,hk,_⟩;have H:=hide hk))
     have H:=hide (H.out.keep (dr1 _));have B:=hide (B.out.keep (dr1 _));have D:=hide (D.out.keep (dr1 _));have S1:=And.intro (PG.out _ B.out).2.2.1 (And.intro (PI.out _ D.out).1 (HR.out _ H.out.b));refine wp_region_held_drew (S:=fun w'=>w'.cell? ⟨w.heap.size,2,none⟩=some (.slice (some ⟨bI,off,none⟩) items.length cI)/\w'.cell? ⟨w.heap.size+1,0,none⟩=some (.slice aK key.length cK)/\w'.cell? ⟨bI,off+j*4,none⟩=some (.slice yaK yk.length ycK)) (by kernel_rfl) (by exact S1) (fun hHeld=>?_)
     refine tk 0 ?_;refine tk 1 ?_;refine tk 2 ?_;refine tk 3 ?_;refine tk 4 ?_;refine tk 5 ?_;refine tk 6 ?_;refine tk 7 ?_;refine tk 8 ?_;refine tk 9 ?_;refine tk 10 ?_;refine tk 11 ?_;refine tk 12 ?_;refine tw 13 fun K hK=>?_
     go_simp;refine(CM.out _ H.out.b).mono ?_;rintro e w9 ⟨rfl,hw⟩;obtain rfl:=hw.symm;clear hw;go_wp2_with fail
     refine hK.out _ _ (by exact S1) (fun hHeld=>?_)
     clear hK K;try simp only[pt]
     refine tk 14 ?_;refine tk 15 ?_;refine tw 16 fun K hK=>?_
     go_simp;refine(TN.out _ _ H.out B.out D.out _ _ (by decide)).mono ?_
     rintro y w1 ⟨rfl,hk,hb,hd⟩;have H:=hide hk;have B:=hide hb;have D:=hide hd;obtain⟨c0,c1,c2,c3,c4⟩:=PG.out _ hb;obtain⟨d0,d1,d2,d3⟩:=PI.out _ hd;clear hk hb hd;have S1:=And.intro (PG.out _ B.out).2.2.1 (And.intro (PI.out _ D.out).1 (HR.out _ H.out.b));go_wp2_with fail
     refine hK.out _ _ (by exact S1) (fun hHeld=>?_)
     clear hK K;try simp only[pt]
     refine td ?_;clear S1;go_wp2_with (first|(go_at_call 179;refine(TN.out _ _ H.out B.out D.out _ _ (by decide)).mono ?_;rintro y w1 ⟨rfl,hk,hb,hd⟩;have H:=hide hk;have B:=hide hb;have D:=hide hd;obtain⟨c0,c1,c2,c3,c4⟩:=PG.out _ hb;obtain⟨d0,d1,d2,d3⟩:=PI.out _ hd;clear hk hb hd)|(go_at_call 159;refine(isNumber_any _ _).mono ?_;rintro y w1 ⟨rfl,hww⟩;obtain rfl:=hww.symm)|(go_at_call 183;refine(CV.out _ _ H.out).mono ?_;rintro y w1 ⟨rfl,hk,_⟩;have H:=hide hk))
     all_goals ((first|go_end0|refine bodyPost_ret (results_none rfl _ _ _) rfl ?_);have HV:=HVN.out;refine⟨rfl,(congrArg (Kt w0 kb _) (idx_fin e (j+1) (Iv.it ⟨aK,cK,key,aV,cV,val,child,size⟩) yk _ _ _ _ ?_ ?_ ?_ ?_)).mp H.out⟩<;>clear H B D TN PG PI HI HL<;>have hkl:(0<key.length)=¬key=[]:=(by rw[List.length_pos_iff]))
     all_goals (have HZ:=HZ.out;simp[Iv.it,HZ];try grind)
end Go.Proofs.YtcpkinhneehomaaGreat
namespace Go.Proofs.YtcpkinhneehomaaGreat
theorem checkItem_any(w0 w:World)(kb e i:Nat)(p:Pv)(h:Kt w0 kb w e)(hP:Pi w0 p)(hi:i<p.items.length)(hk:p.kind=1\/p.kind=2):Calls Tryz.prog 158 #[p.vl,.int .i64 (i:Int),tv kb] w fun x w'=>x=.returned (.tuple #[])/\Kt w0 kb w' (els e (p.pg.itemE i)):=by
 by_cases h0:i=0
 · rcases hk with hk|hk
   · exact checkItem_l0 w0 w kb e i p h hP hi hk h0
   · exact checkItem_i0 w0 w kb e i p h hP hi hk h0
 · rcases hk with hk|hk
   · exact checkItem_lN w0 w kb e i p h hP hi hk h0
   · exact checkItem_iN w0 w kb e i p h hP hi hk h0
end Go.Proofs.YtcpkinhneehomaaGreat
