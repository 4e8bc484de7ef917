import Derived.Test.YtbdkogimlbnlmaaGreatWlB18
set_option linter.all false
set_option maxHeartbeats 16000000
set_option maxRecDepth 8000
namespace Go.Proofs.YtbdkogimlbnlmaaGreat
open Go.Proofs.Tryz
open Go.RowKit
variable {n y z:Int}{b:Nat}{col pc:Nat->Nat}{q':Pv}{D D':Rd}{X:Vm}{S:Vs}{w:World}
structure R2(X:Vm)(D:Rd):Prop where
 rel:Rel X D
 pd:∀z,D.state z=2->(X.on z).pg=(D.on z).pg
 fr:∀z,D.state z=1->X.f z=none
theorem Rel.state2(h:Rel X D)(z:Int):X.P.state z=D.state z:=by
 unfold Q.Po.state Rd.state Rd.lasts
 have e:X.P.has z=D.has z:=by
  unfold Q.Po.has Rd.has;rw[h.len]
 rw[e];split
 . rename_i d;obtain⟨f,g⟩:=Rd.has_iff.1 d;rw[h.pg,Rd.pg_get h.nL (by omega)]
 . rfl
theorem Rd.state_put(f:D.has z=true)(c y:Int):(D.put z c).state y=if y=z then Q.stt (c,D.lasts z) else D.state y:=by
 obtain⟨j,l⟩:=Rd.has_iff.1 f;have h:(D.put z c).C.length=D.C.length:=aM;have g:(D.put z c).has y=D.has y:=by unfold Rd.has;rw[h]
 unfold Rd.state;rw[g];by_cases e:y=z
 . subst e;rw[if_pos f,if_pos rfl];show Q.stt ((D.C.set (y-1).toNat c).getD (y-1).toNat 0,D.lasts y)=_;have d:(y-1).toNat<D.C.length:=by omega
   generalize (y-1).toNat=k at d;rw[aq,eb d];rfl
 . rw[if_neg e];split
   . rename_i i;obtain⟨m,p⟩:=Rd.has_iff.1 i;show Q.stt ((D.C.set (z-1).toNat c).getD (y-1).toNat 0,D.lasts y)=_;rw[aq,bQ (by omega),<-aq]
   . rfl
theorem Rd.count_has{D:Rd}{z:Int}(h:D.count z≠0):D.has z=true:=by
 cases e:D.has z with
 |true=>rfl
 |false=>unfold Rd.count at h;rw[e] at h;exact absurd rfl h
theorem R2.inc(h:R2 S.X D)(z:Int)(g:(S.X.P.inc z).1=0):R2 ⟨(S.X.P.inc z).2,S.X.f,S.X.ch⟩ (D.inc z).2:=by
 obtain⟨d,p,_⟩:=h.rel.inc z;have r:=p g;rw[g] at d
 have q:0<D.count z/\(D.inc z).2=D.put z (D.count z+1):=by
  unfold Rd.inc at d ⊢;by_cases f:0<D.count z
  . rw[if_pos f] at d ⊢;by_cases j:D.R<=D.count z
    . rw[if_pos j] at d;exact absurd (show(13:Int)=0 from d.symm) (by decide)
    . rw[if_neg j];exact⟨f,rfl⟩
  . rw[if_neg f] at d;exact absurd (show(15:Int)=0 from d.symm) (by decide)
 have i:=Rd.count_has (D:=D) (z:=z) (by omega)
 rw[q.2] at r ⊢
 have m:∀l:Bool,Q.stt (D.count z+1,l)=3\/Q.stt (D.count z+1,l)=4:=λl=>by
  unfold Q.stt;have:¬(D.count z+1=0):=by omega
  cases l<;>simp[this]
 refine⟨r,λy e=>?_,λy e=>?_⟩
 . rw[Rd.state_put i] at e;split at e
   . rcases m (D.lasts z) with k|k<;>omega
   . exact h.pd y e
 . rw[Rd.state_put i] at e;split at e
   . rcases m (D.lasts z) with k|k<;>omega
   . exact h.fr y e
theorem R2.less(h:R2 X D)(g:X.P.count z≠0):R2 (X.less z) (D.put z (D.count z-1)):=by
 have r:=h.rel.less g;have j:=Rd.count_has (D:=D) (z:=z) (by rw[<-h.rel.count];exact g)
 have st:(X.P.dec z).2.state z=(D.put z (D.count z-1)).state z:=by rw[<-r.state2 z,Vm.less_P]
 have i:∀y,y≠z->(X.less z).f y=X.f y:=λy d=>by
  unfold Vm.less jp;split
  . simp[d]
  . rfl
 refine⟨r,λy d=>?_,λy d=>?_⟩
 . by_cases e:y=z
   . subst e
     have m:(X.less y).f=X.f:=by
      unfold Vm.less;rw[if_neg (λk=>by rw[st,d] at k;exact absurd k.2 (by decide))]
     show(((X.less y).f y).getD Pv.zero).pg=_;rw[m];exact h.rel.on y g
   . rw[Rd.state_put j,if_neg e] at d;show(((X.less z).f y).getD Pv.zero).pg=_;rw[i y e];exact h.pd y d
 . by_cases e:y=z
   . subst e;have l:(X.P.dec y).1.2=0:=by unfold Q.Po.dec;rw[if_neg g]
     unfold Vm.less;rw[if_pos ⟨l,by rw[st];exact d⟩]
     unfold jp;simp[Pv.zero]
   . rw[Rd.state_put j,if_neg e] at d;rw[i y e];exact h.fr y d
theorem Pn.free{S:Nat->Prop}{v g:World}{q:Pv}(h:Pn v w q)(hb:But S w g)(e:∀k,v.heap.size<=k->¬S k):Pn v g q:=
 ⟨h.it.but hb (λx d=>e _ (i8 h.itn d)),h.itn,h.d.but hb (λx d=>e _ (i8 h.dn d)),h.dn,λt f=>⟨(h.fr t f).1.but hb (λx d=>e _ (i8 (h.fr t f).2.1 d)),(h.fr t f).2⟩,h.dist,h.d8,h.ns,h.nk,h.nl,h.nn⟩
theorem Vw.row{f d:Nat}(h:Vw w b S f d pc col){x:Nat}(p:col x=0)(cs:Array Value):Vw (w.setRow x cs) b S f d pc col:=by
 obtain⟨i,l,g,j,h⟩:=h;exact⟨i,l,g,j,h.but (Q.jg w x cs) (λk m e=>m (by rw[e];exact p))⟩
theorem Vm.leave_pz{W:World}{fl:Nat}{D:Vd}{col':Nat->Nat}(h:Vx w b X fl D pc col)(d:Vf w col W col')(z:Int):Pi W (X.leave z).1.1:=by
 unfold Vm.leave;simp only;split
 . exact(h.pz d (h.on_z z)).pi
 . exact Pi.zero _
theorem Vm.leave_sml(h:Sml (X.on z)):Sml (X.leave z).1.1:=by
 unfold Vm.leave;simp only;split
 . exact h
 . exact⟨by simp[Pv.zero],λx d=>by cases d⟩
def Blk(p:Pv)(k:Nat):Prop:=(∃x,p.aI=some x/\x.block=k)\/∃t∈rp p,∃y,t.a=some y/\y.block=k
section
variable {S:Nat->Prop} {v w w':World} {p:Pv}
theorem Pn.rws(h:Pn v w p){t:Br}(ht:t∈rp p):Rw w t.a t.c t.l/\New v none t.a/\B8 t.l:=by
 rcases cO.1 ht with rfl|ht
 . exact⟨h.d,h.dn,h.d8⟩
 . exact h.fr t ht
theorem Pn.blk_lt(h:Pn v w p){k:Nat}(d:Blk p k):k<w.heap.size:=by
 rcases d with⟨x,hx,rfl⟩|⟨t,ht,y,hy,rfl⟩
 . exact h.it.lt hx
 . exact(h.rws ht).1.lt hy
theorem Pn.blk_new(h:Pn v w p){k:Nat}(d:Blk p k):v.heap.size<=k:=by
 rcases d with⟨x,hx,rfl⟩|⟨t,ht,y,hy,rfl⟩
 . exact i8 h.itn hx
 . exact i8 (h.rws ht).2.1 hy
theorem Blk.zero{k:Nat}:¬Blk Pv.zero k:=λh=>by
 rcases h with⟨x,hx,_⟩|⟨t,ht,y,hy,_⟩
 . cases hx
 . rcases cO.1 ht with rfl|ht
   . cases hy
   . cases ht
end
def Rd.takeE(D:Rd)(z:Int):Int:=if 0<D.count z then (D.leave z).1 else 15
def Rd.takeP(D:Rd)(z:Int):Pg:=if 0<D.count z/\(D.leave z).1=0 then (D.on z).pg else Pv.zero.pg
def Rd.takeD(D:Rd)(z:Int):Rd:=if 0<D.count z/\(D.leave z).1=0 then (D.leave z).2 else D
def RTk(w:World)(rb:Nat)(D:Rd)(H:List Sn)(col:Nat->Nat)(z:Int)(e:Ending)(w':World):Prop:=∃(q:Pv)(D':Rd)(H':List Sn)(col':Nat->Nat),e=.returned (.tuple #[q.vl,.int .i64 (D.takeE z)])/\q.pg=D.takeP z/\Pn w w' q/\q.items.length<=1048576/\(∀k,Blk q k->col' k=0)/\Ra w' rb D' H' col'/\Vf w col w' col'/\D'.Al (D.takeD z)/\Dn D H (D.takeE z) H'
theorem Ra.row{j:Nat}{H:List Sn}(h:Ra w j D H col){g:Nat}(hg:col g=0\/w.heap.size<=g)(cs:Array Value):Ra (w.setRow g cs) j D H col:=by
 have hb:But (λk=>k=g) w (w.setRow g cs):=jz w g cs
 have q:=h.q
 have ne:∀{k c:Nat},k<w.heap.size->col k=c->c≠0->¬k=g:=λf e i l=>by
  rcases hg with hg|hg
  . rw[l,hg] at e;exact i e.symm
  . omega
 have lt:∀{k c:Nat},col k=c->c≠0->k<w.heap.size:=λe i=>q.lt _ (by rw[e];exact i)
 exact⟨⟨hb.same q.box (ne q.lb q.cb (by decide)),q.cr.but hb (λx d=>ne (lt (q.cc x d) (by decide)) (q.cc x d) (by decide)),q.lr.but hb (λx d=>ne (lt (q.cl x d) (by decide)) (q.cl x d) (by decide)),q.pr.but hb (λx d=>ne (lt (q.cp x d) (by decide)) (q.cp x d) (by decide)),λp m=>(q.pz p m).but hb (λk f e=>ne f e (by decide)),q.ps,q.cb,q.cc,q.cl,q.cp,λk f=>be (q.lt k f) hb.size,q.nL,q.nP,q.n6⟩,
  ⟨h.a.ar.but hb (λx d=>ne (lt (h.a.ca x d) (by decide)) (h.a.ca x d) (by decide)),h.a.na,h.a.ca,λs r=>(h.a.sv s r).but hb (λk f e=>by rcases e with e|e<;>exact ne f e (by decide))⟩⟩
theorem y9(w:World)(j:Nat)(D:Rd)(H:List Sn)(col:Nat->Nat)(h:Ra w j D H col)(z:Int)(d:¬0<D.count z):
 Calls prog 38 #[.pointer (some ⟨j,0,none⟩),.int .i64 z] w λe w'=>RTk w j D H col z e w':=by
 have m:=al w (.cells Pv.zero.cs 31);have i:=iJ (kf _ j D col (h.q.keep m) z);have g:=iJ (aF w (.cells Pv.zero.cs 31));have l:=iJ m;have t:=iJ h
 have f:Hid (D.takeE z=15/\D.takeP z=Pv.zero.pg/\D.takeD z=D):=by
  unfold Rd.takeE Rd.takeP Rd.takeD;exact⟨if_neg d,if_neg (λe=>d e.1),if_neg (λe=>d e.1)⟩
 rw[au d] at i;clear h d m;unfold Pv.vl at *;simp only[Pv.cs] at g l i;simp only[Pv.zero,bj] at g l i;have q:=iJ λ(cs:Array Value)=>((But.ofBelow (S:=λk=>k=w.heap.size) l.o).trans (Q.jg _ _ cs) (λ_ _ e=>e)).below (λk r e=>by omega)
 go_enter func38,ntmps38;go_wp2_with fail
 refine i.o.mono ?_;rintro _ x ⟨rfl,s⟩;obtain rfl:=s.symm;clear s;go_wp2_with (first|(refine cE rfl 31 _ _ rfl w.heap.size _ rfl rfl 31 _ g.o iP rfl (by simp[Value.oneCell']) ?_)|fail)
 refine bZ (v:=.tuple #[.agg _,_]) (je results38 _ _ w.heap.size 31 _ (0,0) _ rfl (dc _ _ _ _ _ _ g.o) underlying31 rfl iP) rfl ?_;refine⟨Pv.zero,D,H,col,by rw[f.o.1];rfl,f.o.2.1.symm,Pn.zero _ _,az _,λk r=>absurd r Blk.zero,t.o.keep (q.o _),Vf.keep (q.o _),by rw[f.o.2.2];exact Rd.Al.refl D,.inr ⟨by rw[f.o.1];decide,rfl⟩⟩
theorem zL(w:World)(d:Nat)(D:Rd)(H:List Sn)(col:Nat->Nat)(h:Ra w d D H col)(hh:D.hush=false)(hH:H.length<=1000000000000)(z:Int)(hR:D.R<=65536)(G:0<D.count z)(aG:D.count z<=65536):
 Calls prog 38 #[.pointer (some ⟨d,0,none⟩),.int .i64 z] w λe w'=>RTk w d D H col z e w':=by
 have U:=al w (.cells Pv.zero.cs 31);have TH:=iJ (kf _ d D col (h.q.keep U) z);have HX:=iJ (aF w (.cells Pv.zero.cs 31));have AB:=iJ U;have HR:=iJ h
 have m:Hid (D.takeE z=(D.leave z).1/\D.takeP z=(if (D.leave z).1=0 then (D.on z).pg else Pv.zero.pg)/\D.takeD z=if (D.leave z).1=0 then (D.leave z).2 else D):=by
  unfold Rd.takeE Rd.takeP Rd.takeD;refine⟨if_pos G,?_,?_⟩<;>by_cases e:(D.leave z).1=0<;>simp[e,G]
 rw[ax G] at TH
 have ap:D.has z=true:=by
  cases e:D.has z with
  |true=>rfl
  |false=>unfold Rd.count at G;rw[e] at G;exact absurd G (by simp)
 obtain⟨z1,z2⟩:=Rd.has_iff.1 ap;obtain⟨i,hi⟩:∃i:Nat,z=(i:Int)+1:=⟨(z-1).toNat,by omega⟩
 subst hi;have aS:i<D.C.length:=by omega
 have ei:((i:Int)+1-1).toNat=i:=by omega
 have aK:D.on ((i:Int)+1)=D.P.getD i Pv.zero:=by unfold Rd.on;rw[ei]
 have ag:=Rd.on_mem h.q ap;obtain⟨sm,si⟩:=jU (h.q.ps _ ag);rw[aK] at m ag sm si;have HM:=iJ ag;have SM:=iJ (And.intro sm si);have CI:=iJ λ(W:World)(hb:Below w.heap.size w W)=>Q.j9 W D.aC D.C.length D.cC D.C (h.keep hb).q.cr.ir rfl h.q.n6
 have CP:=iJ λ(W:World)(hb:Below w.heap.size w W)=>jS W D.aP D.P.length D.cP D.P (h.keep hb).q.pgs rfl (by rw[h.q.nP];exact h.q.n6)
 have SS:Hid (∀W:World,Below w.heap.size w W->W.cell? ⟨d,1,none⟩=some (.slice D.aC D.C.length D.cC)/\W.cell? ⟨d,3,none⟩=some (.slice D.aP D.P.length D.cP)):=λW hb=>⟨(h.keep hb).q.cells.2.1,(h.keep hb).q.cells.2.2.2.1⟩
 have T:Hid (col w.heap.size=0):=by
  show _=_;cases e:col w.heap.size with
  |zero=>rfl
  |succ n=>exact absurd (h.q.lt _ (by rw[e];exact Nat.succ_ne_zero n)) (eG _)
 obtain⟨l,g⟩:∃X,w.alloc (.cells Pv.zero.cs 31)=X:=⟨_,rfl⟩;have ac:=iJ g;have DR:=iJ (bt U (dr2 (w.alloc (.cells Pv.zero.cs 31))));have am:=iJ (dr2 l);have av:Hid (Ra l d D H col):=by rw[<-g];exact h.keep U
 have ar:Hid (Below w.heap.size w l):=by rw[<-g];exact U
 have O:Hid (l.heap[w.heap.size]?=some (.cells Pv.zero.cs 31 (0,0))):=by rw[<-g];exact HX.o
 rw[g] at DR TH AB;clear g;obtain⟨gP,ay⟩:∃gg,D.aP=some ⟨gg,0,none⟩:=h.q.pr.addr (by rw[h.q.nP];omega)
 have EP:=iJ ay;have NP:=iJ h.q.nP;have h6:=h.q.n6;have aV:(i:Int)+1-1=(i:Int):=by omega
 have WI:Hid (IntKind.i64.wrap ((i:Nat):Int)=(i:Int)):=iT (by omega) (by omega)
 have HI:=iJ aS;have E:=iJ (D.leave_sm ((i:Int)+1));have LE:=iJ λ(W:World)(c:Nat->Nat)(hq:Rq W d D c)=>rY W d D c hq ((i:Int)+1) G aG hR
 have HH:=iJ hh;have HL:=iJ hH;clear h hh hH hR G aG ap z1 z2 ei aK ag sm si U ay;generalize D.leave ((i:Int)+1)=rl at *;obtain⟨er,R⟩:=rl;dsimp only at LE E m;clear HX AB;unfold Pv.vl at *;simp only[Pv.cs] at ac O;simp only[Pv.zero,bj] at ac O;go_enter func38,ntmps38;go_upto_region 1 with fail
 rw[ac.o];go_wp2_with fail
 refine TH.o.mono ?_;rintro _ wq ⟨rfl,aN⟩;obtain rfl:=aN.symm;clear aN TH ac;go_upto_region 3 with fail
 refine wrd SS DR.o λhHeld=>?_
 refine tkd 0 1 2 3 ?_;refine tkd 5 6 7 8 ?_;refine tw 4 λah hK=>?_
 go_simp;refine(CI.o _ DR.o).mono ?_;rintro _ w1 ⟨s,B,rfl,aa⟩;have B1:=iJ (bt DR.o aa.b);have aj:=iJ (bt am.o aa.b);have IC:=iJ aa.r;have NC:=iJ (aa.n.mono (am.o).size);clear aa;go_wp2_with fail
 refine hK.o _ _ (SS.o _ B1.o) (λhHeld=>?_)
 clear hK ah;refine tw 9 λah hK=>?_
 go_simp;refine(CP.o _ B1.o).mono ?_;rintro _ f ⟨t,C,rfl,hG,hN,ae⟩;have B2:=iJ (bt B1.o ae);have ak:=iJ (bt aj.o ae);have aw:=iJ (hN.mono (aj.o).size);obtain⟨RS,FSx,SV⟩:Hid (Ra f d D H (iO col l f 7))/\Hid (Vf l col f (iO col l f 7))/\Hid (Sv f (iO col l f 7) D.C.length ⟨s,B,D.C,t,C,D.P⟩):=av.o.snap ak.o (IC.o.keep ae) hG NC.o aw.o
 have Z2:Hid (∀k,f.heap.size<=k->iO col l f 7 k=0):=λk j=>by
  unfold iO;have:=ak.o.size;rw[if_neg (by omega),if_neg (by omega)]
 clear ae hG hN IC;go_wp2_with fail
 refine hK.o _ _ (SS.o _ B2.o) (λhHeld=>?_)
 clear hK ah;refine tkb 10 11 ?_;refine td ?_;clear hHeld SS CI CP B1 DR aj am;have SZ:Hid (l.heap.size<=f.heap.size/\w.heap.size<l.heap.size):=⟨ak.o.size,(af.1 O.o).1⟩;generalize iO col l f 7=A at *;obtain⟨aR,aP,P⟩:=RS.o.q.pAt HI.o;obtain rfl:aR=gP:=by have:=aP.symm.trans EP.o;simpa using this
 have x3:=RS.o.q.cells.2.2.2.1;rw[EP.o,NP.o] at x3;have aU:(i:Int)<(D.C.length:Int):=by have:=HI.o;omega
 obtain⟨pp,aL⟩:∃pp,D.P.getD i Pv.zero=pp:=⟨_,rfl⟩;rw[aL] at P HM SM m;have CO:=iJ (jX f pp (RS.o.q.pz pp HM.o).pi SM.o.1.1 SM.o.2 SM.o.1.2);have y0:=P 0 _ (by decide) rfl
 have y1:=P 1 _ (by decide) rfl
 have y2:=P 2 _ (by decide) rfl
 have y3:=P 3 _ (by decide) rfl
 have y4:=P 4 _ (by decide) rfl
 rw[bY] at y0;unfold Pv.vl at CO;simp only[Pv.cs] at CO;clear P aL aP;go_wp2_with fail
 refine CO.o.mono ?_;rintro _ w3 ⟨r,rfl,ad,aJ,aI,aE⟩;have N3:=iJ ad;have L3:=iJ aJ;have G3:=iJ aI;have B3:=iJ aE;have BK:Hid (∀k,Blk r k->f.heap.size<=k/\k<w3.heap.size):=λk j=>⟨ad.blk_new j,ad.blk_lt j⟩
 have K:=iJ (al w3 (.cells #[.int .i64 0,.int .i64 0,.slice none 0 0,.slice none 0 0,.int .i64 0] 31));have X4:=iJ (aH w3 (.cells #[.int .i64 0,.int .i64 0,.slice none 0 0,.slice none 0 0,.int .i64 0] 31));have aT:Hid (r.cs=#[.int .i64 r.kind,.int .i64 r.level,.slice r.aI r.items.length r.cI,.slice r.aD r.data.length r.cD,.int .i64 r.next]):=rfl;clear ad aJ aI aE CO y0 y1 y2 y3 y4 x3;go_wp2_with (first|(refine cE rfl 31 _ _ rfl w3.heap.size _ rfl rfl 31 _ X4.o iP rfl (by simp[Value.oneCell']) ?_)|fail)
 have G0:Hid (f.heap.size<=w3.heap.size):=B3.o.size;obtain⟨ab,hg⟩:∃ab,w3.heap.size=ab:=⟨_,rfl⟩;have HG:=iJ hg;have ZG:Hid (A w3.heap.size=0):=Z2.o _ G0.o;have R5:=iJ (((RS.o.keep B3.o).keep K.o).row (.inl ZG.o) #[.int .i64 r.kind,.int .i64 r.level,.slice r.aI r.items.length r.cI,.slice r.aD r.data.length r.cD,.int .i64 r.next]);have X5:Hid (((w3.alloc (.cells #[.int .i64 0,.int .i64 0,.slice none 0 0,.slice none 0 0,.int .i64 0] 31)).setRow w3.heap.size #[.int .i64 r.kind,.int .i64 r.level,.slice r.aI r.items.length r.cI,.slice r.aD r.data.length r.cD,.int .i64 r.next]).heap[w3.heap.size]?=some (.cells #[.int .i64 r.kind,.int .i64 r.level,.slice r.aI r.items.length r.cI,.slice r.aD r.data.length r.cD,.int .i64 r.next] 31 (0,0))):=dc _ _ _ _ _ _ X4.o;have FW:=iJ ((Vf.keep (c:=A) (bt B3.o K.o)).row (x:=w3.heap.size) G0.o #[.int .i64 r.kind,.int .i64 r.level,.slice r.aI r.items.length r.cI,.slice r.aD r.data.length r.cD,.int .i64 r.next]);have N5:=iJ ((N3.o.keep K.o).row X4.o (by decide) (by decide) #[.int .i64 r.kind,.int .i64 r.level,.slice r.aI r.items.length r.cI,.slice r.aD r.data.length r.cD,.int .i64 r.next])
 have L5:Hid (r.items.length<=1048576):=by show _<=_;rw[L3.o];exact SM.o.2
 have J5:Hid (Pz (λk=>f.heap.size<=k/\k<w3.heap.size) ((w3.alloc (.cells #[.int .i64 0,.int .i64 0,.slice none 0 0,.slice none 0 0,.int .i64 0] 31)).setRow w3.heap.size #[.int .i64 r.kind,.int .i64 r.level,.slice r.aI r.items.length r.cI,.slice r.aD r.data.length r.cD,.int .i64 r.next]) r):=by
  have k0:=(N3.o.pz (col:=λ_=>0) (aO L5.o (by decide))).mono (C':=λk=>f.heap.size<=k/\k<w3.heap.size) (λk j e=>by
   unfold iO at e;split at e
   . cases e
   . exact⟨by omega,j⟩)
  exact(k0.keep K.o).but (jz _ _ _) (λk _ e e2=>by omega)
 clear N3 L3 K X4 B3 ZG RS;generalize (w3.alloc (.cells #[.int .i64 0,.int .i64 0,.slice none 0 0,.slice none 0 0,.int .i64 0] 31)).setRow w3.heap.size #[.int .i64 r.kind,.int .i64 r.level,.slice r.aI r.items.length r.cI,.slice r.aD r.data.length r.cD,.int .i64 r.next]=I at *;rw[hg] at X5 J5 G0 BK ⊢;clear hg HG;have aQ:=iJ ((FSx.o.trans FW.o).box O.o T.o);go_wp2_with fail
 refine(LE.o _ _ R5.o.q.five).mono ?_;rintro _ N ⟨rfl,aC,aA⟩;obtain⟨R6,J⟩:Hid (Ra N d R H (cold A I (c57 A)))/\Hid (Vf I A N (cold A I (c57 A))):=R5.o.step aC aA E.o.a E.o.m E.o.c E.o.n
 have Z6:Hid (∀k,f.heap.size<=k->cold A I (c57 A) k=0):=λk j=>by
  have e:=Z2.o k j;unfold cold c57;rw[e];simp
 have an:Hid (Sv N (cold A I (c57 A)) R.C.length ⟨s,B,D.C,t,C,D.P⟩):=by
  show Sv _ _ _ _;rw[E.o.n];exact(SV.o.vf FW.o).vf J.o
 have F7:=iJ (FSx.o.trans (FW.o.trans J.o));have X6:=iJ (J.o.box X5.o (Z2.o _ G0.o));have N6:=iJ (N5.o.free J.o.b (λk j e=>by rw[Z2.o k j] at e;omega))
 have J6:=iJ (J5.o.but J.o.b (λk _ e e2=>by rw[Z2.o k e.1] at e2;omega))
 have au:=iJ (F7.o.box O.o T.o);have S6:Hid (I.heap.size<=N.heap.size):=J.o.b.size;have GW:Hid (ab<I.heap.size):=(af.1 X5.o).1;clear aC aA LE FSx SV J X5 N5 J5 aQ R5 FW;generalize cold A I (c57 A)=M at *;by_cases V:er=0
 . subst V;simp only[if_pos] at m;have DD:=iJ (oN N d R H M R6.o (by rw[E.o.h];exact HH.o) ⟨s,B,D.C,t,C,D.P⟩ an.o HL.o)
   dsimp only at DD;go_wp2_with fail
   refine DD.o.mono ?_;rintro _ w8 ⟨a',c',aq,rfl,aD,Z⟩;have R8:=iJ aD;have L:=iJ (F7.o.trans Z);have X8:=iJ (Z.box X6.o (Z6.o _ G0.o));have N8:=iJ (N6.o.free Z.b (λk j e=>by rw[Z6.o k j] at e;omega))
   have J8:=iJ (J6.o.but Z.b (λk _ e e2=>by rw[Z6.o k e.1] at e2;omega))
   have C8:Hid (∀k,f.heap.size<=k->k<ab->aq k=0):=λk G h2=>(Z.c k (by have:=GW.o;have:=S6.o;omega)).trans (Z6.o k G)
   have ao:Hid (aq w.heap.size=0):=(L.o.c _ SZ.o.2).trans T.o;have Y:=iJ (L.o.box O.o T.o);obtain⟨x0,x1,x2,x3,x4⟩:=iS X8.o;clear aD Z DD X6 N6 J6 au an F7 R6;go_wp2_with (first|(refine cE rfl 31 _ _ rfl w.heap.size _ rfl rfl 31 _ Y.o iP rfl (by simp[Value.oneCell']) ?_)|fail)
   refine bZ (v:=.tuple #[.agg _,_]) (je results38 _ _ w.heap.size 31 _ (0,0) _ rfl (dc _ _ _ _ _ _ Y.o) underlying31 rfl iP) rfl ?_;exact⟨r,_,_,aq,by rw[m.o.1];rfl,G3.o.trans m.o.2.1.symm,(N8.o.row Y.o (by decide) (by decide) _).pre (by have:=SZ.o;omega),L5.o,λk j=>C8.o k (BK.o k j).1 (BK.o k j).2,R8.o.row (.inl ao.o) _,((Vf.keep ar.o).trans L.o).row (ai _) _,by rw[m.o.2.2];exact⟨rfl,rfl,rfl,rfl,rfl,rfl⟩,.inl ⟨by rw[m.o.1],_,rfl,rfl,rfl⟩⟩
 . have e1:(er==0)=false:=by simp[V]
   have e2:(er != 0)=true:=by simp[V]
   simp only[if_neg V] at m;have HE:=iJ V;clear V;have NN:=iJ (qQ N d R M R6.o.q s t D.C.length B D.P.length C);obtain⟨U1,U2⟩:Hid (Ra _ d _ H _)/\Hid (Vf l col _ _):=av.o.undone R6.o F7.o ⟨s,B,D.C,t,C,D.P⟩ an.o NC.o aw.o;dsimp only at U1 U2
   have UU:Hid (∀W,W=(N.setCell ⟨d,1,none⟩ (.slice s D.C.length B)).setCell ⟨d,3,none⟩ (.slice t D.P.length C)->Ra W d (R.back ⟨s,B,D.C,t,C,D.P⟩) H (j5 M ⟨s,B,D.C,t,C,D.P⟩)/\Vf l col W (j5 M ⟨s,B,D.C,t,C,D.P⟩)):=λW hW=>by
    rw[hW];exact⟨U1.o,U2.o⟩
   clear U1 U2 X6 N6 J6 au;go_wp2_with fail
   refine NN.o.mono ?_;rintro _ w8 ⟨rfl,aM⟩;obtain⟨R8,L⟩:Hid (Ra w8 d (R.back ⟨s,B,D.C,t,C,D.P⟩) H (j5 M ⟨s,B,D.C,t,C,D.P⟩))/\Hid (Vf l col w8 (j5 M ⟨s,B,D.C,t,C,D.P⟩)):=UU.o w8 aM;have Y:=iJ (L.o.box O.o T.o);have ao:Hid (j5 M ⟨s,B,D.C,t,C,D.P⟩ w.heap.size=0):=(L.o.c _ SZ.o.2).trans T.o;clear aM UU NN;go_wp2_with (first|(refine cE rfl 31 _ _ rfl w.heap.size _ rfl rfl 31 _ Y.o iP rfl (by simp[Value.oneCell']) ?_)|fail)
   refine bZ (v:=.tuple #[.agg _,_]) (je results38 _ _ w.heap.size 31 _ (0,0) _ rfl (dc _ _ _ _ _ _ Y.o) underlying31 rfl iP) rfl ?_;exact⟨Pv.zero,_,_,_,by rw[m.o.1];rfl,m.o.2.1.symm,Pn.zero _ _,az _,λk j=>absurd j Blk.zero,R8.o.row (.inl ao.o) _,((Vf.keep ar.o).trans L.o).row (ai _) _,by rw[m.o.2.2];exact⟨E.o.r,rfl,E.o.l,rfl,E.o.f,E.o.h⟩,.inr ⟨by rw[m.o.1];exact HE.o,rfl⟩⟩
theorem R2.more:∀(L:List Int)(X:Vm)(D:Rd),R2 X D->(X.more L).1=(D.incs L).1/\((X.more L).1=0->R2 (X.more L).2 (D.incs L).2)
 | [],X,D,h=>⟨rfl,λ_=>h⟩
 |z::L,X,D,h=>by
  have k:=h.rel.inc (S:=⟨X,[],0⟩) z;have i:(X.P.inc z).1=(D.inc z).1:=k.1;by_cases e:(X.P.inc z).1=0
  . have d:(D.inc z).1=0:=i.symm.trans e;have r:=R2.more L ⟨(X.P.inc z).2,X.f,X.ch⟩ _ (R2.inc (S:=⟨X,[],0⟩) h z e)
    have f:X.more (z::L)=(⟨(X.P.inc z).2,X.f,X.ch⟩:Vm).more L:=by
     unfold Vm.more;show((if (X.P.inc z).1=0 then incAll (X.P.inc z).2 L else X.P.inc z).1,_)=_
     simp only[incAll,if_pos e]
    have g:D.incs (z::L)=(D.inc z).2.incs L:=by
     show(if (D.inc z).1=0 then _ else _)=_
     rw[if_pos d]
    rw[f,g];exact r
  . have d:(D.inc z).1≠0:=λx=>e (i.trans x)
    have f:(X.more (z::L)).1=(X.P.inc z).1:=by
     show(if (X.P.inc z).1=0 then incAll (X.P.inc z).2 L else X.P.inc z).1=_
     rw[if_neg e]
    have g:D.incs (z::L)=D.inc z:=by
     show(if (D.inc z).1=0 then _ else _)=_
     rw[if_neg d]
    rw[f,g];exact⟨i,λx=>absurd x e⟩
theorem R2.left(h:R2 X D)(j:0<D.count z):(X.left z).1=(D.leave z).1/\((X.left z).1=0->R2 (X.left z).2 (D.leave z).2):=by
 have i:X.P.count z=D.count z:=h.rel.count z;have d:X.P.count z≠0:=by omega
 have f:=h.less d;have g:(X.P.dec z).1=(X.P.count z-1,0):=by unfold Q.Po.dec;rw[if_neg d]
 unfold Vm.left Rd.leave;rw[g,i];by_cases e:D.count z-1=0
 . rw[if_neg (λk=>by have:=k.2;dsimp only at this;omega),if_pos e]
   rw[e] at f;exact⟨rfl,λ_=>f⟩
 . rw[if_pos ⟨rfl,by dsimp only;omega⟩,if_neg e,h.rel.on z d]
   exact R2.more _ _ _ f
theorem R2.take(h:R2 X D)(d:0<D.count z):(X.leave z).1.2=D.takeE z/\(X.leave z).1.1.pg=D.takeP z/\((X.leave z).1.2=0->R2 (X.leave z).2 (D.takeD z)):=by
 obtain⟨f,i⟩:=h.left d;have g:X.P.count z≠0:=by rw[h.rel.count z];omega
 unfold Vm.leave Rd.takeE Rd.takeP Rd.takeD;dsimp only;rw[if_pos d];refine⟨f,?_,λe=>?_⟩
 . by_cases e:(X.left z).1=0
   . rw[if_pos e,if_pos ⟨d,f.symm.trans e⟩];exact h.rel.on z g
   . rw[if_neg e,if_neg (λk=>e (f.trans k.2))]
 . rw[if_pos ⟨d,f.symm.trans e⟩];exact i e
theorem nm(f:Int->Option Pv)(n:Int)(p:Pv)(h:y≠n):jp f n p y=f y:=by unfold jp;rw[if_neg h]
theorem vR(e:D.has z=true)(d:D.has y=true)(h:y≠z)(q:Pv):(D.P.set (z-1).toNat q).getD (y-1).toNat Pv.zero=D.on y:=by
 obtain⟨f,g⟩:=Rd.has_iff.1 e;obtain⟨i,j⟩:=Rd.has_iff.1 d;unfold Rd.on;rw[aq,bQ (by omega),<-aq]
theorem vr(c:Int)(d:c≠0)(l:Bool):Q.stt (c,l)=3\/Q.stt (c,l)=4:=by
 unfold Q.stt;cases l<;>simp[d]
theorem R2.make(h:R2 S.X D){p:Pg}{q:Pv}(E:q.pg=p)(H:q'.pg=p)(B:p.kind≠0)(f:(S.makeR p).2=0)(g:p.check=0):R2 (S.makeS p q).X (D.makeD p q'):=by
 have r:=h.rel.make E H B f g
 have j:S.X.P.alloc.1.2=0:=by
  unfold Vs.makeR at f;rw[if_pos g] at f;exact f
 have l:iW D.pg≠0:=λe=>by
  rw[h.rel.low,if_pos e] at j;exact absurd j (by decide)
 have A:S.X.P.alloc.1.1=iW D.pg:=by rw[h.rel.low,if_neg l]
 obtain⟨i,G,J,K⟩:=m9 l;rw[Rd.pg_len h.rel.nL] at G;have x:D.has (iW D.pg)=true:=Rd.has_iff.2 ⟨by omega,by omega⟩
 have s:(S.makeS p q).X.f=jp S.X.f (iW D.pg) q:=by
  unfold Vs.makeS;rw[if_pos g,j,if_pos rfl];unfold Vs.done;rw[if_pos rfl,<-A];rfl
 have m:D.makeD p q'={D with C:=D.C.set (iW D.pg-1).toNat 1,P:=D.P.set (iW D.pg-1).toNat q'}:=by unfold Rd.makeD;rw[if_pos ⟨g,l⟩]
 have t:∀y,(D.makeD p q').state y=if y=iW D.pg then Q.stt (1,D.lasts (iW D.pg)) else D.state y:=λy=>by
  rw[m];exact Rd.state_put x 1 y
 have L:=vr 1 (by decide) (D.lasts (iW D.pg))
 refine⟨r,λy d=>?_,λy d=>?_⟩
 . rw[t y] at d;split at d
   . omega
   . rename_i ne;have I:=Rd.state_has (D:=D) (z:=y) (by omega)
     have k:=h.pd y d;have a:(S.makeS p q).X.on y=S.X.on y:=by unfold Vm.on;rw[s,nm _ _ _ ne]
     have b:(D.makeD p q').on y=D.on y:=by rw[m];exact vR x I ne q'
     rw[a,b];exact k
 . rw[t y] at d;split at d
   . omega
   . rename_i ne;rw[s,nm _ _ _ ne];exact h.fr y d
theorem R2.write(h:R2 X D)(g:D.own z=true){q:Pv}(r:q.pg=q'.pg)(m:q.kind≠0):R2 (X.lay z q) {D with P:=D.P.set (z-1).toNat q'}:=by
 unfold Rd.own at g;rw[bO,bE,bE] at g;have i:=Rd.state_has (D:=D) (z:=z) (by rw[g.1];decide)
 obtain⟨x,A⟩:=Rd.has_iff.1 i;have j:(z-1).toNat<D.P.length:=by rw[h.rel.nP];omega
 have t:(D.P.set (z-1).toNat q').getD (z-1).toNat Pv.zero=q':=by
  generalize (z-1).toNat=k at j;rw[aq,eb j];rfl
 have l:(X.lay z q).f z=some q:=by
  show jp X.f z q z=_;unfold jp;rw[if_pos rfl,if_neg m]
 have fn:∀y,y≠z->(X.lay z q).on y=X.on y:=λy d=>by
  show((jp X.f z q y).getD Pv.zero)=_;rw[nm _ _ _ d];rfl
 refine⟨⟨h.rel.pg,h.rel.rf,λy d=>?_,h.rel.nL,by rw[aM];exact h.rel.nP,h.rel.ok⟩,λy d=>?_,λy d=>?_⟩
 . by_cases e:y=z
   . subst e;show(((X.lay y q).f y).getD Pv.zero).pg=((D.P.set (y-1).toNat q').getD (y-1).toNat Pv.zero).pg;rw[l,t];exact r
   . have s:D.has y=true:=Rd.count_has (by rw[<-h.rel.count];exact d)
     rw[fn y e];show _=((D.P.set (z-1).toNat q').getD (y-1).toNat Pv.zero).pg;rw[vR i s e];exact h.rel.on y d
 . have d:D.state y=2:=d;have e:y≠z:=λe=>by rw[e,g.1] at d;cases d
   rw[fn y e];show _=((D.P.set (z-1).toNat q').getD (y-1).toNat Pv.zero).pg;rw[vR i (Rd.state_has (by omega)) e]
   exact h.pd y d
 . have d:D.state y=1:=d;have e:y≠z:=λe=>by rw[e,g.1] at d;cases d
   show jp X.f z q y=none;rw[nm _ _ _ e];exact h.fr y d
theorem yA{P:Q.Po}(h:P.state z=2):z∈P.pages 2:=by
 unfold Q.Po.state at h;split at h
 . rename_i e;have d:=Q.Po.has_iff.1 e;unfold Q.Po.pages;rw[if_pos (by decide)]
   exact(Q.jF P.pg _ z).2 (Q.kd.2 ⟨d.1,d.2,h⟩)
 . cases h
theorem R2.settle(h:R2 S.X D)(e:D.Set D' D.C.length):R2 S.settle.X D':=by
 have r:=h.rel.settle e;have f:D'.C=D.C:=by rw[e.e]
 have l:∀z,D'.state z=1\/D'.state z=2->D'.state z=1/\(D.state z=1\/D.state z=2):=λz d=>by
  have j:=Rd.state_has (D:=D') (z:=z) (by omega)
  obtain⟨q,g⟩:=Rd.has_iff.1 j;rw[f] at g;have s:D.has z=true:=Rd.has_iff.2 ⟨q,g⟩;have i:(z-1).toNat<D.C.length:=by omega
  have m:D'.lasts z=decide (0<D.C.getD (z-1).toNat 0):=by
   unfold Rd.lasts;rw[e.l,if_pos ⟨i,by rw[h.rel.nL];exact i⟩]
  unfold Rd.state at d ⊢;rw[if_pos j,f,m] at d ⊢;rw[if_pos s];by_cases c0:D.C.getD (z-1).toNat 0=0
  . rw[c0];unfold Q.stt;cases D.lasts z<;>simp
  . exfalso;rcases vr _ c0 (decide (0<D.C.getD (z-1).toNat 0)) with k|k<;>omega
 refine⟨r,λz d=>?_,λz d=>?_⟩
 . have:=(l z (.inr d)).1;omega
 . show kz S.X.f (S.X.P.pages 2) z=none;unfold kz;rcases (l z (.inl d)).2 with k|k
   . rw[h.fr z k];simp
   . rw[if_pos (yA (by rw[h.rel.state2];exact k))]
theorem R2.congr{Y:Vm}(h:R2 Y D)(e:X.P=Y.P)(f:X.f=Y.f):R2 X D:=by
 have g:∀z,X.on z=Y.on z:=λz=>by unfold Vm.on;rw[f]
 exact⟨⟨by rw[e];exact h.rel.pg,by rw[e];exact h.rel.rf,λz d=>by rw[g];exact h.rel.on z (by rw[<-e];exact d),h.rel.nL,h.rel.nP,by rw[e];exact h.rel.ok⟩,λz d=>by rw[g];exact h.pd z d,λz d=>by rw[f];exact h.fr z d⟩
theorem Bn(Y:Vm)(h:z≠n)(p:Pv):((Y.lay n p).less z).f=jp (Y.less z).f n p:=by
 unfold Vm.less;show(if (Y.P.dec z).1.2=0/\(Y.P.dec z).2.state z=1 then (⟨(Y.P.dec z).2,jp (jp Y.f n p) z Pv.zero,_⟩:Vm) else ⟨(Y.P.dec z).2,jp Y.f n p,_⟩).f=_
 split
 . funext k
   unfold jp;by_cases d:k=z
   . subst d;simp[h]
   . simp[d]
 . rfl
theorem Ch(Y:Vm)(h:z≠n)(p:Pv):((Y.lay n p).left z).1=(Y.left z).1/\((Y.lay n p).left z).2.P=(Y.left z).2.P/\((Y.lay n p).left z).2.f=jp (Y.left z).2.f n p:=by
 have f:(Y.lay n p).on z=Y.on z:=by
  show(jp Y.f n p z).getD Pv.zero=_;rw[nm _ _ _ h];rfl
 have e:((Y.lay n p).less z).P=(Y.less z).P:=by rw[Vm.less_P,Vm.less_P];rfl
 have d:=Bn Y h p;unfold Vm.left;rw[f];have g:(Y.lay n p).P=Y.P:=rfl;rw[g];split
 . unfold Vm.more;rw[e];exact⟨rfl,rfl,d⟩
 . exact⟨rfl,e,d⟩
theorem R2.shadow(h:R2 X D)(s:0<D.count z)(K:D.own z=false)(g:(D.on z).pg.check=0)(J:(D.on z).pg.kind≠0):(X.shadow z).1=(D.shadowR z).1/\((X.shadow z).1.2=0->R2 (X.shadow z).2 (D.shadowR z).2):=by
 have L:X.P.count z≠0:=by rw[h.rel.count z];omega
 have U:=h.rel.on z L
 have H:D.shadowR z=(if iW D.pg=0 then ((0,12),D) else if ((D.shadow1 z).leave z).1=0 then ((iW D.pg,0),((D.shadow1 z).leave z).2) else ((0,((D.shadow1 z).leave z).1),D)):=by
  unfold Rd.shadowR;rw[if_pos s,if_neg (by rw[K];decide)]
 rw[H];by_cases d:iW D.pg=0
 . have f:X.P.alloc.1=(0,12):=by rw[h.rel.low,if_pos d]
   unfold Vm.shadow;rw[f,if_neg (by decide),if_pos d]
   exact⟨rfl,λe=>absurd (show(12:Int)=0 from e) (by decide)⟩
 . have f:X.P.alloc.1=(iW D.pg,0):=by rw[h.rel.low,if_neg d]
   have mk:=R2.make (S:=⟨X,[],0⟩) h (p:=(D.on z).pg) (q:=X.on z) (q':=D.on z) U rfl J (by unfold Vs.makeR;rw[if_pos g];show X.P.alloc.1.2=0;rw[f]) g
   have G:((⟨X,[],0⟩:Vs).makeS (D.on z).pg (X.on z)).X=(⟨X.P.alloc.2,X.f,X.ch⟩:Vm).lay (iW D.pg) (X.on z):=by
    unfold Vs.makeS;rw[if_pos g];show(Vs.done _ X.P.alloc.1.2 (if X.P.alloc.1.2=0 then X.allocd.lay X.P.alloc.1.1 (X.on z) else X.allocd)).X=_
    rw[f,if_pos rfl];unfold Vs.done;rw[if_pos rfl];rfl
   have E:D.makeD (D.on z).pg (D.on z)=D.shadow1 z:=by unfold Rd.makeD Rd.shadow1;rw[if_pos ⟨g,d⟩]
   rw[G,E] at mk;obtain⟨i,t,M,j⟩:=m9 d;rw[Rd.pg_len h.rel.nL] at t;have V:D.has (iW D.pg)=true:=Rd.has_iff.2 ⟨by omega,by omega⟩
   have r:=Rd.count_has (D:=D) (z:=z) (by omega)
   have ne:z≠iW D.pg:=λe=>by
    have m:D.count z=0:=by
     unfold Rd.count;rw[if_pos r,e,M];rw[Rd.pg_get h.rel.nL t] at j;have C:((i:Int)+1-1).toNat=i:=by omega
     rw[C];generalize D.C.getD i 0=c at j;generalize D.L.getD i false=l at j;by_cases c0:c=0
     . exact c0
     . rcases vr c c0 l with k|k<;>omega
    omega
   have B:(D.shadow1 z).count z=D.count z:=by
    obtain⟨R,T⟩:=Rd.has_iff.1 r;have I:(D.shadow1 z).has z=true:=Rd.has_iff.2 ⟨R,by show z<=(((D.C.set _ 1).length:Nat):Int);rw[aM];exact T⟩
    unfold Rd.count;rw[if_pos I,if_pos r];show(D.C.set (iW D.pg-1).toNat 1).getD (z-1).toNat 0=_;rw[aq,bQ (by omega),<-aq]
   obtain⟨m,A⟩:=mk.left (z:=z) (by rw[B];exact s)
   obtain⟨N,O,P⟩:=Ch (⟨X.P.alloc.2,X.f,X.ch⟩:Vm) ne (X.on z);rw[N] at m A;unfold Vm.shadow Vm.leave;dsimp only;rw[f,if_pos rfl,if_neg d,<-m];dsimp only;by_cases e:((⟨X.P.alloc.2,X.f,X.ch⟩:Vm).left z).1=0
   . rw[if_pos e,if_pos e];exact⟨rfl,λ_=>(A e).congr O.symm P.symm⟩
   . rw[if_neg e,if_neg e];exact⟨rfl,λx=>absurd x e⟩
def FP(D:Rd)(z:Int)(L:List Int)(X:Vm)(r:Int×Vm):Prop:=(r.1=0/\∃D',R2 r.2 D'/\D'={D with C:=D'.C}/\Rd.dropS (D.tot+1) D (z::L)=Rd.dropS (D'.tot+1) D' L/\Dp X r.2)\/(r.1=15/\Rd.dropS (D.tot+1) D (z::L)=none)
theorem uX:∀(t:Nat)(X:Vm)(D:Rd)(z:Int)(L:List Int),R2 X D->tot X.P<t->FP D z L X (dropM t X z)
 |0,X,D,z,L,_,ht=>absurd ht (dQ _)
 |t+1,X,D,z,L,h,ht=>by
  unfold dropM;by_cases h0:X.P.count z=0
  . rw[if_pos (.inl (by rw[kY,if_pos h0];decide))]
    refine .inr ⟨by rw[kY,if_pos h0],?_⟩
    show(if 0<D.count z then _ else _)=_
    rw[if_neg (by rw[<-h.rel.count,h0];decide)]
  . have hc:=jJ h.rel.ok z;have j:0<D.count z:=by rw[<-h.rel.count];omega
    have k:=h.less h0;obtain⟨f,q⟩:=Dp.less h.rel.ok h0
    have st:∀M,Rd.dropS (D.tot+1) D (z::M)=Rd.dropS ((D.put z (D.count z-1)).tot+1) (D.put z (D.count z-1)) (if D.count z-1=0 then (D.on z).pg.kids++M else M):=λM=>by
     show(if 0<D.count z then _ else _)=_
     rw[if_pos j,Rd.put_tot j]
    by_cases i:0<X.P.count z-1
    . rw[if_pos (.inr (by rw[kY,if_neg h0];exact i))]
      refine .inl ⟨by rw[kY,if_neg h0],D.put z (D.count z-1),k,rfl,?_,f⟩
      rw[st L,if_neg (by rw[<-h.rel.count];omega)]
    . rw[if_neg (by rw[kY,if_neg h0];exact λe=>e.elim (λe=>e rfl) (λe=>i e))]
      have m:∀(K:List Int)(Y:Vm)(E:Rd),R2 Y E->tot Y.P<t->(((dropL (dropM t) Y K).1=0/\∃D',R2 (dropL (dropM t) Y K).2 D'/\D'={E with C:=D'.C}/\Rd.dropS (E.tot+1) E (K++L)=Rd.dropS (D'.tot+1) D' L/\Dp Y (dropL (dropM t) Y K).2)\/((dropL (dropM t) Y K).1=15/\Rd.dropS (E.tot+1) E (K++L)=none)):=by
       intro K;induction K with
       |nil=>exact λY E d _=>.inl ⟨rfl,E,d,rfl,rfl,Dp.refl Y⟩
       |cons y K ih=>
        intro Y E d l;unfold dropL;rcases uX t Y E y (K++L) d l with⟨a1,E',a2,a3,a4,a5⟩|⟨a1,a2⟩
        . rw[if_pos a1];rcases ih _ E' a2 (Nat.lt_of_le_of_lt a5.t l) with⟨b1,D',b2,b3,b4,b5⟩|⟨b1,b2⟩
          . refine .inl ⟨b1,D',b2,?_,?_,a5.trans b5⟩
            . rw[a3] at b3;exact b3
            . rw[dw,a4,b4]
          . exact .inr ⟨b1,by rw[dw,a4,b2]⟩
        . rw[if_neg (by rw[a1];decide)]
          exact .inr ⟨a1,by rw[dw];exact a2⟩
      have g:D.count z-1=0:=by rw[<-h.rel.count];omega
      rcases m (X.on z).pg.kids (X.less z) (D.put z (D.count z-1)) k (by omega) with⟨b1,D',b2,b3,b4,b5⟩|⟨b1,b2⟩
      . refine .inl ⟨b1,D',b2,b3,?_,f.trans b5⟩;rw[st L,if_pos g,<-h.rel.on z h0,b4]
      . refine .inr ⟨b1,?_⟩;rw[st L,if_pos g,<-h.rel.on z h0,b2]
def Smi(p:Pv):Prop:=Sml p/\p.items.length<=1048576
def SmV(X:Vm):Prop:=∀z,Smi (X.on z)
theorem qo:Smi Pv.zero:=⟨⟨az _,λx d=>absurd d (bm)⟩,az _⟩
theorem SmV.lay(h:SmV X)(n:Int){p:Pv}(d:Smi p):SmV (X.lay n p):=λy=>by
 show Smi ((jp X.f n p y).getD Pv.zero);unfold jp;split
 . split
   . exact qo
   . exact d
 . exact h y
theorem SmV.less(h:SmV X)(z:Int):SmV (X.less z):=by
 unfold Vm.less;split
 . exact SmV.lay (X:=⟨(X.P.dec z).2,X.f,X.ch⟩) h z qo
 . exact h
theorem SmV.left(h:SmV X)(z:Int):SmV (X.left z).2:=by
 unfold Vm.left;split
 all_goals
  exact h.less z
theorem SmV.shadow(h:SmV X)(z:Int):SmV (X.shadow z).2:=by
 have k:=SmV.left (X:=⟨X.P.alloc.2,X.f,X.ch⟩) h z;unfold Vm.shadow;split
 . split
   . exact SmV.lay k _ (h z)
   . exact k
 . exact h
theorem SmV.dropL{F:Vm->Int->Int×Vm}(d:∀X z,SmV X->SmV (F X z).2):∀(L:List Int)(X:Vm),SmV X->SmV (dropL F X L).2
 | [],X,h=>h
 |z::L,X,h=>by
  unfold Go.Proofs.YtbdkogimlbnlmaaGreat.dropL;split
  . exact SmV.dropL d L _ (d X z h)
  . exact d X z h
theorem SmV.dropM:∀(t:Nat)(X:Vm)(z:Int),SmV X->SmV (dropM t X z).2
 |0,X,z,h=>h
 |t+1,X,z,h=>by
  unfold Go.Proofs.YtbdkogimlbnlmaaGreat.dropM;split
  . exact h.less z
  . exact SmV.dropL (SmV.dropM t) _ _ (h.less z)
def Ckd(D:Rd):Prop:=∀z,D.count z≠0->(D.on z).pg.check=0
theorem Rd.count_put(f:D.has z=true)(c y:Int):(D.put z c).count y=if y=z then c else D.count y:=by
 obtain⟨j,l⟩:=Rd.has_iff.1 f;have h:(D.put z c).C.length=D.C.length:=aM;have g:(D.put z c).has y=D.has y:=by unfold Rd.has;rw[h]
 unfold Rd.count;rw[g];by_cases e:y=z
 . subst e;rw[if_pos f,if_pos rfl];show(D.C.set (y-1).toNat c).getD (y-1).toNat 0=c;have d:(y-1).toNat<D.C.length:=by omega
   generalize (y-1).toNat=k at d;rw[aq,eb d];rfl
 . rw[if_neg e];split
   . rename_i i;obtain⟨m,q⟩:=Rd.has_iff.1 i;show(D.C.set (z-1).toNat c).getD (y-1).toNat 0=_;rw[aq,bQ (by omega),<-aq]
   . rfl
theorem Ckd.put(h:Ckd D)(f:D.count z≠0)(c:Int):Ckd (D.put z c):=λy d=>by
 have g:=Rd.count_has f;rw[Rd.count_put g] at d;show(D.on y).pg.check=0;split at d
 . rename_i e;rw[e];exact h z f
 . exact h y d
theorem Ckd.inc(h:Ckd D)(z:Int):Ckd (D.inc z).2:=by
 unfold Rd.inc;split
 . split
   . exact h
   . exact h.put (by omega) _
 . exact h
theorem Ckd.incs:∀(L:List Int){D:Rd},Ckd D->Ckd (D.incs L).2
 | [],D,h=>h
 |z::L,D,h=>by
  show Ckd (if (D.inc z).1=0 then (D.inc z).2.incs L else D.inc z).2
  split
  . exact Ckd.incs L (h.inc z)
  . exact h.inc z
theorem Ckd.leave(h:Ckd D)(d:D.count z≠0):Ckd (D.leave z).2:=by
 unfold Rd.leave;split
 . exact h.put d _
 . exact Ckd.incs _ (h.put d _)
theorem Ckd.lay(h:Ckd D)(f:D.has z=true)(r:D.P.length=D.C.length)(c:Int){q:Pv}(i:q.pg.check=0):Ckd {D with C:=D.C.set (z-1).toNat c,P:=D.P.set (z-1).toNat q}:=λy d=>by
 obtain⟨l,m⟩:=Rd.has_iff.1 f;have g:({D with C:=D.C.set (z-1).toNat c,P:=D.P.set (z-1).toNat q}:Rd).count y=(D.put z c).count y:=rfl;rw[g,Rd.count_put f] at d;show((D.P.set (z-1).toNat q).getD (y-1).toNat Pv.zero).pg.check=0;rw[kG];split at d
 . rename_i e;rw[e,if_pos ⟨rfl,by omega⟩]
   exact i
 . rename_i e;have j:=Rd.count_has d;obtain⟨s,t⟩:=Rd.has_iff.1 j;rw[if_neg (λk=>by have:=k.1;omega)]
   exact h y d
theorem Ckd.dropS:∀(t:Nat)(D:Rd)(L:List Int)(d:Rd),Ckd D->Rd.dropS t D L=some d->Ckd d
 |0,D,L,d,_,h=>by cases h
 |t+1,D,[],d,k,h=>by cases h;exact k
 |t+1,D,x::L,d,k,h=>by
  have h1:(if 0<D.count x then Rd.dropS t (D.put x (D.count x-1)) (if D.count x-1=0 then (D.on x).pg.kids++L else L) else none)=some d:=h
  split at h1
  . exact Ckd.dropS t _ _ d (k.put (by omega) _) h1
  . cases h1
theorem Ckd.settle(h:Ckd D)(g:D.Set D' D.C.length):Ckd D':=λz d=>by
 have i:D'.C=D.C:=by rw[g.e]
 have j:D'.count z=D.count z:=by unfold Rd.count Rd.has;rw[i]
 rw[j] at d;have k:=h z d;have f:=Rd.count_has d;obtain⟨l,m⟩:=Rd.has_iff.1 f;unfold Rd.count at d;rw[if_pos f] at d;show(D'.P.getD (z-1).toNat Pv.zero).pg.check=0;rw[g.p,if_neg (λe=>d e.2)]
 exact k
def Rd.writeR(D:Rd)(z:Int)(p:Pg):Int:=if D.own z=true then (p.check:Int) else 15
def Rd.writeD(D:Rd)(z:Int)(p:Pg)(q:Pv):Rd:=if D.own z=true/\p.check=0 then {D with P:=D.P.set (z-1).toNat q} else D
def RWr(w:World)(rb:Nat)(D:Rd)(H:List Sn)(col:Nat->Nat)(z:Int)(p:Pg)(e:Ending)(w':World):Prop:=∃(q:Pv)(D':Rd)(H':List Sn)(col':Nat->Nat),q.pg=p/\e=.returned (.int .i64 (D.writeR z p))/\Ra w' rb D' H' col'/\Vf w col w' col'/\D'.Al (D.writeD z p q)/\Dn D H (D.writeR z p) H'
theorem Ad(w:World)(A:Nat)(D:Rd)(H:List Sn)(col:Nat->Nat)(N:Ra w A D H col)(hh:D.hush=false)(hH:H.length<=1000000000000)(z:Int)(p:Pv)(T:Pf col w p):
 Calls prog 94 #[.pointer (some ⟨A,0,none⟩),.int .i64 z,p.vl] w λe w'=>RWr w A D H col z p.pg e w':=by
 have h:=N.q;have ao:=iJ N;have HQ:=iJ h;have HP:=iJ T;have r:=iJ (al w (.cells p.cs 31));have X0:=iJ (aH w (.cells p.cs 31));have ap:Hid (p.vl=.agg #[.int .i64 p.kind,.int .i64 p.level,.slice p.aI p.items.length p.cI,.slice p.aD p.data.length p.cD,.int .i64 p.next]):=rfl;have aG:Hid (p.cs=#[.int .i64 p.kind,.int .i64 p.level,.slice p.aI p.items.length p.cI,.slice p.aD p.data.length p.cD,.int .i64 p.next]):=rfl;have L:=iJ λ(W:World)(hb:Below w.heap.size w W)=>vW W A D col (h.keep hb) z
 have G:=iJ λ(W:World)(hb:Below w.heap.size w W)=>oR W p (T.pi.keep hb)
 have U:=iJ λ(W:World)(hb:Below w.heap.size w W)=>uO W A D H col (N.keep hb) hh hH
 simp only[ap.o] at G ⊢;simp only[aG.o] at r X0;cases ho:D.own z with
 |false=>
  have j:Hid (D.writeR z p.pg=15/\∀q,D.writeD z p.pg q=D):=by
   unfold Rd.writeR Rd.writeD;exact⟨if_neg (by rw[ho];decide),λq=>if_neg (λe=>by rw[ho] at e;exact absurd e.1 (by decide))⟩
  rw[ho] at L;clear h N T ho G U;go_enter func94,ntmps94;go_wp2_with fail
  refine(L.o _ r.o).mono ?_;rintro _ wq ⟨rfl,E⟩;rw[E];clear E;go_wp2_with fail
  go_ret;exact⟨p,D,H,col,rfl,by rw[j.o.1];rfl,ao.o.keep r.o,Vf.keep r.o,by rw[j.o.2];exact⟨rfl,rfl,rfl,rfl,rfl,rfl⟩,.inr ⟨by rw[j.o.1];decide,rfl⟩⟩
 |true=>
  rw[ho] at L;by_cases B:p.pg.check=0
  . have am:=iJ B;have ac:=ho;unfold Rd.own at ac;rw[bO,bE] at ac;have az:=Rd.state_has (D:=D) (z:=z) (by rw[ac.1];decide)
    obtain⟨z1,z2⟩:=Rd.has_iff.1 az;obtain⟨i,aJ⟩:∃i:Nat,z=(i:Int)+1:=⟨(z-1).toNat,by omega⟩
    subst aJ;have hi:i<D.C.length:=by omega
    have ei:((i:Int)+1-1).toNat=i:=by omega
    have j:Hid (D.writeR ((i:Int)+1) p.pg=0/\∀q,D.writeD ((i:Int)+1) p.pg q={D with P:=D.P.set i q}):=by
     unfold Rd.writeR Rd.writeD;exact⟨by rw[if_pos ho,B];rfl,λq=>by rw[if_pos ⟨ho,B⟩,ei]⟩
    rw[B] at G;obtain⟨f,au⟩:∃gg,D.aP=some ⟨gg,0,none⟩:=h.pr.addr (by rw[h.nP];omega)
    have C:=iJ au;have Z:=iJ h.nP;have h6:=h.n6;have hs:(i:Int)+1-1=(i:Int):=by omega
    have aI:Hid (IntKind.i64.wrap ((i:Nat):Int)=(i:Int)):=iT (by omega) (by omega)
    have aB:(i:Int)<(D.C.length:Int):=by omega
    have HI:=iJ hi;clear h N T B ho ac az z1 z2 ei au;go_enter func94,ntmps94;go_wp2_with fail
    refine(L.o _ r.o).mono ?_;rintro _ wq ⟨rfl,E⟩;rw[E];clear E;go_wp2_with fail
    refine(G.o _ r.o).mono ?_;rintro _ w1 ⟨rfl,M⟩;have O:=iJ (bt r.o M);have X1:=iJ (iQ X0.o M);clear M r X0;go_wp2_with fail
    refine(U.o _ O.o).mono ?_;rintro _ k ⟨sn,a',c',ad,rfl,aD,aE,ah,ab⟩;have RA:=iJ ah;have FA:=iJ ((Vf.keep (c:=col) O.o).trans ab);have SN:=iJ (And.intro aD aE)
    have Z0:Hid (col w.heap.size=0):=by
     show _=_;cases e:col w.heap.size with
     |zero=>rfl
     |succ n=>exact absurd (HQ.o.lt _ (by rw[e];exact Nat.succ_ne_zero n)) (eG _)
    have XA:=iJ (ab.box X1.o Z0.o);have ZL:Hid (∀ak,ad ak≠0->ak<k.heap.size):=ah.q.lt;have XW:Hid (w.heap.size<w1.heap.size):=(af.1 X1.o).1;have ZA:Hid (ad w.heap.size=0):=(ab.c _ XW.o).trans Z0.o;clear aD aE ah ab X1 XW;obtain⟨s,J⟩:∃X,({D with aA:=a',nA:=H.length+1,cA:=c'}:Rd)=X:=⟨_,rfl⟩;have C:Hid (s.aP=some ⟨f,0,none⟩):=by show _=_;rw[<-J];exact C.o
    have Z:Hid (s.P.length=s.C.length):=by show _=_;rw[<-J];exact Z.o
    have HI:Hid (i<s.C.length):=by show _<_;rw[<-J];exact HI.o
    have ED:Hid (s.C=D.C/\s.P=D.P/\s.cP=D.cP):=by show _/\_;rw[<-J];exact⟨rfl,rfl,rfl⟩
    rw[<-ED.o.1] at aB h6;rw[J] at RA;have aa:=iJ J;clear J;obtain⟨x,aj⟩:∃c,c57 ad=c:=⟨_,rfl⟩;have an:=iJ aj;have R1:=iJ RA.o.q.five;rw[aj] at R1;clear aj;have P2:=iJ (HP.o.vf FA.o);obtain⟨m,hm⟩:∃m,s.C.length=m:=⟨_,rfl⟩;have ag:Hid (s.P.length=m):=Z.o.trans hm;rw[hm] at aB h6;clear Z hm;go_upto_region 7 with fail
    clear L U G;have X2:=iJ XA.o;have R2:=iJ R1.o;have V2:Hid (Vf k (c57 ad) k x):=by show Vf _ _ _ _;rw[an.o];exact Vf.refl _ _
    clear XA R1;generalize aK:k=l at *;clear aK;obtain⟨y0,y1,y2,K,y6⟩:=R2.o.cells;rw[C.o,ag.o] at K;clear y0 y1 y2 y6;have Y:=iJ (dr2 l)
    have SS:Hid (∀W:World,Below l.heap.size l W->W.cell? ⟨A,3,none⟩=some (.slice (some ⟨f,0,none⟩) m s.cP)/\W.cell? ⟨w.heap.size,0,none⟩=some (.int .i64 p.kind)/\W.cell? ⟨w.heap.size,1,none⟩=some (.int .i64 p.level)/\W.cell? ⟨w.heap.size,2,none⟩=some (.slice p.aI p.items.length p.cI)/\W.cell? ⟨w.heap.size,3,none⟩=some (.slice p.aD p.data.length p.cD)/\W.cell? ⟨w.heap.size,4,none⟩=some (.int .i64 p.next)):=λW hb=>by
     have hx:=iQ X2.o hb;refine⟨(hb.cell (p:=⟨A,3,none⟩) (block_lt_of_cell K)).trans K,?_,?_,?_,?_,?_⟩<;>(rw[ay _ _ _ _ _ _ hx];rfl)
    obtain⟨sm,si⟩:=jU (p:=p) (.inl am.o);have CP:=iJ (jX l.drew p (P2.o.keep Y.o) sm.1 (by omega) sm.2)
    rw[ap.o] at CP;clear K sm si;refine wrd SS Y.o λhHeld=>?_
    refine tkd 0 1 2 3 ?_;refine tkb 4 5 ?_;refine tk 6 ?_;rw[aI.o];refine tw 7 λae R=>?_
    go_simp;refine CP.o.mono ?_;rintro _ d ⟨t,rfl,av,aC,ax,aw⟩;have N5:=iJ (av.pre (v':=l) (ai _));have L5:=iJ aC;have G5:=iJ ax;have V:=iJ (bt Y.o aw);clear av aC ax aw;go_wp2_with fail
    refine R.o _ _ (SS.o _ V.o) (λhHeld=>?_)
    clear R ae;refine tk 8 ?_;obtain⟨R5,F5⟩:Hid (Rq d A _ (iO x l d 6))/\Hid (Vf l x d (iO x l d 6)):=R2.o.page V.o;have CQ:Hid (t.pg.check=0):=by show _=_;rw[G5.o];exact am.o
    have Z5:=iJ (N5.o.pz (col:=x) (aO (jU (p:=t) (.inl CQ.o)).2 (by decide)))
    have aq:Hid (d.there f (i*5) 5):=by
     have hr:=R5.o.pr;try dsimp only at hr
     rw[C.o] at hr;exact hr.there5 (by rw[ag.o];omega)
    obtain⟨R6,F6⟩:Hid (Rq (d.setCells f (i*5) t.cs.toList) A _ (iO x l d 6))/\Hid (Vf d (iO x l d 6) (d.setCells f (i*5) t.cs.toList) (iO x l d 6)):=R5.o.setP (g:=f) C.o i t Z5.o (.inl CQ.o);refine tw 9 λae R=>?_
    rw[if_pos (by rfl)]
    refine wp_store_mid (P:=prog) 31 _ _ rfl f (i*5) t.cs ?hxs ?hys aq.o iP (by simp[Pv.cs,Value.oneCell']) ?_
    case hxs=>simp[Act.eval]
    case hys=>rfl
    have I:Hid ((d.setCells f (i*5) t.cs.toList).cell? ⟨A,3,none⟩=some (.slice (some ⟨f,0,none⟩) m s.cP)/\(d.setCells f (i*5) t.cs.toList).heap[w.heap.size]?=some (.cells #[.int .i64 p.kind,.int .i64 p.level,.slice p.aI p.items.length p.cI,.slice p.aD p.data.length p.cD,.int .i64 p.next] 31 (0,0))):=by
     refine⟨?_,?_⟩
     . obtain⟨z0,z1,z2,z3,z6⟩:=R6.o.cells;dsimp only at z3;rw[aM,C.o,ag.o] at z3;exact z3
     . refine(jr f t.cs.toList d (i*5)).same (iQ X2.o V.o) (λe=>?_)
       have h1:=R2.o.lt f (by rw[R2.o.cp _ C.o];decide)
       have h2:x f=4:=R2.o.cp _ C.o;rw[<-an.o,<-e,lj ZA.o (by decide)] at h2
       cases h2
    refine R.o _ _ ⟨I.o.1,?t0,?t1,?t2,?t3,?t4⟩ (λhHeld=>?_)
    case t0=>rw[ay _ _ _ _ _ _ I.o.2];rfl
    case t1=>rw[ay _ _ _ _ _ _ I.o.2];rfl
    case t2=>rw[ay _ _ _ _ _ _ I.o.2];rfl
    case t3=>rw[ay _ _ _ _ _ _ I.o.2];rfl
    case t4=>rw[ay _ _ _ _ _ _ I.o.2];rfl
    clear R ae I;refine td ?_;have V6:=iJ (V2.o.trans (F5.o.trans F6.o));clear hHeld SS aq R5 F5 F6 Y CP Z5 N5 V X2 P2 R2 V2;generalize d.setCells f (i*5) t.cs.toList=w6 at *;generalize iO x l d 6=aN at *;go_wp2_with fail
    go_ret;obtain⟨K1,K2⟩:=RA.o.step R6.o V6.o (by rw[<-aa.o]) (by rw[<-aa.o]) (by rw[<-aa.o]) rfl
    refine⟨t,_,_,_,G5.o,by rw[j.o.1];rfl,K1,FA.o.trans K2,?_,.inl ⟨by rw[j.o.1],sn,SN.o.1,SN.o.2,rfl⟩⟩
    rw[j.o.2,<-aa.o];exact⟨rfl,rfl,rfl,rfl,rfl,rfl⟩
  . have j:Hid (D.writeR z p.pg=(p.pg.check:Int)/\∀q,D.writeD z p.pg q=D):=by
     unfold Rd.writeR Rd.writeD;exact⟨if_pos ho,λq=>if_neg (λe=>B e.2)⟩
    obtain⟨ar,aF⟩:∃c,p.pg.check=c:=⟨_,rfl⟩;simp only[aF] at G B j;have NZ:Hid (((ar:Nat):Int)≠0):=by show _≠_;omega
    have aL:((ar:Int) != 0)=true:=by simpa using B
    clear h N T B ho aF U;go_enter func94,ntmps94;go_wp2_with fail
    refine(L.o _ r.o).mono ?_;rintro _ wq ⟨rfl,E⟩;rw[E];clear E;go_wp2_with fail
    refine(G.o _ r.o).mono ?_;rintro _ w1 ⟨rfl,M⟩;have O:=iJ (bt r.o M);clear M;go_wp2_with fail
    go_ret;exact⟨p,D,H,col,rfl,by rw[j.o.1];rfl,ao.o.keep O.o,Vf.keep O.o,by rw[j.o.2];exact⟨rfl,rfl,rfl,rfl,rfl,rfl⟩,.inr ⟨by rw[j.o.1];exact NZ.o,rfl⟩⟩
theorem mI(w:World)(d:Nat)(D:Rd)(H:List Sn)(col:Nat->Nat)(h:Ra w d D H col)(j:0<=D.fl/\D.fl<=1000000000000)(i:H.length<=1000000000000):Calls prog 55 #[.pointer (some ⟨d,0,none⟩)] w λe w'=>e=.returned (.int .i64 (D.fl+(H.length:Int)))/\Below w.heap.size w w':=by
 have c4:=h.c4;have c5:=h.c5;have g:Hid (IntKind.i64.wrap (D.fl+(H.length:Int))=D.fl+(H.length:Int)):=iT (by omega) (by omega)
 clear h;generalize H.length=n at *;generalize D.fl=f at *;go_enter func55,ntmps55;go_wp2_with fail
 go_quiet (fail)
 go_wp2_with fail
 go_ret;refine⟨?_,drN _ _⟩;first|rfl|rw[g.o]
theorem Ab(L:List Sn)(m:Nat)(h:m<=L.length):(jQ L).take (m*2)=jQ (L.take m):=by
 have e:jQ L=jQ (L.take m)++jQ (L.drop m):=by rw[<-m6,cZ]
 rw[e,d9 (by rw[lO,bi];omega),db (by rw[lO,bi];omega)]
theorem EK{a:Option Addr}{cap n:Nat}{L:List Sn}(h:Q.Gw 163 2 w a cap n (jQ L))(e:n=L.length){m:Nat}(d:m<=n):Q.Gw 163 2 w a cap m (jQ (L.take m)):=by
 rcases h.cases with⟨rfl,rfl,rfl,h4⟩|⟨g,cur,rfl,hg,h1,h2,h3,h4⟩
 . obtain rfl:m=0:=by omega
   exact Q.Gw.nil _ _ _
 . refine Q.Gw.mk (by rw[lO,bi];omega) hg (by omega) h2 h3 ?_
   rw[<-Ab L m (by omega),<-h4,fG,dq (by omega)]
section
variable {w W w':World} {rb:Nat} {D:Rd} {H:List Sn} {col:Nat->Nat}
theorem Ra.cut(h:Ra w rb D H col){m:Nat}(l:m<=H.length):
 Ra (w.setCell ⟨rb,4,none⟩ (.slice D.aA m D.cA)) rb {D with nA:=m} (H.take m) col/\Vf w col (w.setCell ⟨rb,4,none⟩ (.slice D.aA m D.cA)) col:=by
 have q:=h.q;have bs:But (λk=>k=rb) w (w.setCell ⟨rb,4,none⟩ (.slice D.aA m D.cA)):=(But.refl (λk=>k=rb) w).setCell (p:=⟨rb,4,none⟩) (λ_=>rfl) _
 have ne:∀{k c:Nat},col k=c->c≠1->¬k=rb:=λe i f=>i (by rw[<-e,f];exact q.cb)
 have g:(H.take m).length=m:=by rw[bi];omega
 refine⟨⟨⟨?_,q.cr.but bs (λx d=>ne (q.cc x d) (by decide)),q.lr.but bs (λx d=>ne (q.cl x d) (by decide)),q.pr.but bs (λx d=>ne (q.cp x d) (by decide)),λp r=>(q.pz p r).but bs (λk _ e=>ne e (by decide)),q.ps,q.cb,q.cc,q.cl,q.cp,λk j=>be (q.lt k j) bs.size,q.nL,q.nP,q.n6⟩,⟨?_,g.symm,h.a.ca,λt s=>(h.a.sv t (fQ s)).but bs (λk _ e f=>by rw[f,q.cb] at e;omega)⟩⟩,pE (by rw[q.cb];decide) bs⟩
 . rw[aY _ _ _ _ _ _ q.box];rfl
 . show Q.Gw _ _ _ D.aA D.cA (H.take m).length _;rw[g];exact(EK h.a.ar rfl l).but bs (λx d=>ne (h.a.ca x d) (by decide))
def j6(col:Nat->Nat)(a:Option Addr)(c k:Nat):Nat:=if jY a k=true then c else col k
theorem Ra.newC(h:Ra w rb D H col)(hb:Below w.heap.size w W){a:Option Addr}{c:Nat}{C:List Int}(r:Q.Ig W a c C)(j:C.length=D.C.length)(s:New w none a):
 Ra (W.setCell ⟨rb,1,none⟩ (.slice a C.length c)) rb {D with aC:=a,cC:=c,C:=C} H (j6 col a 2)/\Vf w col (W.setCell ⟨rb,1,none⟩ (.slice a C.length c)) (j6 col a 2):=by
 have q:=h.q.keep hb;have bs:But (λk=>k=rb) W (W.setCell ⟨rb,1,none⟩ (.slice a C.length c)):=(But.refl (λk=>k=rb) W).setCell (p:=⟨rb,1,none⟩) (λ_=>rfl) _
 have ne:∀{k c:Nat},col k=c->c≠1->¬k=rb:=λe m l=>m (by rw[<-e,l];exact q.cb)
 have A:∀{k:Nat},k<w.heap.size->j6 col a 2 k=col k:=λ{k} g=>if_neg (λe=>by obtain⟨x,d,e⟩:=i9.1 e;have:=i8 s d;omega)
 have at0:∀{k c:Nat},col k=c->c≠0->j6 col a 2 k=c:=λe m=>(A (h.q.lt _ (by rw[e];exact m))).trans e
 have nx:∀x,a=some x->¬x.block=rb:=λx d e=>by have:=i8 s d;have:=h.q.lb;omega
 have i:=h.a.keep hb;refine⟨⟨⟨?_,r.but bs nx,q.lr.but bs (λx d=>ne (q.cl x d) (by decide)),q.pr.but bs (λx d=>ne (q.cp x d) (by decide)),λp B=>((q.pz p B).but bs (λk _ e=>ne e (by decide))).mono (λk _ e=>at0 e (by decide)),q.ps,at0 q.cb (by decide),λx d=>if_pos (i9.2 ⟨x,d,rfl⟩),λx d=>at0 (q.cl x d) (by decide),λx d=>at0 (q.cp x d) (by decide),λk g=>?_,?_,?_,?_⟩,⟨i.ar.but bs (λx d=>ne (i.ca x d) (by decide)),i.na,λx d=>at0 (i.ca x d) (by decide),λt E=>?_⟩⟩,⟨(But.ofBelow hb).trans (bs.mono (T:=λk=>1<=col k/\col k<=5) (λk _ e=>by rw[e,q.cb];decide)) (λ_ _ e=>e),λk g=>A g⟩⟩
 . rw[aY _ _ _ _ _ _ q.box];rfl
 . unfold j6 at g;split at g
   . rename_i e;obtain⟨x,d,e⟩:=i9.1 e;rw[<-e];exact be (Q.Gw.lt r d) bs.size
   . exact be (q.lt k g) bs.size
 . show D.L.length=C.length;rw[j];exact q.nL
 . show D.P.length=C.length;rw[j];exact q.nP
 . show C.length<=_;rw[j];exact q.n6
 . have f:=((i.sv t E).but bs (λk _ e l=>by rw[l,q.cb] at e;omega)).recol (col':=j6 col a 2) (λk _ e=>at0 rfl (by omega))
   exact⟨f.cr,f.pr,f.pz,f.ps,f.nC.trans j.symm,f.nP.trans j.symm,f.cc,f.cp⟩
theorem Ra.newP(h:Ra w rb D H col)(hb:Below w.heap.size w W){a:Option Addr}{c:Nat}{P:List Pv}(l:Q.Gw 31 5 W a c P.length (vpg P))(s:P.length=D.C.length)(m:New w none a)(E:∀p∈P,Pz (λk=>col k=6) w p)(B:∀p∈P,p.pg.check=0\/p=Pv.zero):
 Ra (W.setCell ⟨rb,3,none⟩ (.slice a P.length c)) rb {D with aP:=a,cP:=c,P:=P} H (j6 col a 4)/\Vf w col (W.setCell ⟨rb,3,none⟩ (.slice a P.length c)) (j6 col a 4):=by
 have q:=h.q.keep hb;have bs:But (λk=>k=rb) W (W.setCell ⟨rb,3,none⟩ (.slice a P.length c)):=(But.refl (λk=>k=rb) W).setCell (p:=⟨rb,3,none⟩) (λ_=>rfl) _
 have ne:∀{k c:Nat},col k=c->c≠1->¬k=rb:=λe j i=>j (by rw[<-e,i];exact q.cb)
 have r:∀{k:Nat},k<w.heap.size->j6 col a 4 k=col k:=λ{k} f=>if_neg (λe=>by obtain⟨x,d,e⟩:=i9.1 e;have:=i8 m d;omega)
 have at0:∀{k c:Nat},col k=c->c≠0->j6 col a 4 k=c:=λe j=>(r (h.q.lt _ (by rw[e];exact j))).trans e
 have nx:∀x,a=some x->¬x.block=rb:=λx d e=>by have:=i8 m d;have:=h.q.lb;omega
 have g:=h.a.keep hb;refine⟨⟨⟨?_,q.cr.but bs (λx d=>ne (q.cc x d) (by decide)),q.lr.but bs (λx d=>ne (q.cl x d) (by decide)),l.but bs nx,λp A=>(((E p A).keep hb).but bs (λk _ e=>ne e (by decide))).mono (λk _ e=>at0 e (by decide)),B,at0 q.cb (by decide),λx d=>at0 (q.cc x d) (by decide),λx d=>at0 (q.cl x d) (by decide),λx d=>if_pos (i9.2 ⟨x,d,rfl⟩),λk f=>?_,q.nL,s,q.n6⟩,⟨g.ar.but bs (λx d=>ne (g.ca x d) (by decide)),g.na,λx d=>at0 (g.ca x d) (by decide),λt C=>?_⟩⟩,⟨(But.ofBelow hb).trans (bs.mono (T:=λk=>1<=col k/\col k<=5) (λk _ e=>by rw[e,q.cb];decide)) (λ_ _ e=>e),λk f=>r f⟩⟩
 . rw[aY _ _ _ _ _ _ q.box];rfl
 . unfold j6 at f;split at f
   . rename_i e;obtain⟨x,d,e⟩:=i9.1 e;rw[<-e];exact be (l.lt d) bs.size
   . exact be (q.lt k f) bs.size
 . exact((g.sv t C).but bs (λk _ e i=>by rw[i,q.cb] at e;omega)).recol (λk _ e=>at0 rfl (by omega))
end
end Go.Proofs.YtbdkogimlbnlmaaGreat
