import Derived.Test.YteaogidofpfmmaaGreatWaB9
import Derived.Test.YteaogidofpfmmaaGreatWaB13
set_option linter.all false
set_option maxHeartbeats 32000000
set_option maxRecDepth 16000
namespace Go.Proofs.YteaogidofpfmmaaGreat
open Go.Proofs.Tryz
open Go.RowKit
variable {b mb pb:Nat}{col pc:Nat->Nat}{S:Vs}{w:World}
def nlv(z:Int)(p:Pv):Value:=.agg #[.int .i64 z,.int .i64 p.kind,.int .i64 p.level,.slice p.aI p.items.length p.cI,.slice p.aD p.data.length p.cD,.int .i64 p.next]
def mQ(f:Int->Option Pv)(z:Int)(q:Pv):Int->Option Pv:=λk=>if k=z then some q else f k
theorem nE{W:World}{g:Nat}{v0 a c v3 v4 v5:Value}{t:TypeId}(h:W.heap[g]?=some (.cells #[v0,a,c,v3,v4,v5] t (0,0))):W.cell? ⟨g,0,none⟩=some v0/\W.cell? ⟨g,1,none⟩=some a/\W.cell? ⟨g,2,none⟩=some c/\W.cell? ⟨g,3,none⟩=some v3/\W.cell? ⟨g,4,none⟩=some v4/\W.cell? ⟨g,5,none⟩=some v5:=by
 refine⟨?_,?_,?_,?_,?_,?_⟩<;>(rw[ai _ _ _ _ _ _ h];rfl)
theorem Vw.look2(h:Vw w b S pb mb pc col)(z:Int):(Instr.lookup 113 (.map (some mb)) (.int .i64 z) true).run prog w=.ok (.tuple #[(S.X.on z).vl,.bool (S.X.f z).isSome]) w:=by
 obtain⟨c,e,a,d,h⟩:=h;have k:=h.mp.look sj wz Pv.zero.vl (zeroValue77 w) z true;rw[k];simp only[if_true];unfold Vm.on;cases S.X.f z<;>rfl
theorem Vw.c1(h:Vw w b S pb mb pc col):w.cell? ⟨b,1,none⟩=some (.map (some mb)):=by
 obtain⟨c,e,a,d,h⟩:=h;exact h.cells.2.1
theorem Vw.laid{a:World}(h:Vw w b S pb mb pc col)(z:Int)(q:Pv)(hb:Below w.heap.size w a)(v:Pn w a q)(s:q.items.length<=2199023255520):
 ∃c,(Instr.mapUpdate 113 (.map (some mb)) (.int .i64 z) q.vl).run prog a=.ok () c/\(∃i,Vw c b ⟨⟨S.X.P,mQ S.X.f z q,S.X.ch⟩,S.al,S.fl⟩ pb mb pc i/\Vf w col c i)/\But (λk=>k=mb) a c/\c.heap.size=a.heap.size:=by
 obtain⟨j,m,A⟩:=h.vx;obtain⟨B,r⟩:=A.page hb;obtain⟨l,n,f⟩:=B;obtain⟨c,x,t,g,y⟩:=f.mp.store sj wz z q.vl;refine⟨c,x,⟨kM col w a 6,⟨l,n,j,m,?_⟩,r.trans ⟨?_,λ_ _=>rfl⟩⟩,g,y⟩
 . have e:(λk=>(mQ S.X.f z q k).map Pv.vl)=mc (λk=>(S.X.f k).map Pv.vl) z q.vl:=by
    funext k
    unfold mQ mc;split<;>rfl
   refine f.mapped (f':=mQ S.X.f z q) (by rw[e];exact t) g (λk p d=>?_)
   unfold mQ at d;split at d
   . cases d;exact v.pz s
   . exact f.fz k p d
 . exact g.mono (λk hk e=>by
    have e:k=mb:=e;rw[e];have:=f.cm;show 1<=_/\_<=5;rw[show kM col w a 6 mb=2 from this]
    decide)
def VLd(w w':World)(e:Ending)(b:Nat)(S:Vs)(pb mb:Nat)(pc col:Nat->Nat)(z:Int)(p:Pv):Prop:=
     (∃er:Nat,er≠0/\e=.returned (.int .i64 ((er:Nat):Int))/\(if ¬0<S.X.P.count z then 15 else if (S.X.f z).isSome=true then 10 else p.pg.check)=er/\Below w.heap.size w w')\/
     (0<S.X.P.count z/\(S.X.f z).isSome=false/\p.pg.check=0/\e=.returned (.int .i64 0)/\∃(q:Pv)(col':Nat->Nat),q.pg=p.pg/\Vw w' b ⟨⟨S.X.P,mQ S.X.f z q,S.X.ch⟩,S.al,S.fl⟩ pb mb pc col'/\Vf w col w' col')
theorem AG(w:World)(b:Nat)(S:Vs)(pb mb:Nat)(pc col:Nat->Nat)(h:Vw w b S pb mb pc col)(z:Int)(p:Pv)(hP:Pi w p):
 Calls prog 76 #[.pointer (some ⟨b,0,none⟩),nlv z p] w λe w'=>VLd w w' e b S pb mb pc col z p:=by
 have D:=ix (al w (.cells #[.int .i64 z,.int .i64 p.kind,.int .i64 p.level,.slice p.aI p.items.length p.cI,.slice p.aD p.data.length p.cD,.int .i64 p.next] 91));have A:=ix (bj w (.cells #[.int .i64 z,.int .i64 p.kind,.int .i64 p.level,.slice p.aI p.items.length p.cI,.slice p.aD p.data.length p.cD,.int .i64 p.next] 91));unfold nlv;have HV:=ix h;have HP:=ix hP;clear h hP;have y:=ix (HV.o.keep D.o);have m:=ix (vg _ b S pb mb pc col y.o z);by_cases n:0<S.X.P.count z
 . rw[ar n] at m;have x:=ix n;clear n;go_enter func76,ntmps76;go_wp2_with fail
   refine m.o.mono ?_;rintro _ wq ⟨rfl,B⟩;rw[B];clear B m;go_upto_region 3 with fail
   generalize aq:(w.alloc (.cells #[.int .i64 z,.int .i64 p.kind,.int .i64 p.level,.slice p.aI p.items.length p.cI,.slice p.aD p.data.length p.cD,.int .i64 p.next] 91))=a at *;clear aq;have lx:w.heap.size<a.heap.size:=(ae.1 A.o).1;generalize w.heap.size=f at A lx ⊢;have d:Hid (∀W:World,Below a.heap.size a W->W.cell? ⟨b,1,none⟩=some (.map (some mb))/\W.cell? ⟨f,0,none⟩=some (.int .i64 z)/\(Instr.lookup 113 (.map (some mb)) (.int .i64 z) true).run prog W=.ok (.tuple #[(S.X.on z).vl,.bool (S.X.f z).isSome]) W):=λW hb=>⟨(y.o.keep hb).c1,(nE (iJ A.o hb)).1,(y.o.keep hb).look2 z⟩
   have i:=ix (dr2 a);obtain⟨M,R⟩:∃M,(S.X.f z).isSome=M:=⟨_,rfl⟩;simp only[R] at d;have O:=ix R;clear R;have OV:Hid ((S.X.on z).vl=.agg (S.X.on z).cs):=rfl;simp only[OV.o] at d;refine wrd d i.o λhHeld=>?_
   refine tkd 0 1 2 3 ?_;refine tkd 4 5 6 7 ?_;refine tkb 8 9 ?_;have C:=ix (bt i.o (al a.drew (.cells #[.int .i64 0,.int .i64 0,.slice none 0 0,.slice none 0 0,.int .i64 0] 77)));have I:=ix (bj a.drew (.cells #[.int .i64 0,.int .i64 0,.slice none 0 0,.slice none 0 0,.int .i64 0] 77));refine tw 10 λK k=>?_
   go_simp;refine k.o _ _ (d.o _ C.o) (λhHeld=>?_)
   try simp only[pt]
   have ab:(a.drew.alloc (.cells #[.int .i64 0,.int .i64 0,.slice none 0 0,.slice none 0 0,.int .i64 0] 77))=(a.alloc (.cells #[.int .i64 0,.int .i64 0,.slice none 0 0,.slice none 0 0,.int .i64 0] 77)).drew:=rfl;rw[ab] at C I;clear ab;generalize au:(a.alloc (.cells #[.int .i64 0,.int .i64 0,.slice none 0 0,.slice none 0 0,.int .i64 0] 77)).drew=w2 at *;clear au;have s:=ix (zu (S.X.on z).cs C.o (am _));refine tw 11 λK k=>?_
   rw[if_pos (by rfl)]
   refine fQ 77 _ _ rfl a.heap.size _ rfl rfl 77 _ I.o iV rfl (by simp[Pv.cs,Value.oneCell']) ?_
   refine k.o _ _ (d.o _ s.o) (λhHeld=>?_)
   refine tk 12 ?_;refine td ?_;clear hHeld i;have J:=ix (iJ A.o s.o);have c:=ix (y.o.keep s.o);have t:=ix (bt D.o s.o);generalize av:w2.setRow a.heap.size (S.X.on z).cs=w3 at *;have G:=ix (HP.o.keep t.o);clear av s d y A I C;cases M with
   |true=>
    go_wp2_with fail
    go_ret;exact .inl ⟨10,by decide,rfl,by rw[if_neg (λe=>e x.o),if_pos O.o],t.o⟩
   |false=>
    obtain⟨y0,y1,y2,y3,y4,y5⟩:=nE J.o;have l:=ix (AH w3 p G.o);have Y:Hid (p.vl=.agg #[.int .i64 p.kind,.int .i64 p.level,.slice p.aI p.items.length p.cI,.slice p.aD p.data.length p.cD,.int .i64 p.next]):=rfl;rw[Y.o] at l;obtain⟨N,U⟩:∃an,p.pg.check=an:=⟨_,rfl⟩;have P:=ix U;rw[U] at l;clear U;by_cases T:N=0
    . subst T;go_wp2_with fail
      refine l.o.mono ?_;rintro _ r ⟨rfl,j⟩;have L:=ix (iJ J.o j);have H:=ix (c.o.keep j);have E:=ix (bt t.o j);have P4:=ix (G.o.keep j);clear j l J c y0 y1 y2 y3 y4 y5 t G;have i:=ix (dr2 r);have d:Hid (∀W:World,Below r.heap.size r W->W.cell? ⟨b,1,none⟩=some (.map (some mb))/\W.cell? ⟨f,0,none⟩=some (.int .i64 z)/\W.cell? ⟨f,1,none⟩=some (.int .i64 p.kind)/\W.cell? ⟨f,2,none⟩=some (.int .i64 p.level)/\W.cell? ⟨f,3,none⟩=some (.slice p.aI p.items.length p.cI)/\W.cell? ⟨f,4,none⟩=some (.slice p.aD p.data.length p.cD)/\W.cell? ⟨f,5,none⟩=some (.int .i64 p.next)):=λW hb=>⟨(H.o.keep hb).c1,nE (iJ L.o hb)⟩
      obtain⟨sm,si⟩:=mC (p:=p) (.inl P.o);have F:=ix (rk r.drew p (P4.o.keep i.o) sm.1 sm.2);rw[Y.o] at F;have SI:=ix si;clear sm si;go_upto_region 9 with fail
      refine wrd d i.o λhHeld=>?_
      refine tkd 0 1 2 3 ?_;refine tkd 4 5 6 7 ?_;refine tw 8 λK k=>?_
      go_simp;refine F.o.mono ?_;rintro _ w5 ⟨q,rfl,af,aj,ag⟩;have N5:=ix (af.pre (v':=r) (am _));have X:=ix aj;have v:=ix (bt i.o ag);clear af aj ag;go_wp2_with fail
      refine k.o _ _ (d.o _ v.o) (λhHeld=>?_)
      try simp only[pt]
      have LQ:Hid (q.items.length<=2199023255520):=by
       have e:=bf (λao:Pg=>ao.items.length) X.o
       simp only[Pv.pg,bM] at e;show _<=_;rw[e];exact ay SI.o (by decide)
      obtain⟨w6,ak,⟨aw,V,ai⟩,ad,ap⟩:=H.o.laid z q v.o N5.o LQ.o;have V6:=ix V;have F6:=ix ((Vf.keep E.o).trans ai)
      have Z:Hid (w6.cell? ⟨b,1,none⟩=some (.map (some mb))/\w6.heap[f]?=some (.cells #[.int .i64 z,.int .i64 p.kind,.int .i64 p.level,.slice p.aI p.items.length p.cI,.slice p.aD p.data.length p.cD,.int .i64 p.next] 91 (0,0))):=⟨V.c1,ad.same (iJ L.o v.o) (λe=>by
       have e:f=mb:=e;obtain⟨ac,cc,aa,ca,hq⟩:=H.o.keep v.o;obtain⟨es,cl,hm,_⟩:=hq.mp;have:=iJ L.o v.o;rw[e] at this;rw[show(w5.heap[mb]?=some (.map es cl)) from hm] at this
       cases this)⟩
      have g:Hid (q.vl=.agg q.cs):=rfl;rw[g.o] at ak;try rw[g.o]
      clear V ai ad ap;refine tw 9 λK k=>?_
      go_simp;refine k.o _ _ ⟨Z.o.1,nE Z.o.2⟩ (λhHeld=>?_)
      refine td ?_;clear hHeld i d F ak;go_wp2_with fail
      go_ret;exact .inr ⟨x.o,O.o,P.o,rfl,q,aw,X.o,V6.o,F6.o⟩
    . have c0:((N:Int) != 0)=true:=by simpa using T
      go_wp2_with fail
      refine l.o.mono ?_;rintro _ r ⟨rfl,j⟩;have E:=ix (bt t.o j);clear j l y0 y1 y2 y3 y4 y5;go_wp2_with fail
      go_ret;exact .inl ⟨N,T,rfl,by rw[if_neg (λe=>e x.o),if_neg (by rw[O.o];decide)];exact P.o,E.o⟩
 . rw[ah n] at m;have x:=ix n;clear n;go_enter func76,ntmps76;go_wp2_with fail
   refine m.o.mono ?_;rintro _ wq ⟨rfl,B⟩;rw[B];clear B m;go_wp2_with fail
   go_ret;exact .inl ⟨15,by decide,rfl,by rw[if_pos (show ¬0<S.X.P.count z from by have:=x.o;omega)],D.o⟩
end Go.Proofs.YteaogidofpfmmaaGreat
namespace Go.Proofs.YteaogidofpfmmaaGreat
open Go.Proofs.Tryz
open Go.RowKit
open Go.MapKept
theorem qk:∀(l m:List Int),l.Nodup->(∀x∈l,x∈m)->l.length<=m.length
 | [],m,_,_=>an _
 |a::t,m,hn,hs=>by
  have hn':=e6.1 hn;have b:=hs a bG;have d:=qk t (m.erase a) hn'.2 (λx c=>(List.mem_erase_of_ne (λe=>hn'.1 (by rw[<-e];exact c))).2 (hs x (br _ c)))
  rw[List.length_erase_of_mem b] at d;have:0<m.length:=List.length_pos_of_mem b;simp only[a7];omega
def oN(e:MapEntry):Int:=match e.key with
 | .int _ k=>k
 |_=>0
theorem Mo.count{a:Array MapEntry}{B:Nat}{f:Int->Option Value}(h:Mo a B f)(c:List Int)(s:c.Nodup)(hk:∀k,(f k).isSome=true↔k∈c):a.size=c.length:=by
 have l:∀e∈a.toList,e.key=.int .i64 (oN e)/\(f (oN e)).isSome=true:=λe b=>by
  obtain⟨k,d,p⟩:=h.key e b;have:oN e=k:=by unfold oN;rw[d]
  rw[this];exact⟨d,by rw[p];rfl⟩
 obtain⟨_,_,r⟩:=h.st
 have d:a.toList.map (·.key)=(a.toList.map oN).map (λk=>Value.int .i64 k):=by
  rw[List.map_map];exact List.map_congr_left (λe b=>(l e b).1)
 have t:(a.toList.map oN).Nodup:=by
  have i:(a.toList.map (·.key)).Nodup:=r
  rw[d] at i;exact List.Pairwise.imp (λA e=>A (by rw[e])) (fa.1 i)
 have m:=qk (a.toList.map oN) c t (λx g=>by
  obtain⟨e,b,rfl⟩:=bE.1 g;exact(hk _).1 (l e b).2)
 have n:=qk c (a.toList.map oN) s (λx g=>by
  have j:=(hk x).2 g;cases e:f x with
  |none=>rw[e] at j;cases j
  |some v=>
   obtain⟨q,b,y⟩:=h.has x v e;refine bE.2 ⟨q,b,?_⟩;unfold oN;rw[y])
 rw[bM] at m n;have:a.toList.length=a.size:=Array.length_toList;omega
theorem rj{α:Type}(p q:α->Bool):∀l:List α,(∀x∈l,p x=true->q x=true)->l.countP q=l.countP p+l.countP (λx=>q x&& !p x)
 | [],_=>rfl
 |x::t,h=>by
  have ih:=rj p q t (λy b=>h y (br _ b))
  have a:=h x bG;simp only[List.countP_cons,ih];cases hp:p x<;>cases hq:q x
  . simp
  . simp;omega
  . rw[hp,hq] at a;exact absurd (a rfl) (by decide)
  . simp;omega
def kQ(n:Nat)(f:Int->Option Pv):List Int:=((List.range n).filter λi:Nat=>(f ((i:Int)+1)).isSome).map λi=>((i:Nat):Int)+1
theorem vM(n:Nat)(f:Int->Option Pv):(kQ n f).Nodup:=by
 unfold kQ;refine fa.2 ?_;refine List.Pairwise.imp (R:=λa b:Nat=>a≠b) ?_ (List.Pairwise.filter _ List.nodup_range)
 intro a b c e;have d:((a:Nat):Int)+1=((b:Nat):Int)+1:=e;exact c (by omega)
theorem zb{n:Nat}{f:Int->Option Pv}(a:∀k,(f k).isSome=true->1<=k/\k<=n)(k:Int):(f k).isSome=true↔k∈kQ n f:=by
 unfold kQ;constructor
 . intro h;obtain⟨c,d⟩:=a k h;refine bE.2 ⟨(k-1).toNat,dX.2 ⟨dB.2 (by omega),?_⟩,by omega⟩
   rw[show(((k-1).toNat:Nat):Int)+1=k by omega]
   exact h
 . intro h;obtain⟨i,b,e⟩:=bE.1 h;rw[<-e];exact(dX.1 b).2
theorem Cv(r:Int)(C:List Int):((Q.Po.start r C).pages 4).length=(List.range C.length).countP (λi=>decide (0<C.getD i 0))\/∃c∈C,c<0:=by
 by_cases d:∃c∈C,c<0
 . exact .inr d
 . refine .inl ?_
   have k:∀c∈C,0<=c:=λc g=>by
    by_cases h:c<0
    . exact absurd ⟨c,g,h⟩ d
    . omega
   show(if (1:Int)<=4/\(4:Int)<=4 then _ else _:List Int).length=_
   rw[if_pos (by omega)]
   show(Q.j7 _ 4).length=_;unfold Q.j7;rw[bM,<-List.countP_eq_length_filter];show List.countP _ (List.range ((Q.Po.start r C).pg.length))=_;have j:(Q.Po.start r C).pg.length=C.length:=by unfold Q.Po.start;exact bM _
   rw[j];refine List.countP_congr (λi a=>?_)
   have a:=dB.1 a;have e:(Q.Po.start r C).pg.getD i Q.Pg.zero=(C.getD i 0,decide (0<C.getD i 0)):=by unfold Q.Po.start;simp[a]
   rw[e];have:=k (C.getD i 0) (by simp[a])
   unfold Q.stt;by_cases b:C.getD i 0=0
   . rw[if_pos (show(C.getD i 0,decide (0<C.getD i 0)).1=0 from b),b]
     simp
   . rw[if_neg (show ¬(C.getD i 0,decide (0<C.getD i 0)).1=0 from b)]
     have f:0<C.getD i 0:=by omega
     simp only[ar f];simp
theorem Ab{r:Int}{C:List Int}{f:Int->Option Pv}{g:Int->Option Pg}(hb:j8 r C=false)(n:∀k,(f k).isSome=true->0<iO C k)(d:∀k,(g k).isSome=(f k).isSome):decide ((kQ C.length f).length<((Q.Po.start r C).pages 4).length)=lf C g:=by
 have p:¬ ∃c∈C,c<0:=by
  rintro⟨c,hc,h0⟩;unfold j8 at hb;rw[fb] at hb;exact hb c hc (by simp[h0])
 have j:=(Cv r C).resolve_right p
 have l:(kQ C.length f).length=(List.range C.length).countP (λi:Nat=>(f ((i:Int)+1)).isSome):=by
  unfold kQ;rw[bM,List.countP_eq_length_filter]
 have m:=rj (λi:Nat=>(f ((i:Int)+1)).isSome) (λi:Nat=>decide (0<C.getD i 0)) (List.range C.length) (λi a h=>by
  have a:=dB.1 a;have:=n _ h;unfold iO at this;rw[if_pos (by omega),show((i:Int)+1-1).toNat=i by omega] at this
  exact ar this)
 rw[j,l,m];unfold lf;cases hl:(List.range C.length).any (λi=>decide (0<C.getD i 0)&&(g ((i:Int)+1)).isNone) with
 |true=>
  obtain⟨i,a,h⟩:=fT.1 hl;refine ar ?_
  have:0<(List.range C.length).countP (λi:Nat=>decide (0<C.getD i 0)&& !(f ((i:Int)+1)).isSome):=List.countP_pos_iff.2 ⟨i,a,by
   rw[ce] at h ⊢;refine⟨h.1,?_⟩;rw[<-d];cases e:g ((i:Int)+1) with
   |none=>rfl
   |some v=>rw[e] at h;exact absurd h.2 (by simp)⟩
  omega
 |false=>
  refine ah ?_
  have:(List.range C.length).countP (λi:Nat=>decide (0<C.getD i 0)&& !(f ((i:Int)+1)).isSome)=0:=List.countP_eq_zero.2 (λi a h=>by
   have:=fb.1 hl i a;apply this;rw[ce] at h ⊢;refine⟨h.1,?_⟩;have b:=h.2;rw[<-d] at b;cases e:g ((i:Int)+1) with
   |none=>rfl
   |some v=>rw[e] at b;exact absurd b (by simp))
  omega
end Go.Proofs.YteaogidofpfmmaaGreat
namespace Go.Proofs.YteaogidofpfmmaaGreat
open Go.Proofs.Tryz
open Go.RowKit
variable {r:Int}{C:List Int}{mb pb:Nat}{col pc:Nat->Nat}{w wx wy:World}
theorem nF(r:Int)(C:List Int)(z:Int):(Q.Po.start r C).count z=iO C z:=by
 have c:(Q.Po.start r C).pg.length=C.length:=by unfold Q.Po.start;exact bM _
 unfold Q.Po.count Q.Po.has iO;rw[c];by_cases a:1<=z/\z<=C.length
 . rw[if_pos a,if_pos (by simp[a])]
   obtain⟨i,b⟩:∃i:Nat,(z-1).toNat=i:=⟨_,rfl⟩;rw[b];have d:i<C.length:=by omega
   unfold Q.Po.start;simp[d]
 . rw[if_neg a,if_neg (by simpa using a)]
def ldS(r:Int)(C:List Int)(f:Int->Option Pv):Vs:=⟨⟨Q.Po.start r C,f,[]⟩,[],0⟩
def Fl(w w':World)(e:Ending)(r:Int)(C:List Int)(NL:List (Int×Pv)):Prop:=
 (∃er:Nat,er≠0/\(iP r C (nmg NL)).1=er/\e=.returned (.tuple #[.pointer none,.int .i64 ((er:Nat):Int)])/\Below w.heap.size w w')\/
 ((iP r C (nmg NL)).1=0/\∃(b:Nat)(f:Int->Option Pv),e=.returned (.tuple #[.pointer (some ⟨b,0,none⟩),.int .i64 0])/\y8 w w' b (ldS r C f)/\(∀k,(f k).map Pv.pg=(iP r C (nmg NL)).2 k)/\(∀k q,f k=some q->q.pg.check=0)/\∀k,(f k).isSome=true->0<iO C k)
structure Lv(w wx:World)(b pb mb:Nat)(r:Int)(C:List Int)(f:Int->Option Pv)(g:Int->Option Pg)(pc col:Nat->Nat):Prop where
 v:Vw wx b (ldS r C f) pb mb pc col
 b:Below w.heap.size w wx
 c:∀k,col k≠0->w.heap.size<=k
 g:∀k,(f k).map Pv.pg=g k
 s:∀k q,f k=some q->q.pg.check=0
 p:∀k,(f k).isSome=true->0<iO C k
theorem Lv.keep{b:Nat}{f:Int->Option Pv}{g:Int->Option Pg}(h:Lv w wx b pb mb r C f g pc col)(hb:Below wx.heap.size wx wy):Lv w wy b pb mb r C f g pc col:=⟨h.v.keep hb,bt h.b hb,h.c,h.g,h.s,h.p⟩
theorem Lv.sm{b:Nat}{f:Int->Option Pv}{g:Int->Option Pg}(h:Lv w wx b pb mb r C f g pc col)(k:Int):(g k).isSome=(f k).isSome:=by
 rw[<-h.g k];cases f k<;>rfl
theorem Lv.laid{b:Nat}{f:Int->Option Pv}{g:Int->Option Pg}{c:Nat->Nat}(h:Lv w wx b pb mb r C f g pc col){z:Int}{q:Pv}{p:Pg}(i:q.pg=p)(m:0<iO C z)(j:p.check=0)(l:Vw wy b (ldS r C (mQ f z q)) pb mb pc c)(d:Vf wx col wy c):Lv w wy b pb mb r C (mQ f z q) (λk=>if k=z then some p else g k) pc c:=by
 have sz:=h.b.size;refine⟨l,?_,λk hk=>?_,λk=>?_,λk n e=>?_,λk e=>?_⟩
 . exact((But.ofBelow (S:=λk=>1<=col k/\col k<=5) h.b).trans d.b (λ_ _ e=>e)).below (λk hk e=>by have:=h.c k (by omega);omega)
 . by_cases s:k<wx.heap.size
   . exact h.c k (by rw[<-d.c k s];exact hk)
   . omega
 . unfold mQ;by_cases e:k=z
   . rw[if_pos e,if_pos e,<-i];rfl
   . rw[if_neg e,if_neg e];exact h.g k
 . unfold mQ at e;by_cases a:k=z
   . rw[if_pos a] at e;cases e;rw[i];exact j
   . rw[if_neg a] at e;exact h.s k n e
 . unfold mQ at e;by_cases a:k=z
   . rw[a];exact m
   . rw[if_neg a] at e;exact h.p k e
theorem Vw.mlen{b:Nat}{f:Int->Option Pv}(h:Vw w b (ldS r C f) pb mb pc col)(j:∀k,(f k).isSome=true->0<iO C k)(a:TypeId):(Builtin.len_ #[113] a #[.map (some mb)]).run prog w=.ok (.int .i64 (((kQ C.length f).length:Nat):Int)) w:=by
 obtain⟨q,t,p,s,l⟩:=h;obtain⟨d,c,g,i⟩:=l.mp
 have e:=i.count (kQ C.length f) (vM _ _) (λk=>by
  have m:=zb (n:=C.length) (f:=f) (λk hk=>by
   have:=j k hk;unfold iO at this;split at this
   . assumption
   . omega) k
  rw[<-m];show((f k).map Pv.vl).isSome=true↔_;cases f k<;>simp)
 have k:=run_len_map w 113 a mb d c (P:=prog) (by kernel_rfl) g
 rw[k,e];rfl
theorem AY(w:World)(r:Int)(a:Option Addr)(n cap:Nat)(C:List Int)(hC:Q.Ir w a C)(F:n=C.length)(aN:Option Addr)(m aF:Nat)(c:List (Int×Pv))(hN:Nm w aN c)(hm:m=c.length)(aK:m<=1000000):
 Calls prog 40 #[.int .i64 r,.slice a n cap,.slice aN m aF] w λe w'=>Fl w w' e r C c:=by
 by_cases H:Q.fits n r=false
 . have NN:=ix (Q.Fx w r a n cap H);have s:Hid ((iP r C (nmg c)).1=1):=qQ (by rw[<-F];exact H)
   clear hC F hN hm H;go_enter func40,ntmps40;go_wp2_with fail
   refine NN.o.mono ?_;rintro _ wq ⟨rfl,ax⟩;rw[ax];clear ax;go_wp2_with fail
   go_ret2
   exact .inl ⟨1,by decide,s.o,rfl,Below.refl _ _⟩
 have ae:Q.fits n r=true:=by simpa using H
 have E:Hid (Q.fits C.length r=true):=by show _=_;rw[<-F];exact ae
 have LA:=ix (Q.Ea w r a n cap C hC F ae);have HN:=ix F;have ag:=ix hN;have HM:=ix hm;have aC:= @run_makeMap prog;clear H ae hC F hN hm;go_enter func40,ntmps40;go_wp2_with fail
 refine LA.o.mono ?_;rintro _ w1 (⟨L,rfl,aw⟩|⟨L,pb,rfl,hM⟩)
 . have s:Hid ((iP r C (nmg c)).1=13):=po E.o L;rw[aw];clear aw L;go_wp2_with fail
   go_ret2
   exact .inl ⟨13,by decide,s.o,rfl,Below.refl _ _⟩
 have B:Hid (j8 r C=false):=L;have VM:=ix (yW hM);clear hM L LA;go_wp2_with fail
 generalize aD:((w1.alloc (.map #[] 0)).alloc (.cells #[.pointer (some ⟨pb,0,none⟩),.map (some w1.heap.size),.slice none 0 0,.slice none 0 0,.int .i64 0] 117))=w2 at *;clear aD;generalize w1.heap.size+1=b at *;obtain⟨A,mb,pc,col,hV,ak,ao⟩:=VM.o;have L0:Hid (Lv w w2 b A mb r C (λ_=>none) (λ_=>none) pc col):=⟨hV,ak,ao,λ_=>rfl,λk ay e=>(by cases e),λk e=>(by cases e)⟩
 clear hV ak ao VM aC;go_loopw [29] (λvj wx=>∃(j:Nat)(f:Int->Option Pv)(g:Int->Option Pg)(pc col:Nat->Nat),j<=m/\vj=.int .i64 (j:Int)/\Lv w wx b A mb r C f g pc col/\ldG (iO C) g (nmg (c.drop j))=ldG (iO C) (λ_=>none) (nmg c)) (λvj _=>m-(intOf vj).toNat)
 case atStart=>exact⟨0,_,_,pc,col,an _,rfl,L0.o,by rw[eH]⟩
 case round=>
  clear L0;obtain⟨j,f,g,pc,col,hj,rfl,hL,d⟩:=hrel;have h:=ix hL;have N:=ix d;clear hL d;by_cases aB:j<m
  . have aJ:(j:Int)<(m:Int):=by omega
    have af:j<c.length:=by rw[<-HM.o];exact aB
    obtain⟨g1,aE,rfl,ad⟩:=ag.o.c j af;have ab:=ix λ(W:World)(hb:Below w.heap.size w W)(k:Nat)(u:Value)(hu:(nmc (c.getD j nm0))[k]?=some u)=>(hb.cell (p:=⟨g1,aE+j*6+k,none⟩) (block_lt_of_cell (ad k u hu))).trans (ad k u hu)
    have y:=ab.o wr h.o.b;clear ad;have MX:Hid (c.getD j nm0∈c):=by show _∈_;simp[af]
    have ED:=ix (vy af);have PX:=ix λ(W:World)(hb:Below w.heap.size w W)=>(ag.o.keep hb).p _ MX.o
    obtain⟨x,hx⟩:∃x,c.getD j nm0=x:=⟨_,rfl⟩;simp only[hx] at y ED PX ab;clear hx MX ab;obtain⟨z,p⟩:=x;have Z:=y 0 _ rfl;have n1:=y 1 _ rfl;have n2:=y 2 _ rfl;have n3:=y 3 _ rfl;have n4:=y 4 _ rfl;have n5:=y 5 _ rfl;rw[dp] at Z;have aI:g1<wr.heap.size:=block_lt_of_cell Z;clear y;have A0:=ix (al wr (.cells #[.int .i64 z,.int .i64 p.kind,.int .i64 p.level,.slice p.aI p.items.length p.cI,.slice p.aD p.data.length p.cD,.int .i64 p.next] 91));have P:=ix (h.o.keep A0.o);have T:=ix (AG _ b (ldS r C f) A mb pc col P.o.v z p (PX.o _ P.o.b).1);unfold nlv at T;have d:=N.o;rw[ED.o,qM] at d
    have D:Hid ((iO C z<=0->(iP r C (nmg c)).1=15)/\(0<iO C z->(g z).isSome=true->(iP r C (nmg c)).1=10)/\(0<iO C z->(g z).isSome=false->p.pg.check≠0->(iP r C (nmg c)).1=p.pg.check)/\(0<iO C z->(g z).isSome=false->p.pg.check=0->ldG (iO C) (λk=>if k=z then some p.pg else g k) (nmg (c.drop (j+1)))=ldG (iO C) (λ_=>none) (nmg c))):=by
     refine⟨λk=>?_,λt v=>?_,λt v Y=>?_,λt v Y=>?_⟩
     . rw[if_pos (show ¬0<iO C z by omega)] at d
       rw[lD E.o B.o (by rw[<-d];simp),<-d]
     . rw[if_neg (λe=>e t),if_pos v] at d
       rw[lD E.o B.o (by rw[<-d];simp),<-d]
     . rw[if_neg (λe=>e t),if_neg (by rw[v];decide),if_pos Y] at d
       rw[lD E.o B.o (by rw[<-d];exact Y),<-d]
     . rw[if_neg (λe=>e t),if_neg (by rw[v];decide),if_neg (λe=>e Y)] at d
       exact d
    clear d N ED;go_wp2_with fail
    refine T.o.mono ?_;rintro _ w4 (⟨er,K,rfl,i,ai⟩|⟨U,h2,h3,rfl,ay,aG,V,av,ap⟩)
    . have L4:=ix (bt P.o.b ai)
      have s:Hid ((iP r C (nmg c)).1=er):=by
       have hs:=h.o.sm z;have q:(ldS r C f).X.P.count z=iO C z:=nF r C z;rw[q] at i;have aA:((ldS r C f).X.f z).isSome=(f z).isSome:=rfl;rw[aA,<-hs] at i;show _=_;by_cases t:0<iO C z
       . rw[if_neg (λe=>e t)] at i
         by_cases v:(g z).isSome=true
         . rw[if_pos v] at i;rw[<-i];exact D.o.2.1 t v
         . rw[if_neg v] at i;rw[<-i];exact D.o.2.2.1 t (by simpa using v) (by rw[i];exact K)
       . rw[if_pos t] at i;rw[<-i];exact D.o.1 (by omega)
      have az:=ix K;have e9:((er:Int) != 0)=true:=by simpa using K
      clear K i ai T Z n1 n2 n3 n4 n5 D;go_wp2_with fail
      go_ret2
      exact .inl ⟨er,az.o,s.o,rfl,L4.o⟩
    . have q:(ldS r C f).X.P.count z=iO C z:=nF r C z;rw[q] at U;have L4:=ix (P.o.laid V U h3 av ap);have E3:Hid (ldG (iO C) (λk=>if k=z then some p.pg else g k) (nmg (c.drop (j+1)))=ldG (iO C) (λ_=>none) (nmg c)):=D.o.2.2.2 U (by rw[h.o.sm z];exact h2) h3
      clear U h2 h3 V av ap q T Z n1 n2 n3 n4 n5 D;go_wp2_with fail
      go_roundw
      case rel=>exact⟨j+1,_,_,pc,aG,by omega,by go_num,L4.o,E3.o⟩
      case measure=>simp[intOf];omega
  . obtain rfl:j=m:=by omega
    have G:Hid (ldG (iO C) (λ_=>none) (nmg c)=(0,g)):=by
     show _=_;rw[<-N.o,dw (by rw[<-HM.o];exact am _)]
     rfl
    clear N;have O:=ix (Ab (r:=r) (f:=f) (g:=g) B.o h.o.p h.o.sm);have M:=ix (dr2 wr)
    have TA:=ix (show ∀W:World,Below wr.heap.size wr W->Calls prog 77 #[.pointer (some ⟨A,0,none⟩),.int .i64 4] W λe w'=>e=.returned (.int .i64 ((((Q.Po.start r C).pages 4).length:Nat):Int))/\Below W.heap.size W w' from λW hb=>by
     obtain⟨ac,cc,aa,ca,V⟩:=h.o.v.keep hb;exact Q.zL W A _ _ V.pool 4)
    have S:Hid (∀W:World,Below wr.heap.size wr W->W.cell? ⟨b,0,none⟩=some (.pointer (some ⟨A,0,none⟩))/\W.cell? ⟨b,1,none⟩=some (.map (some mb))/\∀ty,(Builtin.len_ #[113] ty #[.map (some mb)]).run prog W=.ok (.int .i64 (((kQ C.length f).length:Nat):Int)) W):=λW hb=>⟨(h.o.v.keep hb).c0,(h.o.v.keep hb).c1,λty=>(h.o.v.keep hb).mlen h.o.p ty⟩
    obtain⟨J,au⟩:∃J,((Q.Po.start r C).pages 4).length=J:=⟨_,rfl⟩;obtain⟨I,aq⟩:∃I,(kQ C.length f).length=I:=⟨_,rfl⟩;simp only[au] at TA O;simp only[aq] at S O;clear au aq;go_upto_region 12 with fail
    refine wrd S M.o λhHeld=>?_
    refine tkd 0 1 2 3 ?_;refine tkd 4 5 6 7 ?_;refine tk 8 ?_;refine tw 9 λaH hK=>?_
    go_simp;refine(TA.o _ M.o).mono ?_;rintro _ w5 ⟨rfl,aj⟩;have B5:=ix (bt M.o aj);clear aj;go_wp2_with fail
    refine hK.o _ _ (S.o _ B5.o) (λhHeld=>?_)
    refine tk 10 ?_;refine td ?_;have R:=ix (h.o.keep B5.o);clear hHeld S TA M;by_cases hl:I<J
    . have dl:decide ((I:Int)<(J:Int))=true:=ar (by omega)
      have s:Hid ((iP r C (nmg c)).1=9):=by
       refine qa E.o B.o (by rw[G.o]) ?_
       rw[G.o];have:=O.o;rw[ar hl] at this;exact this.symm
      go_wp2_with fail
      go_ret2
      exact .inl ⟨9,by decide,s.o,rfl,R.o.b⟩
    . have dl:decide ((I:Int)<(J:Int))=false:=ah (by omega)
      have s:Hid (iP r C (nmg c)=(0,g)):=by
       have:=O.o;rw[ah hl] at this;have k:=uS (l:=nmg c) E.o B.o (by rw[G.o]) (by rw[G.o];exact this.symm)
       rw[G.o] at k;exact k
      go_wp2_with fail
      go_ret2
      exact .inr ⟨by rw[s.o],b,f,rfl,⟨A,mb,pc,col,R.o.v,R.o.b,R.o.c⟩,by rw[s.o];exact h.o.g,h.o.s,h.o.p⟩
theorem ox{l e:TypeId}{sz bs:Nat}{z:Value}(H:prog.underlying l=some (.slice e))(S:(prog.info? e).map (λi=>(i.zero,i.size,i.bytes))=some (some z,sz,bs))(L:z.cells.size=sz)(q:0<sz){w:World}{m:Array Oper}{o:Oper}{a:Act}{K:Act->World->Prop}{p:Exit->Act->World->Prop}{E:Prop}(P:o.guard=none)(s x:Operand)
 (D:o.op=.call {callee:=.builtin .append,args:=#[s,x],argTypes:=#[l,l]}) (b:Option Addr) (n cap:Nat) (C:List Value) (G:a.eval s=.slice b n cap) (v:Q.Gw e sz w b cap n C)
 (k:Addr) (c:Nat) (xs:List Value) (J:a.eval x=.slice (some k) 1 c) (A:xs.length=1*sz) (y:∀j u,xs[j]?=some u->w.cell? (k.add j)=some u) (t:∀u∈xs,u.oneCell'=true) (B:n+1<=maxLen) (R:(n+1)*bs<=140737488355328)
 (h:∀g f d,Q.Gw e sz d (some ⟨g,0,none⟩) f (n+1) (C++xs)->New w b (some ⟨g,0,none⟩)->But (Q.InA b) w d->K (a.put o.dst (.slice (some ⟨g,0,none⟩) (n+1) f)) d):
 if Region.wanted o (yielded m a.tmps)=true then Oper.wp prog o a w K p else E:=by
 have I:Region.wanted o (yielded m a.tmps)=true:=by simp[Region.wanted,P]
 rw[if_pos I];obtain⟨g,f,d,F,M,N,O⟩:=sO H S L q w o.type b n cap C v k c xs A y t B R;unfold Oper.wp execOp;simp only[D,resolve,invoke,builtin,eu,ey,dP,eB,bT,eG,G,J,F];exact h g f d M N O
def jp(rd:Int->Option Pg)(s:Nat):Nat->List Nat->Int->Nat×List Nat
 |0,acc,_=>(0,acc)
 |t+1,acc,n=>if acc.length<s then
   match rd n with
   |none=>(15,[])
   |some p=>if p.kind≠3 then (15,[]) else if p.data.length≠min (s-acc.length) 480 then (5,[]) else if decide (p.next=0)≠decide (s-acc.length<=480) then (5,[]) else jp rd s t (acc++p.data) p.next
  else (0,acc)
theorem mo{rd:Int->Option Pg}{s:Nat}{a:List Nat}{n:Int}(h:s<=a.length):∀t,jp rd s t a n=(0,a)
 |0=>rfl
 |t+1=>by unfold jp;rw[if_neg (by omega)]
theorem oZ{rd:Int->Option Pg}{s:Nat}:∀(t b:Nat)(a:List Nat)(n:Int),s-a.length<=t->s-a.length<=b->jp rd s t a n=jp rd s b a n
 |0,b,a,n,h,_=>by rw[mo (by omega),mo (by omega)]
 |t+1,0,a,n,_,h'=>by rw[mo (by omega),mo (by omega)]
 |t+1,b+1,a,n,h,h'=>by
  unfold jp;by_cases hl:a.length<s
  . rw[if_pos hl,if_pos hl];cases rd n with
    |none=>rfl
    |some p=>
     simp only;by_cases h1:p.kind≠3
     . rw[if_pos h1,if_pos h1]
     . rw[if_neg h1,if_neg h1];by_cases h2:p.data.length≠min (s-a.length) 480
       . rw[if_pos h2,if_pos h2]
       . rw[if_neg h2,if_neg h2];by_cases h3:decide (p.next=0)≠decide (s-a.length<=480)
         . rw[if_pos h3,if_pos h3]
         . rw[if_neg h3,if_neg h3];have e:p.data.length=min (s-a.length) 480:=by simpa using h2
           exact oZ t b _ _ (by rw[af];omega) (by rw[af];omega)
  . rw[if_neg hl,if_neg hl]
def kX(f:FuncId)(v:Value)(rd:Int->Option Pg)(w:World):Prop:=∀(W:World),Below w.heap.size w W->∀z:Int,Calls prog f #[v,.int .i64 z] W λx w'=>∃q:Pv,x=.returned (.tuple #[q.vl,.int .i64 (if (rd z).isSome=true then 0 else 15)])/\Pn W w' q/\q.pg=(rd z).getD Pv.zero.pg/\Below W.heap.size W w'
def rdV(S:Vs)(z:Int):Option Pg:=if 0<S.X.P.count z then some (S.X.on z).pg else none
def rdR(D:Rd)(z:Int):Option Pg:=if 0<D.count z then some (D.on z).pg else none
theorem Vw.reads{b:Nat}{S:Vs}(h:Vw w b S pb mb pc col)(e:∀z,Sml (S.X.on z)):kX 52 (.pointer (some ⟨b,0,none⟩)) (rdV S) w:=λW hb z=>by
 refine(D7 W b S pb mb pc col (h.keep hb) z (e z)).mono ?_;rintro _ g ⟨q,rfl,c,d,f⟩;refine⟨q,?_,c,?_,f⟩
 . unfold rdV;by_cases a:0<S.X.P.count z
   . rw[if_pos a,if_pos a,if_pos (by rfl)]
   . rw[if_neg a,if_neg a,if_neg (by simp)]
 . rw[d];unfold rdV;by_cases a:0<S.X.P.count z
   . rw[if_pos a,if_pos a];rfl
   . rw[if_neg a,if_neg a];rfl
theorem Rq.reads{b:Nat}{D:Rd}(h:Rq w b D col):kX 53 (.pointer (some ⟨b,0,none⟩)) (rdR D) w:=λW hb z=>by
 refine(Be W b D col (h.keep hb) z).mono ?_;rintro _ f ⟨q,rfl,c,_,d,e⟩;refine⟨q,?_,c,?_,e⟩
 . unfold rdR;by_cases a:0<D.count z
   . rw[if_pos a,if_pos a,if_pos (by rfl)]
   . rw[if_neg a,if_neg a,if_neg (by simp)]
 . rw[d];unfold rdR;by_cases a:0<D.count z
   . rw[if_pos a,if_pos a];rfl
   . rw[if_neg a,if_neg a];rfl
def Gvn(w w':World)(e:Ending)(r:Nat×List Nat):Prop:=(r.1≠0/\e=.returned (.tuple #[.slice none 0 0,.int .i64 ((r.1:Nat):Int)])/\Below w.heap.size w w')\/(r.1=0/\∃(a:Option Addr)(c:Nat),e=.returned (.tuple #[.slice a r.2.length c,.int .i64 0])/\Own w w' a c r.2/\B8 r.2)
theorem yv(w:World)(v:Value)(rd:Int->Option Pg)(D:kX 52 v rd w)(s:Nat)(h1:32<s)(h2:s<=3840)(n:Int):
 Calls prog 83 #[v,.int .i64 n,.int .i64 (s:Int)] w λe w'=>Gvn w w' e (jp rd s s [] n):=by
 have RD:=ix D;have aD:∀w:World,(Instr.makeSlice 37 (.int .i64 0) (.int .i64 (s:Int))).run prog w=.ok (.slice (some ⟨w.heap.size,0,none⟩) 0 s) (w.alloc (.cells (madeCells #[.int .u8 0] s) 5)):=sg 0 s (an _) (by omega)
 have A0:=ix (al w (.cells (madeCells #[.int .u8 0] s) 5));have R0:Hid (Rw (w.alloc (.cells (madeCells #[.int .u8 0] s) 5)) (some ⟨w.heap.size,0,none⟩) s []):=Rw.mk (cur:=madeCells #[.int .u8 0] s) (bj _ _) (an _) (ay h2 (by decide)) (zC s) (by simp[vb])
 clear D;obtain⟨f,ak⟩:∃f,jp rd s s [] n=f:=⟨_,rfl⟩;have aE:=ix ak;rw[ak];clear ak;go_enter func83,ntmps83;go_wp2_with fail
 generalize (w.alloc (.cells (madeCells #[.int .u8 0] s) 5))=w1 at *;clear aD;go_loopw [8,1] (λvv nv wx=>∃(i:List Nat)(W:Int)(a:Option Addr)(c m:Nat),vv=.slice a m c/\nv=.int .i64 W/\m=i.length/\m<=s/\Rw wx a c i/\New w none a/\Below w.heap.size w wx/\B8 i/\jp rd s (s-m) i W=f) (λvv _ _=>s-(mM vv))
 case atStart=>exact⟨[],n,some ⟨w.heap.size,0,none⟩,s,0,rfl,rfl,rfl,an _,R0.o,λx hx=>.inr (by cases hx;exact am _),A0.o,(λx hx=>absurd hx (cf)),by rw[Nat.sub_zero];exact aE.o⟩
 case round=>
  clear R0 A0;obtain⟨i,W,a,c,m,rfl,rfl,hm,aG,D,E,hb,h8,b⟩:=hrel;have B:=ix hm;have RW:=ix D;have P:=ix E;have Z:=ix hb;have H8:=ix h8;have EE:=ix b;clear hm D E hb h8 b;by_cases aC:m<s
  . have aJ:(m:Int)<(s:Int):=by omega
    have K:=ix (RD.o wr Z.o W);obtain⟨t,ht⟩:∃t,s-m=t+1:=⟨s-m-1,by omega⟩
    have b:=EE.o;rw[ht] at b;unfold jp at b;rw[if_pos (by rw[<-B.o];exact aC)] at b
    obtain⟨o,ho⟩:∃o,rd W=o:=⟨_,rfl⟩;rw[ho] at K b;clear ho EE;cases o with
    |none=>
     simp only at b;have g:Hid ((15,[])=f):=b;clear b;go_wp2_with fail
     refine K.o.mono ?_;rintro _ w3 ⟨q,rfl,ab,ac,M⟩;have O:=ix (al w3 (.cells #[.int .i64 q.kind,.int .i64 q.level,.slice q.aI q.items.length q.cI,.slice q.aD q.data.length q.cD,.int .i64 q.next] 77));have l:=ix (bt Z.o (bt M O.o));clear ab ac M K;obtain⟨Y,aA,av,aw,ax,ad,ag,G,A⟩:=q;unfold Pv.vl;simp only[Pv.cs] at l ⊢;go_wp2_with fail
     refine az (dh rfl _ _ _) rfl ?_;rw[<-g.o];exact .inl ⟨by decide,rfl,l.o⟩
    |some pg=>
     simp only at b
     have aj:Hid ((pg.kind≠3->(15,[])=f)/\(pg.kind=3->pg.data.length≠min (s-m) 480->(5,[])=f)/\(pg.kind=3->pg.data.length=min (s-m) 480->decide (pg.next=0)≠decide (s-m<=480)->(5,[])=f)/\(pg.kind=3->pg.data.length=min (s-m) 480->decide (pg.next=0)=decide (s-m<=480)->jp rd s (s-(m+pg.data.length)) (i++pg.data) pg.next=f)):=by
      rw[<-B.o] at b;refine⟨λJ=>?_,λJ V=>?_,λJ V k3=>?_,λJ V k3=>?_⟩
      . rw[if_pos J] at b;exact b
      . rw[if_neg (λe=>e J),if_pos V] at b;exact b
      . rw[if_neg (λe=>e J),if_neg (λe=>e V),if_pos k3] at b;exact b
      . rw[if_neg (λe=>e J),if_neg (λe=>e V),if_neg (λe=>e k3)] at b
        rw[<-b];exact oZ _ _ _ _ (by rw[af,<-B.o];omega) (by rw[af,<-B.o];omega)
     clear b;rw[if_pos (show(some pg).isSome=true from rfl)] at K
     go_wp2_with fail
     refine K.o.mono ?_;rintro _ w3 ⟨q,rfl,ab,ac,M⟩;have ap:q.pg=pg:=ac;have O:=ix (al w3 (.cells q.cs 77));have H:=ix (bj w3 (.cells q.cs 77));have l:=ix (bt Z.o (bt M O.o));have R:=ix (ab.keep O.o);have T:=ix ((RW.o.keep M).keep O.o);rw[<-ap] at aj;clear ab ac M K ap;have y:=ix (R.o.d.bs R.o.d8 R.o.d.len_le);have D8:Hid (B8 q.data):=R.o.d8;have j:Hid ((q.kind≠3->(15,[])=f)/\(q.kind=3->q.data.length≠min (s-m) 480->(5,[])=f)/\(q.kind=3->q.data.length=min (s-m) 480->decide (q.next=0)≠decide (s-m<=480)->(5,[])=f)/\(q.kind=3->q.data.length=min (s-m) 480->decide (q.next=0)=decide (s-m<=480)->jp rd s (s-(m+q.data.length)) (i++q.data) q.next=f)):=aj.o;clear aj R;obtain⟨Y,aA,av,aw,ax,ad,ag,G,A⟩:=q;unfold Pv.vl;simp only[Pv.cs] at H l T j y D8 ⊢;obtain⟨d,F⟩:∃d,G.length=d:=⟨_,rfl⟩;have L:=ix F;simp only[F] at H l T y j ⊢;clear F;have au:Hid (∀x,a=some x->x.block≠w3.heap.size):=λx hx=>T.o.nty13 (t:=77) H.o (by decide) hx
     go_upto_region 4 with fail
     generalize (w3.alloc (.cells #[.int .i64 Y,.int .i64 aA,.slice av ax.length aw,.slice ad d ag,.int .i64 A] 77))=w4 at *;have aq:w3.heap.size<w4.heap.size:=(ae.1 H.o).1;generalize w3.heap.size=gp at *;obtain⟨y0,y1,y2,y3,y4⟩:=jk H.o;by_cases N:Y=3
     . have X:=ix N;have dk:(Y != 3)=false:=by simpa using N
       clear N;by_cases F:d=min (s-m) 480
       . have aa:=ix F;have e2:min ((s:Int)-(m:Int)) 480=(d:Int):=by omega
         have aI:d<=480:=by omega
         have aH:1<=d:=by omega
         have aF:m+d<=s:=by omega
         have aB:((d:Int) != (d:Int))=false:=by simp
         have ao:i.length+d<=140737488355328:=by rw[<-B.o];omega
         clear F;by_cases hl:s-m<=480
         . have d1:decide ((s:Int)-(m:Int)<=480)=true:=ar (by omega)
           by_cases p:A=0
           . have d0:(A==0)=true:=by simpa using p
             have g:Hid (jp rd s (s-(m+d)) (i++G) A=f):=j.o.2.2.2 X.o aa.o (by rw[ar p,ar hl])
             clear p j;go_wp2_with (at_builtin;refine jP rfl _ _ rfl a m c i rfl B.o T.o ad d ag G rfl L.o.symm y.o (by rw[L.o];exact ao) ?_)
             intro U c' w5 D E I _;have R5:=ix D
             have X5:=ix ((I.block gp aq (λe=>by
              cases ha:a with
              |none=>rw[ha] at e;cases e
              |some x=>rw[ha] at e;exact au.o x ha (by simpa using e.symm))).trans H.o)
             have N5:Hid (New w none U):=λai hy=>by
              rcases E ai hy with⟨z,hz,e⟩|h
              . rcases P.o z hz with⟨_,h0,_⟩|h1
                . cases h0
                . exact .inr (by rw[<-e];exact h1)
              . exact .inr (ay l.o.size h)
             have B5:Hid (Below w.heap.size w w5):=(But.grown (S:=λk=>∃x,a=some x/\x.block=k) (But.ofBelow l.o) I (by
              intro k e _;cases ha:a with
              |none=>rw[ha] at e;simp at e
              |some x=>rw[ha] at e;exact⟨x,rfl,by first|(simpa using e)|(simpa using e.symm)⟩)).below (λk hk ⟨x,hx,e⟩=>by
               rcases P.o x hx with⟨_,h0,_⟩|h1
               . cases h0
               . omega)
             clear D E I y0 y1 y2 y3 y4;obtain⟨y0,y1,y2,y3,y4⟩:=jk X5.o;go_wp2_with fail
             go_roundw
             case rel=>exact⟨i++G,A,U,c',m+d,rfl,rfl,by rw[af,<-B.o,L.o],by omega,R5.o,N5.o,B5.o,(λx hx=>by
              rcases bO.1 hx with hx|hx
              . exact H8.o x hx
              . exact D8.o x hx),g.o⟩
             case measure=>simp[mM];omega
           . have d0:(A==0)=false:=by simpa using p
             have g:Hid ((5,[])=f):=j.o.2.2.1 X.o aa.o (by rw[ah p,ar hl];decide)
             clear p j;go_wp2_with fail
             refine az (dh rfl _ _ _) rfl ?_;rw[<-g.o];exact .inl ⟨by decide,rfl,l.o⟩
         . have d1:decide ((s:Int)-(m:Int)<=480)=false:=ah (by omega)
           by_cases p:A=0
           . have d0:(A==0)=true:=by simpa using p
             have g:Hid ((5,[])=f):=j.o.2.2.1 X.o aa.o (by rw[ar p,ah hl];decide)
             clear p j;go_wp2_with fail
             refine az (dh rfl _ _ _) rfl ?_;rw[<-g.o];exact .inl ⟨by decide,rfl,l.o⟩
           . have d0:(A==0)=false:=by simpa using p
             have g:Hid (jp rd s (s-(m+d)) (i++G) A=f):=j.o.2.2.2 X.o aa.o (by rw[ah p,ah hl])
             clear p j;go_wp2_with (at_builtin;refine jP rfl _ _ rfl a m c i rfl B.o T.o ad d ag G rfl L.o.symm y.o (by rw[L.o];exact ao) ?_)
             intro U c' w5 D E I _;have R5:=ix D
             have X5:=ix ((I.block gp aq (λe=>by
              cases ha:a with
              |none=>rw[ha] at e;cases e
              |some x=>rw[ha] at e;exact au.o x ha (by simpa using e.symm))).trans H.o)
             have N5:Hid (New w none U):=λai hy=>by
              rcases E ai hy with⟨z,hz,e⟩|h
              . rcases P.o z hz with⟨_,h0,_⟩|h1
                . cases h0
                . exact .inr (by rw[<-e];exact h1)
              . exact .inr (ay l.o.size h)
             have B5:Hid (Below w.heap.size w w5):=(But.grown (S:=λk=>∃x,a=some x/\x.block=k) (But.ofBelow l.o) I (by
              intro k e _;cases ha:a with
              |none=>rw[ha] at e;simp at e
              |some x=>rw[ha] at e;exact⟨x,rfl,by first|(simpa using e)|(simpa using e.symm)⟩)).below (λk hk ⟨x,hx,e⟩=>by
               rcases P.o x hx with⟨_,h0,_⟩|h1
               . cases h0
               . omega)
             clear D E I y0 y1 y2 y3 y4;obtain⟨y0,y1,y2,y3,y4⟩:=jk X5.o;go_wp2_with fail
             go_roundw
             case rel=>exact⟨i++G,A,U,c',m+d,rfl,rfl,by rw[af,<-B.o,L.o],by omega,R5.o,N5.o,B5.o,(λx hx=>by
              rcases bO.1 hx with hx|hx
              . exact H8.o x hx
              . exact D8.o x hx),g.o⟩
             case measure=>simp[mM];omega
       . have aB:((d:Int) != min ((s:Int)-(m:Int)) 480)=true:=by
          have:¬((d:Int)=min ((s:Int)-(m:Int)) 480):=by omega
          simpa using this
         have g:Hid ((5,[])=f):=j.o.2.1 X.o F;clear F j;go_wp2_with fail
         refine az (dh rfl _ _ _) rfl ?_;rw[<-g.o];exact .inl ⟨by decide,rfl,l.o⟩
     . have dk:(Y != 3)=true:=by simpa using N
       have g:Hid ((15,[])=f):=j.o.1 N;clear N j;go_wp2_with fail
       refine az (dh rfl _ _ _) rfl ?_;rw[<-g.o];exact .inl ⟨by decide,rfl,l.o⟩
  . have e1:m=s:=by omega
    have g:Hid ((0,i)=f):=by
     show _=_;rw[<-EE.o];exact(mo (by rw[<-B.o];omega) _).symm
    subst e1;go_wp2_with fail
    refine az (dh rfl _ _ _) rfl ?_;rw[<-g.o];exact .inr ⟨rfl,a,c,(by show Ending.returned (.tuple #[.slice a m c,.int .i64 0])=_;rw[B.o]),⟨RW.o,P.o,Z.o⟩,H8.o⟩
end Go.Proofs.YteaogidofpfmmaaGreat
namespace Go.Proofs.YteaogidofpfmmaaGreat
open Go.Proofs.Tryz
variable {n root:Int}{rd:Int->Option Pg}{f i:Nat}{p:Pg}
theorem um(r s:Rg)(k:List Nat):has (jK r s) k=true↔has r k=true/\has s k=true:=by
 have e:∀a b:List Nat,(grt a b<=k↔a<=k/\b<=k):=λa b=>by
  unfold grt;have:= @kw a b;split<;>grind
 have g:∀a b:List Nat,(k<lsr a b↔k<a/\k<b):=λa b=>by
  unfold lsr;have:= @kw a b;split<;>grind
 rw[has_iff,has_iff,has_iff];obtain⟨h,c,l⟩:=r;obtain⟨j,d,m⟩:=s;unfold jK;have a:=e h j;have b:=g c d;cases l<;>cases m<;>simp<;>grind
theorem nR{r:Rg}{k:List Nat}:has (wth p i r) k=true↔has r k=true/\(p.at i).key<=k/\(i+1<p.items.length->k<(p.at (i+1)).key):=by
 unfold wth;rw[um];have b:=has_iff (r:=⟨(p.at i).key,if i+1<p.items.length then (p.at (i+1)).key else [],decide (¬i+1<p.items.length)⟩) (k:=k)
 rw[b];constructor
 . rintro⟨h1,_,h3,h4⟩;refine⟨h1,h3,λa=>?_⟩
   rw[if_pos a] at h4;simpa[a] using h4
 . rintro⟨h1,h2,h3⟩;refine⟨h1,EZ h1,h2,?_⟩;by_cases a:i+1<p.items.length
   . right;rw[if_pos a];exact h3 a
   . left;simpa using a
theorem oj(h:i<p.items.length):p.at i=p.items[i]:=by unfold Pg.at;simp[h]
theorem Sound.rise{p:Pg}(h:Sound p):∀{i j:Nat},i<j->j<p.items.length->(p.at i).key<(p.at j).key:=by
 intro i j c;induction j with
 |zero=>omega
 |succ j ih=>
  intro b;have a:=(mK.1 (h.i (j+1) b)).2.1;unfold Pg.ordOk at a;simp at a;have a:=qL.1 a;by_cases e:i=j
  . subst e;exact a
  . have:=ih (by omega) (by omega);grind
theorem Sound.keyK(h:Sound p)(hi:i<p.items.length)(hk:p.kind=1\/i≠0):isK (p.at i).key=true:=by
 have c:=(mK.1 (h.i i hi)).1;unfold Pg.keyOk at c;rw[if_neg (by rintro⟨a,b⟩;rcases hk with h|h<;>omega)] at c
 unfold isK;simp at c ⊢;omega
theorem Sound.key0(h:Sound p)(hk:p.kind=2)(hi:0<p.items.length):(p.at 0).key=[]:=by
 have a:=(mK.1 (h.i 0 hi)).1;unfold Pg.keyOk at a;rw[if_pos ⟨hk,rfl⟩] at a;simpa using a
theorem jA{a:Int}:lvl p a=true↔p.kind≠3/\p.level=a:=by unfold lvl;simp
theorem Sound.leaf0(h:Sound p)(hk:p.kind=1):p.level=0/\1<=p.items.length:=by
 have a:=h.f;unfold Pg.form at a;rw[if_neg (by omega),if_pos hk] at a
 simp at a;omega
theorem Sound.idx(h:Sound p)(hk:p.kind=2):1<=p.level/\p.level<=11/\2<=p.items.length:=by
 have a:=h.f;unfold Pg.form at a;rw[if_neg (by omega),if_neg (by omega)] at a
 simp at a;omega
theorem Sound.kind(h:Sound p):p.kind=1\/p.kind=2\/p.kind=3:=Pg.kindOk_iff.1 h.k
def ldI(rd:Int->Option Pg)(x:It):Nat×List Nat:=if x.size<0\/3840<x.size then (8,[]) else if 32<x.size then jp rd x.size.toNat x.size.toNat [] x.child else if (x.val.length:Int)≠x.size then (8,[]) else (0,x.val)
def nds(rd:Int->Option Pg):Nat->Int->List Int
 |f,n=>match rd n with
  |none=>[]
  |some p=>n::(if p.kind=1 then [] else match f with
   |0=>[]
   |k+1=>(p.items.map It.child).flatMap (nds rd k))
def lits(rd:Int->Option Pg):Nat->Int->List It
 |f,n=>match rd n with
  |none=>[]
  |some p=>if p.kind=1 then p.items else match f with
   |0=>[]
   |k+1=>(p.items.map It.child).flatMap (lits rd k)
def Sub(rd:Int->Option Pg)(root:Int):Nat->Plx->Prop
 |f,a=>∃p,rd a.no=some p/\lvl p a.lv=true/\(a.no=root\/4<=p.items.length)/\(p.kind=1->∀x∈p.items,has a.keys x.key=true/\(ldI rd x).1=0)/\(p.kind≠1->match f with
    |0=>False
    |k+1=>∀c∈ben a p,Sub rd root k c)
theorem sT{a:Plx}(h:i<p.items.length):(ben a p)[i]?=some ⟨(p.at i).child,a.lv-1,wth p i a.keys⟩:=by
 unfold ben;simp[h]
theorem oe(a:Plx)(p:Pg):(ben a p).map Plx.no=p.items.map It.child:=by
 unfold ben;apply fW
 . simp
 . intro i c b;simp at c b;simp[oj b]
theorem so{a:Plx}{c:Plx}(h:c∈ben a p):∃i,i<p.items.length/\c=⟨(p.at i).child,a.lv-1,wth p i a.keys⟩:=by
 unfold ben at h;obtain⟨i,b,e⟩:=bE.1 h;exact⟨i,dB.1 b,e.symm⟩
structure Grw(rd:Int->Option Pg)(G G':List Int):Prop where
 sub:∀x∈G,x∈G'
 nd:G.Nodup->G'.Nodup
 cl:∀x∈G',x∈G\/∃p,rd x=some p/\∀k∈p.kids,k∈G'
theorem Grw.refl(rd:Int->Option Pg)(G:List Int):Grw rd G G:=⟨λ_ h=>h,id,λ_ h=>.inl h⟩
theorem Grw.trans{A B C:List Int}(h:Grw rd A B)(k:Grw rd B C):Grw rd A C:=
 ⟨λx a=>k.sub x (h.sub x a),λe=>k.nd (h.nd e),λx a=>by
   rcases k.cl x a with hb|hp
   . rcases h.cl x hb with b|⟨p,e,hp⟩
     . exact .inl b
     . exact .inr ⟨p,e,λc d=>k.sub c (hp c d)⟩
   . exact .inr hp⟩
theorem xF{rd:Int->Option Pg}:∀(t:Nat)(G:List Int)(n l:Int),l<=480*t->(iX rd t G n l).2=0->
 Grw rd G (iX rd t G n l).1/\(0<l->n∈(iX rd t G n l).1)/\∀(s f:Nat)(a:List Nat),t<=f->(a.length:Int)+l=s->(jp rd s f a n).1=0
 |0,G,n,l,hl,_=>by
  refine⟨Grw.refl _ _,λh=>by omega,λs f a _ k=>?_⟩
  cases f with
  |zero=>rfl
  |succ f=>unfold jp;rw[if_neg (by omega)]
 |t+1,G,n,l,hl,h=>by
  unfold iX at h ⊢;by_cases h0:l<=0
  . rw[if_pos h0];refine⟨Grw.refl _ _,λh=>by omega,λs f a _ k=>?_⟩
    cases f with
    |zero=>rfl
    |succ f=>unfold jp;rw[if_neg (by omega)]
  . rw[if_neg h0] at h ⊢;cases hp:rd n with
    |none=>rw[hp] at h;cases h
    |some p=>
     rw[hp] at h;simp only at h ⊢;by_cases h1:n∈G
     . rw[if_pos h1] at h;cases h
     rw[if_neg h1] at h ⊢;by_cases h2:p.kind≠3
     . rw[if_pos h2] at h;cases h
     rw[if_neg h2] at h ⊢;by_cases h3:(p.data.length:Int)≠min l 480\/decide (p.next=0)≠decide (l<=480)
     . rw[if_pos h3] at h;cases h
     rw[if_neg h3] at h ⊢;obtain⟨g,hn,ga⟩:=xF t (n::G) p.next (l-480) (by omega) h
     have y:(p.data.length:Int)=min l 480:=by simpa using λe=>h3 (.inl e)
     have m:decide (p.next=0)=decide (l<=480):=by
      by_cases e:decide (p.next=0)=decide (l<=480)
      . exact e
      . exact absurd (.inr e) h3
     have A:p.kind=3:=by omega
     refine⟨⟨λx hx=>g.sub x (br _ hx),λe=>g.nd (e6.2 ⟨h1,e⟩),λx hx=>?_⟩,λ_=>g.sub n bG,λs f a v k=>?_⟩
     . rcases g.cl x hx with hx|hx
       . rcases bQ.1 hx with rfl|hx
         . refine .inr ⟨p,hp,λc b=>?_⟩
           unfold Pg.kids at b;rw[if_neg (by omega),if_neg (by omega)] at b
           split at b
           . rename_i e;rw[aZ.1 b];refine hn ?_;have:¬(l<=480):=λj=>e.2 (by simpa[j] using m)
             omega
           . cases b
         . exact .inl hx
       . exact .inr hx
     . cases f with
       |zero=>omega
       |succ f=>
        unfold jp;rw[if_pos (by omega),hp]
        simp only;have q:((s-a.length:Nat):Int)=l:=by omega
        have j:min (s-a.length) 480=p.data.length:=by omega
        rw[if_neg h2,if_neg (by omega),if_neg (by
         intro e;apply e;rw[m];by_cases d:l<=480
         . rw[ar d,ar (by omega)]
         . rw[ah d,ah (by omega)])]
        by_cases d:l<=480
        . have r:(a++p.data).length=s:=by rw[af];omega
          cases f with
          |zero=>rfl
          |succ f=>unfold jp;rw[if_neg (by omega)]
        . exact ga s f (a++p.data) (by omega) (by rw[af];omega)
theorem sf{rd:Int->Option Pg}{r:Rg}:∀(L:List It)(G:List Int),(∀x∈L,Fits 1 x)->(jb rd r L G).2=0->
 Grw rd G (jb rd r L G).1/\(∀x∈L,has r x.key=true/\(ldI rd x).1=0/\(x.child≠0->x.child∈(jb rd r L G).1))
 | [],G,_,_=>⟨Grw.refl _ _,λ_ h=>(cf h).elim⟩
 |x::L,G,hF,h=>by
  obtain⟨f1,f2,f3,f4⟩:=(hF x bG).leaf rfl;unfold jb at h ⊢;by_cases a:has r x.key=false
  . rw[if_pos a] at h;cases h
  rw[if_neg a] at h ⊢;have a:has r x.key=true:=by simpa using a
  by_cases c:x.size<=32
  . rw[if_pos c] at h ⊢;obtain⟨g,k⟩:=sf L G (λy hy=>hF y (br _ hy)) h
    refine⟨g,λy hy=>?_⟩
    rcases bQ.1 hy with rfl|hy
    . obtain⟨q,d⟩:=f3 c;refine⟨a,?_,λe=>absurd d e⟩
      unfold ldI;rw[if_neg (by omega),if_neg (by omega),if_neg (by omega)]
    . exact k y hy
  . rw[if_neg c] at h ⊢;by_cases b:(iX rd 8 G x.child x.size).2≠0
    . rw[if_pos b] at h;exact absurd h b
    rw[if_neg b] at h ⊢;have b:(iX rd 8 G x.child x.size).2=0:=by simpa using b
    obtain⟨j,l,m⟩:=xF 8 G x.child x.size (by omega) b
    obtain⟨g,k⟩:=sf L _ (λy hy=>hF y (br _ hy)) h
    refine⟨j.trans g,λy hy=>?_⟩
    rcases bQ.1 hy with rfl|hy
    . refine⟨a,?_,λ_=>g.sub _ (l (by omega))⟩
      unfold ldI;rw[if_neg (by omega),if_pos (by omega)]
      exact m _ _ [] (by omega) (by simp;omega)
    . exact k y hy
structure Fnd(rd:Int->Option Pg)(root:Int)(f:Nat)(a:Plx)(s s':Cst):Prop where
 g:Grw rd s.G s'.G
 sb:Sub rd root f a
 nd:(nds rd f a.no).Nodup
 ni:∀x∈nds rd f a.no,x∉s.G/\x∈s'.G
 me:a.no∈s'.G
 ks:s'.ks=s.ks+(lits rd f a.no).length
theorem xu{rd:Int->Option Pg}{root:Int}{f:Nat}:∀(L:List Plx)(s:Cst),(∀c∈L,c.lv<=(f:Int))->(∀(a:Plx)(s:Cst),a.lv<=(f:Int)->s.er=0->(iE (iM rd root) rd (λ_=>true) true f s a).er=0->Fnd rd root f a s (iE (iM rd root) rd (λ_=>true) true f s a))->
 s.er=0->(flw (λs c=>iE (iM rd root) rd (λ_=>true) true f s c) (iM rd root).stp L s).er=0->
  Grw rd s.G (flw (λs c=>iE (iM rd root) rd (λ_=>true) true f s c) (iM rd root).stp L s).G/\(∀c∈L,Sub rd root f c)/\((L.map Plx.no).flatMap (nds rd f)).Nodup/\(∀x∈(L.map Plx.no).flatMap (nds rd f),x∉s.G/\x∈(flw (λs c=>iE (iM rd root) rd (λ_=>true) true f s c) (iM rd root).stp L s).G)/\
  (∀c∈L,c.no∈(flw (λs c=>iE (iM rd root) rd (λ_=>true) true f s c) (iM rd root).stp L s).G)/\(flw (λs c=>iE (iM rd root) rd (λ_=>true) true f s c) (iM rd root).stp L s).ks=s.ks+((L.map Plx.no).flatMap (lits rd f)).length
 | [],s,_,_,_,_=>⟨Grw.refl _ _,λ_ h=>(cf h).elim,by simp,λx h=>by simp at h,λ_ h=>(cf h).elim,by simp[flw]⟩
 |c::L,s,hL,H,h0,h=>by
  rw[jB] at h ⊢;generalize ht:iE (iM rd root) rd (λ_=>true) true f s c=s1 at*
  by_cases b:(iM rd root).stp s1=true
  . rw[if_pos b] at h;have b:decide (s1.er≠0)=true:=b;simp[h] at b
  rw[if_neg b] at h ⊢
  have j:s1.er=0:=by
   have b:¬decide (s1.er≠0)=true:=b;simpa using b
  have F:=H c s (hL c bG) h0 (by rw[ht];exact j)
  rw[ht] at F;obtain⟨g,k,l,d,m,q⟩:=xu L s1 (λy hy=>hL y (br _ hy)) H j h
  generalize flw (λs c=>iE (iM rd root) rd (λ_=>true) true f s c) (iM rd root).stp L s1=r at*
  refine⟨F.g.trans g,λy hy=>?_,?_,λx hx=>?_,λy hy=>?_,?_⟩
  . rcases bQ.1 hy with rfl|hy
    . exact F.sb
    . exact k y hy
  . rw[bT,dS,List.nodup_append];exact⟨F.nd,l,λx hx y hy e=>(d y hy).1 (e▸(F.ni x hx).2)⟩
  . rw[bT,dS,bO] at hx;rcases hx with hx|hx
    . exact⟨(F.ni x hx).1,g.sub _ (F.ni x hx).2⟩
    . exact⟨λe=>(d x hx).1 (F.g.sub _ e),(d x hx).2⟩
  . rcases bQ.1 hy with rfl|hy
    . exact g.sub _ F.me
    . exact m y hy
  . rw[bT,dS,af,q,F.ks];omega
theorem tU{s:Cst}{a:Plx}(j:Sound p)(hk:p.kind=1)(h:(ju rd root s a p).er=0):
 (a.no=root\/4<=p.items.length)/\Grw rd s.G (ju rd root s a p).G/\(∀x∈p.items,has a.keys x.key=true/\(ldI rd x).1=0/\(x.child≠0->x.child∈(ju rd root s a p).G))/\(ju rd root s a p).ks=s.ks+p.items.length:=by
 unfold ju at h ⊢;by_cases c:a.no≠root/\p.items.length<4
 . rw[if_pos c] at h;cases h
 rw[if_neg c,if_pos hk] at h ⊢;by_cases b:(jb rd a.keys p.items s.G).2≠0
 . rw[if_pos b] at h;exact absurd h b
 rw[if_neg b];obtain⟨g,k⟩:=sf p.items s.G (λx l=>by have:=j.fits l;rwa [hk] at this) (by simpa using b)
 refine⟨?_,g,k,rfl⟩;by_cases e:a.no=root
 . exact .inl e
 . exact .inr (ia λd=>c ⟨e,d⟩)
theorem Dm{s:Cst}{a:Plx}(hk:p.kind≠1)(h:(ju rd root s a p).er=0):(a.no=root\/4<=p.items.length)/\ju rd root s a p=s:=by
 unfold ju at h ⊢;by_cases b:a.no≠root/\p.items.length<4
 . rw[if_pos b] at h;cases h
 rw[if_neg b,if_neg hk];refine⟨?_,rfl⟩;by_cases e:a.no=root
 . exact .inl e
 . exact .inr (ia λc=>b ⟨e,c⟩)
theorem Grw.enter{G a:List Int}(d:rd n=some p)(b:n∉G)(g:Grw rd (n::G) a)(hk:∀c∈p.kids,c∈a):Grw rd G a:=
 ⟨λx hx=>g.sub x (br _ hx),λe=>g.nd (e6.2 ⟨b,e⟩),λx hx=>by
   rcases g.cl x hx with hx|hx
   . rcases bQ.1 hx with rfl|hx
     . exact .inr ⟨p,d,hk⟩
     . exact .inl hx
   . exact .inr hx⟩
theorem kn(a:rd n=some p)(hk:p.kind=1):nds rd f n=[n]/\lits rd f n=p.items:=by
 unfold nds lits;rw[a];simp[hk]
theorem ll(a:rd n=some p)(hk:p.kind≠1):nds rd (f+1) n=n::(p.items.map It.child).flatMap (nds rd f)/\lits rd (f+1) n=(p.items.map It.child).flatMap (lits rd f):=by
 conv=>lhs;unfold nds
 conv=>rhs;unfold lits
 rw[a];simp[hk]
theorem tS{rd:Int->Option Pg}{root:Int}{f:Nat}{a:Plx}{s:Cst}(h:(iE (iM rd root) rd (λ_=>true) true f s a).er=0):
 ∃p,rd a.no=some p/\a.no∉s.G/\lvl p a.lv=true/\(ju rd root {s with G:=a.no::s.G} a p).er=0/\(p.kind=1->iE (iM rd root) rd (λ_=>true) true f s a=ju rd root {s with G:=a.no::s.G} a p)/\
  (p.kind≠1->∀k,f=k+1->iE (iM rd root) rd (λ_=>true) true f s a=flw (λs c=>iE (iM rd root) rd (λ_=>true) true k s c) (iM rd root).stp (ben a p) (ju rd root {s with G:=a.no::s.G} a p)):=by
 generalize b:iE (iM rd root) rd (λ_=>true) true f s a=T at*
 unfold iE at b;rw[if_neg (by simp)] at b
 cases hp:rd a.no with
 |none=>rw[hp] at b;rw[<-b] at h;cases h
 |some p=>
  rw[hp] at b;simp only at b;refine⟨p,rfl,?_⟩;by_cases j:a.no∈(iM rd root).gone s
  . rw[if_pos j] at b;rw[<-b] at h;cases h
  rw[if_neg j] at b;refine⟨j,?_⟩;by_cases l:lvl p a.lv=false
  . rw[if_pos l] at b;rw[<-b] at h;cases h
  rw[if_neg l] at b;refine⟨by simpa using l,?_⟩
  have q:(iM rd root).tel ((iM rd root).ent s a.no) a p=ju rd root {s with G:=a.no::s.G} a p:=rfl;rw[q] at b;generalize ju rd root {s with G:=a.no::s.G} a p=g at *;by_cases d:(iM rd root).stp g=true
  . rw[if_pos (.inl d)] at b;rw[<-b] at h;have d:decide (g.er≠0)=true:=d;simp[h] at d
  have m:g.er=0:=by
   have d:¬decide (g.er≠0)=true:=d;simpa using d
  refine⟨m,λhk=>by rw[<-b,if_pos (.inr hk)],λhk k e=>?_⟩
  subst e;rw[if_neg (by simp[d,hk])] at b
  exact b.symm
theorem xI{rd:Int->Option Pg}{root:Int}(K:iF rd):∀(f:Nat)(a:Plx)(s:Cst),a.lv<=f->s.er=0->(iE (iM rd root) rd (λ_=>true) true f s a).er=0->Fnd rd root f a s (iE (iM rd root) rd (λ_=>true) true f s a):=by
 intro f;induction f with
 |zero=>
  intro a s D A h;obtain⟨p,d,m,r,B,C,_⟩:=tS h;have q:=K _ _ d;obtain⟨E,U⟩:=jA.1 r
  have hk:p.kind=1:=by
   rcases q.kind with h|h|h
   . exact h
   . have:=q.idx h;omega
   . exact absurd h E
  rw[C hk];obtain⟨v,g,k,F⟩:=tU q hk B;obtain⟨j,t⟩:=kn (f:=0) d hk;have l:=g.sub a.no bG;refine⟨Grw.enter d m g (λc b=>?_),⟨p,d,r,v,λ_ x hx=>⟨(k x hx).1,(k x hx).2.1⟩,λe=>absurd hk e⟩,by rw[j];simp,λx hx=>?_,l,by rw[t];exact F⟩
  . unfold Pg.kids at b;rw[if_neg (by omega),if_pos hk] at b
    obtain⟨b,H⟩:=dX.1 b;obtain⟨x,hx,rfl⟩:=bE.1 b;exact(k x hx).2.2 (by simpa using H)
  . rw[j] at hx;rw[aZ.1 hx];exact⟨m,l⟩
 |succ f ih=>
  intro a s D A h;obtain⟨p,d,m,r,B,C,S⟩:=tS h;have q:=K _ _ d;obtain⟨E,U⟩:=jA.1 r;by_cases hk:p.kind=1
  . rw[C hk];obtain⟨v,g,k,F⟩:=tU q hk B;obtain⟨j,t⟩:=kn (f:=f+1) d hk;have l:=g.sub a.no bG;refine⟨Grw.enter d m g (λc b=>?_),⟨p,d,r,v,λ_ x hx=>⟨(k x hx).1,(k x hx).2.1⟩,λe=>absurd hk e⟩,by rw[j];simp,λx hx=>?_,l,by rw[t];exact F⟩
    . unfold Pg.kids at b;rw[if_neg (by omega),if_pos hk] at b
      obtain⟨b,H⟩:=dX.1 b;obtain⟨x,hx,rfl⟩:=bE.1 b;exact(k x hx).2.2 (by simpa using H)
    . rw[j] at hx;rw[aZ.1 hx];exact⟨m,l⟩
  . rw[S hk f rfl] at h ⊢;obtain⟨v,R⟩:=Dm hk B;rw[R] at h ⊢
    have W:p.kind=2:=by
     rcases q.kind with h|h|h
     . exact absurd h hk
     . exact h
     . exact absurd h E
    have X:∀c∈ben a p,c.lv<=f:=λc b=>by
     obtain⟨i,_,rfl⟩:=so b;show a.lv-1<=(f:Int);omega
    obtain⟨j,t⟩:=ll (f:=f) d hk;have M:∀(L:List Plx)(s:Cst),(∀c∈L,c.lv<=(f:Int))->s.er=0->(flw (λs c=>iE (iM rd root) rd (λ_=>true) true f s c) (iM rd root).stp L s).er=0->_:=λL s T=>xu (rd:=rd) (root:=root) (f:=f) L s T (λa s D A h=>ih a s D A h)
    obtain⟨g,N,I,y,O,J⟩:=M (ben a p) _ X (by exact A) h
    generalize flw (λs c=>iE (iM rd root) rd (λ_=>true) true f s c) (iM rd root).stp (ben a p) {s with G:=a.no::s.G}=Y at*
    rw[oe] at I y J;have l:=g.sub a.no bG;refine⟨Grw.enter d m g (λc b=>?_),⟨p,d,r,v,λe=>absurd e hk,λ_=>N⟩,?_,λx hx=>?_,l,by rw[t];exact J⟩
    . unfold Pg.kids at b;rw[if_pos W,<-oe a] at b;obtain⟨P,V,rfl⟩:=bE.1 b;exact O P V
    . rw[j,e6];exact⟨λe=>(y _ e).1 bG,I⟩
    . rw[j] at hx;rcases bQ.1 hx with rfl|hx
      . exact⟨m,l⟩
      . exact⟨λe=>(y x hx).1 (br _ e),(y x hx).2⟩
end Go.Proofs.YteaogidofpfmmaaGreat
