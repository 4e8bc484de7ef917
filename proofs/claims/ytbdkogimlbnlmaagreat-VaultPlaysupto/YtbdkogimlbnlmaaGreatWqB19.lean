import Derived.Test.YtbdkogimlbnlmaaGreatWqB18
set_option linter.unusedVariables false
set_option linter.unusedSimpArgs false
set_option maxHeartbeats 8000000
set_option maxRecDepth 8000
namespace Go.Proofs.YtbdkogimlbnlmaaGreat
open Go.RowKit
variable {x:Int}{g i rb s:Nat}{col:Nat->Nat}{D D':Rd}{w:World}
theorem Rq.pgs(h:Rq w rb D col):Pgs w D.aP D.P:=λi hi=>by
 obtain⟨g,e,hc⟩:=h.pAt (i:=i) (by rw[<-h.nP];exact hi)
 exact⟨g,0,e,λk u hk hu=>by rw[bG];exact hc k u hk hu⟩
def Rd.pg(D:Rd):List Q.Pg:=D.C.zip D.L
theorem Rd.pg_len(h:D.L.length=D.C.length):D.pg.length=D.C.length:=by unfold Rd.pg;rw[gS,h];omega
theorem Rd.pg_get(h:D.L.length=D.C.length)(hi:i<D.C.length):D.pg.getD i Q.Pg.zero=(D.C.getD i 0,D.L.getD i false):=by
 unfold Rd.pg;have h1:i<D.L.length:=by omega
 have h2:i<(D.C.zip D.L).length:=by rw[gS];omega
 rw[aq,aS h2];simp[h1,hi]
def ip(P:List Q.Pg):Int:=match Q.ix P 1 with
 | []=>0
 |n::_=>n
theorem sh{P:List Q.Pg}(hi:i<P.length)(hs:Q.stt (P.getD i Q.Pg.zero)=s)(hb:∀j,j<i->Q.stt (P.getD j Q.Pg.zero)≠s):∃T,Q.ix P s=((i:Int)+1)::T:=by
 obtain⟨k,hk⟩:∃k,P.length=i+(k+1):=⟨P.length-i-1,by omega⟩
 unfold Q.ix;rw[hk,List.range_add,fG,bH,gE.2 (λj hj=>by simpa using hb j (cH.1 hj)),List.range_succ_eq_map,bz,List.filter_cons,if_pos (by simpa using hs)]
 exact⟨_,rfl⟩
theorem oe{P:List Q.Pg}(hb:∀j,j<P.length->Q.stt (P.getD j Q.Pg.zero)≠s):Q.ix P s=[]:=by
 unfold Q.ix;rw[gE.2 (λj hj=>by simpa using hb j (cH.1 hj))]
 rfl
theorem pu(c:Int)(l:Bool):Q.stt (c,l)=1↔c=0/\l=false:=by
 unfold Q.stt;by_cases hc:c=0<;>cases l<;>simp[hc]
theorem oS(w:World)(rb:Nat)(D:Rd)(col:Nat->Nat)(h:Rq w rb D col):
 Calls Tryz.prog 101 #[.pointer (some ⟨rb,0,none⟩)] w λe w'=>e=.returned (.int .i64 (ip D.pg))/\w'=w:=by
 obtain⟨c0,c1,c2,c3,c6⟩:=h.cells;have CA:=gZ λ(i:Nat)(hi:i<D.C.length)=>h.cAt hi
 have LA:=gZ λ(i:Nat)(hi:i<D.C.length)=>h.lAt hi
 have PG:=gZ λ(i:Nat)(hi:i<D.C.length)=>Rd.pg_get h.nL hi
 have PL:=gZ (Rd.pg_len h.nL);have hL:=h.nL;rw[hL] at c2;have h6:=h.n6;clear h hL c0 c3 c6;obtain⟨m,hm⟩:∃m,D.C.length=m:=⟨_,rfl⟩;simp only[hm] at c1 c2 CA LA PG PL h6;clear hm;go_enter Tryz.func101,Tryz.ntmps101;go_wp2_with fail
 go_loopw [3] (λvk wx=>∃k:Nat,k<=m/\vk=.int .i64 ((k:Int)+1)/\wx=w/\∀j,j<k->Q.stt (D.pg.getD j Q.Pg.zero)≠1) (λvk _=>m+1-(intOf vk).toNat)
 case atStart=>exact⟨0,aF _,rfl,rfl,λj hj=>absurd hj (dH _)⟩
 case round=>
  obtain⟨k,hk,rfl,rfl,hj⟩:=hrel;have HJ:=gZ hj;clear hj;by_cases hlt:k<m
  . have dki:decide ((k:Int)+1<=(m:Int))=true:=ay (by omega)
    have hki:(k:Int)+1<=(m:Int):=by omega
    have hs:(k:Int)+1-1=(k:Int):=by omega
    have hii:(k:Int)<(m:Int):=by omega
    obtain⟨g,eg,cA⟩:=CA.o k hlt;obtain⟨g2,eg2,lA⟩:=LA.o k hlt;have PK:=gZ (PG.o k hlt);rw[eg] at c1;rw[eg2] at c2;obtain⟨x,hx⟩:∃x,D.C.getD k 0=x:=⟨_,rfl⟩;obtain⟨l,hl⟩:∃l,D.L.getD k false=l:=⟨_,rfl⟩;simp only[hx,hl] at cA lA PK;clear hx hl eg eg2;by_cases hx0:x=0
    . subst hx0;cases l with
      |false=>
       have FND:Hid (ip D.pg=(k:Int)+1):=by
        show _=_;obtain⟨T,hT⟩:=sh (s:=1) (by rw[PL.o];exact hlt) (by rw[PK.o,pu];exact⟨rfl,rfl⟩) HJ.o
        unfold ip;rw[hT]
       go_wp2_with fail
       go_ret;rw[FND.o];exact⟨rfl,rfl⟩
      |true=>
       have NX:Hid (∀j,j<k+1->Q.stt (D.pg.getD j Q.Pg.zero)≠1):=λj hj=>by
        by_cases e:j=k
        . rw[e,PK.o,ne_eq,pu];simp
        . exact HJ.o j (by omega)
       clear PK HJ;go_wp2_with fail
       go_roundw
       case rel=>exact⟨k+1,by omega,by go_num,trivial,NX.o⟩
       case measure=>simp[intOf];omega
    . have dx:(x==0)=false:=by simp[hx0]
      have NX:Hid (∀j,j<k+1->Q.stt (D.pg.getD j Q.Pg.zero)≠1):=λj hj=>by
       by_cases e:j=k
       . rw[e,PK.o,ne_eq,pu];exact λh=>hx0 h.1
       . exact HJ.o j (by omega)
      clear PK HJ hx0;go_wp2_with fail
      go_roundw
      case rel=>exact⟨k+1,by omega,by go_num,trivial,NX.o⟩
      case measure=>simp[intOf];omega
  . have hki:¬((k:Int)+1<=(m:Int)):=by omega
    have dki:decide ((k:Int)+1<=(m:Int))=false:=au hki
    have FND:Hid (ip D.pg=0):=by
     show _=_;unfold ip;rw[oe (λj hj=>HJ.o j (by rw[PL.o] at hj;omega))]
    go_wp2_with fail
    go_ret;rw[FND.o];exact⟨rfl,rfl⟩
theorem mt{P:List Q.Pg}(h:ip P≠0):∃i:Nat,i<P.length/\ip P=(i:Int)+1/\Q.stt (P.getD i Q.Pg.zero)=1:=by
 unfold ip at h ⊢;cases e:Q.ix P 1 with
 |nil=>rw[e] at h;exact absurd rfl h
 |cons n T=>
  have hm:n∈Q.ix P 1:=by rw[e];exact dG
  unfold Q.ix at hm;obtain⟨i,hi,rfl⟩:=bC.1 hm;obtain⟨h1,h2⟩:=fb.1 hi;exact⟨i,cH.1 h1,rfl,by simpa using h2⟩
def Rd.makeR(D:Rd)(p:Pg):Int×Int:=if p.check=0 then (if ip D.pg=0 then (0,12) else (ip D.pg,0)) else (0,(p.check:Int))
def Rd.makeD(D:Rd)(p:Pg)(q:Pv):Rd:=if p.check=0/\ip D.pg≠0 then {D with C:=D.C.set (ip D.pg-1).toNat 1,P:=D.P.set (ip D.pg-1).toNat q} else D
def kC(P:List Q.Pg)(s k:Nat):Nat:=((List.range k).filter λi=>decide (Q.stt (P.getD i Q.Pg.zero)=s)).length
theorem wP(P:List Q.Pg)(s k:Nat):kC P s (k+1)=kC P s k+(if Q.stt (P.getD k Q.Pg.zero)=s then 1 else 0):=by
 unfold kC;rw[fF,fG,ae];congr 1
 by_cases h:Q.stt (P.getD k Q.Pg.zero)=s
 . rw[if_pos h,List.filter_cons,if_pos (ay h)];rfl
 . rw[if_neg h,List.filter_cons,if_neg (by rw[au h];decide)];rfl
theorem ya(P:List Q.Pg)(s:Nat):kC P s P.length=(Q.ix P s).length:=by unfold kC Q.ix;rw[a7]
theorem As(P:List Q.Pg)(s k:Nat):kC P s k<=k:=by
 unfold kC;exact aU (fd _ _) (by rw[eU];exact ai _)
theorem xI(w:World)(rb:Nat)(D:Rd)(col:Nat->Nat)(h:Rq w rb D col)(s:Nat):
 Calls Tryz.prog 50 #[.pointer (some ⟨rb,0,none⟩),.int .i64 (s:Int)] w λe w'=>e=.returned (.int .i64 (((Q.ix D.pg s).length:Nat):Int))/\w'=w:=by
 obtain⟨c0,c1,c2,c3,c6⟩:=h.cells;have ST:=gZ λ(z:Int)=>kf w rb D col h z
 have PK:Hid (∀k:Nat,k<D.C.length->D.state ((k:Int)+1)=Q.stt (D.pg.getD k Q.Pg.zero)):=λk hk=>by
  have ez:((k:Int)+1-1).toNat=k:=by omega
  unfold Rd.state;rw[if_pos (Rd.has_iff.2 ⟨by omega,by omega⟩),Rd.pg_get h.nL hk]
  unfold Rd.lasts;rw[ez]
 have TL:Hid ((Q.ix D.pg s).length=kC D.pg s D.C.length):=by show _=_;rw[<-ya,Rd.pg_len h.nL]
 have h6:=h.n6;clear h c0 c2 c3 c6;obtain⟨m,hm⟩:∃m,D.C.length=m:=⟨_,rfl⟩;simp only[hm] at c1 PK TL h6;clear hm;rw[TL.o];clear TL;go_enter Tryz.func50,Tryz.ntmps50;go_wp2_with fail
 go_loopw [5,6] (λvn vk wx=>∃k:Nat,k<=m/\vn=.int .i64 ((kC D.pg s k:Nat):Int)/\vk=.int .i64 ((k:Int)+1)/\wx=w) (λ_ vk _=>m+1-(intOf vk).toNat)
 case atStart=>exact⟨0,aF _,rfl,rfl,rfl⟩
 case round=>
  obtain⟨k,hk,rfl,rfl,rfl⟩:=hrel;have hT:=As D.pg s k;have TS:=gZ (wP D.pg s k);by_cases hlt:k<m
  . have dki:decide ((k:Int)+1<=(m:Int))=true:=ay (by omega)
    have hki:(k:Int)+1<=(m:Int):=by omega
    have SK:=gZ (ST.o ((k:Int)+1));rw[PK.o k hlt] at SK;obtain⟨x,hx⟩:∃x,Q.stt (D.pg.getD k Q.Pg.zero)=x:=⟨_,rfl⟩;rw[hx] at SK TS;clear hx;by_cases hs:x=s
    . subst hs;rw[if_pos rfl] at TS;obtain⟨t,ht⟩:∃t,kC D.pg x k=t:=⟨_,rfl⟩;simp only[ht] at TS hT ⊢;clear ht;have dd:((x:Int)==(x:Int))=true:=by simp
      go_wp2_with fail
      refine SK.o.mono ?_;rintro _ wq ⟨rfl,hwq⟩;rw[hwq];clear hwq;go_wp2_with fail
      go_roundw
      case rel=>exact⟨k+1,by omega,by rw[TS.o];go_num,by go_num,trivial⟩
      case measure=>simp[intOf];omega
    . rw[if_neg hs] at TS;have dd:((x:Int)==(s:Int))=false:=by simp;omega
      clear hs;go_wp2_with fail
      refine SK.o.mono ?_;rintro _ wq ⟨rfl,hwq⟩;rw[hwq];clear hwq;go_wp2_with fail
      go_roundw
      case rel=>exact⟨k+1,by omega,by rw[TS.o];rfl,by go_num,trivial⟩
      case measure=>simp[intOf];omega
  . have hki:¬((k:Int)+1<=(m:Int)):=by omega
    have dki:decide ((k:Int)+1<=(m:Int))=false:=au hki;have hkm:k=m:=by omega
    have HKM:=gZ hkm;clear hkm;go_wp2_with fail
    go_ret;rw[<-HKM.o];exact⟨rfl,rfl⟩
structure Rd.Set(D D':Rd)(k:Nat):Prop where
 e:D'={D with L:=D'.L,P:=D'.P}
 nl:D'.L.length=D.L.length
 np:D'.P.length=D.P.length
 l:∀i,D'.L.getD i false=if i<k/\i<D.L.length then decide (0<D.C.getD i 0) else D.L.getD i false
 p:∀i,D'.P.getD i Pv.zero=if i<k/\D.C.getD i 0=0 then Pv.zero else D.P.getD i Pv.zero
theorem Rd.Set.start(D:Rd):D.Set D 0:=⟨rfl,rfl,rfl,λi=>by simp,λi=>by simp⟩
theorem jI{α:Type}(L:List α)(k i:Nat)(x d:α):(L.set k x).getD i d=if i=k/\k<L.length then x else L.getD i d:=by
 by_cases h:i=k
 . subst h;by_cases hk:i<L.length
   . rw[if_pos ⟨rfl,hk⟩];simp[hk]
   . rw[if_neg (λe=>hk e.2)]
     rw[List.set_eq_of_length_le (gF hk)]
 . rw[if_neg (λe=>h e.1)]
   have h2:¬k=i:=λe=>h e.symm
   simp[List.getElem?_set,h2]
theorem Rd.Set.step0{k:Nat}(h:D.Set D' k)(hk:k<D.L.length)(hc:D.C.getD k 0≠0):D.Set {D' with L:=D'.L.set k (decide (0<D.C.getD k 0))} (k+1):=by
 refine⟨?_,by show(D'.L.set _ _).length=_;rw[aO];exact h.nl,h.np,λi=>?_,λi=>?_⟩
 . have e:=h.e;rw[e]
 . show(D'.L.set _ _).getD i false=_;rw[jI,h.l i,h.nl];by_cases e:i=k
   . subst e;rw[if_pos ⟨rfl,hk⟩,if_pos ⟨by omega,hk⟩]
   . rw[if_neg (λx=>e x.1)]
     by_cases e2:i<k/\i<D.L.length
     . rw[if_pos e2,if_pos ⟨by omega,e2.2⟩]
     . rw[if_neg e2,if_neg (λx=>e2 ⟨by omega,x.2⟩)]
 . show D'.P.getD i Pv.zero=_;rw[h.p i];by_cases e:i=k
   . subst e;rw[if_neg (λx=>hc x.2),if_neg (λx=>hc x.2)]
   . by_cases e2:i<k/\D.C.getD i 0=0
     . rw[if_pos e2,if_pos ⟨by omega,e2.2⟩]
     . rw[if_neg e2,if_neg (λx=>e2 ⟨by omega,x.2⟩)]
theorem Rd.Set.step1{k:Nat}(h:D.Set D' k)(hk:k<D.L.length)(hp:k<D.P.length)(hc:D.C.getD k 0=0):D.Set {D' with L:=D'.L.set k (decide (0<D.C.getD k 0)),P:=D'.P.set k Pv.zero} (k+1):=by
 refine⟨?_,by show(D'.L.set _ _).length=_;rw[aO];exact h.nl,by show(D'.P.set _ _).length=_;rw[aO];exact h.np,λi=>?_,λi=>?_⟩
 . have e:=h.e;rw[e]
 . show(D'.L.set _ _).getD i false=_;rw[jI,h.l i,h.nl];by_cases e:i=k
   . subst e;rw[if_pos ⟨rfl,hk⟩,if_pos ⟨by omega,hk⟩]
   . rw[if_neg (λx=>e x.1)]
     by_cases e2:i<k/\i<D.L.length
     . rw[if_pos e2,if_pos ⟨by omega,e2.2⟩]
     . rw[if_neg e2,if_neg (λx=>e2 ⟨by omega,x.2⟩)]
 . show(D'.P.set _ _).getD i Pv.zero=_;rw[jI,h.p i,h.np];by_cases e:i=k
   . subst e;rw[if_pos ⟨rfl,hp⟩,if_pos ⟨by omega,hc⟩]
   . rw[if_neg (λx=>e x.1)]
     by_cases e2:i<k/\D.C.getD i 0=0
     . rw[if_pos e2,if_pos ⟨by omega,e2.2⟩]
     . rw[if_neg e2,if_neg (λx=>e2 ⟨by omega,x.2⟩)]
def Rd.tot(D:Rd):Nat:=(D.C.map Int.toNat).sum
def Rd.dropS:Nat->Rd->List Int->Option Rd
 |0,_,_=>none
 |_+1,D,[]=>some D
 |t+1,D,x::L=>if 0<D.count x then Rd.dropS t (D.put x (D.count x-1)) (if D.count x-1=0 then (D.on x).pg.kids++L else L) else none
theorem Rd.count_at(h:0<D.count x):1<=x/\x<=D.C.length/\D.count x=D.C.getD (x-1).toNat 0:=by
 unfold Rd.count at h ⊢;split at h
 . rename_i hh;obtain⟨h1,h2⟩:=Rd.has_iff.1 hh;exact⟨h1,h2,if_pos hh⟩
 . omega
theorem Rd.put_tot(h:0<D.count x):(D.put x (D.count x-1)).tot+1=D.tot:=by
 obtain⟨h1,h2,h3⟩:=Rd.count_at h;have k:=kU Int.toNat (0:Int) (D.count x-1) D.C (x-1).toNat (by omega)
 show((D.C.set (x-1).toNat (D.count x-1)).map Int.toNat).sum+1=(D.C.map Int.toNat).sum;rw[<-h3] at k;omega
def mC(g n:Nat)(w:World):Nat:=((List.range n).map λi=>(intOf ((w.cell? ⟨g,i,none⟩).getD undef)).toNat).sum
theorem xf(h:Rq w rb D col)(hg:D.aC=some ⟨g,0,none⟩):mC g D.C.length w=D.tot:=by
 unfold mC Rd.tot;congr 1
 have hr:=h.cr;rw[hg] at hr;apply List.ext_getElem (by simp)
 intro i h1 h2;simp only[a7,eU] at h1;have hc:=hr.cell (i:=i) h1;simp only[List.getElem_map,List.getElem_range,hc,Option.getD_some,intOf];simp[h1]
theorem Q.Ig.front{a:Option Addr}{cap:Nat}{l m:List Int}(h:Q.Ig w a cap (l++m))(hm:m≠[]):Q.Ig w a cap l:=by
 rcases h.cases with⟨rfl,rfl,hn⟩|⟨g,cur,rfl,hg,h1,h2,h3,h4⟩
 . exact absurd (List.append_eq_nil_iff.1 hn).2 hm
 . refine Q.Ig.mk hg (by rw[ae] at h1;omega) h2 h3 ?_
   have e:=aY (List.take l.length) h4;rw[eZ,ae,cY (by omega)] at e
   rw[e];show(Q.vi (l++m)).take l.length=Q.vi l;unfold Q.vi;rw[bH,eK (by rw[a7])]
theorem ri{p:Pv}(h:p.pg.check=0\/p=Pv.zero):p.pg.kids.length<=8:=by
 have hi:p.items.length<=8:=by
  rcases h with h|rfl
  . obtain⟨h1,h2,h3,h4⟩:=Pg.check_zero.1 h;unfold Pg.form at h2;have hi:p.pg.items.length=p.items.length:=a7 _;rw[hi] at h2;split at h2
    all_goals
     simp only[bO,bL] at h2;omega
  . exact aF _
 have hl:(p.pg.items.map It.child).length<=8:=by
  rw[a7];show(p.items.map Iv.it).length<=8;rw[a7];exact hi
 unfold Pg.kids;split
 . exact hl
 . split
   . exact aU (fd _ _) hl
   . split<;>simp
theorem Ek(h:i<D.C.length):(D.C.getD i 0).toNat<=D.tot:=by
 have k:=kU Int.toNat (0:Int) 0 D.C i h;unfold Rd.tot;simp only[Int.toNat_zero,bY] at k;omega
structure Dl(w:World)(rb:Nat)(D0:Rd)(col:Nat->Nat)(a1:Option Addr)(k1:Nat)(a2:Option Addr)(k2:Nat)(wx:World)(D:Rd)(L:List Int)(a:Option Addr)(c:Nat):Prop where
 q:Rq wx rb D col
 f:Vf w col wx col
 e:D={D0 with C:=D.C}
 n:D.C.length=D0.C.length
 t:Q.Ig wx a c L.reverse
 tn:New w none a
 ca:Q.Ig wx a1 k1 D0.C
 cn:New w none a1
 cd:∀x y,a1=some x->a=some y->x.block≠y.block
 pa:Q.Gw 31 5 wx a2 k2 D0.P.length (vpg D0.P)
 pn:New w none a2
section
variable {w:World} {rb:Nat} {D0:Rd} {col:Nat->Nat} {a1:Option Addr} {k1:Nat} {a2:Option Addr} {k2:Nat} {wx wy:World} {D:Rd} {L:List Int} {a:Option Addr} {c:Nat}
theorem Eu{wx:World}{a:Option Addr}{c:Nat}{l:List Int}(h:Q.Ig wx a c l){t:TypeId}{g:Nat}{cs:Array Value}(hg:wx.heap[g]?=some (.cells cs t (0,0)))(ht:t≠3){x:Addr}(hx:a=some x):x.block≠g:=λe=>by
 rcases h.cases with⟨rfl,_⟩|⟨g',cur,rfl,hg',_⟩
 . cases hx
 . cases hx;dsimp only at e;subst e;have h1:some _=some _:=hg'.symm.trans hg;simp only[aE,dJ] at h1;exact ht h1.2.1.symm
theorem Do{wx:World}{e:TypeId}{sz:Nat}{a:Option Addr}{c n:Nat}{C:List Value}(h:Q.Gw e sz wx a c n C){b:Option Addr}{cb:Nat}{l:List Int}(hi:Q.Ig wx b cb l)(ht:e≠3){x y:Addr}(hx:a=some x)(hy:b=some y):x.block≠y.block:=λe=>by
 rcases h.cases with⟨rfl,_⟩|⟨g',cur,rfl,hg',_⟩
 . cases hx
 . cases hx;exact Eu hi hg' ht hy e.symm
theorem Dl.keep(h:Dl w rb D0 col a1 k1 a2 k2 wx D L a c)(hb:Below wx.heap.size wx wy):Dl w rb D0 col a1 k1 a2 k2 wy D L a c:=
 ⟨h.q.keep hb,h.f.trans (Vf.keep hb),h.e,h.n,h.t.keep hb,h.tn,h.ca.keep hb,h.cn,h.cd,h.pa.keep hb,h.pn⟩
theorem Dl.set(h:Dl w rb D0 col a1 k1 a2 k2 wx D L a c)(hlt:∀k,col k≠0->k<w.heap.size){g:Nat}(hg:D.aC=some ⟨g,0,none⟩)(k:Nat)(x:Int):Dl w rb D0 col a1 k1 a2 k2 (wx.setCell ⟨g,k,none⟩ (.int .i64 x)) {D with C:=D.C.set k x} L a c:=by
 obtain⟨q,f⟩:=h.q.setC hg k x;have hc:col g=2:=h.q.cc _ hg;have hgl:g<w.heap.size:=hlt g (by rw[hc];decide)
 have bs:But (λk=>k=g) wx (wx.setCell ⟨g,k,none⟩ (.int .i64 x)):=(But.refl (λk=>k=g) wx).setCell (p:=⟨g,k,none⟩) (λ_=>rfl) _
 have nw:∀{a:Option Addr},New w none a->∀y,a=some y->¬y.block=g:=λhn y hy e=>by
  have:=iz hn hy;omega
 refine⟨q,h.f.trans f,?_,by show(D.C.set k x).length=_;rw[aO];exact h.n,h.t.but bs (nw h.tn),h.tn,h.ca.but bs (nw h.cn),h.cn,h.cd,h.pa.but bs (nw h.pn),h.pn⟩
 have e:=h.e;show({D with C:=D.C.set k x}:Rd)=_;rw[e]
theorem Dl.pop{x:Int}(h:Dl w rb D0 col a1 k1 a2 k2 wx D (x::L) a c):Dl w rb D0 col a1 k1 a2 k2 wx D L a c:=by
 refine⟨h.q,h.f,h.e,h.n,?_,h.tn,h.ca,h.cn,h.cd,h.pa,h.pn⟩;have t:=h.t;rw[List.reverse_cons] at t;exact t.front (by simp)
theorem Dl.push(h:Dl w rb D0 col a1 k1 a2 k2 wx D L a c)(hlt:∀k,col k≠0->k<w.heap.size){o:Obj}{g c':Nat}{x:Int}(hR:Q.Ig wy (some ⟨g,0,none⟩) c' (L.reverse++[x]))(hN:New (wx.alloc o) a (some ⟨g,0,none⟩))(hg:(wx.alloc o).grownBy wy (a.map Addr.block)):Dl w rb D0 col a1 k1 a2 k2 wy D (x::L) (some ⟨g,0,none⟩) c':=by
 have B1:=al wx o;have k:=h.keep B1
 have gb:But (λq=>∃x,a=some x/\x.block=q) (wx.alloc o) wy:=⟨hg.os,hg.tape,hg.output,hg.size,λk hk hn=>hg.block k hk (λe=>by
  obtain⟨y,hy,e2⟩:=map_some e.symm;exact hn ⟨y,hy,e2⟩)⟩
 have hsz:w.heap.size<=(wx.alloc o).heap.size:=k.f.b.size;have hnew:New w none (some ⟨g,0,none⟩):=h.tn.trans hN hsz;refine⟨k.q.but gb (λj hj ⟨y,hy,e⟩=>?_),⟨k.f.b.trans gb (λj hj ⟨y,hy,e⟩=>?_),λj hj=>rfl⟩,h.e,h.n,by rw[List.reverse_cons];exact hR,hnew,k.ca.but gb (λy hy ⟨z,hz,e⟩=>h.cd y z hy hz e.symm),h.cn,λy z hy hz e=>?_,k.pa.but gb (λy hy ⟨z,hz,e⟩=>Do k.pa k.t (by decide) hy hz e.symm),h.pn⟩
 . have h1:=hlt j hj;have h2:=iz h.tn hy;omega
 . have h2:=iz h.tn hy;omega
 . cases hz;dsimp only at e;rcases hN ⟨g,0,none⟩ rfl with⟨z,hz,e2⟩|h2
   . exact h.cd y z hy hz (by rw[e];exact e2.symm)
   . have h3:=k.ca.lt hy;dsimp only at h2;omega
theorem By{wx wy:World}{a b:Option Addr}{g c:Nat}{l:List Int}{o:Obj}(hl:Q.Ig wx b c l)(hne:∀y q,b=some y->a=some q->y.block≠q.block)(hN:New (wx.alloc o) a (some ⟨g,0,none⟩))(hg:(wx.alloc o).grownBy wy (a.map Addr.block)):
 Q.Ig wy b c l/\∀y q,b=some y->(some ⟨g,0,none⟩:Option Addr)=some q->y.block≠q.block:=by
 have gb:But (λq=>∃x,a=some x/\x.block=q) (wx.alloc o) wy:=⟨hg.os,hg.tape,hg.output,hg.size,λk hk hn=>hg.block k hk (λe=>by
  obtain⟨y,hy,e2⟩:=map_some e.symm;exact hn ⟨y,hy,e2⟩)⟩
 refine⟨(hl.keep (al wx o)).but gb (λy hy ⟨z,hz,e⟩=>hne y z hy hz e.symm),λy q hy hq e=>?_⟩
 cases hq;dsimp only at e;rcases hN ⟨g,0,none⟩ rfl with⟨z,hz,e2⟩|h2
 . exact hne y z hy hz (by rw[e];exact e2.symm)
 . have h3:=(hl.keep (al wx o)).lt hy;dsimp only at h2;omega
end
theorem pG(w:World)(rb:Nat)(D:Rd)(col:Nat->Nat)(h:Rq w rb D col)(a1 a2:Option Addr)(n1 k1 n2 k2:Nat):Calls Tryz.prog 104 #[.pointer (some ⟨rb,0,none⟩),.slice a1 n1 k1,.slice a2 n2 k2] w λe w'=>e=.returned (.tuple #[])/\w'=(w.setCell ⟨rb,1,none⟩ (.slice a1 n1 k1)).setCell ⟨rb,3,none⟩ (.slice a2 n2 k2):=by
 have hb:=h.box;obtain⟨c0,c1,c2,c3,c6⟩:=h.cells;have f1:w.frozen? ⟨rb,1,none⟩=false:=bq _ _ _ _ _ hb;have f3:w.frozen? ⟨rb,3,none⟩=false:=bq _ _ _ _ _ hb;clear h hb;go_enter Tryz.func104,Tryz.ntmps104;go_wp2_with fail
 go_end0
 exact⟨rfl,rfl⟩
theorem Vf.box{w':World}{col':Nat->Nat}(h:Vf w col w' col'){o:Obj}(hg:w.heap[g]?=some o)(hc:col g=0):w'.heap[g]?=some o:=(h.b.block g (af.1 hg).1 (λe=>by omega)).trans hg
end Go.Proofs.YtbdkogimlbnlmaaGreat
namespace Go.Proofs.YtbdkogimlbnlmaaGreat.Q
open Go.RowKit
theorem zJ(w:World)(ty:TypeId)(a:Option Addr)(n cap:Nat)(L:List Rn)(hn:n=L.length)(hR:Vw w a cap L)(av:Option Addr)(m c:Nat)(V:List Rn)(hm:m=V.length)(hV:Vs w av V)(hlen:L.length+V.length<=14000000000000):
 ∃a' cap' w',(Builtin.append_ #[169,169] ty #[.slice a n cap,.slice av m c]).run Tryz.prog w=.ok (.slice a' (n+m) cap') w'/\Vw w' a' cap' (L++V)/\New w a a'/\w.grownBy w' (a.map Addr.block):=by
 by_cases h0:V=[]
 . subst hn hm;subst h0;obtain⟨i0,hi,hz0,hz1,hz2⟩:=cZ mf
   have hfc:∀z:Option Addr,(Builtin.firstCells 2 0 (.slice z 0 c)).run Tryz.prog w=.ok #[] w:=by
    intro z;cases z with
    |none=>rfl
    |some z=>simp[Builtin.firstCells,loadCells,loadCellsFrom]
   refine⟨a,cap,w,?_,by simpa using hR,New.refl _ _,⟨rfl,rfl,rfl,ai _,λ_ _ _=>rfl⟩⟩
   rcases hR.cases with⟨rfl,rfl,rfl⟩|⟨g,Y,rfl,hg,h1,h2,h3⟩
   . simp[Builtin.append_,c9 Tryz.underlying169,sizeOf,typeInfo,hi,hz1,Builtin.lenOf,hfc]
   . have h1':=hR.len.1;simp[Builtin.append_,c9 Tryz.underlying169,sizeOf,typeInfo,hi,hz1,Builtin.lenOf,hfc,h1',storeCells]
 . obtain⟨g,cap',w',hr,h1,h2,h3⟩:=kW w ty a n cap L hn hR av m c V hm hV h0 hlen;exact⟨_,cap',w',hr,h1,h2,h3⟩
theorem o7{w:World}{ops:Array Oper}{rest:List Oper}{o:Oper}{a:Act}{Q:Exit->Act->World->Prop}(hgd:o.guard=none)(s x:Operand)
 (ho:o.op=.call {callee:=.builtin .append,args:=#[s,x],argTypes:=#[169,169]}) (ao:Option Addr) (n cap:Nat) (L:List Rn) (hs:a.eval s=.slice ao n cap) (hn:n=L.length) (hR:Vw w ao cap L)
 (av:Option Addr) (m c:Nat) (V:List Rn) (hx:a.eval x=.slice av m c) (hm:m=V.length) (hV:Vs w av V) (hlen:L.length+V.length<=14000000000000)
 (h:∀a' cap' w',Vw w' a' cap' (L++V)->New w ao a'->w.grownBy w' (ao.map Addr.block)->wpList Tryz.prog ops Q rest (a.put o.dst (.slice a' (n+m) cap')) w'):wpList Tryz.prog ops Q (o::rest) a w:=by
 obtain⟨a',cap',w',hr,h1,h2,h3⟩:=zJ w o.type ao n cap L hn hR av m c V hm hV hlen;refine ee hgd λ_ hK=>?_
 unfold Oper.wp execOp;simp only[ho,resolve,invoke,builtin,dl,dm,bN,cu,bz,cQ,hs,hx,hr];exact hK _ _ (h a' cap' w' h1 h2 h3)
theorem AU(w:World)(n:Nat)(hn:n<=14000000000000):Calls Tryz.prog 189 #[.slice none 0 0,.int .i64 (n:Int)] w λe w'=>∃a c,e=.returned (.slice a 0 c)/\Vw w' a c []/\New w none a/\Below w.heap.size w w':=by
 have s0:decide ((n:Int)<0)=false:=au (by omega)
 have s1:IntKind.i64.wrap (n:Int)=(n:Int):=im (by omega) (by omega)
 have s2:wrap64 (n:Int)=(n:Int):=by unfold wrap64;omega
 by_cases h0:n=0
 . subst h0;go_enter Tryz.func189,Tryz.ntmps189;go_wp2;go_ret;exact⟨none,0,rfl,Vw.nil w,New.none _ _,Below.refl _ _⟩
 . have hp:0<(n:Int):=by omega
   have hpn:0<n:=by omega
   have hmax:=hn;go_enter Tryz.func189,Tryz.ntmps189;go_wp2_with (refine xL rfl _ _ rfl none 0 0 (by simp[Act.eval]) n (by simp[Act.eval]) [] rfl (Vs.nil _ _) hpn (by simp;omega) (by simp;omega) ?_;intro cap' w' hR hB;have HR:=gZ hR;have HB:=gZ hB;clear hR hB)
   go_ret;refine⟨_,cap',rfl,?_,λx hx=>.inr (by cases hx;exact ai _),HB.o⟩
   have r:=HR.o;rw[cF] at r;rcases Vw.front (L:=[]) (M:=List.replicate n Rn.zero) (by simpa using r) with h|h
   . exact h
   . cases h
theorem tN{w wx wy:World}{a a':Option Addr}(hn:New w none a)(hb:Below w.heap.size w wx)(hN:New wx a a')(hg:wx.grownBy wy (a.map Addr.block)):New w none a'/\Below w.heap.size w wy:=by
 refine⟨hn.trans hN hb.size,?_⟩
 have hh:But (λ_=>False) w wy:=(But.ofBelow hb).grown hg λk hk hlt=>by
  obtain⟨y,hy,e⟩:=map_some hk;rcases hn y hy with⟨z,hz,_⟩|h2
  . cases hz
  . omega
 exact hh.below λ_ _ h=>h
def mU(L M:List Rn):Nat->List Rn
 |0=>[]
 |1=>L
 |_=>L++M
theorem wM(w:World)(g:Nat)(a1 a2:Option Addr)(c1 c2:Nat)(L1 L2:List Rn)(h1:w.cell? ⟨g,0,none⟩=some (.slice a1 L1.length c1))(h2:w.cell? ⟨g,1,none⟩=some (.slice a2 L2.length c2))(V1:Vs w a1 L1)(V2:Vs w a2 L2)(l1:L1.length<=65536)(l2:L2.length<=65536):
 Calls Tryz.prog 173 #[.slice (some ⟨g,0,none⟩) 2 2] w λe w'=>∃a c,e=.returned (.slice a (L1++L2).length c)/\Vw w' a c (L1++L2)/\New w none a/\Below w.heap.size w w':=by
 have HV1:=gZ V1;have HV2:=gZ V2;have C2:=gZ (show ∀W,Below w.heap.size w W->W.cell? ⟨g,0,none⟩=some (.slice a1 L1.length c1)/\W.cell? ⟨g,1,none⟩=some (.slice a2 L2.length c2) from λW hb=>⟨(hb.cell (p:=⟨g,0,none⟩) (block_lt_of_cell h1)).trans h1,(hb.cell (p:=⟨g,1,none⟩) (block_lt_of_cell h2)).trans h2⟩)
 have GR:=gZ (AU w (L1.length+L2.length) (by omega))
 have e0:((L1.length+L2.length:Nat):Int)=(L1.length:Int)+(L2.length:Int):=by omega
 rw[e0] at GR;have eL:=gZ (show(L1++L2).length=L1.length+L2.length from ae)
 rw[eL.o];obtain⟨n1,hn1⟩:∃n,L1.length=n:=⟨_,rfl⟩;obtain⟨n2,hn2⟩:∃n,L2.length=n:=⟨_,rfl⟩;have N1:=gZ hn1;have N2:=gZ hn2;rw[hn1] at h1 l1 C2 GR;rw[hn2] at h2 l2 C2 GR;rw[hn1,hn2];clear V1 V2 e0 hn1 hn2;go_enter Tryz.func173,Tryz.ntmps173;go_wp2_with fail
 go_loopw [3,11] (λz i wr=>wr=w/\((i=.int .i64 0/\z=.int .i64 0)\/(i=.int .i64 1/\z=.int .i64 (n1:Int))\/(i=.int .i64 2/\z=.int .i64 ((n1:Int)+(n2:Int))))) (λ_ i _=>2-(intOf i).toNat)
 case atStart=>exact⟨rfl,.inl ⟨rfl,rfl⟩⟩
 case round=>
  obtain⟨hwr,hcase⟩:=hrel;obtain rfl:=hwr.symm;rcases hcase with⟨rfl,rfl⟩|⟨rfl,rfl⟩|⟨rfl,rfl⟩
  . have s3:decide ((n1:Int)<0)=false:=au (by omega)
    go_wp2;go_roundw
    case rel=>exact⟨trivial,.inr (.inl ⟨rfl,rfl⟩)⟩
    case measure=>simp[intOf]
  . have s3:decide ((n1:Int)+(n2:Int)<0)=false:=au (by omega)
    have s1:IntKind.i64.wrap ((n1:Int)+(n2:Int))=(n1:Int)+(n2:Int):=im (by omega) (by omega)
    have s2:wrap64 ((n1:Int)+(n2:Int))=(n1:Int)+(n2:Int):=by unfold wrap64;omega
    go_wp2;go_roundw
    case rel=>exact⟨trivial,.inr (.inr ⟨rfl,rfl⟩)⟩
    case measure=>simp[intOf]
  . go_wp2_with fail
    refine GR.o.mono ?_;rintro _ w1 ⟨aG,cG,rfl,hR,hN,hB⟩;have HR:=gZ hR;have HN:=gZ hN;have HB:=gZ hB;clear hR hN hB GR;go_wp2_with fail
    go_loopw [6,27] (λz i wr=>∃(k:Nat)(a':Option Addr)(c':Nat),k<=2/\i=.int .i64 (k:Int)/\z=.slice a' (mU L1 L2 k).length c'/\Vw wr a' c' (mU L1 L2 k)/\New w none a'/\Below w.heap.size w wr) (λ_ i _=>2-(intOf i).toNat)
    case atStart=>exact⟨0,aG,cG,by omega,rfl,rfl,HR.o,HN.o,HB.o⟩
    case round=>
     clear HR HN HB;obtain⟨k,a',c',hk,rfl,rfl,hR,hN,hB⟩:=hrel;obtain⟨d1,d2⟩:=C2.o _ hB;have HR:=gZ hR;have HN:=gZ hN;have HB:=gZ hB;clear hR hN hB;rcases (show k=0\/k=1\/k=2 by omega) with rfl|rfl|rfl
     . have V:=gZ (HV1.o.keep HB.o);show Code.wp _ _ _ _ _;go_wp2_with (refine o7 rfl _ _ rfl a' 0 c' [] (by simp[Act.eval,mU]) rfl HR.o a1 n1 c1 L1 (by simp[Act.eval]) N1.o.symm V.o (by rw[N1.o];simp;omega) ?_;intro a2' c2' w2 r1 r2 r3;have R1:=gZ r1;have R2:=gZ r2;have R3:=gZ r3;clear r1 r2 r3)
       go_roundw
       case rel=>
        obtain⟨o1,o2⟩:=tN HN.o HB.o R2.o R3.o;exact⟨1,a2',c2',by omega,rfl,by rw[show mU L1 L2 1=L1 from rfl,N1.o],by simpa[mU] using R1.o,o1,o2⟩
       case measure=>simp[intOf]
     . have V:=gZ (HV2.o.keep HB.o);have hr1:Vw wr a' c' L1:=HR.o;have e1:(mU L1 L2 1).length=n1:=N1.o;rw[e1];have HR1:=gZ hr1;clear hr1 e1;go_wp2_with (refine o7 rfl _ _ rfl a' n1 c' L1 (by simp[Act.eval]) N1.o.symm HR1.o a2 n2 c2 L2 (by simp[Act.eval]) N2.o.symm V.o (by rw[N1.o,N2.o];omega) ?_;intro a2' c2' w2 r1 r2 r3;have R1:=gZ r1;have R2:=gZ r2;have R3:=gZ r3;clear r1 r2 r3)
       go_roundw
       case rel=>
        obtain⟨o1,o2⟩:=tN HN.o HB.o R2.o R3.o;exact⟨2,a2',c2',by omega,rfl,by rw[show mU L1 L2 2=L1++L2 from rfl,eL.o,N1.o,N2.o],R1.o,o1,o2⟩
       case measure=>simp[intOf]
     . have hr1:Vw wr a' c' (L1++L2):=HR.o;have e1:(mU L1 L2 2).length=n1+n2:=by rw[show mU L1 L2 2=L1++L2 from rfl,eL.o,N1.o,N2.o]
       rw[e1];have HR1:=gZ hr1;clear hr1 e1;go_wp2;go_ret;exact⟨a',c',rfl,HR1.o,HN.o,HB.o⟩
end Go.Proofs.YtbdkogimlbnlmaaGreat.Q
namespace Go.Proofs.YtbdkogimlbnlmaaGreat.Q
open Go.RowKit Go.Shelf
attribute [local go_sem] Oper.semAt_some
variable {L:List Pg}{b i s:Nat}{col:Nat->Nat}{D:Pd}{P:Po}{w w':World}
def las(x:Pg):Pg:=(x.1,decide (0<x.1))
def sel(L:List Pg)(p:Int->Bool):List Pg:=(List.range L.length).map λ(i:Nat)=>if p (((i:Nat):Int)+1) then las (L.getD i Pg.zero) else L.getD i Pg.zero
theorem iJ(L:List Pg)(p:Int->Bool):(sel L p).length=L.length:=by simp[sel]
theorem jN(L:List Pg)(p:Int->Bool)(h:i<L.length):(sel L p).getD i Pg.zero=if p ((i:Int)+1) then las (L.getD i Pg.zero) else L.getD i Pg.zero:=by
 unfold sel;simp[h]
theorem mX{M:List Pg}(hl:L.length=M.length)(h:∀i,i<L.length->L.getD i Pg.zero=M.getD i Pg.zero):L=M:=by
 refine List.ext_getElem hl λi h1 h2=>?_
 have:=h i h1;simpa[h1,h2] using this
theorem Af(L:List Pg):sel L (λ_=>false)=L:=mX (iJ _ _) λi hi=>by
 rw[iJ] at hi;rw[jN L _ hi];rfl
theorem Ad(L:List Pg)(i j:Nat)(x:Pg)(hj:j<L.length):(L.set i x).getD j Pg.zero=if i=j then x else L.getD j Pg.zero:=by
 by_cases h:i=j
 . subst h;rw[if_pos rfl,aq,dF hj];rfl
 . rw[if_neg h,aq,bT h,<-aq]
theorem De{p:Int->Bool}(h:i<L.length)(hp:p ((i:Int)+1)=false):(sel L p).set i (las (L.getD i Pg.zero))=sel L (λz=>p z||decide (z=(i:Int)+1)):=by
 refine mX (by rw[aO,iJ,iJ]) λj hj=>?_
 rw[aO,iJ] at hj;rw[Ad _ _ _ _ (by rw[iJ];exact hj),jN L _ hj,jN L _ hj]
 by_cases e:i=j
 . subst e;rw[if_pos rfl];simp
 . rw[if_neg e];have:decide ((j:Int)+1=(i:Int)+1)=false:=au (by omega)
   rw[this,eV]
theorem nW{p q:Int->Bool}(h:∀i,i<L.length->p ((i:Int)+1)=q ((i:Int)+1)):sel L p=sel L q:=mX (by rw[iJ,iJ]) λi hi=>by
 rw[iJ] at hi;rw[jN L _ hi,jN L _ hi,h i hi]
def Po.setl(P:Po)(f:Nat):Po:={P with pg:=sel P.pg (inS P.pg f)}
theorem kS(h:i<L.length):inS L s ((i:Int)+1)=decide (stt (L.getD i Pg.zero)=s):=by
 have:=pX (P:=L) (n:=i+1) (s:=s) (by omega) (by omega)
 rw[show(((i+1:Nat)):Int)=(i:Int)+1 by omega] at this
 exact this
theorem Aa{f t:Nat}(hft:f≠t)(h:∀x∈L,stt x=f->stt (las x)=t)(s:Nat)(z:Int):inS (sel L (inS L f)) s z=if s=t then (inS L t z||inS L f z) else if s=f then false else inS L s z:=by
 by_cases hz:1<=z/\z<=L.length
 . obtain⟨i,rfl⟩:∃i:Nat,z=(i:Int)+1:=⟨(z-1).toNat,by omega⟩
   have hi:i<L.length:=by omega
   rw[kS (by rw[iJ];exact hi),jN L _ hi,kS hi,kS hi,kS hi]
   by_cases e:stt (L.getD i Pg.zero)=f
   . rw[ay e,if_pos rfl,h _ (jK hi) e];by_cases st:s=t
     . subst st;simp
     . rw[if_neg st,au (λe=>st e.symm),e]
       by_cases sf:s=f
       . rw[if_pos sf]
       . rw[if_neg sf,au (λe=>sf e.symm)]
   . rw[au e,if_neg (by decide)]
     by_cases st:s=t
     . subst st;simp
     . rw[if_neg st];by_cases sf:s=f
       . subst sf;rw[if_pos rfl,au e]
       . rw[if_neg sf]
 . have e:∀(M:List Pg)(q:Nat),M.length=L.length->inS M q z=false:=λM q hM=>by
    unfold inS;by_cases h1:1<=z
    . rw[au (show ¬z<=(M.length:Int) by omega)];simp
    . rw[au h1];simp
   rw[e _ s (iJ _ _),e L t rfl,e L f rfl,e L s rfl];simp
theorem Pq.repage(h:Pq w b P D col)(pg':List Pg)(hl:pg'.length=P.pg.length)(hg:w'.heap[D.g]?=some (.cells (pgc pg').toArray 133 (0,0)))(hb:But (λk=>k=D.g) w w'):Pq w' b {P with pg:=pg'} D col:=by
 have ne:∀{k:Nat},col k≠2->¬(k=D.g):=λh1 e=>h1 (by rw[e];exact h.cg)
 have lb:=hb.same h.box (ne (by rw[h.cb];decide))
 refine⟨?_,hg,λs hs=>(h.set s hs).but hb (ne (by rw[h.cs s hs];omega)) (λy hy=>ne (by rw[h.ca s hs y hy];omega)),h.acr.but hb (λy hy=>ne (by rw[h.cc y hy];decide)),h.acl,λq hq=>?_,h.cb,h.cg,h.cs,h.ca,h.cc,h.cB,λk hk=>aZ (h.lt k hk) hb.size⟩
 . rw[lb];show some (Obj.cells (jP P D) _ _)=some (Obj.cells (jP {P with pg:=pg'} D) _ _);unfold jP;rw[hl]
 . obtain⟨c1,c2,c3⟩:=h.cB _ (jX hq).1;exact(h.acb q hq).but hb (ne (by rw[c1];decide)) (ne (by rw[c2];decide)) (ne (by rw[c3];decide))
theorem Pq.newSet{W:World}(h:Pq w b P D col)(hs:s<5)(hW:Below w.heap.size w W){b':Nat}{a':Option Addr}{c':Nat}{R:List Rn}(hN:Nw W w' b' a' c' R):
 Pq (w'.setCell ⟨b,2+s,none⟩ (.pointer (some ⟨b',0,none⟩))) b P {D with s:=upd D.s s b',a:=upd D.a s a',c:=upd D.c s c',L:=upd D.L s R} (recol col w w' (3+s))/\Fr w col (w'.setCell ⟨b,2+s,none⟩ (.pointer (some ⟨b',0,none⟩))) (recol col w w' (3+s)):=by
 have bw:Below w.heap.size w w':=bt hW hN.w;have old:∀{k:Nat},col k≠0->recol col w w' (3+s) k=col k:=λhk=>jc (h.lt _ hk)
 have bS:But (λk=>k=b) w (w'.setCell ⟨b,2+s,none⟩ (.pointer (some ⟨b',0,none⟩))):=(But.ofBelow (S:=λk=>k=b) bw).setCell (p:=⟨b,2+s,none⟩) (λ_=>rfl) _
 have bS':But (λk=>k=b) w' (w'.setCell ⟨b,2+s,none⟩ (.pointer (some ⟨b',0,none⟩))):=(But.refl (λk=>k=b) _).setCell (p:=⟨b,2+s,none⟩) (λ_=>rfl) _
 have hsz:=hW.size;have lb:=h.lb;have nb:∀k,w.heap.size<=k->k≠b:=λk hk e=>by omega
 have ne:∀{k:Nat},col k≠1->¬(k=b):=λh1 e=>h1 (by rw[e];exact h.cb)
 have hb':w'.heap[b]?=_:=(bw.block b lb).trans h.box;refine⟨⟨?_,bS.same h.pgs (ne (by rw[h.cg];decide)),λt ht=>?_,h.acr.but bS (λy hy=>ne (by rw[h.cc y hy];decide)),h.acl,λq hq=>?_,(old (by rw[h.cb];decide)).trans h.cb,(old (by rw[h.cg];decide)).trans h.cg,λt ht=>?_,λt ht x hx=>?_,λx hx=>(old (by rw[h.cc x hx];decide)).trans (h.cc x hx),λt ht=>?_,λk hk=>?_⟩,⟨bS.mono λk _ hk=>by rw[hk,h.cb];decide,λk hk=>jc hk⟩⟩
 . rw[aR _ _ _ _ _ _ hb'];rcases lt5 hs with rfl|rfl|rfl|rfl|rfl<;>rfl
 . show St _ (upd D.s s b' t) (upd D.a s a' t) (upd D.c s c' t) (upd D.L s R t);by_cases e:t=s
   . subst e;rw[iF,iF,iF,iF];exact hN.st.but bS' (nb _ (aU hsz hN.b)) (λx hx=>nb _ (aU hsz (hN.a x hx)))
   . rw[iM _ _ e,iM _ _ e,iM _ _ e,iM _ _ e];exact(h.set t ht).but bS (ne (by rw[h.cs t ht];omega)) (λx hx=>ne (by rw[h.ca t ht x hx];omega))
 . obtain⟨c1,c2,c3⟩:=h.cB _ (jX hq).1;exact(h.acb q hq).but bS (ne (by rw[c1];decide)) (ne (by rw[c2];decide)) (ne (by rw[c3];decide))
 . show recol col w w' (3+s) (upd D.s s b' t)=3+t;by_cases e:t=s
   . subst e;rw[iF];exact j9 (aU hsz hN.b) hN.st.lt
   . rw[iM _ _ e,old (by rw[h.cs t ht];omega)];exact h.cs t ht
 . have hx:upd D.a s a' t=some x:=hx;by_cases e:t=s
   . subst e;rw[iF] at hx;exact j9 (aU hsz (hN.a x hx)) (hN.st.row.lt hx)
   . rw[iM _ _ e] at hx;rw[old (by rw[h.ca t ht x hx];omega)];exact h.ca t ht x hx
 . obtain⟨c1,c2,c3⟩:=h.cB t ht;exact⟨(old (by rw[c1];decide)).trans c1,(old (by rw[c2];decide)).trans c2,(old (by rw[c3];decide)).trans c3⟩
 . exact aZ (mu bw.size hk) bS'.size
end Go.Proofs.YtbdkogimlbnlmaaGreat.Q
