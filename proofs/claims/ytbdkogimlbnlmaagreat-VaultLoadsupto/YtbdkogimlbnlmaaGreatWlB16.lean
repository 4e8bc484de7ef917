import Derived.Test.YtbdkogimlbnlmaaGreatWlB15
import Derived.Test.YtbdkogimlbnlmaaGreatRows
import Derived.Stop.BytesEq
import Derived.Laws.StructEq
set_option linter.all false
set_option maxHeartbeats 8000000
set_option maxRecDepth 8000
namespace Go.Proofs.YtbdkogimlbnlmaaGreat
open Go.Proofs.Tryz
open Go.RowKit
variable {x:Int}{g i rb s:Nat}{col:Nat->Nat}{D D':Rd}{w w':World}
theorem pE(d:1<=col g/\col g<=5)(b:But (λk=>k=g) w w'):Vf w col w' col:=⟨b.mono (λk _ e=>by rw[e];exact d),λ_ _=>rfl⟩
theorem Rq.setC(h:Rq w rb D col)(b:D.aC=some ⟨g,0,none⟩)(k:Nat)(x:Int):
 Rq (w.setCell ⟨g,k,none⟩ (.int .i64 x)) rb {D with C:=D.C.set k x} col/\Vf w col (w.setCell ⟨g,k,none⟩ (.int .i64 x)) col:=by
 have m:col g=2:=h.cc _ b;have bs:But (λk=>k=g) w (w.setCell ⟨g,k,none⟩ (.int .i64 x)):=(But.refl (λk=>k=g) w).setCell (p:=⟨g,k,none⟩) (λ_=>rfl) _
 have ne:∀{j c:Nat},col j=c->c≠2->¬j=g:=λe n l=>n (by rw[<-e,l,m])
 have f:=h.cr;rw[b] at f;refine⟨⟨?_,?_,h.lr.but bs (λy d=>ne (h.cl y d) (by decide)),h.pr.but bs (λy d=>ne (h.cp y d) (by decide)),λp r=>(h.pz p r).but bs (λk _ e=>ne e (by decide)),h.ps,h.cb,h.cc,h.cl,h.cp,λj q=>be (h.lt j q) bs.size,?_,?_,?_⟩,pE (by omega) bs⟩
 . rw[bs.same h.box (ne h.cb (by decide))];unfold Rd.box;rw[aM]
 . show Q.Ig _ D.aC _ _;rw[b];exact f.set k x
 . show D.L.length=(D.C.set k x).length;rw[aM];exact h.nL
 . show D.P.length=(D.C.set k x).length;rw[aM];exact h.nP
 . show(D.C.set k x).length<=_;rw[aM];exact h.n6
theorem Rq.setL(h:Rq w rb D col)(b:D.aL=some ⟨g,0,none⟩)(k:Nat)(x:Bool):
 Rq (w.setCell ⟨g,k,none⟩ (.bool x)) rb {D with L:=D.L.set k x} col/\Vf w col (w.setCell ⟨g,k,none⟩ (.bool x)) col:=by
 have m:col g=3:=h.cl _ b;have bs:But (λk=>k=g) w (w.setCell ⟨g,k,none⟩ (.bool x)):=(But.refl (λk=>k=g) w).setCell (p:=⟨g,k,none⟩) (λ_=>rfl) _
 have ne:∀{j c:Nat},col j=c->c≠3->¬j=g:=λe n l=>n (by rw[<-e,l,m])
 have f:=h.lr;rw[b] at f;refine⟨⟨?_,h.cr.but bs (λy d=>ne (h.cc y d) (by decide)),?_,h.pr.but bs (λy d=>ne (h.cp y d) (by decide)),λp r=>(h.pz p r).but bs (λk _ e=>ne e (by decide)),h.ps,h.cb,h.cc,h.cl,h.cp,λj q=>be (h.lt j q) bs.size,?_,h.nP,h.n6⟩,pE (by omega) bs⟩
 . rw[bs.same h.box (ne h.cb (by decide))];unfold Rd.box;rw[aM]
 . show Q.Gw _ _ _ D.aL _ (D.L.set k x).length _;rw[b,aM,<-sZ];exact f.setc k _
 . show(D.L.set k x).length=D.C.length;rw[aM];exact h.nL
theorem Rq.setP(h:Rq w rb D col)(d:D.aP=some ⟨g,0,none⟩)(k:Nat)(x:Pv)(t:Pz (λk=>col k=6) w x)(v:x.pg.check=0\/x=Pv.zero):
 Rq (w.setCells g (k*5) x.cs.toList) rb {D with P:=D.P.set k x} col/\Vf w col (w.setCells g (k*5) x.cs.toList) col:=by
 have q:col g=4:=h.cp _ d;have bs:=jr g x.cs.toList w (k*5);have ne:∀{j c:Nat},col j=c->c≠4->¬j=g:=λe n m=>n (by rw[<-e,m,q])
 have l:=h.pr;rw[d] at l;refine⟨⟨?_,h.cr.but bs (λy f=>ne (h.cc y f) (by decide)),h.lr.but bs (λy f=>ne (h.cl y f) (by decide)),?_,λp b=>?_,λp b=>?_,h.cb,h.cc,h.cl,h.cp,λj r=>be (h.lt j r) bs.size,h.nL,?_,h.n6⟩,pE (by omega) bs⟩
 . rw[bs.same h.box (ne h.cb (by decide))];unfold Rd.box;rw[aM]
 . show Q.Gw _ _ _ D.aP _ (D.P.set k x).length _;rw[d];exact l.setp k x
 . rcases eV b with b|rfl
   . exact(h.pz p b).but bs (λk _ e=>ne e (by decide))
   . exact t.but bs (λk _ e=>ne e (by decide))
 . rcases eV b with b|rfl
   . exact h.ps p b
   . exact v
 . show(D.P.set k x).length=D.C.length;rw[aM];exact h.nP
theorem Rq.page(h:Rq w rb D col)(hb:Below w.heap.size w w'):Rq w' rb D (iO col w w' 6)/\Vf w col w' (iO col w w' 6):=by
 have k:=h.keep hb;have lt:=h.lt;have po:∀{j c:Nat},col j=c->c≠0->iO col w w' 6 j=c:=λ{j c} e f=>by rw[jq (lt j (by rw[e];exact f)),e]
 refine⟨⟨k.box,k.cr,k.lr,k.pr,λp l=>(k.pz p l).mono (λj d e=>po e (by decide)),k.ps,po h.cb (by decide),λx b=>po (h.cc x b) (by decide),λx b=>po (h.cl x b) (by decide),λx b=>po (h.cp x b) (by decide),λj d=>kU hb.size d,k.nL,k.nP,k.n6⟩,But.ofBelow hb,λj d=>jq d⟩
def Rd.put(D:Rd)(z:Int)(c:Int):Rd:={D with C:=D.C.set (z-1).toNat c}
def Rd.inc(D:Rd)(z:Int):Int×Rd:=if 0<D.count z then (if D.R<=D.count z then (13,D) else (0,D.put z (D.count z+1))) else (15,D)
theorem vA(w:World)(rb:Nat)(D:Rd)(col:Nat->Nat)(h:Rq w rb D col)(z:Int)(B:D.R<=65536):
 Calls prog 109 #[.pointer (some ⟨rb,0,none⟩),.int .i64 z] w λe w'=>e=.returned (.int .i64 (D.inc z).1)/\Rq w' rb (D.inc z).2 col/\Vf w col w' col:=by
 have l:=iJ h;obtain⟨c0,c1,c2,c3,N⟩:=h.cells;have j:=iJ (kf w rb D col h z);unfold Rd.inc;by_cases b:0<D.count z
 . rw[if_pos b];rw[ax b] at j
   have q:D.has z=true:=by
    unfold Rd.count at b;split at b
    . assumption
    . omega
   have p:D.count z=D.C.getD (z-1).toNat 0:=by unfold Rd.count;rw[if_pos q]
   obtain⟨y,A⟩:=Rd.has_iff.1 q;obtain⟨i,r⟩:∃i:Nat,z=(i:Int)+1:=⟨(z-1).toNat,by omega⟩
   subst r;have r:i<D.C.length:=by omega
   obtain⟨g,e,J⟩:=h.cAt r;have n:((i:Int)+1-1).toNat=i:=by omega
   have I:=iJ n;rw[n] at p;rw[<-p] at J
   have O:w.frozen? ⟨g,i,none⟩=false:=by
    have k:=h.cr;rw[e] at k;exact Q.Gw.free k i
   rw[e] at c1;have t:=iJ e;have P:(i:Int)+1-1=(i:Int):=by omega
   have M:(i:Int)<(D.C.length:Int):=by omega
   have L:=h.n6;by_cases f:D.R<=D.count ((i:Int)+1)
   . rw[if_pos f];have K:decide (D.R<=D.count ((i:Int)+1))=true:=ax f;clear h p q n e B b y A f;generalize D.C.length=m at *;generalize D.count ((i:Int)+1)=x at *;go_enter func109,ntmps109;go_wp2_with fail
     refine j.o.mono ?_;rintro _ G ⟨rfl,d⟩;rw[d];clear d;go_wp2_with fail
     go_quiet (fail)
     go_wp2_with fail
     go_ret;exact⟨rfl,l.o.keep (drN _ _),Vf.keep (drN _ _)⟩
   . rw[if_neg f];have K:decide (D.R<=D.count ((i:Int)+1))=false:=au f;have R:IntKind.i64.wrap (D.count ((i:Int)+1)+1)=D.count ((i:Int)+1)+1:=Q.iT (by omega) (by omega)
     have S:wrap64 (D.count ((i:Int)+1)+1)=D.count ((i:Int)+1)+1:=by unfold wrap64;omega
     have v:Hid (∀x,D.put ((i:Int)+1) x={D with C:=D.C.set i x}):=λx=>by unfold Rd.put;rw[I.o]
     rw[v.o];clear h p q n e B b y A f v;have H:Hid (D.C.length=D.C.length):=rfl;generalize D.count ((i:Int)+1)=x at *;obtain⟨m,E⟩:∃m,D.C.length=m:=⟨_,rfl⟩;simp only[E] at c1 M L;clear E H;go_enter func109,ntmps109;go_wp2_with fail
     refine j.o.mono ?_;rintro _ G ⟨rfl,d⟩;rw[d];clear d;go_wp2_with fail
     go_quiet (fail)
     go_wp2_with fail
     go_ret;exact⟨rfl,((l.o.keep (drN _ _)).setC t.o _ _).1,(Vf.keep (drN _ _)).trans ((l.o.keep (drN _ _)).setC t.o _ _).2⟩
 . rw[if_neg b];rw[au b] at j;clear h b;go_enter func109,ntmps109;go_wp2_with fail
   refine j.o.mono ?_;rintro _ G ⟨rfl,d⟩;rw[d];clear d;go_wp2_with fail
   go_ret;exact⟨rfl,l.o,Vf.refl _ _⟩
theorem Rq.pgs(h:Rq w rb D col):Pgs w D.aP D.P:=λi d=>by
 obtain⟨g,e,b⟩:=h.pAt (i:=i) (by rw[<-h.nP];exact d)
 exact⟨g,0,e,λk u f j=>by rw[bN];exact b k u f j⟩
def Rd.pg(D:Rd):List Q.Pg:=D.C.zip D.L
theorem Rd.pg_len(h:D.L.length=D.C.length):D.pg.length=D.C.length:=by unfold Rd.pg;rw[iG,h];omega
theorem Rd.pg_get(h:D.L.length=D.C.length)(hi:i<D.C.length):D.pg.getD i Q.Pg.zero=(D.C.getD i 0,D.L.getD i false):=by
 unfold Rd.pg;have b:i<D.L.length:=by omega
 have d:i<(D.C.zip D.L).length:=by rw[iG];omega
 rw[aq,aR d];simp[b,hi]
def iW(P:List Q.Pg):Int:=match Q.iZ P 1 with
 | []=>0
 |n::_=>n
theorem uk{P:List Q.Pg}(hi:i<P.length)(e:Q.stt (P.getD i Q.Pg.zero)=s)(hb:∀j,j<i->Q.stt (P.getD j Q.Pg.zero)≠s):∃T,Q.iZ P s=((i:Int)+1)::T:=by
 obtain⟨k,d⟩:∃k,P.length=i+(k+1):=⟨P.length-i-1,by omega⟩
 unfold Q.iZ;rw[d,List.range_add,gq,bP,iq.2 (λj b=>by simpa using hb j (cw.1 b)),List.range_succ_eq_map,bL,List.filter_cons,if_pos (by simpa using e)]
 exact⟨_,rfl⟩
theorem pB{P:List Q.Pg}(hb:∀j,j<P.length->Q.stt (P.getD j Q.Pg.zero)≠s):Q.iZ P s=[]:=by
 unfold Q.iZ;rw[iq.2 (λj b=>by simpa using hb j (cw.1 b))]
 rfl
theorem ra(c:Int)(l:Bool):Q.stt (c,l)=1↔c=0/\l=false:=by
 unfold Q.stt;by_cases b:c=0<;>cases l<;>simp[b]
theorem qP(w:World)(rb:Nat)(D:Rd)(col:Nat->Nat)(h:Rq w rb D col):
 Calls prog 101 #[.pointer (some ⟨rb,0,none⟩)] w λe w'=>e=.returned (.int .i64 (iW D.pg))/\w'=w:=by
 obtain⟨c0,c1,c2,c3,M⟩:=h.cells;have A:=iJ λ(i:Nat)(n:i<D.C.length)=>h.cAt n
 have B:=iJ λ(i:Nat)(n:i<D.C.length)=>h.lAt n
 have C:=iJ λ(i:Nat)(n:i<D.C.length)=>Rd.pg_get h.nL n
 have t:=iJ (Rd.pg_len h.nL);have G:=h.nL;rw[G] at c2;have O:=h.n6;clear h G c0 c3 M;obtain⟨m,I⟩:∃m,D.C.length=m:=⟨_,rfl⟩;simp only[I] at c1 c2 A B C t O;clear I;go_enter func101,ntmps101;go_wp2_with fail
 go_loopw [3] (λv S=>∃k:Nat,k<=m/\v=.int .i64 ((k:Int)+1)/\S=w/\∀j,j<k->Q.stt (D.pg.getD j Q.Pg.zero)≠1) (λv _=>m+1-(intOf v).toNat)
 case atStart=>exact⟨0,az _,rfl,rfl,λj b=>absurd b (dQ _)⟩
 case round=>
  obtain⟨k,X,rfl,rfl,b⟩:=hrel;have d:=iJ b;clear b;by_cases p:k<m
  . have U:decide ((k:Int)+1<=(m:Int))=true:=ax (by omega)
    have L:(k:Int)+1<=(m:Int):=by omega
    have Y:(k:Int)+1-1=(k:Int):=by omega
    have Z:(k:Int)<(m:Int):=by omega
    obtain⟨g,E,N⟩:=A.o k p;obtain⟨W,K,R⟩:=B.o k p;have f:=iJ (C.o k p);rw[E] at c1;rw[K] at c2;obtain⟨x,J⟩:∃x,D.C.getD k 0=x:=⟨_,rfl⟩;obtain⟨l,H⟩:∃l,D.L.getD k false=l:=⟨_,rfl⟩;simp only[J,H] at N R f;clear J H E K;by_cases q:x=0
    . subst q;cases l with
      |false=>
       have y:Hid (iW D.pg=(k:Int)+1):=by
        show _=_;obtain⟨T,P⟩:=uk (s:=1) (by rw[t.o];exact p) (by rw[f.o,ra];exact⟨rfl,rfl⟩) d.o
        unfold iW;rw[P]
       go_wp2_with fail
       go_ret;rw[y.o];exact⟨rfl,rfl⟩
      |true=>
       have r:Hid (∀j,j<k+1->Q.stt (D.pg.getD j Q.Pg.zero)≠1):=λj b=>by
        by_cases e:j=k
        . rw[e,f.o,ne_eq,ra];simp
        . exact d.o j (by omega)
       clear f d;go_wp2_with fail
       go_roundw
       case rel=>exact⟨k+1,by omega,by go_num,trivial,r.o⟩
       case measure=>simp[intOf];omega
    . have V:(x==0)=false:=by simp[q]
      have r:Hid (∀j,j<k+1->Q.stt (D.pg.getD j Q.Pg.zero)≠1):=λj b=>by
       by_cases e:j=k
       . rw[e,f.o,ne_eq,ra];exact λh=>q h.1
       . exact d.o j (by omega)
      clear f d q;go_wp2_with fail
      go_roundw
      case rel=>exact⟨k+1,by omega,by go_num,trivial,r.o⟩
      case measure=>simp[intOf];omega
  . have L:¬((k:Int)+1<=(m:Int)):=by omega
    have U:decide ((k:Int)+1<=(m:Int))=false:=au L
    have y:Hid (iW D.pg=0):=by
     show _=_;unfold iW;rw[pB (λj b=>d.o j (by rw[t.o] at b;omega))]
    go_wp2_with fail
    go_ret;rw[y.o];exact⟨rfl,rfl⟩
theorem m9{P:List Q.Pg}(h:iW P≠0):∃i:Nat,i<P.length/\iW P=(i:Int)+1/\Q.stt (P.getD i Q.Pg.zero)=1:=by
 unfold iW at h ⊢;cases e:Q.iZ P 1 with
 |nil=>rw[e] at h;exact absurd rfl h
 |cons n T=>
  have b:n∈Q.iZ P 1:=by rw[e];exact da
  unfold Q.iZ at b;obtain⟨i,j,rfl⟩:=bH.1 b;obtain⟨d,f⟩:=fb.1 j;exact⟨i,cw.1 d,rfl,by simpa using f⟩
def Rd.makeR(D:Rd)(p:Pg):Int×Int:=if p.check=0 then (if iW D.pg=0 then (0,12) else (iW D.pg,0)) else (0,(p.check:Int))
def Rd.makeD(D:Rd)(p:Pg)(q:Pv):Rd:=if p.check=0/\iW D.pg≠0 then {D with C:=D.C.set (iW D.pg-1).toNat 1,P:=D.P.set (iW D.pg-1).toNat q} else D
def lK(P:List Q.Pg)(s k:Nat):Nat:=((List.range k).filter λi=>decide (Q.stt (P.getD i Q.Pg.zero)=s)).length
theorem zn(P:List Q.Pg)(s k:Nat):lK P s (k+1)=lK P s k+(if Q.stt (P.getD k Q.Pg.zero)=s then 1 else 0):=by
 unfold lK;rw[gm,gq,ae];congr 1
 by_cases h:Q.stt (P.getD k Q.Pg.zero)=s
 . rw[if_pos h,List.filter_cons,if_pos (ax h)];rfl
 . rw[if_neg h,List.filter_cons,if_neg (by rw[au h];decide)];rfl
theorem zI(P:List Q.Pg)(s:Nat):lK P s P.length=(Q.iZ P s).length:=by unfold lK Q.iZ;rw[aZ]
theorem Cq(P:List Q.Pg)(s k:Nat):lK P s k<=k:=by
 unfold lK;exact aO (fK _ _) (by rw[gA];exact ai _)
theorem yy(w:World)(rb:Nat)(D:Rd)(col:Nat->Nat)(h:Rq w rb D col)(s:Nat):
 Calls prog 50 #[.pointer (some ⟨rb,0,none⟩),.int .i64 (s:Int)] w λe w'=>e=.returned (.int .i64 (((Q.iZ D.pg s).length:Nat):Int))/\w'=w:=by
 obtain⟨c0,c1,c2,c3,E⟩:=h.cells;have C:=iJ λ(z:Int)=>lz w rb D col h z
 have p:Hid (∀k:Nat,k<D.C.length->D.state ((k:Int)+1)=Q.stt (D.pg.getD k Q.Pg.zero)):=λk q=>by
  have H:((k:Int)+1-1).toNat=k:=by omega
  unfold Rd.state;rw[if_pos (Rd.has_iff.2 ⟨by omega,by omega⟩),Rd.pg_get h.nL q]
  unfold Rd.lasts;rw[H]
 have j:Hid ((Q.iZ D.pg s).length=lK D.pg s D.C.length):=by show _=_;rw[<-zI,Rd.pg_len h.nL]
 have I:=h.n6;clear h c0 c2 c3 E;obtain⟨m,r⟩:∃m,D.C.length=m:=⟨_,rfl⟩;simp only[r] at c1 p j I;clear r;rw[j.o];clear j;go_enter func50,ntmps50;go_wp2_with fail
 go_loopw [5,6] (λK n M=>∃k:Nat,k<=m/\K=.int .i64 ((lK D.pg s k:Nat):Int)/\n=.int .i64 ((k:Int)+1)/\M=w) (λ_ n _=>m+1-(intOf n).toNat)
 case atStart=>exact⟨0,az _,rfl,rfl,rfl⟩
 case round=>
  obtain⟨k,q,rfl,rfl,rfl⟩:=hrel;have J:=Cq D.pg s k;have b:=iJ (zn D.pg s k);by_cases P:k<m
  . have O:decide ((k:Int)+1<=(m:Int))=true:=ax (by omega)
    have A:(k:Int)+1<=(m:Int):=by omega
    have f:=iJ (C.o ((k:Int)+1));rw[p.o k P] at f;obtain⟨x,y⟩:∃x,Q.stt (D.pg.getD k Q.Pg.zero)=x:=⟨_,rfl⟩;rw[y] at f b;clear y;by_cases l:x=s
    . subst l;rw[if_pos rfl] at b;obtain⟨t,v⟩:∃t,lK D.pg x k=t:=⟨_,rfl⟩;simp only[v] at b J ⊢;clear v;have G:((x:Int)==(x:Int))=true:=by simp
      go_wp2_with fail
      refine f.o.mono ?_;rintro _ L ⟨rfl,d⟩;rw[d];clear d;go_wp2_with fail
      go_roundw
      case rel=>exact⟨k+1,by omega,by rw[b.o];go_num,by go_num,trivial⟩
      case measure=>simp[intOf];omega
    . rw[if_neg l] at b;have G:((x:Int)==(s:Int))=false:=by simp;omega
      clear l;go_wp2_with fail
      refine f.o.mono ?_;rintro _ L ⟨rfl,d⟩;rw[d];clear d;go_wp2_with fail
      go_roundw
      case rel=>exact⟨k+1,by omega,by rw[b.o];rfl,by go_num,trivial⟩
      case measure=>simp[intOf];omega
  . have A:¬((k:Int)+1<=(m:Int)):=by omega
    have O:decide ((k:Int)+1<=(m:Int))=false:=au A;have B:k=m:=by omega
    have N:=iJ B;clear B;go_wp2_with fail
    go_ret;rw[<-N.o];exact⟨rfl,rfl⟩
structure Rd.Set(D D':Rd)(k:Nat):Prop where
 e:D'={D with L:=D'.L,P:=D'.P}
 nl:D'.L.length=D.L.length
 np:D'.P.length=D.P.length
 l:∀i,D'.L.getD i false=if i<k/\i<D.L.length then decide (0<D.C.getD i 0) else D.L.getD i false
 p:∀i,D'.P.getD i Pv.zero=if i<k/\D.C.getD i 0=0 then Pv.zero else D.P.getD i Pv.zero
theorem Rd.Set.start(D:Rd):D.Set D 0:=⟨rfl,rfl,rfl,λi=>by simp,λi=>by simp⟩
theorem kG{α:Type}(L:List α)(k i:Nat)(x d:α):(L.set k x).getD i d=if i=k/\k<L.length then x else L.getD i d:=by
 by_cases h:i=k
 . subst h;by_cases b:i<L.length
   . rw[if_pos ⟨rfl,b⟩];simp[b]
   . rw[if_neg (λe=>b e.2)]
     rw[List.set_eq_of_length_le (iu b)]
 . rw[if_neg (λe=>h e.1)]
   have f:¬k=i:=λe=>h e.symm
   simp[List.getElem?_set,f]
theorem Rd.Set.step0{k:Nat}(h:D.Set D' k)(f:k<D.L.length)(d:D.C.getD k 0≠0):D.Set {D' with L:=D'.L.set k (decide (0<D.C.getD k 0))} (k+1):=by
 refine⟨?_,by show(D'.L.set _ _).length=_;rw[aM];exact h.nl,h.np,λi=>?_,λi=>?_⟩
 . have e:=h.e;rw[e]
 . show(D'.L.set _ _).getD i false=_;rw[kG,h.l i,h.nl];by_cases e:i=k
   . subst e;rw[if_pos ⟨rfl,f⟩,if_pos ⟨by omega,f⟩]
   . rw[if_neg (λx=>e x.1)]
     by_cases b:i<k/\i<D.L.length
     . rw[if_pos b,if_pos ⟨by omega,b.2⟩]
     . rw[if_neg b,if_neg (λx=>b ⟨by omega,x.2⟩)]
 . show D'.P.getD i Pv.zero=_;rw[h.p i];by_cases e:i=k
   . subst e;rw[if_neg (λx=>d x.2),if_neg (λx=>d x.2)]
   . by_cases b:i<k/\D.C.getD i 0=0
     . rw[if_pos b,if_pos ⟨by omega,b.2⟩]
     . rw[if_neg b,if_neg (λx=>b ⟨by omega,x.2⟩)]
theorem Rd.Set.step1{k:Nat}(h:D.Set D' k)(d:k<D.L.length)(j:k<D.P.length)(f:D.C.getD k 0=0):D.Set {D' with L:=D'.L.set k (decide (0<D.C.getD k 0)),P:=D'.P.set k Pv.zero} (k+1):=by
 refine⟨?_,by show(D'.L.set _ _).length=_;rw[aM];exact h.nl,by show(D'.P.set _ _).length=_;rw[aM];exact h.np,λi=>?_,λi=>?_⟩
 . have e:=h.e;rw[e]
 . show(D'.L.set _ _).getD i false=_;rw[kG,h.l i,h.nl];by_cases e:i=k
   . subst e;rw[if_pos ⟨rfl,d⟩,if_pos ⟨by omega,d⟩]
   . rw[if_neg (λx=>e x.1)]
     by_cases b:i<k/\i<D.L.length
     . rw[if_pos b,if_pos ⟨by omega,b.2⟩]
     . rw[if_neg b,if_neg (λx=>b ⟨by omega,x.2⟩)]
 . show(D'.P.set _ _).getD i Pv.zero=_;rw[kG,h.p i,h.np];by_cases e:i=k
   . subst e;rw[if_pos ⟨rfl,j⟩,if_pos ⟨by omega,f⟩]
   . rw[if_neg (λx=>e x.1)]
     by_cases b:i<k/\D.C.getD i 0=0
     . rw[if_pos b,if_pos ⟨by omega,b.2⟩]
     . rw[if_neg b,if_neg (λx=>b ⟨by omega,x.2⟩)]
def Rd.tot(D:Rd):Nat:=(D.C.map Int.toNat).sum
def Rd.dropS:Nat->Rd->List Int->Option Rd
 |0,_,_=>none
 |_+1,D,[]=>some D
 |t+1,D,x::L=>if 0<D.count x then Rd.dropS t (D.put x (D.count x-1)) (if D.count x-1=0 then (D.on x).pg.kids++L else L) else none
theorem Rd.count_at(h:0<D.count x):1<=x/\x<=D.C.length/\D.count x=D.C.getD (x-1).toNat 0:=by
 unfold Rd.count at h ⊢;split at h
 . rename_i b;obtain⟨d,e⟩:=Rd.has_iff.1 b;exact⟨d,e,if_pos b⟩
 . omega
theorem Rd.put_tot(h:0<D.count x):(D.put x (D.count x-1)).tot+1=D.tot:=by
 obtain⟨d,e,b⟩:=Rd.count_at h;have k:=my Int.toNat (0:Int) (D.count x-1) D.C (x-1).toNat (by omega)
 show((D.C.set (x-1).toNat (D.count x-1)).map Int.toNat).sum+1=(D.C.map Int.toNat).sum;rw[<-b] at k;omega
def mC(g n:Nat)(w:World):Nat:=((List.range n).map λi=>(intOf ((w.cell? ⟨g,i,none⟩).getD undef)).toNat).sum
theorem yP(h:Rq w rb D col)(f:D.aC=some ⟨g,0,none⟩):mC g D.C.length w=D.tot:=by
 unfold mC Rd.tot;congr 1
 have d:=h.cr;rw[f] at d;apply List.ext_getElem (by simp)
 intro i b j;simp only[aZ,gA] at b;have e:=d.cell (i:=i) b;simp only[List.getElem_map,List.getElem_range,e,Option.getD_some,intOf];simp[b]
theorem Q.Ig.front{a:Option Addr}{cap:Nat}{l m:List Int}(h:Q.Ig w a cap (l++m))(b:m≠[]):Q.Ig w a cap l:=by
 rcases h.cases with⟨rfl,rfl,hn⟩|⟨g,cur,rfl,hg,h1,h2,h3,h4⟩
 . exact absurd (List.append_eq_nil_iff.1 hn).2 b
 . refine Q.Ig.mk hg (by rw[ae] at h1;omega) h2 h3 ?_
   have e:=a7 (List.take l.length) h4;rw[fG,ae,dq (by omega)] at e
   rw[e];show(Q.vi (l++m)).take l.length=Q.vi l;unfold Q.vi;rw[bP,ft (by rw[aZ])]
theorem tq{p:Pv}(h:p.pg.check=0\/p=Pv.zero):p.pg.kids.length<=8:=by
 have d:p.items.length<=8:=by
  rcases h with h|rfl
  . obtain⟨f,b,j,k⟩:=Pg.check_zero.1 h;unfold Pg.form at b;have d:p.pg.items.length=p.items.length:=aZ _;rw[d] at b;split at b
    all_goals
     simp only[bO,bE] at b;omega
  . exact az _
 have e:(p.pg.items.map It.child).length<=8:=by
  rw[aZ];show(p.items.map Iv.it).length<=8;rw[aZ];exact d
 unfold Pg.kids;split
 . exact e
 . split
   . exact aO (fK _ _) e
   . split<;>simp
theorem Gp(h:i<D.C.length):(D.C.getD i 0).toNat<=D.tot:=by
 have k:=my Int.toNat (0:Int) 0 D.C i h;unfold Rd.tot;simp only[Int.toNat_zero,bY] at k;omega
structure Dl(w:World)(rb:Nat)(D0:Rd)(col:Nat->Nat)(a1:Option Addr)(k1:Nat)(a2:Option Addr)(k2:Nat)(wx:World)(D:Rd)(L:List Int)(a:Option Addr)(c:Nat):Prop where
 q:Rq wx rb D col
 f:Vf w col wx col
 e:D={D0 with C:=D.C}
 n:D.C.length=D0.C.length
 t:Q.Ig wx a c L.reverse
 tn:New w none a
 ca:Q.Ig wx a1 k1 D0.C
 cn:New w none a1
 cd:∀x y,a1=some x->a=some y->x.block≠y.block
 pa:Q.Gw 31 5 wx a2 k2 D0.P.length (vpg D0.P)
 pn:New w none a2
section
variable {w:World} {rb:Nat} {D0:Rd} {col:Nat->Nat} {a1:Option Addr} {k1:Nat} {a2:Option Addr} {k2:Nat} {wx wy:World} {D:Rd} {L:List Int} {a:Option Addr} {c:Nat}
theorem Ho{wx:World}{a:Option Addr}{c:Nat}{l:List Int}(h:Q.Ig wx a c l){t:TypeId}{g:Nat}{cs:Array Value}(f:wx.heap[g]?=some (.cells cs t (0,0)))(j:t≠3){x:Addr}(d:a=some x):x.block≠g:=λe=>by
 rcases h.cases with⟨rfl,_⟩|⟨g',cur,rfl,hg',_⟩
 . cases d
 . cases d;dsimp only at e;subst e;have b:some _=some _:=hg'.symm.trans f;simp only[aE,dU] at b;exact j b.2.1.symm
theorem FR{wx:World}{e:TypeId}{sz:Nat}{a:Option Addr}{c n:Nat}{C:List Value}(h:Q.Gw e sz wx a c n C){b:Option Addr}{f:Nat}{l:List Int}(hi:Q.Ig wx b f l)(j:e≠3){x y:Addr}(d:a=some x)(k:b=some y):x.block≠y.block:=λe=>by
 rcases h.cases with⟨rfl,_⟩|⟨g',cur,rfl,hg',_⟩
 . cases d
 . cases d;exact Ho hi hg' j k e.symm
theorem Dl.keep(h:Dl w rb D0 col a1 k1 a2 k2 wx D L a c)(hb:Below wx.heap.size wx wy):Dl w rb D0 col a1 k1 a2 k2 wy D L a c:=
 ⟨h.q.keep hb,h.f.trans (Vf.keep hb),h.e,h.n,h.t.keep hb,h.tn,h.ca.keep hb,h.cn,h.cd,h.pa.keep hb,h.pn⟩
theorem Dl.set(h:Dl w rb D0 col a1 k1 a2 k2 wx D L a c)(n:∀k,col k≠0->k<w.heap.size){g:Nat}(d:D.aC=some ⟨g,0,none⟩)(k:Nat)(x:Int):Dl w rb D0 col a1 k1 a2 k2 (wx.setCell ⟨g,k,none⟩ (.int .i64 x)) {D with C:=D.C.set k x} L a c:=by
 obtain⟨q,f⟩:=h.q.setC d k x;have j:col g=2:=h.q.cc _ d;have r:g<w.heap.size:=n g (by rw[j];decide)
 have bs:But (λk=>k=g) wx (wx.setCell ⟨g,k,none⟩ (.int .i64 x)):=(But.refl (λk=>k=g) wx).setCell (p:=⟨g,k,none⟩) (λ_=>rfl) _
 have b:∀{a:Option Addr},New w none a->∀y,a=some y->¬y.block=g:=λl y m e=>by
  have:=i8 l m;omega
 refine⟨q,h.f.trans f,?_,by show(D.C.set k x).length=_;rw[aM];exact h.n,h.t.but bs (b h.tn),h.tn,h.ca.but bs (b h.cn),h.cn,h.cd,h.pa.but bs (b h.pn),h.pn⟩
 have e:=h.e;show({D with C:=D.C.set k x}:Rd)=_;rw[e]
theorem Dl.pop{x:Int}(h:Dl w rb D0 col a1 k1 a2 k2 wx D (x::L) a c):Dl w rb D0 col a1 k1 a2 k2 wx D L a c:=by
 refine⟨h.q,h.f,h.e,h.n,?_,h.tn,h.ca,h.cn,h.cd,h.pa,h.pn⟩;have t:=h.t;rw[List.reverse_cons] at t;exact t.front (by simp)
theorem Dl.push(h:Dl w rb D0 col a1 k1 a2 k2 wx D L a c)(C:∀k,col k≠0->k<w.heap.size){o:Obj}{g p:Nat}{x:Int}(v:Q.Ig wy (some ⟨g,0,none⟩) p (L.reverse++[x]))(r:New (wx.alloc o) a (some ⟨g,0,none⟩))(f:(wx.alloc o).grownBy wy (a.map Addr.block)):Dl w rb D0 col a1 k1 a2 k2 wy D (x::L) (some ⟨g,0,none⟩) p:=by
 have t:=al wx o;have k:=h.keep t
 have l:But (λq=>∃x,a=some x/\x.block=q) (wx.alloc o) wy:=⟨f.os,f.tape,f.output,f.size,λk A B=>f.block k A (λe=>by
  obtain⟨y,b,m⟩:=map_some e.symm;exact B ⟨y,b,m⟩)⟩
 have E:w.heap.size<=(wx.alloc o).heap.size:=k.f.b.size;have G:New w none (some ⟨g,0,none⟩):=h.tn.trans r E;refine⟨k.q.but l (λj n ⟨y,b,e⟩=>?_),⟨k.f.b.trans l (λj n ⟨y,b,e⟩=>?_),λj n=>rfl⟩,h.e,h.n,by rw[List.reverse_cons];exact v,G,k.ca.but l (λy b ⟨z,d,e⟩=>h.cd y z b d e.symm),h.cn,λy z b d e=>?_,k.pa.but l (λy b ⟨z,d,e⟩=>FR k.pa k.t (by decide) b d e.symm),h.pn⟩
 . have H:=C j n;have h2:=i8 h.tn b;omega
 . have h2:=i8 h.tn b;omega
 . cases d;dsimp only at e;rcases r ⟨g,0,none⟩ rfl with⟨z,d,m⟩|h2
   . exact h.cd y z b d (by rw[e];exact m.symm)
   . have I:=k.ca.lt b;dsimp only at h2;omega
theorem Fz{wx wy:World}{a b:Option Addr}{g c:Nat}{l:List Int}{o:Obj}(m:Q.Ig wx b c l)(n:∀y q,b=some y->a=some q->y.block≠q.block)(r:New (wx.alloc o) a (some ⟨g,0,none⟩))(f:(wx.alloc o).grownBy wy (a.map Addr.block)):
 Q.Ig wy b c l/\∀y q,b=some y->(some ⟨g,0,none⟩:Option Addr)=some q->y.block≠q.block:=by
 have p:But (λq=>∃x,a=some x/\x.block=q) (wx.alloc o) wy:=⟨f.os,f.tape,f.output,f.size,λk t v=>f.block k t (λe=>by
  obtain⟨y,d,h⟩:=map_some e.symm;exact v ⟨y,d,h⟩)⟩
 refine⟨(m.keep (al wx o)).but p (λy d ⟨z,j,e⟩=>n y z d j e.symm),λy q d A e=>?_⟩
 cases A;dsimp only at e;rcases r ⟨g,0,none⟩ rfl with⟨z,j,h⟩|h2
 . exact n y z d j (by rw[e];exact h.symm)
 . have B:=(m.keep (al wx o)).lt d;dsimp only at h2;omega
end
theorem qQ(w:World)(rb:Nat)(D:Rd)(col:Nat->Nat)(h:Rq w rb D col)(a1 a2:Option Addr)(b k1 d k2:Nat):Calls prog 104 #[.pointer (some ⟨rb,0,none⟩),.slice a1 b k1,.slice a2 d k2] w λe w'=>e=.returned (.tuple #[])/\w'=(w.setCell ⟨rb,1,none⟩ (.slice a1 b k1)).setCell ⟨rb,3,none⟩ (.slice a2 d k2):=by
 have hb:=h.box;obtain⟨c0,c1,c2,c3,f⟩:=h.cells;have j:w.frozen? ⟨rb,1,none⟩=false:=bG _ _ _ _ _ hb;have k:w.frozen? ⟨rb,3,none⟩=false:=bG _ _ _ _ _ hb;clear h hb;go_enter func104,ntmps104;go_wp2_with fail
 go_end0
 exact⟨rfl,rfl⟩
end Go.Proofs.YtbdkogimlbnlmaaGreat
namespace Go.Proofs.YtbdkogimlbnlmaaGreat
open Go.Proofs.Tryz
open Go.ChangeShapes Go.WideShapes Go.ChangeAt Go.RowKit
theorem own:ownKnob prog.godebug=none:=by kernel_rfl
theorem laidOut:laidOutB prog=true:=by kernel_rfl
theorem FD:prog.bytesOf 5=1:=by kernel_rfl
theorem mz:prog.cellsOf 3=1:=by kernel_rfl
theorem so:prog.cellsOf 29=1:=by kernel_rfl
theorem rB{H:Type}(d:DataW H):1<=Rows.uptoBulk d:=by
 cases d with
 |lit l=>cases l<;>simp[Rows.uptoBulk]
 |nil=>simp[Rows.uptoBulk]
 |ptr d=>simp[Rows.uptoBulk]
 |slice elems spare=>simp[Rows.uptoBulk]
 |agg parts=>simp[Rows.uptoBulk]
 |iface t d=>simp[Rows.uptoBulk]
 |map entries=>simp[Rows.uptoBulk]
 |held h=>simp[Rows.uptoBulk]
theorem qD{H:Type}(l:List (DataW H)):l.length<=Rows.uptoBulkAll l:=by
 induction l with
 |nil=>simp[Rows.uptoBulkAll]
 |cons x r ih=>have:=rB x;simp only[Rows.uptoBulkAll,bf];omega
theorem uv{H:Type}{d:DataW H}:∀{l:List (DataW H)},d∈l->Rows.uptoBulk d<=Rows.uptoBulkAll l
 |x::r,hd=>by
  simp only[Rows.uptoBulkAll];rcases cO.1 hd with rfl|hd
  . omega
  . have:=uv hd;omega
def Lit'{H:Type}(t:TypeId)(d:DataW H):Prop:=(∀x∈d.weights prog t,x<=reachBytes)\/Rows.uptoBulk d<=1048576
def In(k:IntKind)(w:World)(a:Option Addr)(len cap:Nat)(zs:List Int):Prop:=
 (a=none/\len=0/\cap=0/\zs=[])\/
 ∃x,a=some x/\len<=cap/\cap<=maxLen/\zs.length=cap/\(∀i,i<zs.length->w.cell? (x.add i)=some (.int k (zs.getD i 0)))/\∀n∈zs,(Lit.int k n).wf=true
theorem Bg{w:World}{a:Option Addr}{len cap:Nat}{d:List Int}(h:In .u8 w a len cap d):
 ∃l:List Nat,len=l.length/\Bs w a l/\l.length<=maxLen/\len<=cap:=by
 rcases h with⟨rfl,rfl,rfl,rfl⟩|⟨x,rfl,hl,hm,hz,hcell,hwz⟩
 . exact⟨[],rfl,⟨by simp,by simp,.inl rfl⟩,by simp,ai _⟩
 . have e:((d.take len).map Int.toNat).length=len:=by simp;omega
   have p:∀n∈d,0<=n/\n<256:=λn f=>by have:=bounds_u8 (hwz n f);omega
   refine⟨(d.take len).map Int.toNat,e.symm,⟨?_,?_,?_⟩,by rw[e];omega,hl⟩
   . intro y k;simp only[bH] at k;obtain⟨n,f,rfl⟩:=k;have:=p n (fQ f);omega
   . rw[e];unfold maxLen at hm;omega
   . by_cases s:len=0
     . left;subst s;simp
     . right;obtain⟨b,off,v⟩:=x;have A:v=none:=by simpa[Addr.add] using World.cell?_spot (hcell 0 (by omega))
       subst A;refine⟨b,off,rfl,λi j=>?_⟩
       rw[e] at j;have g:=hcell i (by omega)
       have m:i<d.length:=by omega
       have t:=p d[i] (eK _);have q:((d.take len).map Int.toNat).getD i 0=d[i].toNat:=by simp[m,j]
       have r:d.getD i 0=d[i]:=by simp[m]
       rw[q,Int.toNat_of_nonneg t.1];rw[r,Addr.add_mid] at g;exact g
theorem mc{H:Type}{enc:TypeId×Value->H}{W:World}{n:Nat}{cs:List Value}{d:DataW H}{p:List MemPlace}
 (i:DataW.trod enc prog W 0 (λ_=>true) true n 29 cs=some (d,p)) (hd:Lit' 29 d):
 ∃(a:Option Addr)(l:List Nat)(cap:Nat),cs=[.slice a l.length cap]/\Bs W a l/\l.length+64<=140737488355328/\l.length<=cap/\l.length<=Rows.uptoBulk d:=by
 rcases open_ints underlying29 underlying5 (by kernel_rfl) i with⟨hcs,_⟩|⟨x,l,c,zs,hcs,_,hl,hm,hz,hx,hcell,hwz⟩
 . exact⟨none,[],0,hcs,Bs.nil W,by decide,ai _,az _⟩
 . simp only[Prod.mk.injEq] at hx;simp only[if_true] at hz;have f:(lits (H:=H) .u8 (zs.take l)).length+(lits (H:=H) .u8 (zs.drop l)).length=c:=by simp[lits];omega
   obtain⟨k,j,g,_,h⟩:=Bg (.inr ⟨_,rfl,hl,hm,hz,hcell,hwz⟩);have q:=qD (lits (H:=H) .u8 (zs.take l));have e:(lits (H:=H) .u8 (zs.take l)).length=l:=by simp[lits];omega
   have m:k.length<=Rows.uptoBulk d:=by
    rw[hx.1];simp only[Rows.uptoBulk];omega
   subst j;refine⟨some x,k,c,hcs,g,?_,h,m⟩;rcases hd with hd|hd
   . have b:=hd (((lits (H:=H) .u8 (zs.take k.length)).length+(lits (H:=H) .u8 (zs.drop k.length)).length)*prog.bytesOf 5) (by rw[hx.1];simp only[DataW.weights,underlying29,cO];exact .inl trivial)
     rw[f,FD] at b;unfold reachBytes at b;omega
   . omega
theorem n64{z:Int}(h:(Lit.int .i64 z).wf=true):N64 z:=by
 have:=bounds_i64 h;exact⟨by omega,by omega⟩
end Go.Proofs.YtbdkogimlbnlmaaGreat
namespace Go.Proofs.YtbdkogimlbnlmaaGreat
open Go.Proofs.Tryz
open Go.RowKit
theorem Vf.box{w d:World}{col col':Nat->Nat}(h:Vf w col d col'){g:Nat}{o:Obj}(b:w.heap[g]?=some o)(f:col g=0):d.heap[g]?=some o:=(h.b.block g (af.1 b).1 (λe=>by omega)).trans b
theorem Hs{P:Q.Po}(h:P.Ok):tot P<=4294967296:=by
 have e:=Gf h;have b:=h.l2;have f:=h.r2;have d:P.rf.toNat<=65536:=by omega
 have:=Nat.mul_le_mul b d;omega
end Go.Proofs.YtbdkogimlbnlmaaGreat
namespace Go.Proofs.YtbdkogimlbnlmaaGreat.Q
open Go.Proofs.Tryz
open Go.RowKit
theorem Cb(w:World)(s:TypeId)(a:Option Addr)(n cap:Nat)(L:List Rn)(r:n=L.length)(d:Vw w a cap L)(h:Option Addr)(m c:Nat)(V:List Rn)(q:m=V.length)(x:Vs w h V)(B:L.length+V.length<=14000000000000):
 ∃f e b,(Builtin.append_ #[169,169] s #[.slice a n cap,.slice h m c]).run prog w=.ok (.slice f (n+m) e) b/\Vw b f e (L++V)/\New w a f/\w.grownBy b (a.map Addr.block):=by
 by_cases i:V=[]
 . subst r q;subst i;obtain⟨C,p,D,v,E⟩:=dr nG
   have t:∀z:Option Addr,(Builtin.firstCells 2 0 (.slice z 0 c)).run prog w=.ok #[] w:=by
    intro z;cases z with
    |none=>rfl
    |some z=>simp[Builtin.firstCells,loadCells,loadCellsFrom]
   refine⟨a,cap,w,?_,by simpa using d,New.refl _ _,⟨rfl,rfl,rfl,ai _,λ_ _ _=>rfl⟩⟩
   rcases d.cases with⟨rfl,rfl,rfl⟩|⟨g,Y,rfl,hg,j,k,l⟩
   . simp[Builtin.append_,dt underlying169,sizeOf,typeInfo,p,v,Builtin.lenOf,t]
   . have A:=d.len.1;simp[Builtin.append_,dt underlying169,sizeOf,typeInfo,p,v,Builtin.lenOf,t,A,storeCells]
 . obtain⟨g,e,b,y,j,k,l⟩:=mw w s a n cap L r d h m c V q x i B;exact⟨_,e,b,y,j,k,l⟩
theorem qE{w:World}{i:Array Oper}{j:List Oper}{o:Oper}{a:Act}{Q:Exit->Act->World->Prop}(E:o.guard=none)(s x:Operand)
 (A:o.op=.call {callee:=.builtin .append,args:=#[s,x],argTypes:=#[169,169]}) (d:Option Addr) (n cap:Nat) (L:List Rn) (C:a.eval s=.slice d n cap) (y:n=L.length) (r:Vw w d cap L)
 (g:Option Addr) (m c:Nat) (V:List Rn) (D:a.eval x=.slice g m c) (v:m=V.length) (t:Vs w g V) (G:L.length+V.length<=14000000000000)
 (h:∀b f e,Vw e b f (L++V)->New w d b->w.grownBy e (d.map Addr.block)->wpList prog i Q j (a.put o.dst (.slice b (n+m) f)) e):wpList prog i Q (o::j) a w:=by
 obtain⟨b,f,e,B,k,l,p⟩:=Cb w o.type d n cap L y r g m c V v t G;refine e7 E λ_ q=>?_
 unfold Oper.wp execOp;simp only[A,resolve,invoke,builtin,dE,dF,bT,cR,bL,dM,C,D,B];exact q _ _ (h b f e k l p)
theorem DH(w:World)(n:Nat)(k:n<=14000000000000):Calls prog 189 #[.slice none 0 0,.int .i64 (n:Int)] w λe b=>∃a c,e=.returned (.slice a 0 c)/\Vw b a c []/\New w none a/\Below w.heap.size w b:=by
 have s:decide ((n:Int)<0)=false:=au (by omega)
 have t:IntKind.i64.wrap (n:Int)=(n:Int):=iT (by omega) (by omega)
 have v:wrap64 (n:Int)=(n:Int):=by unfold wrap64;omega
 by_cases j:n=0
 . subst j;go_enter func189,ntmps189;go_wp2;go_ret;exact⟨none,0,rfl,Vw.nil w,New.none _ _,Below.refl _ _⟩
 . have q:0<(n:Int):=by omega
   have m:0<n:=by omega
   have y:=k;go_enter func189,ntmps189;go_wp2_with (refine zv rfl _ _ rfl none 0 0 (by simp[Act.eval]) n (by simp[Act.eval]) [] rfl (Vs.nil _ _) m (by simp;omega) (by simp;omega) ?_;intro p b f d;have i:=iJ f;have g:=iJ d;clear f d)
   go_ret;refine⟨_,p,rfl,?_,λx l=>.inr (by cases l;exact ai _),g.o⟩
   have r:=i.o;rw[cY] at r;rcases Vw.front (L:=[]) (M:=List.replicate n Rn.zero) (by simpa using r) with h|h
   . exact h
   . cases h
theorem vg{w wx b:World}{a d:Option Addr}(f:New w none a)(hb:Below w.heap.size w wx)(g:New wx a d)(i:wx.grownBy b (a.map Addr.block)):New w none d/\Below w.heap.size w b:=by
 refine⟨f.trans g hb.size,?_⟩
 have j:But (λ_=>False) w b:=(But.ofBelow hb).grown i λk l n=>by
  obtain⟨y,m,e⟩:=map_some l;rcases f y m with⟨z,hz,_⟩|h2
  . cases hz
  . omega
 exact j.below λ_ _ h=>h
def oZ(L M:List Rn):Nat->List Rn
 |0=>[]
 |1=>L
 |_=>L++M
theorem zj(w:World)(g:Nat)(H I:Option Addr)(c1 c2:Nat)(b d:List Rn)(O:w.cell? ⟨g,0,none⟩=some (.slice H b.length c1))(P:w.cell? ⟨g,1,none⟩=some (.slice I d.length c2))(Y:Vs w H b)(Z:Vs w I d)(l1:b.length<=65536)(l2:d.length<=65536):
 Calls prog 173 #[.slice (some ⟨g,0,none⟩) 2 2] w λe w'=>∃a c,e=.returned (.slice a (b++d).length c)/\Vw w' a c (b++d)/\New w none a/\Below w.heap.size w w':=by
 have aa:=iJ Y;have ab:=iJ Z;have L:=iJ (show ∀W,Below w.heap.size w W->W.cell? ⟨g,0,none⟩=some (.slice H b.length c1)/\W.cell? ⟨g,1,none⟩=some (.slice I d.length c2) from λW hb=>⟨(hb.cell (p:=⟨g,0,none⟩) (block_lt_of_cell O)).trans O,(hb.cell (p:=⟨g,1,none⟩) (block_lt_of_cell P)).trans P⟩)
 have v:=iJ (DH w (b.length+d.length) (by omega))
 have e0:((b.length+d.length:Nat):Int)=(b.length:Int)+(d.length:Int):=by omega
 rw[e0] at v;have N:=iJ (show(b++d).length=b.length+d.length from ae)
 rw[N.o];obtain⟨f,J⟩:∃n,b.length=n:=⟨_,rfl⟩;obtain⟨q,K⟩:∃n,d.length=n:=⟨_,rfl⟩;have l:=iJ J;have G:=iJ K;rw[J] at O l1 L v;rw[K] at P l2 L v;rw[J,K];clear Y Z e0 J K;go_enter func173,ntmps173;go_wp2_with fail
 go_loopw [3,11] (λz i wr=>wr=w/\((i=.int .i64 0/\z=.int .i64 0)\/(i=.int .i64 1/\z=.int .i64 (f:Int))\/(i=.int .i64 2/\z=.int .i64 ((f:Int)+(q:Int))))) (λ_ i _=>2-(intOf i).toNat)
 case atStart=>exact⟨rfl,.inl ⟨rfl,rfl⟩⟩
 case round=>
  obtain⟨ac,ad⟩:=hrel;obtain rfl:=ac.symm;rcases ad with⟨rfl,rfl⟩|⟨rfl,rfl⟩|⟨rfl,rfl⟩
  . have s3:decide ((f:Int)<0)=false:=au (by omega)
    go_wp2;go_roundw
    case rel=>exact⟨trivial,.inr (.inl ⟨rfl,rfl⟩)⟩
    case measure=>simp[intOf]
  . have s3:decide ((f:Int)+(q:Int)<0)=false:=au (by omega)
    have s1:IntKind.i64.wrap ((f:Int)+(q:Int))=(f:Int)+(q:Int):=iT (by omega) (by omega)
    have s2:wrap64 ((f:Int)+(q:Int))=(f:Int)+(q:Int):=by unfold wrap64;omega
    go_wp2;go_roundw
    case rel=>exact⟨trivial,.inr (.inr ⟨rfl,rfl⟩)⟩
    case measure=>simp[intOf]
  . go_wp2_with fail
    refine v.o.mono ?_;rintro _ w1 ⟨aG,cG,rfl,A,y,t⟩;have s:=iJ A;have r:=iJ y;have j:=iJ t;clear A y t v;go_wp2_with fail
    go_loopw [6,27] (λz i wr=>∃(k:Nat)(h:Option Addr)(m:Nat),k<=2/\i=.int .i64 (k:Int)/\z=.slice h (oZ b d k).length m/\Vw wr h m (oZ b d k)/\New w none h/\Below w.heap.size w wr) (λ_ i _=>2-(intOf i).toNat)
    case atStart=>exact⟨0,aG,cG,by omega,rfl,rfl,s.o,r.o,j.o⟩
    case round=>
     clear s r j;obtain⟨k,h,m,hk,rfl,rfl,A,y,t⟩:=hrel;obtain⟨d1,d2⟩:=L.o _ t;have s:=iJ A;have r:=iJ y;have j:=iJ t;clear A y t;rcases (show k=0\/k=1\/k=2 by omega) with rfl|rfl|rfl
     . have V:=iJ (aa.o.keep j.o);show Code.wp _ _ _ _ _;go_wp2_with (refine qE rfl _ _ rfl h 0 m [] (by simp[Act.eval,oZ]) rfl s.o H f c1 b (by simp[Act.eval]) l.o.symm V.o (by rw[l.o];simp;omega) ?_;intro U X w2 B C D;have M:=iJ B;have R2:=iJ C;have R3:=iJ D;clear B C D)
       go_roundw
       case rel=>
        obtain⟨R,S⟩:=vg r.o j.o R2.o R3.o;exact⟨1,U,X,by omega,rfl,by rw[show oZ b d 1=b from rfl,l.o],by simpa[oZ] using M.o,R,S⟩
       case measure=>simp[intOf]
     . have V:=iJ (ab.o.keep j.o);have E:Vw wr h m b:=s.o;have x:(oZ b d 1).length=f:=l.o;rw[x];have T:=iJ E;clear E x;go_wp2_with (refine qE rfl _ _ rfl h f m b (by simp[Act.eval]) l.o.symm T.o I q c2 d (by simp[Act.eval]) G.o.symm V.o (by rw[l.o,G.o];omega) ?_;intro U X w2 B C D;have M:=iJ B;have R2:=iJ C;have R3:=iJ D;clear B C D)
       go_roundw
       case rel=>
        obtain⟨R,S⟩:=vg r.o j.o R2.o R3.o;exact⟨2,U,X,by omega,rfl,by rw[show oZ b d 2=b++d from rfl,N.o,l.o,G.o],M.o,R,S⟩
       case measure=>simp[intOf]
     . have E:Vw wr h m (b++d):=s.o;have x:(oZ b d 2).length=f+q:=by rw[show oZ b d 2=b++d from rfl,N.o,l.o,G.o]
       rw[x];have T:=iJ E;clear E x;go_wp2;go_ret;exact⟨h,m,rfl,T.o,r.o,j.o⟩
end Go.Proofs.YtbdkogimlbnlmaaGreat.Q
namespace Go.Proofs.YtbdkogimlbnlmaaGreat.Q
open Go.Proofs.Tryz
open Go.RowKit Go.Shelf
attribute [local go_sem] Oper.semAt_some
variable {L:List Pg}{b i s:Nat}{col:Nat->Nat}{D:Pd}{P:Po}{w w':World}
def las(x:Pg):Pg:=(x.1,decide (0<x.1))
def sel(L:List Pg)(p:Int->Bool):List Pg:=(List.range L.length).map λ(i:Nat)=>if p (((i:Nat):Int)+1) then las (L.getD i Pg.zero) else L.getD i Pg.zero
theorem jn(L:List Pg)(p:Int->Bool):(sel L p).length=L.length:=by simp[sel]
theorem kJ(L:List Pg)(p:Int->Bool)(h:i<L.length):(sel L p).getD i Pg.zero=if p ((i:Int)+1) then las (L.getD i Pg.zero) else L.getD i Pg.zero:=by
 unfold sel;simp[h]
theorem oB{M:List Pg}(f:L.length=M.length)(h:∀i,i<L.length->L.getD i Pg.zero=M.getD i Pg.zero):L=M:=by
 refine List.ext_getElem f λi d e=>?_
 have:=h i d;simpa[d,e] using this
theorem B9(L:List Pg):sel L (λ_=>false)=L:=oB (jn _ _) λi d=>by
 rw[jn] at d;rw[kJ L _ d];rfl
theorem Cx(L:List Pg)(i j:Nat)(x:Pg)(d:j<L.length):(L.set i x).getD j Pg.zero=if i=j then x else L.getD j Pg.zero:=by
 by_cases h:i=j
 . subst h;rw[if_pos rfl,aq,eb d];rfl
 . rw[if_neg h,aq,bQ h,<-aq]
theorem Fp{p:Int->Bool}(h:i<L.length)(f:p ((i:Int)+1)=false):(sel L p).set i (las (L.getD i Pg.zero))=sel L (λz=>p z||decide (z=(i:Int)+1)):=by
 refine oB (by rw[aM,jn,jn]) λj d=>?_
 rw[aM,jn] at d;rw[Cx _ _ _ _ (by rw[jn];exact d),kJ L _ d,kJ L _ d]
 by_cases e:i=j
 . subst e;rw[if_pos rfl];simp
 . rw[if_neg e];have:decide ((j:Int)+1=(i:Int)+1)=false:=au (by omega)
   rw[this,fD]
theorem pO{p q:Int->Bool}(h:∀i,i<L.length->p ((i:Int)+1)=q ((i:Int)+1)):sel L p=sel L q:=oB (by rw[jn,jn]) λi d=>by
 rw[jn] at d;rw[kJ L _ d,kJ L _ d,h i d]
def Po.setl(P:Po)(f:Nat):Po:={P with pg:=sel P.pg (inS P.pg f)}
theorem ms(h:i<L.length):inS L s ((i:Int)+1)=decide (stt (L.getD i Pg.zero)=s):=by
 have:=rQ (P:=L) (n:=i+1) (s:=s) (by omega) (by omega)
 rw[show(((i+1:Nat)):Int)=(i:Int)+1 by omega] at this
 exact this
theorem D9{f t:Nat}(m:f≠t)(h:∀x∈L,stt x=f->stt (las x)=t)(s:Nat)(z:Int):inS (sel L (inS L f)) s z=if s=t then (inS L t z||inS L f z) else if s=f then false else inS L s z:=by
 by_cases l:1<=z/\z<=L.length
 . obtain⟨i,rfl⟩:∃i:Nat,z=(i:Int)+1:=⟨(z-1).toNat,by omega⟩
   have d:i<L.length:=by omega
   rw[ms (by rw[jn];exact d),kJ L _ d,ms d,ms d,ms d]
   by_cases e:stt (L.getD i Pg.zero)=f
   . rw[ax e,if_pos rfl,h _ (kB d) e];by_cases st:s=t
     . subst st;simp
     . rw[if_neg st,au (λe=>st e.symm),e]
       by_cases g:s=f
       . rw[if_pos g]
       . rw[if_neg g,au (λe=>g e.symm)]
   . rw[au e,if_neg (by decide)]
     by_cases st:s=t
     . subst st;simp
     . rw[if_neg st];by_cases g:s=f
       . subst g;rw[if_pos rfl,au e]
       . rw[if_neg g]
 . have e:∀(M:List Pg)(q:Nat),M.length=L.length->inS M q z=false:=λM q k=>by
    unfold inS;by_cases j:1<=z
    . rw[au (show ¬z<=(M.length:Int) by omega)];simp
    . rw[au j];simp
   rw[e _ s (jn _ _),e L t rfl,e L f rfl,e L s rfl];simp
theorem Pq.repage(h:Pq w b P D col)(d:List Pg)(p:d.length=P.pg.length)(m:w'.heap[D.g]?=some (.cells (pgc d).toArray 133 (0,0)))(hb:But (λk=>k=D.g) w w'):Pq w' b {P with pg:=d} D col:=by
 have ne:∀{k:Nat},col k≠2->¬(k=D.g):=λl e=>l (by rw[e];exact h.cg)
 have lb:=hb.same h.box (ne (by rw[h.cb];decide))
 refine⟨?_,m,λs f=>(h.set s f).but hb (ne (by rw[h.cs s f];omega)) (λy g=>ne (by rw[h.ca s f y g];omega)),h.acr.but hb (λy g=>ne (by rw[h.cc y g];decide)),h.acl,λq j=>?_,h.cb,h.cg,h.cs,h.ca,h.cc,h.cB,λk n=>be (h.lt k n) hb.size⟩
 . rw[lb];show some (Obj.cells (kL P D) _ _)=some (Obj.cells (kL {P with pg:=d} D) _ _);unfold kL;rw[p]
 . obtain⟨c1,c2,c3⟩:=h.cB _ (kR j).1;exact(h.acb q j).but hb (ne (by rw[c1];decide)) (ne (by rw[c2];decide)) (ne (by rw[c3];decide))
theorem Pq.newSet{W:World}(h:Pq w b P D col)(I:s<5)(C:Below w.heap.size w W){g:Nat}{r:Option Addr}{B:Nat}{R:List Rn}(j:Nw W w' g r B R):
 Pq (w'.setCell ⟨b,2+s,none⟩ (.pointer (some ⟨g,0,none⟩))) b P {D with s:=upd D.s s g,a:=upd D.a s r,c:=upd D.c s B,L:=upd D.L s R} (recol col w w' (3+s))/\Fr w col (w'.setCell ⟨b,2+s,none⟩ (.pointer (some ⟨g,0,none⟩))) (recol col w w' (3+s)):=by
 have A:Below w.heap.size w w':=bt C j.w;have m:∀{k:Nat},col k≠0->recol col w w' (3+s) k=col k:=λl=>jP (h.lt _ l)
 have n:But (λk=>k=b) w (w'.setCell ⟨b,2+s,none⟩ (.pointer (some ⟨g,0,none⟩))):=(But.ofBelow (S:=λk=>k=b) A).setCell (p:=⟨b,2+s,none⟩) (λ_=>rfl) _
 have G:But (λk=>k=b) w' (w'.setCell ⟨b,2+s,none⟩ (.pointer (some ⟨g,0,none⟩))):=(But.refl (λk=>k=b) _).setCell (p:=⟨b,2+s,none⟩) (λ_=>rfl) _
 have v:=C.size;have lb:=h.lb;have nb:∀k,w.heap.size<=k->k≠b:=λk l e=>by omega
 have ne:∀{k:Nat},col k≠1->¬(k=b):=λH e=>H (by rw[e];exact h.cb)
 have K:w'.heap[b]?=_:=(A.block b lb).trans h.box;refine⟨⟨?_,n.same h.pgs (ne (by rw[h.cg];decide)),λt f=>?_,h.acr.but n (λy J=>ne (by rw[h.cc y J];decide)),h.acl,λq E=>?_,(m (by rw[h.cb];decide)).trans h.cb,(m (by rw[h.cg];decide)).trans h.cg,λt f=>?_,λt f x d=>?_,λx d=>(m (by rw[h.cc x d];decide)).trans (h.cc x d),λt f=>?_,λk l=>?_⟩,⟨n.mono λk _ l=>by rw[l,h.cb];decide,λk l=>jP l⟩⟩
 . rw[aY _ _ _ _ _ _ K];rcases lt5 I with rfl|rfl|rfl|rfl|rfl<;>rfl
 . show St _ (upd D.s s g t) (upd D.a s r t) (upd D.c s B t) (upd D.L s R t);by_cases e:t=s
   . subst e;rw[ji,ji,ji,ji];exact j.st.but G (nb _ (aO v j.b)) (λx d=>nb _ (aO v (j.a x d)))
   . rw[jt _ _ e,jt _ _ e,jt _ _ e,jt _ _ e];exact(h.set t f).but n (ne (by rw[h.cs t f];omega)) (λx d=>ne (by rw[h.ca t f x d];omega))
 . obtain⟨c1,c2,c3⟩:=h.cB _ (kR E).1;exact(h.acb q E).but n (ne (by rw[c1];decide)) (ne (by rw[c2];decide)) (ne (by rw[c3];decide))
 . show recol col w w' (3+s) (upd D.s s g t)=3+t;by_cases e:t=s
   . subst e;rw[ji];exact kW (aO v j.b) j.st.lt
   . rw[jt _ _ e,m (by rw[h.cs t f];omega)];exact h.cs t f
 . have d:upd D.a s r t=some x:=d;by_cases e:t=s
   . subst e;rw[ji] at d;exact kW (aO v (j.a x d)) (j.st.row.lt d)
   . rw[jt _ _ e] at d;rw[m (by rw[h.ca t f x d];omega)];exact h.ca t f x d
 . obtain⟨c1,c2,c3⟩:=h.cB t f;exact⟨(m (by rw[c1];decide)).trans c1,(m (by rw[c2];decide)).trans c2,(m (by rw[c3];decide)).trans c3⟩
 . exact be (oY A.size l) G.size
end Go.Proofs.YtbdkogimlbnlmaaGreat.Q
