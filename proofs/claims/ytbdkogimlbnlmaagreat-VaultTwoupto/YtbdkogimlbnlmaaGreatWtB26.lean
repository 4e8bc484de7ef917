import Derived.Test.YtbdkogimlbnlmaaGreatWtB25
set_option linter.unusedVariables false
set_option linter.unusedSimpArgs false
namespace Go.Proofs.YtbdkogimlbnlmaaGreat
open Go.RowKit
variable {M N j k:Nat}{P:Q.Po}{D D' D2:Rd}{s:Sn}{X Y:Vm}{S:Vs}
structure Gr(X X':Vm)(k:Nat):Prop where
 m:X'.P.mark+tot X'.P<=X.P.mark+tot X.P+k
 c:X'.ch.length+tot X'.P<=X.ch.length+tot X.P+k
theorem Gr.trans{Z:Vm}(h:Gr X Y j)(g:Gr Y Z k):Gr X Z (j+k):=⟨by have:=h.m;have:=g.m;omega,by have:=h.c;have:=g.c;omega⟩
theorem Gr.le(h:Gr X Y j)(hk:j<=k):Gr X Y k:=⟨by have:=h.m;omega,by have:=h.c;omega⟩
theorem incT(P:Q.Po)(hok:P.Ok)(z:Int):tot (P.inc z).2<=tot P+1:=by
 unfold Q.Po.inc;split
 . exact eb _
 . split
   . exact eb _
   . rename_i h0 h1;obtain⟨j1,j2⟩:=Q.Po.count_has h0;have hi:z.toNat-1<P.pg.length:=by omega
     have k:=lh (λx:Q.Pg=>x.1.toNat) Q.Pg.zero (P.count z+1,(P.at z.toNat).2) P.pg (z.toNat-1) hi
     have e1:tot (P.act z.toNat (P.count z+1))=((P.pg.set (z.toNat-1) (P.count z+1,(P.at z.toNat).2)).map λx=>x.1.toNat).sum:=rfl
     have e2:tot P=(P.pg.map λx=>x.1.toNat).sum:=rfl
     have e3:P.count z=(P.pg.getD (z.toNat-1) Q.Pg.zero).1:=by
      unfold Q.Po.count;rw[if_pos (by unfold Q.Po.has;simp;omega)]
      rw[show(z-1).toNat=z.toNat-1 by omega]
     have h2:=(jH hok z).1;have e4:((P.count z+1,(P.at z.toNat).2):Q.Pg).1.toNat=(P.count z).toNat+1:=by show(P.count z+1).toNat=_;omega
     rw[<-e3] at k;show tot (P.act z.toNat (P.count z+1))<=_;rw[e1,e2];simp only[] at k e4;omega
theorem Fz(hok:P.Ok)(z:Int):(P.inc z).2.Ok:=by
 have hc:=jH hok z;unfold Q.Po.inc;split
 . exact hok
 . rename_i h0;split
   . exact hok
   . rename_i h1;obtain⟨j1,j2⟩:=Q.Po.count_has h0;exact hok.act (n:=z.toNat) (by omega) (by omega) ⟨by omega,by omega⟩
theorem Fy(hok:P.Ok)(z:Int):(P.dec z).2.Ok:=by
 have hc:=jH hok z;unfold Q.Po.dec;split
 . exact hok
 . rename_i h0;obtain⟨k1,k2⟩:=Q.Po.count_has h0;exact hok.act (n:=z.toNat) (by omega) (by omega) ⟨by omega,by omega⟩
theorem vK:∀(L:List Int)(P:Q.Po),P.Ok->(incAll P L).2.mark+tot (incAll P L).2<=P.mark+tot P+2*L.length/\tot (incAll P L).2<=tot P+L.length
 | [],P,h=>⟨ai _,ai _⟩
 |z::L,P,h=>by
  have a1:=qa P z;have a2:=incT P h z;unfold incAll;rw[bg];split
  . obtain⟨b1,b2⟩:=vK L (P.inc z).2 (Fz h z);exact⟨by omega,by omega⟩
  . exact⟨by omega,by omega⟩
theorem Gr.more(h:X.P.Ok)(L:List Int):Gr X (X.more L).2 (2*L.length):=by
 obtain⟨a,b⟩:=vK L X.P h;exact⟨a,by show X.ch.length+tot (incAll X.P L).2<=_;omega⟩
theorem Gr.less(h:X.P.Ok)(z:Int):Gr X (X.less z) 0:=by
 by_cases h0:X.P.count z=0
 . have e1:(X.P.dec z).2=X.P:=by unfold Q.Po.dec;rw[if_pos h0]
   have e2:X.less z=X:=by
    unfold Vm.less;rw[if_neg (λe=>by have:=e.1;rw[kh,if_pos h0] at this;exact absurd (show(15:Int)=0 from this) (by decide)),e1]
   rw[e2];exact⟨ai _,ai _⟩
 . obtain⟨d,_⟩:=Dp.less h h0;exact⟨d.m,d.c⟩
theorem Gr.left(h:X.P.Ok)(z:Int)(hk:(X.on z).pg.kids.length<=8):Gr X (X.left z).2 16:=by
 have h1:=Gr.less h z;unfold Vm.left;split
 . exact(h1.trans (Gr.more (by rw[Vm.less_P];exact Fy h z) _)).le (by omega)
 . exact h1.le (by omega)
theorem Gr.lay(X:Vm)(n:Int)(p:Pv):Gr X (X.lay n p) 1:=⟨by show X.P.mark+tot X.P<=_;omega,by show(X.ch++[_]).length+tot X.P<=_;rw[ae];show X.ch.length+1+tot X.P<=_;omega⟩
theorem Fq(h0:P.alloc.1.2=0):tot P.alloc.2<=tot P+1/\P.alloc.2.mark=P.mark+1:=by
 obtain⟨i,i1,i2,i3,i4,i5⟩:=oG h0;constructor
 . have k:=lh (λx:Q.Pg=>x.1.toNat) Q.Pg.zero (1,(P.pg.getD i Q.Pg.zero).2) P.pg i i1
   have e:tot P.alloc.2=((P.pg.set i (1,(P.pg.getD i Q.Pg.zero).2)).map λx=>x.1.toNat).sum:=by unfold tot;rw[i4]
   have e2:tot P=(P.pg.map λx=>x.1.toNat).sum:=rfl
   rw[e,e2];have e3:((1:Int),(P.pg.getD i Q.Pg.zero).2).1.toNat=1:=rfl;simp only[] at k e3 ⊢;omega
 . unfold Q.Po.alloc at h0 ⊢;split at h0
   . cases h0
   . simp[Q.Po.act,Q.Po.mark];omega
theorem Gr.alloc(h0:X.P.alloc.1.2=0):Gr X ⟨X.P.alloc.2,X.f,X.ch⟩ 2:=by
 obtain⟨a,b⟩:=Fq h0;exact⟨by show X.P.alloc.2.mark+tot X.P.alloc.2<=_;omega,by show X.ch.length+tot X.P.alloc.2<=_;omega⟩
structure R3(X:Vm)(D:Rd)(M:Nat):Prop where
 r:R2 X D
 ck:Ckd D
 fi:mc X.f
 sm:SmV X
 m:X.P.mark+tot X.P<=M
 c:X.ch.length+tot X.P<=M
theorem R3.le(h:R3 X D M)(hn:M<=N):R3 X D N:=⟨h.r,h.ck,h.fi,h.sm,aO h.m hn,aO h.c hn⟩
theorem R3.al(h:R3 X D M)(hr:D'.R=D.R)(hc:D'.C=D.C)(hl:D'.L=D.L)(hp:D'.P=D.P):R3 X D' M:=by
 have eo:∀z,D'.on z=D.on z:=λz=>by unfold Rd.on;rw[hp]
 have es:∀z,D'.state z=D.state z:=λz=>by unfold Rd.state Rd.has Rd.lasts;rw[hc,hl]
 have ec:∀z,D'.count z=D.count z:=λz=>by unfold Rd.count Rd.has;rw[hc]
 have eg:D'.pg=D.pg:=by unfold Rd.pg;rw[hc,hl]
 refine⟨⟨⟨by rw[eg];exact h.r.rel.pg,by rw[hr];exact h.r.rel.rf,λz hz=>by rw[eo];exact h.r.rel.on z hz,by rw[hl,hc];exact h.r.rel.nL,by rw[hp,hc];exact h.r.rel.nP,h.r.rel.ok⟩,λz hz=>?_,λz hz=>?_⟩,λz hz=>?_,h.fi,h.sm,h.m,h.c⟩
 . rw[es] at hz;rw[eo];exact h.r.pd z hz
 . rw[es] at hz;exact h.r.fr z hz
 . rw[ec] at hz;rw[eo];exact h.ck z hz
theorem R3.gr{X':Vm}(h:R3 X D M)(hv:Ve X X')(hg:Gr X X' k)(hr:R2 X' D')(hc:Ckd D')(hs:SmV X'):R3 X' D' (M+k):=⟨hr,hc,hv.fine h.fi,hs,by have:=hg.m;have:=h.m;omega,by have:=hg.c;have:=h.c;omega⟩
theorem Dz{p:Pv}(h:p.pg.check=0):p.pg.kids.length<=8:=ru (.inl h)
theorem R3.kids(h:R3 X D M)(z:Int)(hz:D.count z≠0):(X.on z).pg.kids.length<=8:=by
 rw[h.r.rel.on z (by rw[h.r.rel.count];exact hz)]
 exact Dz (h.ck z hz)
def Rd.was(D:Rd)(s:Sn):Rd:={D with C:=s.C,P:=s.P}
structure Tw(S:Vs)(D:Rd)(H:List Sn)(M:Nat):Prop where
 now:R3 S.X D M
 fl:(S.fl:Int)=D.fl
 ln:S.al.length=H.length
 a:S.fl+S.al.length<=M
 hh:D.hush=false
 ys:∃Ys:List Vm,(Ys++[S.X]).Pairwise Ve/\Ys.length=H.length/\∀(t:Nat)(Y:Vm)(s:Sn),Ys[t]?=some Y->H[t]?=some s->R3 Y (D.was s) M/\S.al[t]?=some (Y.P.mark,Y.ch.length)
theorem Tw.same{H:List Sn}(h:Tw S D H M)(ha:D'.Al D)(hN:M<=N):Tw S D' H N:=by
 obtain⟨Ys,p,l,q⟩:=h.ys;refine⟨(h.now.al ha.r ha.c ha.l ha.p).le hN,by rw[ha.f];exact h.fl,h.ln,aO h.a hN,by rw[ha.h];exact h.hh,Ys,p,l,λt Y s hY hs=>?_⟩
 obtain⟨a1,a2⟩:=q t Y s hY hs;exact⟨(a1.al (D':=D'.was s) ha.r rfl ha.l rfl).le hN,a2⟩
theorem Tw.act{H:List Sn}(h:Tw S D H M)(hN:M+1<=N)(hv:Ve S.X X)(hr:R3 X D' N)(hL:D'.L=D.L)(hR:D'.R=D.R)(hf:D'.fl=D.fl)(hh:D'.hush=D.hush)(sC:s.C=D.C)(sP:s.P=D.P):Tw ⟨X,S.al++[(S.X.P.mark,S.X.ch.length)],S.fl⟩ D' (H++[s]) N:=by
 obtain⟨Ys,p,l,q⟩:=h.ys;refine⟨hr,h.fl.trans hf.symm,?_,?_,hh.trans h.hh,Ys++[S.X],?_,?_,λt Y u hY hu=>?_⟩
 . show(S.al++[_]).length=(H++[s]).length;rw[ae,ae,h.ln];rfl
 . show S.fl+(S.al++[_]).length<=N;have:=h.a;rw[ae];show S.fl+(S.al.length+1)<=N;omega
 . refine dh.2 ⟨p,dF _ _,λa ha b hb=>?_⟩
   rw[aQ.1 hb];rcases bm.1 ha with ha|ha
   . exact((dh.1 p).2.2 a ha S.X (aQ.2 rfl)).trans hv
   . rw[aQ.1 ha];exact hv
 . rw[ae,ae,l];rfl
 . rcases Nat.lt_or_ge t Ys.length with ht|ht
   . rw[br ht] at hY;rw[br (by omega)] at hu
     obtain⟨a1,a2⟩:=q t Y u hY hu;refine⟨(a1.al (D':=D'.was u) hR rfl hL rfl).le (by omega),?_⟩
     show(S.al++[_])[t]?=_;rw[br (by rw[h.ln];omega)]
     exact a2
   . have hlt:=(bz.1 hY).1;rw[ae] at hlt;have hlt:t<Ys.length+1:=hlt;obtain rfl:t=Ys.length:=by omega
     rw[bj (ai _),dv] at hY;rw[l,bj (ai _),dv] at hu;have hY:some S.X=some Y:=hY;have hu:some s=some u:=hu;cases hY;cases hu;refine⟨(h.now.al (D':=D'.was s) hR sC hL sP).le (by omega),?_⟩
     show(S.al++[_])[Ys.length]?=_;rw[l,<-h.ln,bj (ai _),dv];rfl
theorem Tw.undo{H:List Sn}(h:Tw S D H M){t:Nat}(hs:H[t]?=some s)(ha:D'.Al {D with C:=s.C,P:=s.P}):∃k m,S.al.getD t (0,0)=(k,m)/\m<=S.X.ch.length/\Tw ⟨S.X.back k m,S.al.take t,S.fl⟩ D' (H.take t) M:=by
 obtain⟨Ys,p,l,q⟩:=h.ys;have ht:=(bz.1 hs).1;obtain⟨Y,hY⟩:∃Y,Ys[t]?=some Y:=⟨_,aU (by omega)⟩
 obtain⟨a1,a2⟩:=q t Y s hY hs;have hm:Y∈Ys:=co hY;have hv:Ve Y S.X:=(dh.1 p).2.2 Y hm S.X (aQ.2 rfl);refine⟨Y.P.mark,Y.ch.length,by rw[aq,a2];rfl,hv.ch,?_⟩
 rw[hv.back a1.fi];refine⟨a1.al ha.r ha.c ha.l ha.p,by rw[ha.f];exact h.fl,?_,?_,by rw[ha.h];exact h.hh,Ys.take t,?_,?_,λj Z u hZ hu=>?_⟩
 . show(S.al.take t).length=_;rw[bi,bi,h.ln]
 . show S.fl+(S.al.take t).length<=M;have:=h.a;rw[bi];omega
 . have e:Ys.take t++[Y]=Ys.take (t+1):=by rw[gF,hY];rfl
   rw[e];exact p.sublist ((List.take_sublist _ _).trans (List.sublist_append_left _ _))
 . rw[bi,bi,l]
 . rw[cw] at hZ hu;split at hZ
   . rename_i hj;rw[if_pos hj] at hu;obtain⟨b1,b2⟩:=q j Z u hZ hu;refine⟨b1.al (D':=D'.was u) ha.r rfl ha.l rfl,?_⟩;show(S.al.take t)[j]?=_;rw[cw,if_pos hj];exact b2
   . cases hZ
theorem Tw.settle{D1:Rd}{H:List Sn}(h:Tw S D H M)(hs:D.Set D1 D.C.length)(ha:D'.Al {D1 with fl:=D.fl+(H.length:Int)}):Tw S.settle D' [] M:=by
 have hm:=h.now.m;have hc:=h.now.c
 have h6:tot S.X.P.settle=tot S.X.P:=by
  show((S.X.P.pg.map (λx=>(x.1,decide (0<x.1)))).map λx:Q.Pg=>x.1.toNat).sum=(S.X.P.pg.map λx=>x.1.toNat).sum
  rw[List.map_map];rfl
 have hR1:R3 S.settle.X D1 M:=by
  refine⟨h.now.r.settle hs,h.now.ck.settle hs,λk p e=>?_,λz=>?_,?_,?_⟩
  . have e:jM S.X.f (S.X.P.pages 2) k=some p:=e;unfold jM at e;split at e
    . cases e
    . exact h.now.fi k p e
  . show Smi ((jM S.X.f (S.X.P.pages 2) z).getD Pv.zero);unfold jM;split
    . exact o9
    . exact h.now.sm z
  . show(S.X.P.mark+0)+tot S.X.P.settle<=M;omega
  . show 0+tot S.X.P.settle<=M;omega
 refine⟨hR1.al ha.r ha.c ha.l ha.p,?_,rfl,?_,?_,[],dF _ _,rfl,λt Y s hY _=>by cases hY⟩
 . rw[ha.f];show((S.fl+S.al.length:Nat):Int)=D.fl+(H.length:Int);rw[<-h.fl,h.ln];omega
 . show S.fl+S.al.length+0<=M;exact h.a
 . rw[ha.h];show D1.hush=false;rw[hs.e];exact h.hh
structure Sld(D2 D:Rd):Prop where
 l:D2.L=D.L
 r:D2.R=D.R
 f:D2.fl=D.fl
 h:D2.hush=D.hush
theorem Sld.of(h:D2.Sm D):Sld D2 D:=⟨h.l,h.r,h.f,h.h⟩
theorem Sld.refl(D:Rd):Sld D D:=⟨rfl,rfl,rfl,rfl⟩
theorem Tw.end_{H H':List Sn}(h:Tw S D H M){e:Int}(hv:Ve S.X X)(hr:e=0->R3 X D2 (M+20))(hS:e=0->Sld D2 D)(hn:e≠0->D2=D)(ha:D'.Al D2)(dn:Dn D H e H'):Tw (S.done e X) D' H' (M+20):=by
 rcases dn with⟨e0,s,sC,sP,rfl⟩|⟨e0,rfl⟩
 . have k:=hS e0;have g:=(hr e0).al ha.r ha.c ha.l ha.p;unfold Vs.done;rw[if_pos e0];exact h.act (by omega) hv g (ha.l.trans k.l) (ha.r.trans k.r) (ha.f.trans k.f) (ha.h.trans k.h) sC sP
 . rw[Vs.done_no e0 hv h.now.fi];rw[hn e0] at ha;exact h.same ha (by omega)
theorem Tw.keep{H:List Sn}(h:Tw S D H M)(z:Int):(S.X.P.inc z).1=(D.inc z).1/\∀D' H',D'.Al (D.inc z).2->Dn D H (D.inc z).1 H'->Tw (S.done (S.X.P.inc z).1 ⟨(S.X.P.inc z).2,S.X.f,S.X.ch⟩) D' H' (M+20):=by
 obtain⟨e1,e2,e3⟩:=h.now.r.rel.inc z;refine⟨e1,λD' H' ha dn=>?_⟩
 have hg:Gr S.X ⟨(S.X.P.inc z).2,S.X.f,S.X.ch⟩ 2:=by
  have a1:=qa S.X.P z;have a2:=incT S.X.P h.now.r.rel.ok z;exact⟨by show(S.X.P.inc z).2.mark+tot (S.X.P.inc z).2<=_;omega,by show S.X.ch.length+tot (S.X.P.inc z).2<=_;omega⟩
 have hv:Ve S.X ⟨(S.X.P.inc z).2,S.X.f,S.X.ch⟩:=Ve.pool (Pe.inc S.X.P z);exact h.end_ hv (λe=>(h.now.gr hv hg (h.now.r.inc z e) (h.now.ck.inc z) h.now.sm).le (by omega)) (λ_=>Sld.of (Rd.inc_sm D z)) (λe=>e3 e) ha (by rw[e1];exact dn)
theorem Tw.make{H:List Sn}(h:Tw S D H M)(p:Pg):S.makeR p=D.makeR p/\∀q q' D' H',q.pg=p->q'.pg=p->D'.Al (D.makeD p q')->Dn D H (D.makeR p).2 H'->Tw (S.makeS p q) D' H' (M+20):=by
 have e0:=h.now.r.rel.makeR p;refine⟨e0,λq q' D' H' hq hq' ha dn=>?_⟩
 by_cases hp:p.check=0
 . have hk:p.kind≠0:=λe=>by
    have k:p.kindOk=false:=by unfold Pg.kindOk;rw[e];rfl
    unfold Pg.check at hp;rw[if_pos k] at hp;exact absurd hp (by decide)
   have er:(D.makeR p).2=S.X.P.alloc.1.2:=by rw[<-e0];unfold Vs.makeR;rw[if_pos hp]
   rw[er] at dn;unfold Vs.makeS;rw[if_pos hp];by_cases h0:S.X.P.alloc.1.2=0
   . have hlow:iy D.pg≠0:=λe=>by
      rw[h.now.r.rel.low,if_pos e] at h0;exact absurd h0 (by decide)
     obtain⟨i,i1,i2,i3⟩:=mi hlow;rw[Rd.pg_len h.now.r.rel.nL] at i1;have hn:D.has (iy D.pg)=true:=Rd.has_iff.2 ⟨by omega,by omega⟩
     have eD:D.makeD p q'={D with C:=D.C.set (iy D.pg-1).toNat 1,P:=D.P.set (iy D.pg-1).toNat q'}:=by unfold Rd.makeD;rw[if_pos ⟨hp,hlow⟩]
     have r2:=h.now.r.make (S:=S) hq hq' hk (by unfold Vs.makeR;rw[if_pos hp];exact h0) hp
     have eX:(S.makeS p q).X=S.X.allocd.lay S.X.P.alloc.1.1 q:=by
      unfold Vs.makeS;rw[if_pos hp,h0,if_pos rfl];unfold Vs.done;rw[if_pos rfl]
     rw[eX] at r2;rw[if_pos h0];have hv:Ve S.X (S.X.allocd.lay S.X.P.alloc.1.1 q):=(Ve.pool (Pe.alloc S.X.P)).trans (Ve.lay _ _ _);have hg:Gr S.X (S.X.allocd.lay S.X.P.alloc.1.1 q) (2+1):=(Gr.alloc h0).trans (Gr.lay _ _ _);refine h.end_ hv (λe=>(h.now.gr hv hg r2 ?_ ?_).le (by omega)) (λ_=>?_) (λe=>absurd h0 e) ha dn
     . rw[eD];exact h.now.ck.lay hn h.now.r.rel.nP 1 (by rw[hq'];exact hp)
     . exact SmV.lay (X:=S.X.allocd) h.now.sm _ (jY (.inl (by rw[hq];exact hp)))
     . rw[eD];exact⟨rfl,rfl,rfl,rfl⟩
   . have hlow:iy D.pg=0:=by
      by_cases e:iy D.pg=0
      . exact e
      . rw[h.now.r.rel.low,if_neg e] at h0;exact absurd rfl h0
     have eD:D.makeD p q'=D:=by unfold Rd.makeD;rw[if_neg (λk=>k.2 hlow)]
     rw[if_neg h0];exact h.end_ (Ve.pool (Pe.alloc S.X.P)) (λe=>absurd e h0) (λe=>absurd e h0) (λ_=>eD) ha dn
 . have eD:D.makeD p q'=D:=by unfold Rd.makeD;rw[if_neg (λk=>hp k.1)]
   have er:(D.makeR p).2=(p.check:Int):=by unfold Rd.makeR;rw[if_neg hp]
   unfold Vs.makeS;rw[if_neg hp];rw[eD] at ha;rw[er] at dn;rcases dn with⟨e,_⟩|⟨_,rfl⟩
   . exact absurd (by exact_mod_cast e) hp
   . exact h.same ha (by omega)
theorem Tw.own{H:List Sn}(h:Tw S D H M)(z:Int):(decide (S.X.P.state z=3)&&decide (S.X.P.count z=1))=D.own z:=by
 unfold Rd.own;rw[h.now.r.rel.state2,h.now.r.rel.count]
theorem Tw.write{H:List Sn}(h:Tw S D H M)(z:Int)(p:Pg):S.writeE z p=D.writeR z p/\∀q q' D' H',q.pg=p->q'.pg=p->D'.Al (D.writeD z p q')->Dn D H (D.writeR z p) H'->Tw (if S.writeE z p=0 then S.done 0 (S.X.lay z q) else S) D' H' (M+20):=by
 have e0:S.writeE z p=D.writeR z p:=by
  unfold Vs.writeE Rd.writeR;rw[h.own z]
 refine⟨e0,λq q' D' H' hq hq' ha dn=>?_⟩
 rw[e0];by_cases hz:D.writeR z p=0
 . rw[if_pos hz]
   have ho:D.own z=true:=by
    cases e:D.own z with
    |true=>rfl
    |false=>unfold Rd.writeR at hz;rw[e] at hz;exact absurd (show(15:Int)=0 from hz) (by decide)
   have hp:p.check=0:=by
    unfold Rd.writeR at hz;rw[if_pos ho] at hz;exact_mod_cast hz
   have hk:p.kind≠0:=λe=>by
    have k:p.kindOk=false:=by unfold Pg.kindOk;rw[e];rfl
    unfold Pg.check at hp;rw[if_pos k] at hp;exact absurd hp (by decide)
   have eD:D.writeD z p q'={D with P:=D.P.set (z-1).toNat q'}:=by unfold Rd.writeD;rw[if_pos ⟨ho,hp⟩]
   have ho2:=ho;unfold Rd.own at ho2;rw[bQ,bM,bM] at ho2;have hn:=Rd.state_has (D:=D) (z:=z) (by rw[ho2.1];decide)
   obtain⟨z1,z2⟩:=Rd.has_iff.1 hn;have hl:(z-1).toNat<D.P.length:=by rw[h.now.r.rel.nP];omega
   have hv:Ve S.X (S.X.lay z q):=Ve.lay _ _ _;have r2:=h.now.r.write ho (q:=q) (q':=q') (hq.trans hq'.symm) (λe=>hk (by rw[<-hq];exact e))
   rw[hz] at dn;refine h.end_ hv (λe=>(h.now.gr hv (Gr.lay _ _ _) (by rw[eD];exact r2) ?_ (h.now.sm.lay _ (jY (.inl (by rw[hq];exact hp))))).le (by omega)) (λ_=>?_) (λe=>absurd rfl e) ha dn
   . rw[eD];intro y hy;have hc:({D with P:=D.P.set (z-1).toNat q'}:Rd).count y=D.count y:=rfl;rw[hc] at hy;show((D.P.set (z-1).toNat q').getD (y-1).toNat Pv.zero).pg.check=0;rw[jP];split
     . rw[hq'];exact hp
     . exact h.now.ck y hy
   . rw[eD];exact⟨rfl,rfl,rfl,rfl⟩
 . rw[if_neg hz]
   have eD:D.writeD z p q'=D:=by
    unfold Rd.writeD;rw[if_neg (λk=>hz (by unfold Rd.writeR;rw[if_pos k.1,k.2];rfl))]
   rw[eD] at ha;rcases dn with⟨e,_⟩|⟨_,rfl⟩
   . exact absurd e hz
   . exact h.same ha (by omega)
theorem Tw.take{H:List Sn}(h:Tw S D H M)(z:Int):(S.X.leave z).1.2=D.takeE z/\(S.X.leave z).1.1.pg=D.takeP z/\∀D' H',D'.Al (D.takeD z)->Dn D H (D.takeE z) H'->Tw (S.done (S.X.leave z).1.2 (S.X.leave z).2) D' H' (M+20):=by
 by_cases h0:0<D.count z
 . obtain⟨a1,a2,a3⟩:=h.now.r.take h0;refine⟨a1,a2,λD' H' ha dn=>?_⟩
   have hv:=Ve.leave S.X z;have hg:Gr S.X (S.X.leave z).2 16:=Gr.left h.now.r.rel.ok z (h.now.kids z (by omega))
   refine h.end_ hv (λe=>(h.now.gr hv hg (a3 e) ?_ (h.now.sm.left z)).le (by omega)) (λe=>?_) (λe=>?_) ha (by rw[a1];exact dn)
   . unfold Rd.takeD;split
     . exact h.now.ck.leave (by omega)
     . exact h.now.ck
   . unfold Rd.takeD;split
     . exact Sld.of (Rd.leave_sm D z)
     . exact Sld.refl D
   . unfold Rd.takeD;rw[if_neg (λk=>e (by rw[a1];unfold Rd.takeE;rw[if_pos h0];exact k.2))]
 . have hc:=jH h.now.r.rel.ok z
   have hx:S.X.P.count z=0:=by
    have:=h.now.r.rel.count z;omega
   have d1:(S.X.P.dec z).1=(0,15):=by rw[kh,if_pos hx]
   have e1:(S.X.left z).1=15:=by
    unfold Vm.left;rw[if_neg (λk=>by have:=k.1;rw[d1] at this;exact absurd (show(15:Int)=0 from this) (by decide)),d1]
   have e2:(S.X.leave z).1.2=D.takeE z:=by
    show(S.X.left z).1=_;unfold Rd.takeE;rw[if_neg h0,e1]
   refine⟨e2,?_,λD' H' ha dn=>?_⟩
   . show(if (S.X.left z).1=0 then S.X.on z else Pv.zero).pg=_
     unfold Rd.takeP;rw[if_neg (by rw[e1];decide),if_neg (λk=>h0 k.1)]
   . have hne:(S.X.leave z).1.2≠0:=by show(S.X.left z).1≠0;rw[e1];decide
     refine h.end_ (Ve.leave S.X z) (λe=>absurd e hne) (λe=>absurd e hne) (λ_=>?_) ha (by rw[e2];exact dn)
     unfold Rd.takeD;rw[if_neg (λk=>h0 k.1)]
theorem Tw.shadow{H:List Sn}(h:Tw S D H M)(z:Int):(S.shadow z).1=(D.shadowR z).1/\∀D' H',D'.Al (D.shadowR z).2->Da D H ((D.shadowR z).1.2=0/\D.own z=false) H'->Tw (S.shadow z).2 D' H' (M+20):=by
 have hcz:=h.now.r.rel.count z;have hst:=h.now.r.rel.state2 z;by_cases h0:0<D.count z
 . have hX0:0<S.X.P.count z:=by omega
   cases ho:D.own z with
   |true=>
    have ho2:=ho;unfold Rd.own at ho2;rw[bQ,bM,bM] at ho2
    have e1:S.shadow z=((z,0),S):=by
     unfold Vs.shadow;rw[if_pos hX0,if_pos ⟨by rw[hst];exact ho2.1,by rw[hcz];exact ho2.2⟩]
    have e2:D.shadowR z=((z,0),D):=by
     unfold Rd.shadowR;rw[if_pos h0,if_pos ho]
    rw[e1,e2];refine⟨rfl,λD' H' ha dn=>?_⟩
    rcases dn with⟨k,_⟩|⟨_,rfl⟩
    . exact absurd k.2 (by decide)
    . exact h.same ha (by omega)
   |false=>
    have hck:=h.now.ck z (by omega)
    have hk:(D.on z).pg.kind≠0:=λe=>by
     have k:(D.on z).pg.kindOk=false:=by unfold Pg.kindOk;rw[e];rfl
     unfold Pg.check at hck;rw[if_pos k] at hck;exact absurd hck (by decide)
    obtain⟨a1,a2⟩:=h.now.r.shadow h0 ho hck hk
    have hno:¬(S.X.P.state z=3/\S.X.P.count z=1):=λk=>by
     unfold Rd.own at ho;rw[<-hst,<-hcz,ay k.1,ay k.2] at ho;exact absurd ho (by decide)
    have e1:S.shadow z=((S.X.shadow z).1,S.done (S.X.shadow z).1.2 (S.X.shadow z).2):=by
     unfold Vs.shadow;rw[if_pos hX0,if_neg hno]
    rw[e1];refine⟨a1,λD' H' ha dn=>?_⟩
    have hv:=Ve.shadow S.X z
    have es:(D.shadowR z).1.2≠0->(D.shadowR z).2=D:=λe=>by
     unfold Rd.shadowR at e ⊢;rw[if_pos h0,if_neg (by rw[ho];decide)] at e ⊢
     split
     . rfl
     . rename_i e1;rw[if_neg e1] at e;split
       . rename_i e2;rw[if_pos e2] at e;exact absurd rfl e
       . rfl
    have hok:=h.now.r.rel.ok;refine h.end_ hv (λe=>?_) (λe=>?_) (λe=>es (by rw[<-a1];exact e)) ha ?_
    . have hal:S.X.P.alloc.1.2=0:=by
       by_cases k:S.X.P.alloc.1.2=0
       . exact k
       . unfold Vm.shadow at e;rw[if_neg k] at e;exact absurd e k
      have g2:Gr S.X (S.X.shadow z).2 (2+(16+1)):=by
       have gl:Gr ⟨S.X.P.alloc.2,S.X.f,S.X.ch⟩ ((⟨S.X.P.alloc.2,S.X.f,S.X.ch⟩:Vm).leave z).2 16:=Gr.left (X:=⟨S.X.P.alloc.2,S.X.f,S.X.ch⟩) (uA hok hal) z (h.now.kids z (by omega))
       unfold Vm.shadow;rw[if_pos hal];split
       . exact(Gr.alloc hal).trans (gl.trans (Gr.lay _ _ _))
       . exact((Gr.alloc hal).trans gl).le (by omega)
      refine(h.now.gr hv g2 (a2 e) ?_ (h.now.sm.shadow z)).le (by omega)
      have k1:(D.shadowR z).1.2=0:=by rw[<-a1];exact e
      unfold Rd.shadowR at k1 ⊢;rw[if_pos h0,if_neg (by rw[ho];decide)] at k1 ⊢
      split
      . exact h.now.ck
      . rename_i hl;split
        . obtain⟨i,i1,i2,i3⟩:=mi hl;rw[Rd.pg_len h.now.r.rel.nL] at i1;have hn:D.has (iy D.pg)=true:=Rd.has_iff.2 ⟨by omega,by omega⟩
          have c1:Ckd (D.shadow1 z):=h.now.ck.lay hn h.now.r.rel.nP 1 hck;refine c1.leave ?_;have hc:(D.shadow1 z).count z=(D.put (iy D.pg) 1).count z:=rfl;rw[hc,Rd.count_put hn];split
          . decide
          . omega
        . exact h.now.ck
    . have k1:(D.shadowR z).1.2=0:=by rw[<-a1];exact e
      unfold Rd.shadowR at k1 ⊢;rw[if_pos h0,if_neg (by rw[ho];decide)] at k1 ⊢
      split
      . exact Sld.refl D
      . split
        . have k:=Rd.leave_sm (D.shadow1 z) z;exact⟨k.l,k.r,k.f,k.h⟩
        . exact Sld.refl D
    . rw[a1];rcases dn with⟨k,s,q1,q2,q3⟩|⟨k,q⟩
      . exact .inl ⟨k.1,s,q1,q2,q3⟩
      . exact .inr ⟨λe=>k ⟨e,rfl⟩,q⟩
 . have e1:S.shadow z=((0,15),S):=by
    unfold Vs.shadow;rw[if_neg (by omega)]
   have e2:D.shadowR z=((0,15),D):=by
    unfold Rd.shadowR;rw[if_neg h0]
   rw[e1,e2];refine⟨rfl,λD' H' ha dn=>?_⟩
   rcases dn with⟨k,_⟩|⟨_,rfl⟩
   . exact absurd (show(15:Int)=0 from k.1) (by decide)
   . exact h.same ha (by omega)
theorem Tw.drop{H:List Sn}(h:Tw S D H M)(z:Int):((dropM (tot S.X.P+1) S.X z).1=0/\∃D2,Rd.dropS (D.tot+1) D [z]=some D2/\∀D' H',D'.Al D2->(∃s:Sn,s.C=D.C/\s.P=D.P/\H'=H++[s])->Tw (S.done (dropM (tot S.X.P+1) S.X z).1 (dropM (tot S.X.P+1) S.X z).2) D' H' (M+20))\/
 ((dropM (tot S.X.P+1) S.X z).1=15/\Rd.dropS (D.tot+1) D [z]=none/\∀D',D'.Al D->Tw (S.done (dropM (tot S.X.P+1) S.X z).1 (dropM (tot S.X.P+1) S.X z).2) D' H (M+20)):=by
 have hv:=Ve.dropM (tot S.X.P+1) S.X z;rcases tZ (tot S.X.P+1) S.X D z [] h.now.r (fE _) with⟨a1,D2,a2,a3,a4,a5⟩|⟨a1,a2⟩
 . have e2:Rd.dropS (D.tot+1) D [z]=some D2:=a4;refine .inl ⟨a1,D2,e2,λD' H' ha hs=>?_⟩
   refine h.end_ hv (λ_=>(h.now.gr (k:=0) hv ⟨a5.m,a5.c⟩ a2 (Ckd.dropS _ _ _ _ h.now.ck e2) (SmV.dropM _ _ _ h.now.sm)).le (by omega)) (λ_=>?_) (λe=>absurd a1 e) ha (.inl ⟨a1,hs⟩)
   rw[a3];exact⟨rfl,rfl,rfl,rfl⟩
 . refine .inr ⟨a1,a2,λD' ha=>?_⟩
   rw[Vs.done_no (by rw[a1];decide) hv h.now.fi]
   exact h.same ha (by omega)
theorem zN{c:Int}{l:Bool}(h:Q.stt (c,l)=3\/Q.stt (c,l)=4):c≠0:=λe=>by
 subst e;unfold Q.stt at h;cases l<;>simp at h
theorem Tw.listed{H:List Sn}(h:Tw S D H M)(s:Int):((S.X.P.pages s).map λn=>(n,(S.X.on n).pg))=D.listed s D.C.length:=by
 have hl:=h.now.r.rel.len
 have st:∀i,i<D.C.length->Q.stt (S.X.P.pg.getD i Q.Pg.zero)=D.state ((i:Int)+1):=λi hi=>by
  rw[<-h.now.r.rel.state2];unfold Q.Po.state;rw[if_pos (Q.Po.has_iff.2 ⟨by omega,by omega⟩),show((i:Int)+1-1).toNat=i by omega]
 unfold Q.Po.pages Rd.listed;by_cases hs:1<=s/\s<=4
 . rw[if_pos hs];unfold Q.iD;rw[hl,List.map_map]
   have e:∀i∈List.range D.C.length,decide (Q.stt (S.X.P.pg.getD i Q.Pg.zero)=s.toNat)=decide (((D.state ((i:Int)+1):Nat):Int)=s):=λi hi=>by
    rw[st i (cQ.1 hi)];by_cases k:((D.state ((i:Int)+1):Nat):Int)=s
    . rw[ay k,ay (by omega)]
    . rw[ax k,ax (by omega)]
   rw[List.filter_congr e];refine List.map_congr_left λi hi=>?_
   obtain⟨h1,h2⟩:=fp.1 hi;have h1:=cQ.1 h1;have h2:((D.state ((i:Int)+1):Nat):Int)=s:=of_decide_eq_true h2
   have hon:D.on ((i:Int)+1)=D.P.getD i Pv.zero:=by
    unfold Rd.on;rw[show((i:Int)+1-1).toNat=i by omega]
   show(((i:Int)+1),(S.X.on ((i:Int)+1)).pg)=((i:Int)+1,D.pgAt s i);refine Prod.ext rfl ?_;show(S.X.on ((i:Int)+1)).pg=D.pgAt s i;unfold Rd.pgAt;by_cases s1:s=1
   . rw[if_pos s1];have k:=h.now.r.fr ((i:Int)+1) (by omega)
     unfold Vm.on;rw[k];rfl
   . rw[if_neg s1,<-hon];by_cases s2:s=2
     . exact h.now.r.pd _ (by omega)
     . refine h.now.r.rel.on _ ?_;have e3:=st i h1;have e4:Q.stt (S.X.P.pg.getD i Q.Pg.zero)=3\/Q.stt (S.X.P.pg.getD i Q.Pg.zero)=4:=by omega
       unfold Q.Po.count;rw[if_pos (Q.Po.has_iff.2 ⟨by omega,by omega⟩),show((i:Int)+1-1).toNat=i by omega]
       exact zN (l:=(S.X.P.pg.getD i Q.Pg.zero).2) e4
 . rw[if_neg hs]
   have e:∀i∈List.range D.C.length,¬decide (((D.state ((i:Int)+1):Nat):Int)=s)=true:=λi hi=>by
    have k:=st i (cQ.1 hi);have:=Q.mE (S.X.P.pg.getD i Q.Pg.zero);intro e;have e:=of_decide_eq_true e;omega
   rw[gJ.2 e];rfl
theorem Tw.mark{H:List Sn}(h:Tw S D H M):((S.fl+S.al.length:Nat):Int)=D.fl+(H.length:Int):=by
 have:=h.fl;have:=h.ln;omega
theorem Tw.counts{H:List Sn}(h:Tw S D H M):S.X.P.counts=D.C:=h.now.r.rel.counts
theorem Tw.start{r:Int}{n:Nat}(hf:Q.jL (n:Int) r=true)(hD:D.Fresh r n):Tw (Vs.start (Q.Po.start r (List.replicate n 0))) D [] 4294967296:=by
 obtain⟨hR,hC,hL,hP,hA,hn,hc,hfl,hh⟩:=hD;obtain⟨⟨h1,h2⟩,h3,h4⟩:=Q.mY.1 hf;have hl:(Q.Po.start r (List.replicate n 0)).pg.length=n:=by show(List.map _ _).length=n;rw[a7,be]
 have hpg:(Q.Po.start r (List.replicate n 0)).pg=List.replicate n (0,false):=by
  show List.map _ (List.replicate n 0)=_;rw[List.map_replicate];rfl
 have hok:(Q.Po.start r (List.replicate n 0)).Ok:=by
  refine⟨by rw[hl];omega,by rw[hl];omega,h3,h4,λx hx=>?_,λa ha=>absurd ha (bB)⟩
  obtain⟨c,hc,rfl⟩:=bG.1 hx;rw[List.eq_of_mem_replicate hc];show(0:Int)<=0/\0<=r;omega
 have hDpg:D.pg=List.replicate n (0,false):=by
  unfold Rd.pg;rw[hC,hL];exact List.zip_replicate'
 have c0:∀z,D.count z=0:=λz=>by
  unfold Rd.count;split
  . rename_i hz;have hz:=Rd.has_iff.1 hz;rw[hC,be] at hz;have hk:(z-1).toNat<n:=by omega
    rw[hC];generalize (z-1).toNat=k at hk;simp[hk]
  . rfl
 have rel:Rel (Vs.start (Q.Po.start r (List.replicate n 0))).X D:=by
  refine⟨hpg.trans hDpg.symm,hR.symm,λz hz=>?_,by rw[hL,hC,be,be],by rw[hP,hC,be,be],hok⟩
  refine absurd ?_ hz;show(Q.Po.start r (List.replicate n 0)).count z=0;unfold Q.Po.count;split
  . rename_i hz;have hz:=Q.Po.has_iff.1 hz;rw[hl] at hz;have hk:(z-1).toNat<n:=by omega
    rw[hpg];generalize (z-1).toNat=k at hk;simp[hk]
  . rfl
 have ht:tot (Q.Po.start r (List.replicate n 0))=0:=by
  unfold tot;rw[hpg,List.map_replicate];simp
 refine⟨⟨⟨rel,λz hz=>?_,λz _=>rfl⟩,λz hz=>absurd (c0 z) hz,λk p e=>(by cases e),λz=>o9,?_,?_⟩,hfl.symm,rfl,aF _,hh,[],dF _ _,rfl,λt Y s hY _=>by cases hY⟩
 . have hp:D.on z=Pv.zero:=by
    unfold Rd.on;rw[hP];generalize (z-1).toNat=k;rw[aq,gA];split<;>rfl
   rw[hp];rfl
 all_goals
  show 0+tot (Q.Po.start r (List.replicate n 0))<=_;omega
end Go.Proofs.YtbdkogimlbnlmaaGreat
namespace Go.Proofs.YtbdkogimlbnlmaaGreat
open Go.RowKit Go.Shelf
attribute [local go_sem] Oper.semAt_some
end Go.Proofs.YtbdkogimlbnlmaaGreat
namespace Go.Proofs.YtbdkogimlbnlmaaGreat
open Go.RowKit
def Bdj(p q:Pv):Prop:=∀k,Blk p k->¬Blk q k
def Ou(v:World)(col colR:Nat->Nat)(a:Option Addr):Prop:=∀y,a=some y->col y.block=0/\colR y.block=0/\v.heap.size<=y.block
section
variable {S:Nat->Prop} {v w w' wA w5:World} {p q:Pv} {col colR col' colR':Nat->Nat}
theorem Pn.but2(h:Pn v w p)(hb:But S w w')(hn:∀k,Blk p k->¬S k):Pn v w' p:=
 ⟨h.it.but hb (λx hx=>hn _ (.inl ⟨x,hx,rfl⟩)),h.itn,h.d.but hb (λx hx=>hn _ (.inr ⟨_,dN,x,hx,rfl⟩)),h.dn,λt ht=>⟨(h.fr t ht).1.but hb (λx hx=>hn _ (.inr ⟨t,dY _ ht,x,hx,rfl⟩)),(h.fr t ht).2⟩,h.dist,h.d8,h.ns,h.nk,h.nl,h.nn⟩
theorem Pn.ne(h:Pn v w p){k:Nat}(hk:Blk p k){g:Nat}{cs:Array Value}{t:TypeId}(hg:w.heap[g]?=some (.cells cs t (0,0)))(h1:t≠5)(h2:t≠51):k≠g:=by
 rcases hk with⟨x,hx,rfl⟩|⟨t',ht,y,hy,rfl⟩
 . exact h.it.nty hg h2 hx
 . exact(h.rws ht).1.nty hg h1 hy
theorem Pn.ne_row(h:Pn v w p){k:Nat}(hk:Blk p k){e:TypeId}{sz:Nat}{a:Option Addr}{c n:Nat}{C:List Value}(hg:Q.Gw e sz w a c n C)(h1:e≠5)(h2:e≠51):¬Q.InA a k:=λ⟨y,hy,e⟩=>by
 obtain⟨cur,hc⟩:=hg.blk hy;exact h.ne hk hc h1 h2 e.symm
theorem iT{e:TypeId}{sz:Nat}{a:Option Addr}{c n:Nat}{C:List Value}(hg:Q.Gw e sz w a c n C){g:Nat}{cs:Array Value}{t:TypeId}(hb:w.heap[g]?=some (.cells cs t (0,0)))(h1:e≠t):∀y,a=some y->y.block≠g:=λy hy e=>by
 obtain⟨cur,hc⟩:=hg.blk hy;rw[e,hb] at hc;simp only[aE,dP] at hc;exact h1 hc.2.1.symm
theorem Ou.go{a:Option Addr}(h:Ou v col colR a)(hl:∀y,a=some y->y.block<w.heap.size)(hc:∀k,k<w.heap.size->col' k=col k)(hr:∀k,k<w.heap.size->colR' k=colR k):Ou v col' colR' a:=λy hy=>by
 rw[hc _ (hl y hy),hr _ (hl y hy)];exact h y hy
structure Pw1(v w:World)(col colR:Nat->Nat)(p:Pv):Prop where
 n:Pn v w p
 l:p.items.length<=1048576
 c:∀k,Blk p k->col k=0/\colR k=0
theorem Pw1.pi(h:Pw1 v w col colR p):Pi w p:=h.n.pi (aO h.l (by decide))
theorem Pw1.keep(h:Pw1 v w col colR p)(hb:Below w.heap.size w w'):Pw1 v w' col colR p:=⟨h.n.keep hb,h.l,h.c⟩
theorem Pw1.but(h:Pw1 v w col colR p)(hb:But S w w')(hn:∀k,Blk p k->¬S k):Pw1 v w' col colR p:=⟨h.n.but2 hb hn,h.l,h.c⟩
theorem Pw1.recol(h:Pw1 v w col colR p)(hc:∀k,k<w.heap.size->col' k=col k)(hr:∀k,k<w.heap.size->colR' k=colR k):Pw1 v w col' colR' p:=⟨h.n,h.l,λk hk=>by
 have hl:=h.n.blk_lt hk;rw[hc k hl,hr k hl];exact h.c k hk⟩
end
structure Bkk where
 aT:Option Addr
 cT:Nat
 T:List Pv
 aX:Option Addr
 cX:Nat
 X:List Pv
def Bkk.nil:Bkk:=⟨none,0,[],none,0,[]⟩
def Bkk.cs(K:Bkk)(b rb:Nat)(vw:Value):Array Value:=#[.pointer (some ⟨b,0,none⟩),.pointer (some ⟨rb,0,none⟩),vw,.slice K.aT K.T.length K.cT,.slice K.aX K.X.length K.cX]
structure Bo(v w:World)(wb b rb:Nat)(col colR:Nat->Nat)(vw:Value)(K:Bkk):Prop where
 box:w.heap[wb]?=some (.cells (K.cs b rb vw) 55 (0,0))
 wc:col wb=0/\colR wb=0/\v.heap.size<=wb
 gt:Q.Gw 31 5 w K.aT K.cT K.T.length (vpg K.T)
 gx:Q.Gw 31 5 w K.aX K.cX K.X.length (vpg K.X)
 oT:Ou v col colR K.aT
 oX:Ou v col colR K.aX
 nTX:∀y z,K.aT=some y->K.aX=some z->y.block≠z.block
 tp:∀p∈K.T,Pw1 v w col colR p
 xp:∀p∈K.X,Pw1 v w col colR p
 tt:K.T.Pairwise Bdj
 tx:∀p∈K.T,∀q∈K.X,Bdj p q
def Bkk.own(K:Bkk)(wb:Nat)(k:Nat):Prop:=k=wb\/Q.InA K.aT k\/Q.InA K.aX k
section
variable {S:Nat->Prop} {v w w' wA w5:World} {p q:Pv} {col colR col' colR':Nat->Nat} {wb b rb:Nat} {vw:Value} {K:Bkk}
theorem Bo.but(h:Bo v w wb b rb col colR vw K)(hb:But S w w')(hn:∀k,K.own wb k->¬S k)(hT:∀p∈K.T,∀k,Blk p k->¬S k)(hX:∀p∈K.X,∀k,Blk p k->¬S k):Bo v w' wb b rb col colR vw K:=
 ⟨hb.same h.box (hn _ (.inl rfl)),h.wc,h.gt.but hb (λy hy=>hn _ (.inr (.inl ⟨y,hy,rfl⟩))),h.gx.but hb (λy hy=>hn _ (.inr (.inr ⟨y,hy,rfl⟩))),h.oT,h.oX,h.nTX,λp hp=>(h.tp p hp).but hb (hT p hp),λp hp=>(h.xp p hp).but hb (hX p hp),h.tt,h.tx⟩
theorem Bo.keep(h:Bo v w wb b rb col colR vw K)(hb:Below w.heap.size w w'):Bo v w' wb b rb col colR vw K:=h.but (S:=λ_=>False) (But.ofBelow hb) (λ_ _ e=>e) (λ_ _ _ _ e=>e) (λ_ _ _ _ e=>e)
theorem Bo.lb(h:Bo v w wb b rb col colR vw K):wb<w.heap.size:=(af.1 h.box).1
theorem Bo.recol(h:Bo v w wb b rb col colR vw K)(hc:∀k,k<w.heap.size->col' k=col k)(hr:∀k,k<w.heap.size->colR' k=colR k):Bo v w wb b rb col' colR' vw K:=
 ⟨h.box,by rw[hc _ h.lb,hr _ h.lb];exact h.wc,h.gt,h.gx,h.oT.go (λy hy=>h.gt.lt hy) hc hr,h.oX.go (λy hy=>h.gx.lt hy) hc hr,h.nTX,λp hp=>(h.tp p hp).recol hc hr,λp hp=>(h.xp p hp).recol hc hr,h.tt,h.tx⟩
theorem Bo.own0(h:Bo v w wb b rb col colR vw K){k:Nat}(hk:K.own wb k):col k=0/\colR k=0/\v.heap.size<=k:=by
 rcases hk with rfl|⟨y,hy,rfl⟩|⟨y,hy,rfl⟩
 . exact h.wc
 . exact h.oT y hy
 . exact h.oX y hy
theorem Bo.own_lt(h:Bo v w wb b rb col colR vw K){k:Nat}(hk:K.own wb k):k<w.heap.size:=by
 rcases hk with rfl|⟨y,hy,rfl⟩|⟨y,hy,rfl⟩
 . exact h.lb
 . exact h.gt.lt hy
 . exact h.gx.lt hy
theorem Bo.vf(h:Bo v w wb b rb col colR vw K)(hf:Vf w col w' col'):Bo v w' wb b rb col' colR vw K:=
 (h.recol (col':=col') (colR':=colR) hf.c (λ_ _=>rfl)).but hf.b (λk hk e=>by have:=h.own0 hk;omega) (λp hp k hk e=>by have:=(h.tp p hp).c k hk;omega) (λp hp k hk e=>by have:=(h.xp p hp).c k hk;omega)
theorem Bo.vfR(h:Bo v w wb b rb col colR vw K)(hf:Vf w colR w' colR'):Bo v w' wb b rb col colR' vw K:=
 (h.recol (col':=col) (colR':=colR') (λ_ _=>rfl) hf.c).but hf.b (λk hk e=>by have:=h.own0 hk;omega) (λp hp k hk e=>by have:=(h.tp p hp).c k hk;omega) (λp hp k hk e=>by have:=(h.xp p hp).c k hk;omega)
theorem bx3{w:World}{wb b rb:Nat}{vw:Value}{K:Bkk}{a:Option Addr}{c:Nat}{T:List Pv}(h:w.heap[wb]?=some (.cells (K.cs b rb vw) 55 (0,0))):(w.setCell ⟨wb,3,none⟩ (.slice a T.length c)).heap[wb]?=some (.cells (({K with aT:=a,cT:=c,T:=T}:Bkk).cs b rb vw) 55 (0,0)):=by
 rw[aM _ _ _ _ _ _ h];rfl
theorem bx4{w:World}{wb b rb:Nat}{vw:Value}{K:Bkk}{a:Option Addr}{c:Nat}{T:List Pv}(h:w.heap[wb]?=some (.cells (K.cs b rb vw) 55 (0,0))):(w.setCell ⟨wb,4,none⟩ (.slice a T.length c)).heap[wb]?=some (.cells (({K with aX:=a,cX:=c,X:=T}:Bkk).cs b rb vw) 55 (0,0)):=by
 rw[aM _ _ _ _ _ _ h];rfl
theorem Bo.told(h:Bo v w wb b rb col colR vw K)(hA:Below w.heap.size w wA)(hp:Pw1 v w col colR p)(hd:∀q∈K.T,Bdj q p)(hx:∀q∈K.X,Bdj p q)(hz:∀k,w.heap.size<=k->col k=0/\colR k=0)(hv:v.heap.size<=w.heap.size){g c:Nat}
 (hG:Q.Gw 31 5 w5 (some ⟨g,0,none⟩) c (K.T.length+1) (vpg (K.T++[p]))) (hN:New wA K.aT (some ⟨g,0,none⟩)) (hB:But (Q.InA K.aT) wA w5):
 Bo v (w5.setCell ⟨wb,3,none⟩ (.slice (some ⟨g,0,none⟩) (K.T.length+1) c)) wb b rb col colR vw {K with aT:=some ⟨g,0,none⟩,cT:=c,T:=K.T++[p]}/\But (K.own wb) w (w5.setCell ⟨wb,3,none⟩ (.slice (some ⟨g,0,none⟩) (K.T.length+1) c))/\(Q.InA K.aT g\/w.heap.size<=g):=by
 have B5:But (Q.InA K.aT) w w5:=(But.ofBelow (S:=Q.InA K.aT) hA).trans hB (λ_ _ e=>e)
 have gn:Q.InA K.aT g\/w.heap.size<=g:=by
  rcases hN ⟨g,0,none⟩ rfl with⟨y,hy,e⟩|h2
  . exact .inl ⟨y,hy,e⟩
  . have h2:wA.heap.size<=g:=h2;exact .inr (aO hA.size h2)
 have b5:w5.heap[wb]?=_:=B5.same h.box (λ⟨y,hy,e⟩=>iT h.gt h.box (by decide) y hy e)
 have gb:g≠wb:=by
  rcases gn with⟨y,hy,e⟩|h2
  . exact λe2=>iT h.gt h.box (by decide) y hy (e.trans e2)
  . have:=h.lb;omega
 have bs:But (λk=>k=wb) w5 (w5.setCell ⟨wb,3,none⟩ (.slice (some ⟨g,0,none⟩) (K.T.length+1) c)):=(But.refl (λk=>k=wb) w5).setCell (p:=⟨wb,3,none⟩) (λ_=>rfl) _
 have bw:But (λk=>k=wb\/Q.InA K.aT k) w (w5.setCell ⟨wb,3,none⟩ (.slice (some ⟨g,0,none⟩) (K.T.length+1) c)):=(B5.mono (T:=λk=>k=wb\/Q.InA K.aT k) λ_ _ e=>.inr e).trans bs (λ_ _ e=>.inl e)
 have off:∀{r:Pv},Pw1 v w col colR r->∀k,Blk r k->¬(k=wb\/Q.InA K.aT k):=λhr k hk e=>by
  rcases e with e|e
  . exact hr.n.ne hk h.box (by decide) (by decide) e
  . exact hr.n.ne_row hk h.gt (by decide) (by decide) e
 have hl:(K.T++[p]).length=K.T.length+1:=by rw[ae];rfl
 refine⟨⟨?_,h.wc,?_,h.gx.but bw (λy hy e=>?_),λy hy=>?_,h.oX,λy z hy hz'=>?_,λr hr=>?_,λr hr=>(h.xp r hr).but bw (off (h.xp r hr)),?_,λr hr s hs=>?_⟩,bw.mono (λk _ e=>e.imp id .inl),gn⟩
 . have e:=bx3 (a:=some ⟨g,0,none⟩) (c:=c) (T:=K.T++[p]) b5;rw[hl] at e;exact e
 . show Q.Gw _ _ _ _ _ (K.T++[p]).length _;rw[hl];exact hG.but bs (λy hy=>by cases hy;exact gb)
 . rcases e with e|⟨z,hz',e⟩
   . exact iT h.gx h.box (by decide) y hy e
   . exact h.nTX z y hz' hy e
 . cases hy;rcases gn with⟨z,hz',e⟩|h2
   . have:=h.oT z hz';rw[e] at this;exact this
   . exact⟨(hz g h2).1,(hz g h2).2,aO hv h2⟩
 . cases hy;rcases gn with⟨y,hy,e⟩|h2
   . exact λe2=>h.nTX y z hy hz' (e.trans e2)
   . have:=h.gx.lt hz';show g≠z.block;omega
 . rcases bm.1 hr with hr|hr
   . exact(h.tp r hr).but bw (off (h.tp r hr))
   . rw[aQ.1 hr];exact hp.but bw (off hp)
 . refine dh.2 ⟨h.tt,dF _ _,λr hr s hs=>?_⟩
   rw[aQ.1 hs];exact hd r hr
 . rcases bm.1 hr with hr|hr
   . exact h.tx r hr s hs
   . rw[aQ.1 hr];exact hx s hs
theorem Bo.text(h:Bo v w wb b rb col colR vw K)(hA:Below w.heap.size w wA)(hp:Pw1 v w col colR p)(hd:∀q∈K.T,Bdj q p)(hz:∀k,w.heap.size<=k->col k=0/\colR k=0)(hv:v.heap.size<=w.heap.size){g c:Nat}
 (hG:Q.Gw 31 5 w5 (some ⟨g,0,none⟩) c (K.X.length+1) (vpg (K.X++[p]))) (hN:New wA K.aX (some ⟨g,0,none⟩)) (hB:But (Q.InA K.aX) wA w5):
 Bo v (w5.setCell ⟨wb,4,none⟩ (.slice (some ⟨g,0,none⟩) (K.X.length+1) c)) wb b rb col colR vw {K with aX:=some ⟨g,0,none⟩,cX:=c,X:=K.X++[p]}/\But (K.own wb) w (w5.setCell ⟨wb,4,none⟩ (.slice (some ⟨g,0,none⟩) (K.X.length+1) c))/\(Q.InA K.aX g\/w.heap.size<=g):=by
 have B5:But (Q.InA K.aX) w w5:=(But.ofBelow (S:=Q.InA K.aX) hA).trans hB (λ_ _ e=>e)
 have gn:Q.InA K.aX g\/w.heap.size<=g:=by
  rcases hN ⟨g,0,none⟩ rfl with⟨y,hy,e⟩|h2
  . exact .inl ⟨y,hy,e⟩
  . have h2:wA.heap.size<=g:=h2;exact .inr (aO hA.size h2)
 have b5:w5.heap[wb]?=_:=B5.same h.box (λ⟨y,hy,e⟩=>iT h.gx h.box (by decide) y hy e)
 have gb:g≠wb:=by
  rcases gn with⟨y,hy,e⟩|h2
  . exact λe2=>iT h.gx h.box (by decide) y hy (e.trans e2)
  . have:=h.lb;omega
 have bs:But (λk=>k=wb) w5 (w5.setCell ⟨wb,4,none⟩ (.slice (some ⟨g,0,none⟩) (K.X.length+1) c)):=(But.refl (λk=>k=wb) w5).setCell (p:=⟨wb,4,none⟩) (λ_=>rfl) _
 have bw:But (λk=>k=wb\/Q.InA K.aX k) w (w5.setCell ⟨wb,4,none⟩ (.slice (some ⟨g,0,none⟩) (K.X.length+1) c)):=(B5.mono (T:=λk=>k=wb\/Q.InA K.aX k) λ_ _ e=>.inr e).trans bs (λ_ _ e=>.inl e)
 have off:∀{r:Pv},Pw1 v w col colR r->∀k,Blk r k->¬(k=wb\/Q.InA K.aX k):=λhr k hk e=>by
  rcases e with e|e
  . exact hr.n.ne hk h.box (by decide) (by decide) e
  . exact hr.n.ne_row hk h.gx (by decide) (by decide) e
 have hl:(K.X++[p]).length=K.X.length+1:=by rw[ae];rfl
 refine⟨⟨?_,h.wc,h.gt.but bw (λy hy e=>?_),?_,h.oT,λy hy=>?_,λy z hy hz'=>?_,λr hr=>(h.tp r hr).but bw (off (h.tp r hr)),λr hr=>?_,h.tt,λr hr s hs=>?_⟩,bw.mono (λk _ e=>e.imp id .inr),gn⟩
 . have e:=bx4 (a:=some ⟨g,0,none⟩) (c:=c) (T:=K.X++[p]) b5;rw[hl] at e;exact e
 . rcases e with e|⟨z,hz',e⟩
   . exact iT h.gt h.box (by decide) y hy e
   . exact h.nTX y z hy hz' e.symm
 . show Q.Gw _ _ _ _ _ (K.X++[p]).length _;rw[hl];exact hG.but bs (λy hy=>by cases hy;exact gb)
 . cases hy;rcases gn with⟨z,hz',e⟩|h2
   . have:=h.oX z hz';rw[e] at this;exact this
   . exact⟨(hz g h2).1,(hz g h2).2,aO hv h2⟩
 . cases hz';rcases gn with⟨z,hz',e⟩|h2
   . exact λe2=>h.nTX y z hy hz' (e2.trans e.symm)
   . have:=h.gt.lt hy;show y.block≠g;omega
 . rcases bm.1 hr with hr|hr
   . exact(h.xp r hr).but bw (off (h.xp r hr))
   . rw[aQ.1 hr];exact hp.but bw (off hp)
 . rcases bm.1 hs with hs|hs
   . exact h.tx r hr s hs
   . rw[aQ.1 hs];exact hd r hr
end
end Go.Proofs.YtbdkogimlbnlmaaGreat
