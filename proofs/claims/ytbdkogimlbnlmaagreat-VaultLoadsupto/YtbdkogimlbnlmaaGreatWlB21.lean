import Derived.Test.YtbdkogimlbnlmaaGreatWlB20
set_option linter.all false
set_option maxHeartbeats 16000000
set_option maxRecDepth 8000
namespace Go.Proofs.YtbdkogimlbnlmaaGreat
open Go.Proofs.Tryz
open Go.RowKit
variable {M N j k:Nat}{P:Q.Po}{D D' D2:Rd}{s:Sn}{X Y:Vm}{S:Vs}
structure Gr(X X':Vm)(k:Nat):Prop where
 m:X'.P.mark+tot X'.P<=X.P.mark+tot X.P+k
 c:X'.ch.length+tot X'.P<=X.ch.length+tot X.P+k
theorem Gr.trans{Z:Vm}(h:Gr X Y j)(g:Gr Y Z k):Gr X Z (j+k):=⟨by have:=h.m;have:=g.m;omega,by have:=h.c;have:=g.c;omega⟩
theorem Gr.le(h:Gr X Y j)(b:j<=k):Gr X Y k:=⟨by have:=h.m;omega,by have:=h.c;omega⟩
theorem incT(P:Q.Po)(i:P.Ok)(z:Int):tot (P.inc z).2<=tot P+1:=by
 unfold Q.Po.inc;split
 . exact eJ _
 . split
   . exact eJ _
   . rename_i g l;obtain⟨n,p⟩:=Q.Po.count_has g;have h:z.toNat-1<P.pg.length:=by omega
     have k:=my (λx:Q.Pg=>x.1.toNat) Q.Pg.zero (P.count z+1,(P.at z.toNat).2) P.pg (z.toNat-1) h
     have b:tot (P.act z.toNat (P.count z+1))=((P.pg.set (z.toNat-1) (P.count z+1,(P.at z.toNat).2)).map λx=>x.1.toNat).sum:=rfl
     have d:tot P=(P.pg.map λx=>x.1.toNat).sum:=rfl
     have e:P.count z=(P.pg.getD (z.toNat-1) Q.Pg.zero).1:=by
      unfold Q.Po.count;rw[if_pos (by unfold Q.Po.has;simp;omega)]
      rw[show(z-1).toNat=z.toNat-1 by omega]
     have m:=(jJ i z).1;have f:((P.count z+1,(P.at z.toNat).2):Q.Pg).1.toNat=(P.count z).toNat+1:=by show(P.count z+1).toNat=_;omega
     rw[<-e] at k;show tot (P.act z.toNat (P.count z+1))<=_;rw[b,d];simp only[] at k f;omega
theorem Ic(b:P.Ok)(z:Int):(P.inc z).2.Ok:=by
 have f:=jJ b z;unfold Q.Po.inc;split
 . exact b
 . rename_i d;split
   . exact b
   . rename_i e;obtain⟨g,h⟩:=Q.Po.count_has d;exact b.act (n:=z.toNat) (by omega) (by omega) ⟨by omega,by omega⟩
theorem Im(b:P.Ok)(z:Int):(P.dec z).2.Ok:=by
 have e:=jJ b z;unfold Q.Po.dec;split
 . exact b
 . rename_i d;obtain⟨f,g⟩:=Q.Po.count_has d;exact b.act (n:=z.toNat) (by omega) (by omega) ⟨by omega,by omega⟩
theorem yf:∀(L:List Int)(P:Q.Po),P.Ok->(incAll P L).2.mark+tot (incAll P L).2<=P.mark+tot P+2*L.length/\tot (incAll P L).2<=tot P+L.length
 | [],P,h=>⟨ai _,ai _⟩
 |z::L,P,h=>by
  have a1:=rC P z;have b:=incT P h z;unfold incAll;rw[bf];split
  . obtain⟨d,e⟩:=yf L (P.inc z).2 (Ic h z);exact⟨by omega,by omega⟩
  . exact⟨by omega,by omega⟩
theorem Gr.more(h:X.P.Ok)(L:List Int):Gr X (X.more L).2 (2*L.length):=by
 obtain⟨a,b⟩:=yf L X.P h;exact⟨a,by show X.ch.length+tot (incAll X.P L).2<=_;omega⟩
theorem Gr.less(h:X.P.Ok)(z:Int):Gr X (X.less z) 0:=by
 by_cases b:X.P.count z=0
 . have f:(X.P.dec z).2=X.P:=by unfold Q.Po.dec;rw[if_pos b]
   have g:X.less z=X:=by
    unfold Vm.less;rw[if_neg (λe=>by have:=e.1;rw[kY,if_pos b] at this;exact absurd (show(15:Int)=0 from this) (by decide)),f]
   rw[g];exact⟨ai _,ai _⟩
 . obtain⟨d,_⟩:=Dp.less h b;exact⟨d.m,d.c⟩
theorem Gr.left(h:X.P.Ok)(z:Int)(d:(X.on z).pg.kids.length<=8):Gr X (X.left z).2 16:=by
 have b:=Gr.less h z;unfold Vm.left;split
 . exact(b.trans (Gr.more (by rw[Vm.less_P];exact Im h z) _)).le (by omega)
 . exact b.le (by omega)
theorem Gr.lay(X:Vm)(n:Int)(p:Pv):Gr X (X.lay n p) 1:=⟨by show X.P.mark+tot X.P<=_;omega,by show(X.ch++[_]).length+tot X.P<=_;rw[ae];show X.ch.length+1+tot X.P<=_;omega⟩
theorem GB(b:P.alloc.1.2=0):tot P.alloc.2<=tot P+1/\P.alloc.2.mark=P.mark+1:=by
 obtain⟨i,g,l,m,h,n⟩:=pU b;constructor
 . have k:=my (λx:Q.Pg=>x.1.toNat) Q.Pg.zero (1,(P.pg.getD i Q.Pg.zero).2) P.pg i g
   have e:tot P.alloc.2=((P.pg.set i (1,(P.pg.getD i Q.Pg.zero).2)).map λx=>x.1.toNat).sum:=by unfold tot;rw[h]
   have d:tot P=(P.pg.map λx=>x.1.toNat).sum:=rfl
   rw[e,d];have f:((1:Int),(P.pg.getD i Q.Pg.zero).2).1.toNat=1:=rfl;simp only[] at k f ⊢;omega
 . unfold Q.Po.alloc at b ⊢;split at b
   . cases b
   . simp[Q.Po.act,Q.Po.mark];omega
theorem Gr.alloc(d:X.P.alloc.1.2=0):Gr X ⟨X.P.alloc.2,X.f,X.ch⟩ 2:=by
 obtain⟨a,b⟩:=GB d;exact⟨by show X.P.alloc.2.mark+tot X.P.alloc.2<=_;omega,by show X.ch.length+tot X.P.alloc.2<=_;omega⟩
structure R3(X:Vm)(D:Rd)(M:Nat):Prop where
 r:R2 X D
 ck:Ckd D
 fi:mA X.f
 sm:SmV X
 m:X.P.mark+tot X.P<=M
 c:X.ch.length+tot X.P<=M
theorem R3.le(h:R3 X D M)(b:M<=N):R3 X D N:=⟨h.r,h.ck,h.fi,h.sm,aO h.m b,aO h.c b⟩
theorem R3.al(h:R3 X D M)(n:D'.R=D.R)(d:D'.C=D.C)(f:D'.L=D.L)(i:D'.P=D.P):R3 X D' M:=by
 have e:∀z,D'.on z=D.on z:=λz=>by unfold Rd.on;rw[i]
 have g:∀z,D'.state z=D.state z:=λz=>by unfold Rd.state Rd.has Rd.lasts;rw[d,f]
 have l:∀z,D'.count z=D.count z:=λz=>by unfold Rd.count Rd.has;rw[d]
 have m:D'.pg=D.pg:=by unfold Rd.pg;rw[d,f]
 refine⟨⟨⟨by rw[m];exact h.r.rel.pg,by rw[n];exact h.r.rel.rf,λz b=>by rw[e];exact h.r.rel.on z b,by rw[f,d];exact h.r.rel.nL,by rw[i,d];exact h.r.rel.nP,h.r.rel.ok⟩,λz b=>?_,λz b=>?_⟩,λz b=>?_,h.fi,h.sm,h.m,h.c⟩
 . rw[g] at b;rw[e];exact h.r.pd z b
 . rw[g] at b;exact h.r.fr z b
 . rw[l] at b;rw[e];exact h.ck z b
theorem R3.gr{X':Vm}(h:R3 X D M)(g:Ve X X')(b:Gr X X' k)(e:R2 X' D')(d:Ckd D')(f:SmV X'):R3 X' D' (M+k):=⟨e,d,g.fine h.fi,f,by have:=b.m;have:=h.m;omega,by have:=b.c;have:=h.c;omega⟩
theorem Fe{p:Pv}(h:p.pg.check=0):p.pg.kids.length<=8:=tq (.inl h)
theorem R3.kids(h:R3 X D M)(z:Int)(b:D.count z≠0):(X.on z).pg.kids.length<=8:=by
 rw[h.r.rel.on z (by rw[h.r.rel.count];exact b)]
 exact Fe (h.ck z b)
def Rd.was(D:Rd)(s:Sn):Rd:={D with C:=s.C,P:=s.P}
structure Tw(S:Vs)(D:Rd)(H:List Sn)(M:Nat):Prop where
 now:R3 S.X D M
 fl:(S.fl:Int)=D.fl
 ln:S.al.length=H.length
 a:S.fl+S.al.length<=M
 hh:D.hush=false
 ys:∃Ys:List Vm,(Ys++[S.X]).Pairwise Ve/\Ys.length=H.length/\∀(t:Nat)(Y:Vm)(s:Sn),Ys[t]?=some Y->H[t]?=some s->R3 Y (D.was s) M/\S.al[t]?=some (Y.P.mark,Y.ch.length)
theorem Tw.same{H:List Sn}(h:Tw S D H M)(b:D'.Al D)(d:M<=N):Tw S D' H N:=by
 obtain⟨e,p,l,q⟩:=h.ys;refine⟨(h.now.al b.r b.c b.l b.p).le d,by rw[b.f];exact h.fl,h.ln,aO h.a d,by rw[b.h];exact h.hh,e,p,l,λt Y s i m=>?_⟩
 obtain⟨f,g⟩:=q t Y s i m;exact⟨(f.al (D':=D'.was s) b.r rfl b.l rfl).le d,g⟩
theorem Tw.act{H:List Sn}(h:Tw S D H M)(E:M+1<=N)(n:Ve S.X X)(A:R3 X D' N)(i:D'.L=D.L)(m:D'.R=D.R)(x:D'.fl=D.fl)(y:D'.hush=D.hush)(B:s.C=D.C)(C:s.P=D.P):Tw ⟨X,S.al++[(S.X.P.mark,S.X.ch.length)],S.fl⟩ D' (H++[s]) N:=by
 obtain⟨f,p,l,q⟩:=h.ys;refine⟨A,h.fl.trans x.symm,?_,?_,y.trans h.hh,f++[S.X],?_,?_,λt Y u d e=>?_⟩
 . show(S.al++[_]).length=(H++[s]).length;rw[ae,ae,h.ln];rfl
 . show S.fl+(S.al++[_]).length<=N;have:=h.a;rw[ae];show S.fl+(S.al.length+1)<=N;omega
 . refine de.2 ⟨p,dy _ _,λa ha b hb=>?_⟩
   rw[aQ.1 hb];rcases bq.1 ha with ha|ha
   . exact((de.1 p).2.2 a ha S.X (aQ.2 rfl)).trans n
   . rw[aQ.1 ha];exact n
 . rw[ae,ae,l];rfl
 . rcases Nat.lt_or_ge t f.length with ht|ht
   . rw[br ht] at d;rw[br (by omega)] at e
     obtain⟨r,v⟩:=q t Y u d e;refine⟨(r.al (D':=D'.was u) m rfl i rfl).le (by omega),?_⟩
     show(S.al++[_])[t]?=_;rw[br (by rw[h.ln];omega)]
     exact v
   . have g:=(bz.1 d).1;rw[ae] at g;have g:t<f.length+1:=g;obtain rfl:t=f.length:=by omega
     rw[bg (ai _),df] at d;rw[l,bg (ai _),df] at e;have d:some S.X=some Y:=d;have e:some s=some u:=e;cases d;cases e;refine⟨(h.now.al (D':=D'.was s) m B i C).le (by omega),?_⟩
     show(S.al++[_])[f.length]?=_;rw[l,<-h.ln,bg (ai _),df];rfl
theorem Tw.undo{H:List Sn}(h:Tw S D H M){t:Nat}(v:H[t]?=some s)(b:D'.Al {D with C:=s.C,P:=s.P}):∃k m,S.al.getD t (0,0)=(k,m)/\m<=S.X.ch.length/\Tw ⟨S.X.back k m,S.al.take t,S.fl⟩ D' (H.take t) M:=by
 obtain⟨d,p,l,q⟩:=h.ys;have G:=(bz.1 v).1;obtain⟨Y,g⟩:∃Y,d[t]?=some Y:=⟨_,aR (by omega)⟩
 obtain⟨n,y⟩:=q t Y s g v;have E:Y∈d:=bB g;have x:Ve Y S.X:=(de.1 p).2.2 Y E S.X (aQ.2 rfl);refine⟨Y.P.mark,Y.ch.length,by rw[aq,y];rfl,x.ch,?_⟩
 rw[x.back n.fi];refine⟨n.al b.r b.c b.l b.p,by rw[b.f];exact h.fl,?_,?_,by rw[b.h];exact h.hh,d.take t,?_,?_,λj Z u f i=>?_⟩
 . show(S.al.take t).length=_;rw[bi,bi,h.ln]
 . show S.fl+(S.al.take t).length<=M;have:=h.a;rw[bi];omega
 . have e:d.take t++[Y]=d.take (t+1):=by rw[ik,g];rfl
   rw[e];exact p.sublist ((List.take_sublist _ _).trans (List.sublist_append_left _ _))
 . rw[bi,bi,l]
 . rw[cH] at f i;split at f
   . rename_i r;rw[if_pos r] at i;obtain⟨A,B⟩:=q j Z u f i;refine⟨A.al (D':=D'.was u) b.r rfl b.l rfl,?_⟩;show(S.al.take t)[j]?=_;rw[cH,if_pos r];exact B
   . cases f
theorem Tw.settle{d:Rd}{H:List Sn}(h:Tw S D H M)(f:D.Set d D.C.length)(b:D'.Al {d with fl:=D.fl+(H.length:Int)}):Tw S.settle D' [] M:=by
 have n:=h.now.m;have m:=h.now.c
 have l:tot S.X.P.settle=tot S.X.P:=by
  show((S.X.P.pg.map (λx=>(x.1,decide (0<x.1)))).map λx:Q.Pg=>x.1.toNat).sum=(S.X.P.pg.map λx=>x.1.toNat).sum
  rw[List.map_map];rfl
 have i:R3 S.settle.X d M:=by
  refine⟨h.now.r.settle f,h.now.ck.settle f,λk p e=>?_,λz=>?_,?_,?_⟩
  . have e:kz S.X.f (S.X.P.pages 2) k=some p:=e;unfold kz at e;split at e
    . cases e
    . exact h.now.fi k p e
  . show Smi ((kz S.X.f (S.X.P.pages 2) z).getD Pv.zero);unfold kz;split
    . exact qo
    . exact h.now.sm z
  . show(S.X.P.mark+0)+tot S.X.P.settle<=M;omega
  . show 0+tot S.X.P.settle<=M;omega
 refine⟨i.al b.r b.c b.l b.p,?_,rfl,?_,?_,[],dy _ _,rfl,λt Y s g _=>by cases g⟩
 . rw[b.f];show((S.fl+S.al.length:Nat):Int)=D.fl+(H.length:Int);rw[<-h.fl,h.ln];omega
 . show S.fl+S.al.length+0<=M;exact h.a
 . rw[b.h];show d.hush=false;rw[f.e];exact h.hh
structure Sld(D2 D:Rd):Prop where
 l:D2.L=D.L
 r:D2.R=D.R
 f:D2.fl=D.fl
 h:D2.hush=D.hush
theorem Sld.of(h:D2.Sm D):Sld D2 D:=⟨h.l,h.r,h.f,h.h⟩
theorem Sld.refl(D:Rd):Sld D D:=⟨rfl,rfl,rfl,rfl⟩
theorem Tw.end_{H d:List Sn}(h:Tw S D H M){e:Int}(f:Ve S.X X)(n:e=0->R3 X D2 (M+20))(l:e=0->Sld D2 D)(m:e≠0->D2=D)(b:D'.Al D2)(i:Dn D H e d):Tw (S.done e X) D' d (M+20):=by
 rcases i with⟨e0,s,sC,sP,rfl⟩|⟨e0,rfl⟩
 . have k:=l e0;have g:=(n e0).al b.r b.c b.l b.p;unfold Vs.done;rw[if_pos e0];exact h.act (by omega) f g (b.l.trans k.l) (b.r.trans k.r) (b.f.trans k.f) (b.h.trans k.h) sC sP
 . rw[Vs.done_no e0 f h.now.fi];rw[m e0] at b;exact h.same b (by omega)
theorem Tw.keep{H:List Sn}(h:Tw S D H M)(z:Int):(S.X.P.inc z).1=(D.inc z).1/\∀D' b,D'.Al (D.inc z).2->Dn D H (D.inc z).1 b->Tw (S.done (S.X.P.inc z).1 ⟨(S.X.P.inc z).2,S.X.f,S.X.ch⟩) D' b (M+20):=by
 obtain⟨d,q,i⟩:=h.now.r.rel.inc z;refine⟨d,λD' b l g=>?_⟩
 have m:Gr S.X ⟨(S.X.P.inc z).2,S.X.f,S.X.ch⟩ 2:=by
  have n:=rC S.X.P z;have p:=incT S.X.P h.now.r.rel.ok z;exact⟨by show(S.X.P.inc z).2.mark+tot (S.X.P.inc z).2<=_;omega,by show S.X.ch.length+tot (S.X.P.inc z).2<=_;omega⟩
 have f:Ve S.X ⟨(S.X.P.inc z).2,S.X.f,S.X.ch⟩:=Ve.pool (Pe.inc S.X.P z);exact h.end_ f (λe=>(h.now.gr f m (h.now.r.inc z e) (h.now.ck.inc z) h.now.sm).le (by omega)) (λ_=>Sld.of (Rd.inc_sm D z)) (λe=>i e) l (by rw[d];exact g)
theorem Tw.make{H:List Sn}(h:Tw S D H M)(p:Pg):S.makeR p=D.makeR p/\∀q q' D' n,q.pg=p->q'.pg=p->D'.Al (D.makeD p q')->Dn D H (D.makeR p).2 n->Tw (S.makeS p q) D' n (M+20):=by
 have t:=h.now.r.rel.makeR p;refine⟨t,λq q' D' n v A l g=>?_⟩
 by_cases b:p.check=0
 . have G:p.kind≠0:=λe=>by
    have k:p.kindOk=false:=by unfold Pg.kindOk;rw[e];rfl
    unfold Pg.check at b;rw[if_pos k] at b;exact absurd b (by decide)
   have r:(D.makeR p).2=S.X.P.alloc.1.2:=by rw[<-t];unfold Vs.makeR;rw[if_pos b]
   rw[r] at g;unfold Vs.makeS;rw[if_pos b];by_cases d:S.X.P.alloc.1.2=0
   . have m:iW D.pg≠0:=λe=>by
      rw[h.now.r.rel.low,if_pos e] at d;exact absurd d (by decide)
     obtain⟨i,J,K,L⟩:=m9 m;rw[Rd.pg_len h.now.r.rel.nL] at J;have I:D.has (iW D.pg)=true:=Rd.has_iff.2 ⟨by omega,by omega⟩
     have f:D.makeD p q'={D with C:=D.C.set (iW D.pg-1).toNat 1,P:=D.P.set (iW D.pg-1).toNat q'}:=by unfold Rd.makeD;rw[if_pos ⟨b,m⟩]
     have y:=h.now.r.make (S:=S) v A G (by unfold Vs.makeR;rw[if_pos b];exact d) b
     have B:(S.makeS p q).X=S.X.allocd.lay S.X.P.alloc.1.1 q:=by
      unfold Vs.makeS;rw[if_pos b,d,if_pos rfl];unfold Vs.done;rw[if_pos rfl]
     rw[B] at y;rw[if_pos d];have x:Ve S.X (S.X.allocd.lay S.X.P.alloc.1.1 q):=(Ve.pool (Pe.alloc S.X.P)).trans (Ve.lay _ _ _);have E:Gr S.X (S.X.allocd.lay S.X.P.alloc.1.1 q) (2+1):=(Gr.alloc d).trans (Gr.lay _ _ _);refine h.end_ x (λe=>(h.now.gr x E y ?_ ?_).le (by omega)) (λ_=>?_) (λe=>absurd d e) l g
     . rw[f];exact h.now.ck.lay I h.now.r.rel.nP 1 (by rw[A];exact b)
     . exact SmV.lay (X:=S.X.allocd) h.now.sm _ (jU (.inl (by rw[v];exact b)))
     . rw[f];exact⟨rfl,rfl,rfl,rfl⟩
   . have m:iW D.pg=0:=by
      by_cases e:iW D.pg=0
      . exact e
      . rw[h.now.r.rel.low,if_neg e] at d;exact absurd rfl d
     have f:D.makeD p q'=D:=by unfold Rd.makeD;rw[if_neg (λk=>k.2 m)]
     rw[if_neg d];exact h.end_ (Ve.pool (Pe.alloc S.X.P)) (λe=>absurd e d) (λe=>absurd e d) (λ_=>f) l g
 . have f:D.makeD p q'=D:=by unfold Rd.makeD;rw[if_neg (λk=>b k.1)]
   have r:(D.makeR p).2=(p.check:Int):=by unfold Rd.makeR;rw[if_neg b]
   unfold Vs.makeS;rw[if_neg b];rw[f] at l;rw[r] at g;rcases g with⟨e,_⟩|⟨_,rfl⟩
   . exact absurd (by exact_mod_cast e) b
   . exact h.same l (by omega)
theorem Tw.own{H:List Sn}(h:Tw S D H M)(z:Int):(decide (S.X.P.state z=3)&&decide (S.X.P.count z=1))=D.own z:=by
 unfold Rd.own;rw[h.now.r.rel.state2,h.now.r.rel.count]
theorem Tw.write{H:List Sn}(h:Tw S D H M)(z:Int)(p:Pg):S.writeE z p=D.writeR z p/\∀q q' D' i,q.pg=p->q'.pg=p->D'.Al (D.writeD z p q')->Dn D H (D.writeR z p) i->Tw (if S.writeE z p=0 then S.done 0 (S.X.lay z q) else S) D' i (M+20):=by
 have t:S.writeE z p=D.writeR z p:=by
  unfold Vs.writeE Rd.writeR;rw[h.own z]
 refine⟨t,λq q' D' i n A m l=>?_⟩
 rw[t];by_cases b:D.writeR z p=0
 . rw[if_pos b]
   have g:D.own z=true:=by
    cases e:D.own z with
    |true=>rfl
    |false=>unfold Rd.writeR at b;rw[e] at b;exact absurd (show(15:Int)=0 from b) (by decide)
   have d:p.check=0:=by
    unfold Rd.writeR at b;rw[if_pos g] at b;exact_mod_cast b
   have C:p.kind≠0:=λe=>by
    have k:p.kindOk=false:=by unfold Pg.kindOk;rw[e];rfl
    unfold Pg.check at d;rw[if_pos k] at d;exact absurd d (by decide)
   have f:D.writeD z p q'={D with P:=D.P.set (z-1).toNat q'}:=by unfold Rd.writeD;rw[if_pos ⟨g,d⟩]
   have r:=g;unfold Rd.own at r;rw[bO,bE,bE] at r;have E:=Rd.state_has (D:=D) (z:=z) (by rw[r.1];decide)
   obtain⟨J,K⟩:=Rd.has_iff.1 E;have I:(z-1).toNat<D.P.length:=by rw[h.now.r.rel.nP];omega
   have v:Ve S.X (S.X.lay z q):=Ve.lay _ _ _;have G:=h.now.r.write g (q:=q) (q':=q') (n.trans A.symm) (λe=>C (by rw[<-n];exact e))
   rw[b] at l;refine h.end_ v (λe=>(h.now.gr v (Gr.lay _ _ _) (by rw[f];exact G) ?_ (h.now.sm.lay _ (jU (.inl (by rw[n];exact d))))).le (by omega)) (λ_=>?_) (λe=>absurd rfl e) m l
   . rw[f];intro y x;have B:({D with P:=D.P.set (z-1).toNat q'}:Rd).count y=D.count y:=rfl;rw[B] at x;show((D.P.set (z-1).toNat q').getD (y-1).toNat Pv.zero).pg.check=0;rw[kG];split
     . rw[A];exact d
     . exact h.now.ck y x
   . rw[f];exact⟨rfl,rfl,rfl,rfl⟩
 . rw[if_neg b]
   have f:D.writeD z p q'=D:=by
    unfold Rd.writeD;rw[if_neg (λk=>b (by unfold Rd.writeR;rw[if_pos k.1,k.2];rfl))]
   rw[f] at m;rcases l with⟨e,_⟩|⟨_,rfl⟩
   . exact absurd e b
   . exact h.same m (by omega)
theorem Tw.take{H:List Sn}(h:Tw S D H M)(z:Int):(S.X.leave z).1.2=D.takeE z/\(S.X.leave z).1.1.pg=D.takeP z/\∀D' d,D'.Al (D.takeD z)->Dn D H (D.takeE z) d->Tw (S.done (S.X.leave z).1.2 (S.X.leave z).2) D' d (M+20):=by
 by_cases b:0<D.count z
 . obtain⟨f,r,t⟩:=h.now.r.take b;refine⟨f,r,λD' d l g=>?_⟩
   have p:=Ve.leave S.X z;have v:Gr S.X (S.X.leave z).2 16:=Gr.left h.now.r.rel.ok z (h.now.kids z (by omega))
   refine h.end_ p (λe=>(h.now.gr p v (t e) ?_ (h.now.sm.left z)).le (by omega)) (λe=>?_) (λe=>?_) l (by rw[f];exact g)
   . unfold Rd.takeD;split
     . exact h.now.ck.leave (by omega)
     . exact h.now.ck
   . unfold Rd.takeD;split
     . exact Sld.of (Rd.leave_sm D z)
     . exact Sld.refl D
   . unfold Rd.takeD;rw[if_neg (λk=>e (by rw[f];unfold Rd.takeE;rw[if_pos b];exact k.2))]
 . have y:=jJ h.now.r.rel.ok z
   have x:S.X.P.count z=0:=by
    have:=h.now.r.rel.count z;omega
   have m:(S.X.P.dec z).1=(0,15):=by rw[kY,if_pos x]
   have i:(S.X.left z).1=15:=by
    unfold Vm.left;rw[if_neg (λk=>by have:=k.1;rw[m] at this;exact absurd (show(15:Int)=0 from this) (by decide)),m]
   have n:(S.X.leave z).1.2=D.takeE z:=by
    show(S.X.left z).1=_;unfold Rd.takeE;rw[if_neg b,i]
   refine⟨n,?_,λD' d l g=>?_⟩
   . show(if (S.X.left z).1=0 then S.X.on z else Pv.zero).pg=_
     unfold Rd.takeP;rw[if_neg (by rw[i];decide),if_neg (λk=>b k.1)]
   . have q:(S.X.leave z).1.2≠0:=by show(S.X.left z).1≠0;rw[i];decide
     refine h.end_ (Ve.leave S.X z) (λe=>absurd e q) (λe=>absurd e q) (λ_=>?_) l (by rw[n];exact g)
     unfold Rd.takeD;rw[if_neg (λk=>b k.1)]
theorem Tw.shadow{H:List Sn}(h:Tw S D H M)(z:Int):(S.shadow z).1=(D.shadowR z).1/\∀D' f,D'.Al (D.shadowR z).2->Da D H ((D.shadowR z).1.2=0/\D.own z=false) f->Tw (S.shadow z).2 D' f (M+20):=by
 have C:=h.now.r.rel.count z;have E:=h.now.r.rel.state2 z;by_cases d:0<D.count z
 . have B:0<S.X.P.count z:=by omega
   cases ho:D.own z with
   |true=>
    have v:=ho;unfold Rd.own at v;rw[bO,bE,bE] at v
    have b:S.shadow z=((z,0),S):=by
     unfold Vs.shadow;rw[if_pos B,if_pos ⟨by rw[E];exact v.1,by rw[C];exact v.2⟩]
    have m:D.shadowR z=((z,0),D):=by
     unfold Rd.shadowR;rw[if_pos d,if_pos ho]
    rw[b,m];refine⟨rfl,λD' f n l=>?_⟩
    rcases l with⟨k,_⟩|⟨_,rfl⟩
    . exact absurd k.2 (by decide)
    . exact h.same n (by omega)
   |false=>
    have r:=h.now.ck z (by omega)
    have L:(D.on z).pg.kind≠0:=λe=>by
     have k:(D.on z).pg.kindOk=false:=by unfold Pg.kindOk;rw[e];rfl
     unfold Pg.check at r;rw[if_pos k] at r;exact absurd r (by decide)
    obtain⟨g,G⟩:=h.now.r.shadow d ho r L
    have T:¬(S.X.P.state z=3/\S.X.P.count z=1):=λk=>by
     unfold Rd.own at ho;rw[<-E,<-C,ax k.1,ax k.2] at ho;exact absurd ho (by decide)
    have b:S.shadow z=((S.X.shadow z).1,S.done (S.X.shadow z).1.2 (S.X.shadow z).2):=by
     unfold Vs.shadow;rw[if_pos B,if_neg T]
    rw[b];refine⟨g,λD' f n l=>?_⟩
    have A:=Ve.shadow S.X z
    have I:(D.shadowR z).1.2≠0->(D.shadowR z).2=D:=λe=>by
     unfold Rd.shadowR at e ⊢;rw[if_pos d,if_neg (by rw[ho];decide)] at e ⊢
     split
     . rfl
     . rename_i b;rw[if_neg b] at e;split
       . rename_i m;rw[if_pos m] at e;exact absurd rfl e
       . rfl
    have U:=h.now.r.rel.ok;refine h.end_ A (λe=>?_) (λe=>?_) (λe=>I (by rw[<-g];exact e)) n ?_
    . have t:S.X.P.alloc.1.2=0:=by
       by_cases k:S.X.P.alloc.1.2=0
       . exact k
       . unfold Vm.shadow at e;rw[if_neg k] at e;exact absurd e k
      have J:Gr S.X (S.X.shadow z).2 (2+(16+1)):=by
       have x:Gr ⟨S.X.P.alloc.2,S.X.f,S.X.ch⟩ ((⟨S.X.P.alloc.2,S.X.f,S.X.ch⟩:Vm).leave z).2 16:=Gr.left (X:=⟨S.X.P.alloc.2,S.X.f,S.X.ch⟩) (vM U t) z (h.now.kids z (by omega))
       unfold Vm.shadow;rw[if_pos t];split
       . exact(Gr.alloc t).trans (x.trans (Gr.lay _ _ _))
       . exact((Gr.alloc t).trans x).le (by omega)
      refine(h.now.gr A J (G e) ?_ (h.now.sm.shadow z)).le (by omega)
      have p:(D.shadowR z).1.2=0:=by rw[<-g];exact e
      unfold Rd.shadowR at p ⊢;rw[if_pos d,if_neg (by rw[ho];decide)] at p ⊢
      split
      . exact h.now.ck
      . rename_i O;split
        . obtain⟨i,R,V,W⟩:=m9 O;rw[Rd.pg_len h.now.r.rel.nL] at R;have y:D.has (iW D.pg)=true:=Rd.has_iff.2 ⟨by omega,by omega⟩
          have c1:Ckd (D.shadow1 z):=h.now.ck.lay y h.now.r.rel.nP 1 r;refine c1.leave ?_;have K:(D.shadow1 z).count z=(D.put (iW D.pg) 1).count z:=rfl;rw[K,Rd.count_put y];split
          . decide
          . omega
        . exact h.now.ck
    . have p:(D.shadowR z).1.2=0:=by rw[<-g];exact e
      unfold Rd.shadowR at p ⊢;rw[if_pos d,if_neg (by rw[ho];decide)] at p ⊢
      split
      . exact Sld.refl D
      . split
        . have k:=Rd.leave_sm (D.shadow1 z) z;exact⟨k.l,k.r,k.f,k.h⟩
        . exact Sld.refl D
    . rw[g];rcases l with⟨k,s,q1,q2,q3⟩|⟨k,q⟩
      . exact .inl ⟨k.1,s,q1,q2,q3⟩
      . exact .inr ⟨λe=>k ⟨e,rfl⟩,q⟩
 . have b:S.shadow z=((0,15),S):=by
    unfold Vs.shadow;rw[if_neg (by omega)]
   have m:D.shadowR z=((0,15),D):=by
    unfold Rd.shadowR;rw[if_neg d]
   rw[b,m];refine⟨rfl,λD' f n l=>?_⟩
   rcases l with⟨k,_⟩|⟨_,rfl⟩
   . exact absurd (show(15:Int)=0 from k.1) (by decide)
   . exact h.same n (by omega)
theorem Tw.drop{H:List Sn}(h:Tw S D H M)(z:Int):((dropM (tot S.X.P+1) S.X z).1=0/\∃D2,Rd.dropS (D.tot+1) D [z]=some D2/\∀D' b,D'.Al D2->(∃s:Sn,s.C=D.C/\s.P=D.P/\b=H++[s])->Tw (S.done (dropM (tot S.X.P+1) S.X z).1 (dropM (tot S.X.P+1) S.X z).2) D' b (M+20))\/
 ((dropM (tot S.X.P+1) S.X z).1=15/\Rd.dropS (D.tot+1) D [z]=none/\∀D',D'.Al D->Tw (S.done (dropM (tot S.X.P+1) S.X z).1 (dropM (tot S.X.P+1) S.X z).2) D' H (M+20)):=by
 have f:=Ve.dropM (tot S.X.P+1) S.X z;rcases uX (tot S.X.P+1) S.X D z [] h.now.r (fU _) with⟨a1,D2,a2,a3,a4,a5⟩|⟨a1,a2⟩
 . have g:Rd.dropS (D.tot+1) D [z]=some D2:=a4;refine .inl ⟨a1,D2,g,λD' b d i=>?_⟩
   refine h.end_ f (λ_=>(h.now.gr (k:=0) f ⟨a5.m,a5.c⟩ a2 (Ckd.dropS _ _ _ _ h.now.ck g) (SmV.dropM _ _ _ h.now.sm)).le (by omega)) (λ_=>?_) (λe=>absurd a1 e) d (.inl ⟨a1,i⟩)
   rw[a3];exact⟨rfl,rfl,rfl,rfl⟩
 . refine .inr ⟨a1,a2,λD' d=>?_⟩
   rw[Vs.done_no (by rw[a1];decide) f h.now.fi]
   exact h.same d (by omega)
theorem Cc{c:Int}{l:Bool}(h:Q.stt (c,l)=3\/Q.stt (c,l)=4):c≠0:=λe=>by
 subst e;unfold Q.stt at h;cases l<;>simp at h
theorem Tw.listed{H:List Sn}(h:Tw S D H M)(s:Int):((S.X.P.pages s).map λn=>(n,(S.X.on n).pg))=D.listed s D.C.length:=by
 have q:=h.now.r.rel.len
 have st:∀i,i<D.C.length->Q.stt (S.X.P.pg.getD i Q.Pg.zero)=D.state ((i:Int)+1):=λi b=>by
  rw[<-h.now.r.rel.state2];unfold Q.Po.state;rw[if_pos (Q.Po.has_iff.2 ⟨by omega,by omega⟩),show((i:Int)+1-1).toNat=i by omega]
 unfold Q.Po.pages Rd.listed;by_cases g:1<=s/\s<=4
 . rw[if_pos g];unfold Q.iZ;rw[q,List.map_map]
   have e:∀i∈List.range D.C.length,decide (Q.stt (S.X.P.pg.getD i Q.Pg.zero)=s.toNat)=decide (((D.state ((i:Int)+1):Nat):Int)=s):=λi b=>by
    rw[st i (cw.1 b)];by_cases k:((D.state ((i:Int)+1):Nat):Int)=s
    . rw[ax k,ax (by omega)]
    . rw[au k,au (by omega)]
   rw[List.filter_congr e];refine List.map_congr_left λi b=>?_
   obtain⟨d,f⟩:=fb.1 b;have d:=cw.1 d;have f:((D.state ((i:Int)+1):Nat):Int)=s:=of_decide_eq_true f
   have r:D.on ((i:Int)+1)=D.P.getD i Pv.zero:=by
    unfold Rd.on;rw[show((i:Int)+1-1).toNat=i by omega]
   show(((i:Int)+1),(S.X.on ((i:Int)+1)).pg)=((i:Int)+1,D.pgAt s i);refine Prod.ext rfl ?_;show(S.X.on ((i:Int)+1)).pg=D.pgAt s i;unfold Rd.pgAt;by_cases m:s=1
   . rw[if_pos m];have k:=h.now.r.fr ((i:Int)+1) (by omega)
     unfold Vm.on;rw[k];rfl
   . rw[if_neg m,<-r];by_cases v:s=2
     . exact h.now.r.pd _ (by omega)
     . refine h.now.r.rel.on _ ?_;have t:=st i d;have p:Q.stt (S.X.P.pg.getD i Q.Pg.zero)=3\/Q.stt (S.X.P.pg.getD i Q.Pg.zero)=4:=by omega
       unfold Q.Po.count;rw[if_pos (Q.Po.has_iff.2 ⟨by omega,by omega⟩),show((i:Int)+1-1).toNat=i by omega]
       exact Cc (l:=(S.X.P.pg.getD i Q.Pg.zero).2) p
 . rw[if_neg g]
   have e:∀i∈List.range D.C.length,¬decide (((D.state ((i:Int)+1):Nat):Int)=s)=true:=λi b=>by
    have k:=st i (cw.1 b);have:=Q.nN (S.X.P.pg.getD i Q.Pg.zero);intro e;have e:=of_decide_eq_true e;omega
   rw[iq.2 e];rfl
theorem Tw.mark{H:List Sn}(h:Tw S D H M):((S.fl+S.al.length:Nat):Int)=D.fl+(H.length:Int):=by
 have:=h.fl;have:=h.ln;omega
theorem Tw.counts{H:List Sn}(h:Tw S D H M):S.X.P.counts=D.C:=h.now.r.rel.counts
theorem Tw.start{r:Int}{n:Nat}(E:Q.js (n:Int) r=true)(y:D.Fresh r n):Tw (Vs.start (Q.Po.start r (List.replicate n 0))) D [] 4294967296:=by
 obtain⟨A,d,i,l,T,U,m,J,G⟩:=y;obtain⟨⟨O,R⟩,q,v⟩:=Q.lF.1 E;have g:(Q.Po.start r (List.replicate n 0)).pg.length=n:=by show(List.map _ _).length=n;rw[aZ,bh]
 have h:(Q.Po.start r (List.replicate n 0)).pg=List.replicate n (0,false):=by
  show List.map _ (List.replicate n 0)=_;rw[List.map_replicate];rfl
 have K:(Q.Po.start r (List.replicate n 0)).Ok:=by
  refine⟨by rw[g];omega,by rw[g];omega,q,v,λx I=>?_,λa C=>absurd C (bm)⟩
  obtain⟨c,m,rfl⟩:=bH.1 I;rw[List.eq_of_mem_replicate m];show(0:Int)<=0/\0<=r;omega
 have L:D.pg=List.replicate n (0,false):=by
  unfold Rd.pg;rw[d,i];exact List.zip_replicate'
 have c0:∀z,D.count z=0:=λz=>by
  unfold Rd.count;split
  . rename_i b;have b:=Rd.has_iff.1 b;rw[d,bh] at b;have f:(z-1).toNat<n:=by omega
    rw[d];generalize (z-1).toNat=k at f;simp[f]
  . rfl
 have rel:Rel (Vs.start (Q.Po.start r (List.replicate n 0))).X D:=by
  refine⟨h.trans L.symm,A.symm,λz b=>?_,by rw[i,d,bh,bh],by rw[l,d,bh,bh],K⟩
  refine absurd ?_ b;show(Q.Po.start r (List.replicate n 0)).count z=0;unfold Q.Po.count;split
  . rename_i b;have b:=Q.Po.has_iff.1 b;rw[g] at b;have f:(z-1).toNat<n:=by omega
    rw[h];generalize (z-1).toNat=k at f;simp[f]
  . rfl
 have V:tot (Q.Po.start r (List.replicate n 0))=0:=by
  unfold tot;rw[h,List.map_replicate];simp
 refine⟨⟨⟨rel,λz b=>?_,λz _=>rfl⟩,λz b=>absurd (c0 z) b,λk p e=>(by cases e),λz=>qo,?_,?_⟩,J.symm,rfl,az _,G,[],dy _ _,rfl,λt Y s B _=>by cases B⟩
 . have H:D.on z=Pv.zero:=by
    unfold Rd.on;rw[l];generalize (z-1).toNat=k;rw[aq,ig];split<;>rfl
   rw[H];rfl
 all_goals
  show 0+tot (Q.Po.start r (List.replicate n 0))<=_;omega
end Go.Proofs.YtbdkogimlbnlmaaGreat
namespace Go.Proofs.YtbdkogimlbnlmaaGreat
open Go.Proofs.Tryz
open Go.RowKit Go.Shelf
attribute [local go_sem] Oper.semAt_some
end Go.Proofs.YtbdkogimlbnlmaaGreat
namespace Go.Proofs.YtbdkogimlbnlmaaGreat
open Go.Proofs.Tryz
open Go.RowKit
def Bdj(p q:Pv):Prop:=∀k,Blk p k->¬Blk q k
def Ou(v:World)(col colR:Nat->Nat)(a:Option Addr):Prop:=∀y,a=some y->col y.block=0/\colR y.block=0/\v.heap.size<=y.block
section
variable {S:Nat->Prop} {v w w' wA w5:World} {p q:Pv} {col colR col' colR':Nat->Nat}
theorem Pn.but2(h:Pn v w p)(hb:But S w w')(d:∀k,Blk p k->¬S k):Pn v w' p:=
 ⟨h.it.but hb (λx b=>d _ (.inl ⟨x,b,rfl⟩)),h.itn,h.d.but hb (λx b=>d _ (.inr ⟨_,da,x,b,rfl⟩)),h.dn,λt e=>⟨(h.fr t e).1.but hb (λx b=>d _ (.inr ⟨t,dJ _ e,x,b,rfl⟩)),(h.fr t e).2⟩,h.dist,h.d8,h.ns,h.nk,h.nl,h.nn⟩
theorem Pn.ne(h:Pn v w p){k:Nat}(f:Blk p k){g:Nat}{cs:Array Value}{t:TypeId}(b:w.heap[g]?=some (.cells cs t (0,0)))(d:t≠5)(e:t≠51):k≠g:=by
 rcases f with⟨x,hx,rfl⟩|⟨t',ht,y,hy,rfl⟩
 . exact h.it.nty b e hx
 . exact(h.rws ht).1.nty b d hy
theorem Pn.ne_row(h:Pn v w p){k:Nat}(i:Blk p k){e:TypeId}{sz:Nat}{a:Option Addr}{c n:Nat}{C:List Value}(g:Q.Gw e sz w a c n C)(b:e≠5)(d:e≠51):¬Q.InA a k:=λ⟨y,j,e⟩=>by
 obtain⟨l,f⟩:=g.blk j;exact h.ne i f b d e.symm
theorem jv{e:TypeId}{sz:Nat}{a:Option Addr}{c n:Nat}{C:List Value}(f:Q.Gw e sz w a c n C){g:Nat}{cs:Array Value}{t:TypeId}(hb:w.heap[g]?=some (.cells cs t (0,0)))(d:e≠t):∀y,a=some y->y.block≠g:=λy h e=>by
 obtain⟨i,b⟩:=f.blk h;rw[e,hb] at b;simp only[aE,dU] at b;exact d b.2.1.symm
theorem Ou.go{a:Option Addr}(h:Ou v col colR a)(d:∀y,a=some y->y.block<w.heap.size)(e:∀k,k<w.heap.size->col' k=col k)(f:∀k,k<w.heap.size->colR' k=colR k):Ou v col' colR' a:=λy b=>by
 rw[e _ (d y b),f _ (d y b)];exact h y b
structure Pw1(v w:World)(col colR:Nat->Nat)(p:Pv):Prop where
 n:Pn v w p
 l:p.items.length<=1048576
 c:∀k,Blk p k->col k=0/\colR k=0
theorem Pw1.pi(h:Pw1 v w col colR p):Pi w p:=h.n.pi (aO h.l (by decide))
theorem Pw1.keep(h:Pw1 v w col colR p)(hb:Below w.heap.size w w'):Pw1 v w' col colR p:=⟨h.n.keep hb,h.l,h.c⟩
theorem Pw1.but(h:Pw1 v w col colR p)(hb:But S w w')(b:∀k,Blk p k->¬S k):Pw1 v w' col colR p:=⟨h.n.but2 hb b,h.l,h.c⟩
theorem Pw1.recol(h:Pw1 v w col colR p)(e:∀k,k<w.heap.size->col' k=col k)(f:∀k,k<w.heap.size->colR' k=colR k):Pw1 v w col' colR' p:=⟨h.n,h.l,λk b=>by
 have d:=h.n.blk_lt b;rw[e k d,f k d];exact h.c k b⟩
end
structure Bkk where
 aT:Option Addr
 cT:Nat
 T:List Pv
 aX:Option Addr
 cX:Nat
 X:List Pv
def Bkk.nil:Bkk:=⟨none,0,[],none,0,[]⟩
def Bkk.cs(K:Bkk)(b rb:Nat)(vw:Value):Array Value:=#[.pointer (some ⟨b,0,none⟩),.pointer (some ⟨rb,0,none⟩),vw,.slice K.aT K.T.length K.cT,.slice K.aX K.X.length K.cX]
structure Bo(v w:World)(wb b rb:Nat)(col colR:Nat->Nat)(vw:Value)(K:Bkk):Prop where
 box:w.heap[wb]?=some (.cells (K.cs b rb vw) 55 (0,0))
 wc:col wb=0/\colR wb=0/\v.heap.size<=wb
 gt:Q.Gw 31 5 w K.aT K.cT K.T.length (vpg K.T)
 gx:Q.Gw 31 5 w K.aX K.cX K.X.length (vpg K.X)
 oT:Ou v col colR K.aT
 oX:Ou v col colR K.aX
 nTX:∀y z,K.aT=some y->K.aX=some z->y.block≠z.block
 tp:∀p∈K.T,Pw1 v w col colR p
 xp:∀p∈K.X,Pw1 v w col colR p
 tt:K.T.Pairwise Bdj
 tx:∀p∈K.T,∀q∈K.X,Bdj p q
def Bkk.own(K:Bkk)(wb:Nat)(k:Nat):Prop:=k=wb\/Q.InA K.aT k\/Q.InA K.aX k
section
variable {S:Nat->Prop} {v w w' wA w5:World} {p q:Pv} {col colR col' colR':Nat->Nat} {wb b rb:Nat} {vw:Value} {K:Bkk}
theorem Bo.but(h:Bo v w wb b rb col colR vw K)(hb:But S w w')(e:∀k,K.own wb k->¬S k)(g:∀p∈K.T,∀k,Blk p k->¬S k)(i:∀p∈K.X,∀k,Blk p k->¬S k):Bo v w' wb b rb col colR vw K:=
 ⟨hb.same h.box (e _ (.inl rfl)),h.wc,h.gt.but hb (λy f=>e _ (.inr (.inl ⟨y,f,rfl⟩))),h.gx.but hb (λy f=>e _ (.inr (.inr ⟨y,f,rfl⟩))),h.oT,h.oX,h.nTX,λp d=>(h.tp p d).but hb (g p d),λp d=>(h.xp p d).but hb (i p d),h.tt,h.tx⟩
theorem Bo.keep(h:Bo v w wb b rb col colR vw K)(hb:Below w.heap.size w w'):Bo v w' wb b rb col colR vw K:=h.but (S:=λ_=>False) (But.ofBelow hb) (λ_ _ e=>e) (λ_ _ _ _ e=>e) (λ_ _ _ _ e=>e)
theorem Bo.lb(h:Bo v w wb b rb col colR vw K):wb<w.heap.size:=(af.1 h.box).1
theorem Bo.recol(h:Bo v w wb b rb col colR vw K)(d:∀k,k<w.heap.size->col' k=col k)(e:∀k,k<w.heap.size->colR' k=colR k):Bo v w wb b rb col' colR' vw K:=
 ⟨h.box,by rw[d _ h.lb,e _ h.lb];exact h.wc,h.gt,h.gx,h.oT.go (λy g=>h.gt.lt g) d e,h.oX.go (λy g=>h.gx.lt g) d e,h.nTX,λp f=>(h.tp p f).recol d e,λp f=>(h.xp p f).recol d e,h.tt,h.tx⟩
theorem Bo.own0(h:Bo v w wb b rb col colR vw K){k:Nat}(e:K.own wb k):col k=0/\colR k=0/\v.heap.size<=k:=by
 rcases e with rfl|⟨y,d,rfl⟩|⟨y,d,rfl⟩
 . exact h.wc
 . exact h.oT y d
 . exact h.oX y d
theorem Bo.own_lt(h:Bo v w wb b rb col colR vw K){k:Nat}(e:K.own wb k):k<w.heap.size:=by
 rcases e with rfl|⟨y,d,rfl⟩|⟨y,d,rfl⟩
 . exact h.lb
 . exact h.gt.lt d
 . exact h.gx.lt d
theorem Bo.vf(h:Bo v w wb b rb col colR vw K)(g:Vf w col w' col'):Bo v w' wb b rb col' colR vw K:=
 (h.recol (col':=col') (colR':=colR) g.c (λ_ _=>rfl)).but g.b (λk d e=>by have:=h.own0 d;omega) (λp f k d e=>by have:=(h.tp p f).c k d;omega) (λp f k d e=>by have:=(h.xp p f).c k d;omega)
theorem Bo.vfR(h:Bo v w wb b rb col colR vw K)(g:Vf w colR w' colR'):Bo v w' wb b rb col colR' vw K:=
 (h.recol (col':=col) (colR':=colR') (λ_ _=>rfl) g.c).but g.b (λk d e=>by have:=h.own0 d;omega) (λp f k d e=>by have:=(h.tp p f).c k d;omega) (λp f k d e=>by have:=(h.xp p f).c k d;omega)
theorem bx3{w:World}{wb b rb:Nat}{vw:Value}{K:Bkk}{a:Option Addr}{c:Nat}{T:List Pv}(h:w.heap[wb]?=some (.cells (K.cs b rb vw) 55 (0,0))):(w.setCell ⟨wb,3,none⟩ (.slice a T.length c)).heap[wb]?=some (.cells (({K with aT:=a,cT:=c,T:=T}:Bkk).cs b rb vw) 55 (0,0)):=by
 rw[aY _ _ _ _ _ _ h];rfl
theorem bx4{w:World}{wb b rb:Nat}{vw:Value}{K:Bkk}{a:Option Addr}{c:Nat}{T:List Pv}(h:w.heap[wb]?=some (.cells (K.cs b rb vw) 55 (0,0))):(w.setCell ⟨wb,4,none⟩ (.slice a T.length c)).heap[wb]?=some (.cells (({K with aX:=a,cX:=c,X:=T}:Bkk).cs b rb vw) 55 (0,0)):=by
 rw[aY _ _ _ _ _ _ h];rfl
theorem Bo.told(h:Bo v w wb b rb col colR vw K)(t:Below w.heap.size w wA)(B:Pw1 v w col colR p)(J:∀q∈K.T,Bdj q p)(M:∀q∈K.X,Bdj p q)(C:∀k,w.heap.size<=k->col k=0/\colR k=0)(L:v.heap.size<=w.heap.size){g c:Nat}
 (H:Q.Gw 31 5 w5 (some ⟨g,0,none⟩) c (K.T.length+1) (vpg (K.T++[p]))) (I:New wA K.aT (some ⟨g,0,none⟩)) (G:But (Q.InA K.aT) wA w5):
 Bo v (w5.setCell ⟨wb,3,none⟩ (.slice (some ⟨g,0,none⟩) (K.T.length+1) c)) wb b rb col colR vw {K with aT:=some ⟨g,0,none⟩,cT:=c,T:=K.T++[p]}/\But (K.own wb) w (w5.setCell ⟨wb,3,none⟩ (.slice (some ⟨g,0,none⟩) (K.T.length+1) c))/\(Q.InA K.aT g\/w.heap.size<=g):=by
 have n:But (Q.InA K.aT) w w5:=(But.ofBelow (S:=Q.InA K.aT) t).trans G (λ_ _ e=>e)
 have j:Q.InA K.aT g\/w.heap.size<=g:=by
  rcases I ⟨g,0,none⟩ rfl with⟨y,d,e⟩|h2
  . exact .inl ⟨y,d,e⟩
  . have h2:wA.heap.size<=g:=h2;exact .inr (aO t.size h2)
 have D:w5.heap[wb]?=_:=n.same h.box (λ⟨y,d,e⟩=>jv h.gt h.box (by decide) y d e)
 have E:g≠wb:=by
  rcases j with⟨y,d,e⟩|h2
  . exact λm=>jv h.gt h.box (by decide) y d (e.trans m)
  . have:=h.lb;omega
 have bs:But (λk=>k=wb) w5 (w5.setCell ⟨wb,3,none⟩ (.slice (some ⟨g,0,none⟩) (K.T.length+1) c)):=(But.refl (λk=>k=wb) w5).setCell (p:=⟨wb,3,none⟩) (λ_=>rfl) _
 have i:But (λk=>k=wb\/Q.InA K.aT k) w (w5.setCell ⟨wb,3,none⟩ (.slice (some ⟨g,0,none⟩) (K.T.length+1) c)):=(n.mono (T:=λk=>k=wb\/Q.InA K.aT k) λ_ _ e=>.inr e).trans bs (λ_ _ e=>.inl e)
 have off:∀{r:Pv},Pw1 v w col colR r->∀k,Blk r k->¬(k=wb\/Q.InA K.aT k):=λhr k x e=>by
  rcases e with e|e
  . exact hr.n.ne x h.box (by decide) (by decide) e
  . exact hr.n.ne_row x h.gt (by decide) (by decide) e
 have A:(K.T++[p]).length=K.T.length+1:=by rw[ae];rfl
 refine⟨⟨?_,h.wc,?_,h.gx.but i (λy d e=>?_),λy d=>?_,h.oX,λy z d f=>?_,λr hr=>?_,λr hr=>(h.xp r hr).but i (off (h.xp r hr)),?_,λr hr s l=>?_⟩,i.mono (λk _ e=>e.imp id .inl),j⟩
 . have e:=bx3 (a:=some ⟨g,0,none⟩) (c:=c) (T:=K.T++[p]) D;rw[A] at e;exact e
 . show Q.Gw _ _ _ _ _ (K.T++[p]).length _;rw[A];exact H.but bs (λy d=>by cases d;exact E)
 . rcases e with e|⟨z,f,e⟩
   . exact jv h.gx h.box (by decide) y d e
   . exact h.nTX z y f d e
 . cases d;rcases j with⟨z,f,e⟩|h2
   . have:=h.oT z f;rw[e] at this;exact this
   . exact⟨(C g h2).1,(C g h2).2,aO L h2⟩
 . cases d;rcases j with⟨y,d,e⟩|h2
   . exact λm=>h.nTX y z d f (e.trans m)
   . have:=h.gx.lt f;show g≠z.block;omega
 . rcases bq.1 hr with hr|hr
   . exact(h.tp r hr).but i (off (h.tp r hr))
   . rw[aQ.1 hr];exact B.but i (off B)
 . refine de.2 ⟨h.tt,dy _ _,λr hr s l=>?_⟩
   rw[aQ.1 l];exact J r hr
 . rcases bq.1 hr with hr|hr
   . exact h.tx r hr s l
   . rw[aQ.1 hr];exact M s l
theorem Bo.text(h:Bo v w wb b rb col colR vw K)(n:Below w.heap.size w wA)(A:Pw1 v w col colR p)(I:∀q∈K.T,Bdj q p)(B:∀k,w.heap.size<=k->col k=0/\colR k=0)(J:v.heap.size<=w.heap.size){g c:Nat}
 (G:Q.Gw 31 5 w5 (some ⟨g,0,none⟩) c (K.X.length+1) (vpg (K.X++[p]))) (H:New wA K.aX (some ⟨g,0,none⟩)) (E:But (Q.InA K.aX) wA w5):
 Bo v (w5.setCell ⟨wb,4,none⟩ (.slice (some ⟨g,0,none⟩) (K.X.length+1) c)) wb b rb col colR vw {K with aX:=some ⟨g,0,none⟩,cX:=c,X:=K.X++[p]}/\But (K.own wb) w (w5.setCell ⟨wb,4,none⟩ (.slice (some ⟨g,0,none⟩) (K.X.length+1) c))/\(Q.InA K.aX g\/w.heap.size<=g):=by
 have m:But (Q.InA K.aX) w w5:=(But.ofBelow (S:=Q.InA K.aX) n).trans E (λ_ _ e=>e)
 have j:Q.InA K.aX g\/w.heap.size<=g:=by
  rcases H ⟨g,0,none⟩ rfl with⟨y,d,e⟩|h2
  . exact .inl ⟨y,d,e⟩
  . have h2:wA.heap.size<=g:=h2;exact .inr (aO n.size h2)
 have C:w5.heap[wb]?=_:=m.same h.box (λ⟨y,d,e⟩=>jv h.gx h.box (by decide) y d e)
 have D:g≠wb:=by
  rcases j with⟨y,d,e⟩|h2
  . exact λl=>jv h.gx h.box (by decide) y d (e.trans l)
  . have:=h.lb;omega
 have bs:But (λk=>k=wb) w5 (w5.setCell ⟨wb,4,none⟩ (.slice (some ⟨g,0,none⟩) (K.X.length+1) c)):=(But.refl (λk=>k=wb) w5).setCell (p:=⟨wb,4,none⟩) (λ_=>rfl) _
 have i:But (λk=>k=wb\/Q.InA K.aX k) w (w5.setCell ⟨wb,4,none⟩ (.slice (some ⟨g,0,none⟩) (K.X.length+1) c)):=(m.mono (T:=λk=>k=wb\/Q.InA K.aX k) λ_ _ e=>.inr e).trans bs (λ_ _ e=>.inl e)
 have off:∀{r:Pv},Pw1 v w col colR r->∀k,Blk r k->¬(k=wb\/Q.InA K.aX k):=λhr k t e=>by
  rcases e with e|e
  . exact hr.n.ne t h.box (by decide) (by decide) e
  . exact hr.n.ne_row t h.gx (by decide) (by decide) e
 have x:(K.X++[p]).length=K.X.length+1:=by rw[ae];rfl
 refine⟨⟨?_,h.wc,h.gt.but i (λy d e=>?_),?_,h.oT,λy d=>?_,λy z d f=>?_,λr hr=>(h.tp r hr).but i (off (h.tp r hr)),λr hr=>?_,h.tt,λr hr s hs=>?_⟩,i.mono (λk _ e=>e.imp id .inr),j⟩
 . have e:=bx4 (a:=some ⟨g,0,none⟩) (c:=c) (T:=K.X++[p]) C;rw[x] at e;exact e
 . rcases e with e|⟨z,f,e⟩
   . exact jv h.gt h.box (by decide) y d e
   . exact h.nTX y z d f e.symm
 . show Q.Gw _ _ _ _ _ (K.X++[p]).length _;rw[x];exact G.but bs (λy d=>by cases d;exact D)
 . cases d;rcases j with⟨z,f,e⟩|h2
   . have:=h.oX z f;rw[e] at this;exact this
   . exact⟨(B g h2).1,(B g h2).2,aO J h2⟩
 . cases f;rcases j with⟨z,f,e⟩|h2
   . exact λl=>h.nTX y z d f (l.trans e.symm)
   . have:=h.gt.lt d;show y.block≠g;omega
 . rcases bq.1 hr with hr|hr
   . exact(h.xp r hr).but i (off (h.xp r hr))
   . rw[aQ.1 hr];exact A.but i (off A)
 . rcases bq.1 hs with hs|hs
   . exact h.tx r hr s hs
   . rw[aQ.1 hs];exact I r hr
end
theorem ux{W:World}{g:Nat}{p:Pv}{t:TypeId}(h:W.heap[g]?=some (.cells #[.int .i64 p.kind,.int .i64 p.level,.slice p.aI p.items.length p.cI,.slice p.aD p.data.length p.cD,.int .i64 p.next] t (0,0))):∀j u,p.cs.toList[j]?=some u->W.cell? ((⟨g,0,none⟩:Addr).add j)=some u:=by
 intro j u d;match j,d with
 |0,d=>simp only[Pv.cs] at d;simp at d;subst d;rw[show((⟨g,0,none⟩:Addr).add 0)=⟨g,0,none⟩ from rfl,ay _ _ _ _ _ _ h];rfl
 |1,d=>simp only[Pv.cs] at d;simp at d;subst d;rw[show((⟨g,0,none⟩:Addr).add 1)=⟨g,1,none⟩ from rfl,ay _ _ _ _ _ _ h];rfl
 |2,d=>simp only[Pv.cs] at d;simp at d;subst d;rw[show((⟨g,0,none⟩:Addr).add 2)=⟨g,2,none⟩ from rfl,ay _ _ _ _ _ _ h];rfl
 |3,d=>simp only[Pv.cs] at d;simp at d;subst d;rw[show((⟨g,0,none⟩:Addr).add 3)=⟨g,3,none⟩ from rfl,ay _ _ _ _ _ _ h];rfl
 |4,d=>simp only[Pv.cs] at d;simp at d;subst d;rw[show((⟨g,0,none⟩:Addr).add 4)=⟨g,4,none⟩ from rfl,ay _ _ _ _ _ _ h];rfl
 |j+5,d=>simp[Pv.cs] at d
theorem uB{p:Pv}:∀u∈p.cs.toList,u.oneCell'=true:=by
 intro u d;simp only[Pv.cs,cO,bm,gO] at d;rcases d with rfl|rfl|rfl|rfl|rfl<;>rfl
theorem iR{W:World}{g:Nat}{t:TypeId}{v0 d e v3 v4:Value}(h:W.heap[g]?=some (.cells #[v0,d,e,v3,v4] t (0,0))):W.cell? ⟨g,0,none⟩=some v0/\W.cell? ⟨g,1,none⟩=some d/\W.cell? ⟨g,2,none⟩=some e/\W.cell? ⟨g,3,none⟩=some v3/\W.cell? ⟨g,4,none⟩=some v4:=by
 refine⟨?_,?_,?_,?_,?_⟩<;>(rw[ay _ _ _ _ _ _ h];rfl)
theorem xA(p:Pv):vpg [p]=p.cs.toList:=by simp[vpg]
structure Kd(v w:World)(col colR:Nat->Nat)(K:Bkk)(p x:Pv):Prop where
 ph:Pw1 v w col colR p
 xh:Pw1 v w col colR x
 e:p.pg=x.pg
 tp:∀q∈K.T,Bdj q p
 xp:∀q∈K.X,Bdj p q
 tx:∀q∈K.T,Bdj q x
 px:Bdj p x
 z:∀k,w.heap.size<=k->col k=0/\colR k=0
 vs:v.heap.size<=w.heap.size
def Kpp(v w:World)(wb b rb:Nat)(col colR:Nat->Nat)(vw:Value)(K:Bkk)(p x:Pv)(e:Ending)(w':World):Prop:=
 e=.returned (.bool true)/\∃K':Bkk,Bo v w' wb b rb col colR vw K'/\K'.T.length<=40/\K'.T.map Pv.pg=K'.X.map Pv.pg/\(∀q∈K'.T,q∈K.T\/q=p)/\(∀q∈K'.X,q∈K.X\/q=x)/\But (K.own wb) w w'/\∀k,K'.own wb k->K.own wb k\/w.heap.size<=k
def KpA(v w1:World)(wb b rb:Nat)(col colR:Nat->Nat)(vw:Value)(K:Bkk)(p:Pv)(g c:Nat)(wx:World):Prop:=Bo v wx wb b rb col colR vw {K with aT:=some ⟨g,0,none⟩,cT:=c,T:=K.T++[p]}/\But (K.own wb) w1 wx/\(Q.InA K.aT g\/w1.heap.size<=g)
def KpB(v w1:World)(wb b rb:Nat)(col colR:Nat->Nat)(vw:Value)(K:Bkk)(p:Pv)(g c:Nat)(wx:World):Prop:=Bo v wx wb b rb col colR vw {K with aX:=some ⟨g,0,none⟩,cX:=c,X:=K.X++[p]}/\But (K.own wb) w1 wx/\(Q.InA K.aX g\/w1.heap.size<=g)
theorem tN(v w:World)(wb b rb:Nat)(col colR:Nat->Nat)(vw:Value)(K:Bkk)(aj:Bo v w wb b rb col colR vw K)(he:K.T.map Pv.pg=K.X.map Pv.pg)(h4:K.T.length<=40)(p x:Pv)(hd:Kd v w col colR K p x):
 Calls prog 39 #[.pointer (some ⟨wb,0,none⟩),p.vl,x.vl] w λe w'=>Kpp v w wb b rb col colR vw K p x e w':=by
 have m:=iJ (bt (al w (.cells #[.int .i64 p.kind,.int .i64 p.level,.slice p.aI p.items.length p.cI,.slice p.aD p.data.length p.cD,.int .i64 p.next] 31)) (al (w.alloc (.cells #[.int .i64 p.kind,.int .i64 p.level,.slice p.aI p.items.length p.cI,.slice p.aD p.data.length p.cD,.int .i64 p.next] 31)) (.cells #[.int .i64 x.kind,.int .i64 x.level,.slice x.aI x.items.length x.cI,.slice x.aD x.data.length x.cD,.int .i64 x.next] 31)));have B:Hid (((w.alloc (.cells #[.int .i64 p.kind,.int .i64 p.level,.slice p.aI p.items.length p.cI,.slice p.aD p.data.length p.cD,.int .i64 p.next] 31)).alloc (.cells #[.int .i64 x.kind,.int .i64 x.level,.slice x.aI x.items.length x.cI,.slice x.aD x.data.length x.cD,.int .i64 x.next] 31)).heap[w.heap.size]?=some (.cells #[.int .i64 p.kind,.int .i64 p.level,.slice p.aI p.items.length p.cI,.slice p.aD p.data.length p.cD,.int .i64 p.next] 31 (0,0))):=iQ (aH w _) (al _ _)
 have s:Hid (((w.alloc (.cells #[.int .i64 p.kind,.int .i64 p.level,.slice p.aI p.items.length p.cI,.slice p.aD p.data.length p.cD,.int .i64 p.next] 31)).alloc (.cells #[.int .i64 x.kind,.int .i64 x.level,.slice x.aI x.items.length x.cI,.slice x.aD x.data.length x.cD,.int .i64 x.next] 31)).heap[w.heap.size+1]?=some (.cells #[.int .i64 x.kind,.int .i64 x.level,.slice x.aI x.items.length x.cI,.slice x.aD x.data.length x.cD,.int .i64 x.next] 31 (0,0))):=by
  have c:=aH (w.alloc (.cells #[.int .i64 p.kind,.int .i64 p.level,.slice p.aI p.items.length p.cI,.slice p.aD p.data.length p.cD,.int .i64 p.next] 31)) (.cells #[.int .i64 x.kind,.int .i64 x.level,.slice x.aI x.items.length x.cI,.slice x.aD x.data.length x.cD,.int .i64 x.next] 31);rw[size_alloc] at c;exact c
 have A:=iJ (aj.keep m.o);have i:=iJ hd;have Y:=iJ aj;have HE:=iJ he;have N:=iJ m.o.size;have J:=iJ λ(ai:World)(hp:Pi ai p)(hx:Pi ai x)=>mY ai p x hp hx hd.e
 unfold Pv.vl at J ⊢;simp only[Pv.cs] at J ⊢;clear aj hd he;go_enter func39,ntmps39;obtain⟨p0,p1,p2,p3,p4⟩:=iR B.o;obtain⟨O,P,R,U,V⟩:=iR s.o;obtain⟨-,-,-,q3,q4⟩:=iR A.o.box;have aC:=A.o.lb;obtain⟨n,hn⟩:∃n,K.T.length=n:=⟨_,rfl⟩;have M:=iJ hn
 have Z:Hid (K.X.length=n):=by
  have e:=a7 List.length HE.o;rw[aZ,aZ] at e;show _=n;omega
 rw[hn] at q3 h4;rw[Z.o] at q4;clear hn;by_cases aE:n<40
 . have aD:(n:Int)<40:=by omega
   have aq:n+1<=maxLen:=by unfold maxLen;omega
   obtain⟨gp,ag⟩:∃gp,w.heap.size=gp:=⟨_,rfl⟩;obtain⟨gx,ah⟩:∃gx,gp+1=gx:=⟨_,rfl⟩;have ad:=iJ ag;have an:=iJ ah;rw[ag] at B s p0 p1 p2 p3 p4 O P R U V;rw[ah] at s O P R U V;go_upto_region 2 with fail
   try simp only[ag,ah]
   clear ag ah;generalize (w.alloc (.cells #[.int .i64 p.kind,.int .i64 p.level,.slice p.aI p.items.length p.cI,.slice p.aD p.data.length p.cD,.int .i64 p.next] 31)).alloc (.cells #[.int .i64 x.kind,.int .i64 x.level,.slice x.aI x.items.length x.cI,.slice x.aD x.data.length x.cD,.int .i64 x.next] 31)=j at *;have ab:Hid (Q.Gw 31 5 j K.aT K.cT n (vpg K.T)):=by have e:=A.o.gt;rw[M.o] at e;exact e
   have r:=iJ (bt (al j (.cells #[.int .i64 p.kind,.int .i64 p.level,.slice p.aI p.items.length p.cI,.slice p.aD p.data.length p.cD,.int .i64 p.next] 31)) (dr2 (j.alloc (.cells #[.int .i64 p.kind,.int .i64 p.level,.slice p.aI p.items.length p.cI,.slice p.aD p.data.length p.cD,.int .i64 p.next] 31))));have h:Hid ((j.alloc (.cells #[.int .i64 p.kind,.int .i64 p.level,.slice p.aI p.items.length p.cI,.slice p.aD p.data.length p.cD,.int .i64 p.next] 31)).drew.heap[j.heap.size]?=some (.cells #[.int .i64 p.kind,.int .i64 p.level,.slice p.aI p.items.length p.cI,.slice p.aD p.data.length p.cD,.int .i64 p.next] 31 (0,0))):=aH j _;have W:Hid (Q.Gw 31 5 (j.alloc (.cells #[.int .i64 p.kind,.int .i64 p.level,.slice p.aI p.items.length p.cI,.slice p.aD p.data.length p.cD,.int .i64 p.next] 31)).drew K.aT K.cT n (vpg K.T)):=by have e:=ab.o.keep r.o;exact e
   have H:Hid (∀(f c5:Nat)(w5:World),Q.Gw 31 5 w5 (some ⟨f,0,none⟩) c5 (n+1) (vpg K.T++p.cs.toList)->New (j.alloc (.cells #[.int .i64 p.kind,.int .i64 p.level,.slice p.aI p.items.length p.cI,.slice p.aD p.data.length p.cD,.int .i64 p.next] 31)).drew K.aT (some ⟨f,0,none⟩)->But (Q.InA K.aT) (j.alloc (.cells #[.int .i64 p.kind,.int .i64 p.level,.slice p.aI p.items.length p.cI,.slice p.aD p.data.length p.cD,.int .i64 p.next] 31)).drew w5->(w5.frozen? ⟨wb,3,none⟩=false/\w5.cell? ⟨wb,3,none⟩=some (.slice K.aT n K.cT))/\KpA v j wb b rb col colR vw K p f c5 (w5.setCell ⟨wb,3,none⟩ (.slice (some ⟨f,0,none⟩) (n+1) c5))):=λf c5 w5 E G t=>by
    have bx:=iQ A.o.box r.o;have b5:w5.heap[wb]?=_:=t.same bx (λ⟨y,d,e⟩=>jv (A.o.gt.keep r.o) bx (by decide) y d e)
    refine⟨⟨by simp[World.frozen?,b5],by rw[ay _ _ _ _ _ _ b5,<-M.o];rfl⟩,?_⟩
    have k:=A.o.told r.o (i.o.ph.keep m.o) i.o.tp i.o.xp (λk l=>i.o.z k (aO N.o l)) (aO i.o.vs N.o) (by rw[M.o,rZ,xA];exact E) G t
    rw[M.o] at k;exact k
   go_upto_region 2 with fail
   go_cut [4,5] from 13 to 22 (λs4 s5 wx=>∃(C c1:Nat),s4=.pointer (some ⟨gp,0,none⟩)/\s5=.pointer (some ⟨gx,0,none⟩)/\KpA v j wb b rb col colR vw K p C c1 wx)
   case first=>
    go_region_law
     (refine kP underlying53 lW rfl (by decide) rfl _ _ rfl K.aT n K.cT (vpg K.T) (by first|(simp[Act.eval];done)|simp[Act.eval,Act.put]) W.o ⟨j.heap.size,0,none⟩ 1 p.cs.toList (by first|(simp[Act.eval];done)|simp[Act.eval,Act.put]) rfl (ux h.o) uB aq (by omega) ?_
      intro f c5 w5 E G t;obtain⟨⟨fS,cS⟩,r6⟩:=H.o f c5 w5 E G t;have ak:=iJ r6;clear E G t r6)
    all_goals
     clear fS cS H;go_wp2_with fail
     go_meet
     case rel=>exact⟨f,c5,rfl,rfl,ak.o⟩
   case rest=>
    obtain⟨C,c1,rfl,rfl,ac⟩:=hcut;have D:=iJ ac;clear ac H r h W ab q3 q4 p0 p1 p2 p3 p4 O P R U V;generalize wc=g at *;have L:=iJ D.o.1
    have ap:Hid (∀k,w.heap.size<=k->k<j.heap.size->¬K.own wb k):=λk h1 h2 e=>by
     rcases e with e|⟨y,d,e⟩|⟨y,d,e⟩
     . have:=Y.o.lb;omega
     . have:=Y.o.gt.lt d;omega
     . have:=Y.o.gx.lt d;omega
    have ar:=iJ (af.1 B.o).1;have au:=iJ (af.1 s.o).1;have B:=iJ (D.o.2.1.same B.o (ap.o _ (by have:=ad.o;omega) (af.1 B.o).1))
    have s:=iJ (D.o.2.1.same s.o (ap.o _ (by have:=ad.o;have:=an.o;omega) (af.1 s.o).1))
    obtain⟨p0,p1,p2,p3,p4⟩:=iR B.o;obtain⟨O,P,R,U,V⟩:=iR s.o;have q4:g.cell? ⟨wb,4,none⟩=some (.slice K.aX n K.cX):=by rw[ay _ _ _ _ _ _ L.o.box,<-Z.o];rfl
    have aC:=L.o.lb;have am:=iJ D.o.2.1.size
    have aA:Hid (Pw1 v g col colR x):=(i.o.xh.keep m.o).but D.o.2.1 (λk l e=>by
     rcases e with e|e|e
     . exact(i.o.xh.keep m.o).n.ne l A.o.box (by decide) (by decide) e
     . exact(i.o.xh.keep m.o).n.ne_row l A.o.gt (by decide) (by decide) e
     . exact(i.o.xh.keep m.o).n.ne_row l A.o.gx (by decide) (by decide) e)
    have ax:Hid (∀q∈K.T++[p],Bdj q x):=λq hq=>by
     rcases bq.1 hq with hq|hq
     . exact i.o.tx q hq
     . rw[aQ.1 hq];exact i.o.px
    have Z2:Hid (∀k,g.heap.size<=k->col k=0/\colR k=0):=λk l=>i.o.z k (aO (aO N.o am.o) l)
    have V2:Hid (v.heap.size<=g.heap.size):=aO (aO i.o.vs N.o) am.o;have ab:Hid (Q.Gw 31 5 g K.aX K.cX n (vpg K.X)):=by have e:=L.o.gx;rw[show({K with aT:=some ⟨C,0,none⟩,cT:=c1,T:=K.T++[p]}:Bkk).X.length=n from Z.o] at e;exact e
    have r:=iJ (bt (al g (.cells #[.int .i64 x.kind,.int .i64 x.level,.slice x.aI x.items.length x.cI,.slice x.aD x.data.length x.cD,.int .i64 x.next] 31)) (dr2 (g.alloc (.cells #[.int .i64 x.kind,.int .i64 x.level,.slice x.aI x.items.length x.cI,.slice x.aD x.data.length x.cD,.int .i64 x.next] 31))));have h:Hid ((g.alloc (.cells #[.int .i64 x.kind,.int .i64 x.level,.slice x.aI x.items.length x.cI,.slice x.aD x.data.length x.cD,.int .i64 x.next] 31)).drew.heap[g.heap.size]?=some (.cells #[.int .i64 x.kind,.int .i64 x.level,.slice x.aI x.items.length x.cI,.slice x.aD x.data.length x.cD,.int .i64 x.next] 31 (0,0))):=aH g _;have W:Hid (Q.Gw 31 5 (g.alloc (.cells #[.int .i64 x.kind,.int .i64 x.level,.slice x.aI x.items.length x.cI,.slice x.aD x.data.length x.cD,.int .i64 x.next] 31)).drew K.aX K.cX n (vpg K.X)):=by have e:=ab.o.keep r.o;exact e
    have H:Hid (∀(f c5:Nat)(w5:World),Q.Gw 31 5 w5 (some ⟨f,0,none⟩) c5 (n+1) (vpg K.X++x.cs.toList)->New (g.alloc (.cells #[.int .i64 x.kind,.int .i64 x.level,.slice x.aI x.items.length x.cI,.slice x.aD x.data.length x.cD,.int .i64 x.next] 31)).drew K.aX (some ⟨f,0,none⟩)->But (Q.InA K.aX) (g.alloc (.cells #[.int .i64 x.kind,.int .i64 x.level,.slice x.aI x.items.length x.cI,.slice x.aD x.data.length x.cD,.int .i64 x.next] 31)).drew w5->(w5.frozen? ⟨wb,4,none⟩=false/\w5.cell? ⟨wb,4,none⟩=some (.slice K.aX n K.cX))/\KpB v g wb b rb col colR vw {K with aT:=some ⟨C,0,none⟩,cT:=c1,T:=K.T++[p]} x f c5 (w5.setCell ⟨wb,4,none⟩ (.slice (some ⟨f,0,none⟩) (n+1) c5))):=λf c5 w5 E G t=>by
     have bx:=iQ L.o.box r.o;have b5:w5.heap[wb]?=_:=t.same bx (λ⟨y,d,e⟩=>jv (L.o.gx.keep r.o) bx (by decide) y d e)
     refine⟨⟨by simp[World.frozen?,b5],by rw[ay _ _ _ _ _ _ b5,<-Z.o];rfl⟩,?_⟩
     have k:=L.o.text r.o aA.o ax.o Z2.o V2.o (by show Q.Gw _ _ _ _ _ (K.X.length+1) (vpg (K.X++[x]));rw[Z.o,rZ,xA];exact E) G t
     have e:({K with aT:=some ⟨C,0,none⟩,cT:=c1,T:=K.T++[p]}:Bkk).X.length=n:=Z.o;rw[e] at k;exact k
    go_upto_region 3 with fail
    go_cut [4,5] from 23 to 32 (λs4 s5 wx=>∃(h1 d1:Nat),s4=.pointer (some ⟨gp,0,none⟩)/\s5=.pointer (some ⟨gx,0,none⟩)/\KpB v g wb b rb col colR vw {K with aT:=some ⟨C,0,none⟩,cT:=c1,T:=K.T++[p]} x h1 d1 wx)
    case first=>
     go_region_law
      (refine kP underlying53 lW rfl (by decide) rfl _ _ rfl K.aX n K.cX (vpg K.X) (by first|(simp[Act.eval];done)|simp[Act.eval,Act.put]) W.o ⟨g.heap.size,0,none⟩ 1 x.cs.toList (by first|(simp[Act.eval];done)|simp[Act.eval,Act.put]) rfl (ux h.o) uB aq (by omega) ?_
       intro f c5 w5 E G t;obtain⟨⟨fS,cS⟩,r6⟩:=H.o f c5 w5 E G t;have ak:=iJ r6;clear E G t r6)
     all_goals
      clear fS cS H;go_wp2_with fail
      go_meet
      case rel=>exact⟨f,c5,rfl,rfl,ak.o⟩
    case rest=>
     obtain⟨g2,c2,rfl,rfl,ac⟩:=hcut;have P2:=iJ ac;clear ac H r h W ab q4 p0 p1 p2 p3 p4 O P R U V;generalize wc=w3 at *;have H3:=iJ P2.o.1
     have ao:Hid (∀k,w.heap.size<=k->k<j.heap.size->¬({K with aT:=some ⟨C,0,none⟩,cT:=c1,T:=K.T++[p]}:Bkk).own wb k):=λk h1 h2 e=>by
      rcases e with e|⟨y,d,e⟩|⟨y,d,e⟩
      . have:=Y.o.lb;omega
      . cases d;have e:C=k:=e;rcases D.o.2.2 with⟨y,d,e2⟩|e2
        . have:=Y.o.gt.lt d;omega
        . omega
      . have:=Y.o.gx.lt d;omega
     have B:=iJ (P2.o.2.1.same B.o (ao.o _ (by have:=ad.o;omega) ar.o))
     have s:=iJ (P2.o.2.1.same s.o (ao.o _ (by have:=ad.o;have:=an.o;omega) au.o))
     obtain⟨p0,p1,p2,p3,p4⟩:=iR B.o;obtain⟨O,P,R,U,V⟩:=iR s.o;have aw:Hid (Pw1 v w3 col colR p):=H3.o.tp p (iy _ (aQ.2 rfl));have aB:Hid (Pw1 v w3 col colR x):=H3.o.xp x (iy _ (aQ.2 rfl));have aa:=iJ (J.o w3 aw.o.pi aB.o.pi);clear J;go_wp2_with fail
     refine aa.o.mono ?_;rintro _ w4 ⟨rfl,I⟩;have B4:=iJ I;have H4:=iJ (H3.o.keep I);clear I aa;go_wp2_with fail
     go_ret;refine⟨rfl,_,H4.o,?_,?_,?_,?_,?_,?_⟩
     . show(K.T++[p]).length<=40;rw[ae,M.o];show n+1<=40;omega
     . show(K.T++[p]).map Pv.pg=(K.X++[x]).map Pv.pg;rw[bP,bP,HE.o];show _++[p.pg]=_++[x.pg];rw[i.o.e]
     . intro q hq;exact(bq.1 hq).imp id (λhq=>aQ.1 hq)
     . intro q hq;exact(bq.1 hq).imp id (λhq=>aQ.1 hq)
     . have b1:But (K.own wb) w j:=But.ofBelow m.o;have b2:But (K.own wb) w g:=b1.trans D.o.2.1 (λ_ _ e=>e)
       have b3:But (K.own wb) w w3:=b2.trans P2.o.2.1 (λk l e=>by
        rcases e with e|⟨y,d,e⟩|⟨y,d,e⟩
        . exact .inl e
        . cases d;have e:C=k:=e;rcases D.o.2.2 with e2|e2
          . rw[e] at e2;exact .inr (.inl e2)
          . have:=N.o;omega
        . exact .inr (.inr ⟨y,d,e⟩))
       exact b3.trans (But.ofBelow (S:=K.own wb) B4.o) (λ_ _ e=>e)
     . intro k l;have s1:=N.o;have s2:=am.o;rcases l with e|⟨y,d,e⟩|⟨y,d,e⟩
       . exact .inl (.inl e)
       . cases d;have e:C=k:=e;rcases D.o.2.2 with e2|e2
         . rw[e] at e2;exact .inl (.inr (.inl e2))
         . exact .inr (by omega)
       . cases d;have e:g2=k:=e;rcases P2.o.2.2 with e2|e2
         . rw[e] at e2;exact .inl (.inr (.inr e2))
         . exact .inr (by omega)
 . have aD:¬(n:Int)<40:=by omega
   have av:=iJ (i.o.ph.keep m.o);have az:=iJ (i.o.xh.keep m.o);have aa:=iJ (J.o _ av.o.pi az.o.pi);clear J;go_wp2_with fail
   refine aa.o.mono ?_;rintro _ w4 ⟨rfl,I⟩;have B4:=iJ (bt m.o I);have H4:=iJ (A.o.keep I);clear I aa;go_wp2_with fail
   go_ret;exact⟨rfl,K,H4.o,by rw[M.o];exact h4,HE.o,λq hq=>.inl hq,λq hq=>.inl hq,But.ofBelow B4.o,λk l=>.inl l⟩
end Go.Proofs.YtbdkogimlbnlmaaGreat
