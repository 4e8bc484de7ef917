import Derived.Test.YtbdkogimlbnlmaaGreatWqB23
set_option linter.unusedVariables false
set_option linter.unusedSimpArgs false
set_option maxHeartbeats 16000000
set_option maxRecDepth 8000
namespace Go.Proofs.YtbdkogimlbnlmaaGreat
open Go.RowKit
variable {n y z:Int}{col:Nat->Nat}{q':Pv}{D D':Rd}{X:Vm}{S:Vs}{w:World}
theorem mi(f:Int->Option Pv)(n:Int)(p:Pv)(h:y≠n):iK f n p y=f y:=by unfold iK;rw[if_neg h]
theorem sO(hz:D.has z=true)(hy:D.has y=true)(h:y≠z)(q:Pv):(D.P.set (z-1).toNat q).getD (y-1).toNat Pv.zero=D.on y:=by
 obtain⟨h1,h2⟩:=Rd.has_iff.1 hz;obtain⟨k1,k2⟩:=Rd.has_iff.1 hy;unfold Rd.on;rw[aq,bT (by omega),<-aq]
theorem s6(c:Int)(hc:c≠0)(l:Bool):Q.stt (c,l)=3\/Q.stt (c,l)=4:=by
 unfold Q.stt;cases l<;>simp[hc]
theorem R2.make(h:R2 S.X D){p:Pg}{q:Pv}(hq:q.pg=p)(hq':q'.pg=p)(hk:p.kind≠0)(h0:(S.makeR p).2=0)(hp:p.check=0):R2 (S.makeS p q).X (D.makeD p q'):=by
 have r:=h.rel.make hq hq' hk h0 hp
 have e1:S.X.P.alloc.1.2=0:=by
  unfold Vs.makeR at h0;rw[if_pos hp] at h0;exact h0
 have hlow:ip D.pg≠0:=λe=>by
  rw[h.rel.low,if_pos e] at e1;exact absurd e1 (by decide)
 have e2:S.X.P.alloc.1.1=ip D.pg:=by rw[h.rel.low,if_neg hlow]
 obtain⟨i,i1,i2,i3⟩:=mt hlow;rw[Rd.pg_len h.rel.nL] at i1;have hn:D.has (ip D.pg)=true:=Rd.has_iff.2 ⟨by omega,by omega⟩
 have eX:(S.makeS p q).X.f=iK S.X.f (ip D.pg) q:=by
  unfold Vs.makeS;rw[if_pos hp,e1,if_pos rfl];unfold Vs.done;rw[if_pos rfl,<-e2];rfl
 have eD:D.makeD p q'={D with C:=D.C.set (ip D.pg-1).toNat 1,P:=D.P.set (ip D.pg-1).toNat q'}:=by unfold Rd.makeD;rw[if_pos ⟨hp,hlow⟩]
 have es:∀y,(D.makeD p q').state y=if y=ip D.pg then Q.stt (1,D.lasts (ip D.pg)) else D.state y:=λy=>by
  rw[eD];exact Rd.state_put hn 1 y
 have n12:=s6 1 (by decide) (D.lasts (ip D.pg))
 refine⟨r,λy hy=>?_,λy hy=>?_⟩
 . rw[es y] at hy;split at hy
   . omega
   . rename_i ne;have hy2:=Rd.state_has (D:=D) (z:=y) (by omega)
     have k:=h.pd y hy;have a:(S.makeS p q).X.on y=S.X.on y:=by unfold Vm.on;rw[eX,mi _ _ _ ne]
     have b:(D.makeD p q').on y=D.on y:=by rw[eD];exact sO hn hy2 ne q'
     rw[a,b];exact k
 . rw[es y] at hy;split at hy
   . omega
   . rename_i ne;rw[eX,mi _ _ _ ne];exact h.fr y hy
theorem R2.write(h:R2 X D)(ho:D.own z=true){q:Pv}(hq:q.pg=q'.pg)(hk:q.kind≠0):R2 (X.lay z q) {D with P:=D.P.set (z-1).toNat q'}:=by
 unfold Rd.own at ho;rw[bO,bL,bL] at ho;have hz:=Rd.state_has (D:=D) (z:=z) (by rw[ho.1];decide)
 obtain⟨z1,z2⟩:=Rd.has_iff.1 hz;have hl:(z-1).toNat<D.P.length:=by rw[h.rel.nP];omega
 have self:(D.P.set (z-1).toNat q').getD (z-1).toNat Pv.zero=q':=by
  generalize (z-1).toNat=k at hl;rw[aq,dF hl];rfl
 have fz:(X.lay z q).f z=some q:=by
  show iK X.f z q z=_;unfold iK;rw[if_pos rfl,if_neg hk]
 have fn:∀y,y≠z->(X.lay z q).on y=X.on y:=λy hy=>by
  show((iK X.f z q y).getD Pv.zero)=_;rw[mi _ _ _ hy];rfl
 refine⟨⟨h.rel.pg,h.rel.rf,λy hy=>?_,h.rel.nL,by rw[aO];exact h.rel.nP,h.rel.ok⟩,λy hy=>?_,λy hy=>?_⟩
 . by_cases e:y=z
   . subst e;show(((X.lay y q).f y).getD Pv.zero).pg=((D.P.set (y-1).toNat q').getD (y-1).toNat Pv.zero).pg;rw[fz,self];exact hq
   . have hy2:D.has y=true:=Rd.count_has (by rw[<-h.rel.count];exact hy)
     rw[fn y e];show _=((D.P.set (z-1).toNat q').getD (y-1).toNat Pv.zero).pg;rw[sO hz hy2 e];exact h.rel.on y hy
 . have hy:D.state y=2:=hy;have e:y≠z:=λe=>by rw[e,ho.1] at hy;cases hy
   rw[fn y e];show _=((D.P.set (z-1).toNat q').getD (y-1).toNat Pv.zero).pg;rw[sO hz (Rd.state_has (by omega)) e]
   exact h.pd y hy
 . have hy:D.state y=1:=hy;have e:y≠z:=λe=>by rw[e,ho.1] at hy;cases hy
   show iK X.f z q y=none;rw[mi _ _ _ e];exact h.fr y hy
theorem wV{P:Q.Po}(h:P.state z=2):z∈P.pages 2:=by
 unfold Q.Po.state at h;split at h
 . rename_i hh;have hi:=Q.Po.has_iff.1 hh;unfold Q.Po.pages;rw[if_pos (by decide)]
   exact(Q.iX P.pg _ z).2 (Q.jt.2 ⟨hi.1,hi.2,h⟩)
 . cases h
theorem R2.settle(h:R2 S.X D)(hs:D.Set D' D.C.length):R2 S.settle.X D':=by
 have r:=h.rel.settle hs;have eC:D'.C=D.C:=by rw[hs.e]
 have key:∀z,D'.state z=1\/D'.state z=2->D'.state z=1/\(D.state z=1\/D.state z=2):=λz hz=>by
  have hh':=Rd.state_has (D:=D') (z:=z) (by omega)
  obtain⟨h1,h2⟩:=Rd.has_iff.1 hh';rw[eC] at h2;have hh:D.has z=true:=Rd.has_iff.2 ⟨h1,h2⟩;have hi:(z-1).toNat<D.C.length:=by omega
  have el:D'.lasts z=decide (0<D.C.getD (z-1).toNat 0):=by
   unfold Rd.lasts;rw[hs.l,if_pos ⟨hi,by rw[h.rel.nL];exact hi⟩]
  unfold Rd.state at hz ⊢;rw[if_pos hh',eC,el] at hz ⊢;rw[if_pos hh];by_cases c0:D.C.getD (z-1).toNat 0=0
  . rw[c0];unfold Q.stt;cases D.lasts z<;>simp
  . exfalso;rcases s6 _ c0 (decide (0<D.C.getD (z-1).toNat 0)) with k|k<;>omega
 refine⟨r,λz hz=>?_,λz hz=>?_⟩
 . have:=(key z (.inr hz)).1;omega
 . show jE S.X.f (S.X.P.pages 2) z=none;unfold jE;rcases (key z (.inl hz)).2 with k|k
   . rw[h.fr z k];simp
   . rw[if_pos (wV (by rw[h.rel.state2];exact k))]
theorem R2.congr{Y:Vm}(h:R2 Y D)(hP:X.P=Y.P)(hf:X.f=Y.f):R2 X D:=by
 have ho:∀z,X.on z=Y.on z:=λz=>by unfold Vm.on;rw[hf]
 exact⟨⟨by rw[hP];exact h.rel.pg,by rw[hP];exact h.rel.rf,λz hz=>by rw[ho];exact h.rel.on z (by rw[<-hP];exact hz),h.rel.nL,h.rel.nP,by rw[hP];exact h.rel.ok⟩,λz hz=>by rw[ho];exact h.pd z hz,λz hz=>by rw[hf];exact h.fr z hz⟩
theorem Au(Y:Vm)(h:z≠n)(p:Pv):((Y.lay n p).less z).f=iK (Y.less z).f n p:=by
 unfold Vm.less;show(if (Y.P.dec z).1.2=0/\(Y.P.dec z).2.state z=1 then (⟨(Y.P.dec z).2,iK (iK Y.f n p) z Pv.zero,_⟩:Vm) else ⟨(Y.P.dec z).2,iK Y.f n p,_⟩).f=_
 split
 . funext k
   unfold iK;by_cases e1:k=z
   . subst e1;simp[h]
   . simp[e1]
 . rfl
theorem AH(Y:Vm)(h:z≠n)(p:Pv):((Y.lay n p).left z).1=(Y.left z).1/\((Y.lay n p).left z).2.P=(Y.left z).2.P/\((Y.lay n p).left z).2.f=iK (Y.left z).2.f n p:=by
 have eo:(Y.lay n p).on z=Y.on z:=by
  show(iK Y.f n p z).getD Pv.zero=_;rw[mi _ _ _ h];rfl
 have ep:((Y.lay n p).less z).P=(Y.less z).P:=by rw[Vm.less_P,Vm.less_P];rfl
 have ef:=Au Y h p;unfold Vm.left;rw[eo];have hPP:(Y.lay n p).P=Y.P:=rfl;rw[hPP];split
 . unfold Vm.more;rw[ep];exact⟨rfl,rfl,ef⟩
 . exact⟨rfl,ep,ef⟩
theorem R2.shadow(h:R2 X D)(h0:0<D.count z)(ho:D.own z=false)(hck:(D.on z).pg.check=0)(hk:(D.on z).pg.kind≠0):(X.shadow z).1=(D.shadowR z).1/\((X.shadow z).1.2=0->R2 (X.shadow z).2 (D.shadowR z).2):=by
 have hx:X.P.count z≠0:=by rw[h.rel.count z];omega
 have hon:=h.rel.on z hx
 have eS:D.shadowR z=(if ip D.pg=0 then ((0,12),D) else if ((D.shadow1 z).leave z).1=0 then ((ip D.pg,0),((D.shadow1 z).leave z).2) else ((0,((D.shadow1 z).leave z).1),D)):=by
  unfold Rd.shadowR;rw[if_pos h0,if_neg (by rw[ho];decide)]
 rw[eS];by_cases hl:ip D.pg=0
 . have e1:X.P.alloc.1=(0,12):=by rw[h.rel.low,if_pos hl]
   unfold Vm.shadow;rw[e1,if_neg (by decide),if_pos hl]
   exact⟨rfl,λe=>absurd (show(12:Int)=0 from e) (by decide)⟩
 . have e1:X.P.alloc.1=(ip D.pg,0):=by rw[h.rel.low,if_neg hl]
   have mk:=R2.make (S:=⟨X,[],0⟩) h (p:=(D.on z).pg) (q:=X.on z) (q':=D.on z) hon rfl hk (by unfold Vs.makeR;rw[if_pos hck];show X.P.alloc.1.2=0;rw[e1]) hck
   have eM:((⟨X,[],0⟩:Vs).makeS (D.on z).pg (X.on z)).X=(⟨X.P.alloc.2,X.f,X.ch⟩:Vm).lay (ip D.pg) (X.on z):=by
    unfold Vs.makeS;rw[if_pos hck];show(Vs.done _ X.P.alloc.1.2 (if X.P.alloc.1.2=0 then X.allocd.lay X.P.alloc.1.1 (X.on z) else X.allocd)).X=_
    rw[e1,if_pos rfl];unfold Vs.done;rw[if_pos rfl];rfl
   have eD:D.makeD (D.on z).pg (D.on z)=D.shadow1 z:=by unfold Rd.makeD Rd.shadow1;rw[if_pos ⟨hck,hl⟩]
   rw[eM,eD] at mk;obtain⟨i,i1,i2,i3⟩:=mt hl;rw[Rd.pg_len h.rel.nL] at i1;have hn:D.has (ip D.pg)=true:=Rd.has_iff.2 ⟨by omega,by omega⟩
   have hzh:=Rd.count_has (D:=D) (z:=z) (by omega)
   have ne:z≠ip D.pg:=λe=>by
    have k1:D.count z=0:=by
     unfold Rd.count;rw[if_pos hzh,e,i2];rw[Rd.pg_get h.rel.nL i1] at i3;have e5:((i:Int)+1-1).toNat=i:=by omega
     rw[e5];generalize D.C.getD i 0=c at i3;generalize D.L.getD i false=l at i3;by_cases c0:c=0
     . exact c0
     . rcases s6 c c0 l with k|k<;>omega
    omega
   have cz:(D.shadow1 z).count z=D.count z:=by
    obtain⟨z1,z2⟩:=Rd.has_iff.1 hzh;have hh:(D.shadow1 z).has z=true:=Rd.has_iff.2 ⟨z1,by show z<=(((D.C.set _ 1).length:Nat):Int);rw[aO];exact z2⟩
    unfold Rd.count;rw[if_pos hh,if_pos hzh];show(D.C.set (ip D.pg-1).toNat 1).getD (z-1).toNat 0=_;rw[aq,bT (by omega),<-aq]
   obtain⟨k1,k2⟩:=mk.left (z:=z) (by rw[cz];exact h0)
   obtain⟨j1,j2,j3⟩:=AH (⟨X.P.alloc.2,X.f,X.ch⟩:Vm) ne (X.on z);rw[j1] at k1 k2;unfold Vm.shadow Vm.leave;dsimp only;rw[e1,if_pos rfl,if_neg hl,<-k1];dsimp only;by_cases e:((⟨X.P.alloc.2,X.f,X.ch⟩:Vm).left z).1=0
   . rw[if_pos e,if_pos e];exact⟨rfl,λ_=>(k2 e).congr j2.symm j3.symm⟩
   . rw[if_neg e,if_neg e];exact⟨rfl,λx=>absurd x e⟩
def Ch(D:Rd)(z:Int)(L:List Int)(X:Vm)(r:Int×Vm):Prop:=(r.1=0/\∃D',R2 r.2 D'/\D'={D with C:=D'.C}/\Rd.dropS (D.tot+1) D (z::L)=Rd.dropS (D'.tot+1) D' L/\Dp X r.2)\/(r.1=15/\Rd.dropS (D.tot+1) D (z::L)=none)
theorem ur:∀(t:Nat)(X:Vm)(D:Rd)(z:Int)(L:List Int),R2 X D->tot X.P<t->Ch D z L X (dropM t X z)
 |0,X,D,z,L,_,ht=>absurd ht (dH _)
 |t+1,X,D,z,L,h,ht=>by
  unfold dropM;by_cases h0:X.P.count z=0
  . rw[if_pos (.inl (by rw[j8,if_pos h0];decide))]
    refine .inr ⟨by rw[j8,if_pos h0],?_⟩
    show(if 0<D.count z then _ else _)=_
    rw[if_neg (by rw[<-h.rel.count,h0];decide)]
  . have hc:=jC h.rel.ok z;have hD:0<D.count z:=by rw[<-h.rel.count];omega
    have hl:=h.less h0;obtain⟨dp,et⟩:=Dp.less h.rel.ok h0
    have st:∀M,Rd.dropS (D.tot+1) D (z::M)=Rd.dropS ((D.put z (D.count z-1)).tot+1) (D.put z (D.count z-1)) (if D.count z-1=0 then (D.on z).pg.kids++M else M):=λM=>by
     show(if 0<D.count z then _ else _)=_
     rw[if_pos hD,Rd.put_tot hD]
    by_cases h1:0<X.P.count z-1
    . rw[if_pos (.inr (by rw[j8,if_neg h0];exact h1))]
      refine .inl ⟨by rw[j8,if_neg h0],D.put z (D.count z-1),hl,rfl,?_,dp⟩
      rw[st L,if_neg (by rw[<-h.rel.count];omega)]
    . rw[if_neg (by rw[j8,if_neg h0];exact λe=>e.elim (λe=>e rfl) (λe=>h1 e))]
      have hk:∀(K:List Int)(Y:Vm)(E:Rd),R2 Y E->tot Y.P<t->(((dropL (dropM t) Y K).1=0/\∃D',R2 (dropL (dropM t) Y K).2 D'/\D'={E with C:=D'.C}/\Rd.dropS (E.tot+1) E (K++L)=Rd.dropS (D'.tot+1) D' L/\Dp Y (dropL (dropM t) Y K).2)\/((dropL (dropM t) Y K).1=15/\Rd.dropS (E.tot+1) E (K++L)=none)):=by
       intro K;induction K with
       |nil=>exact λY E hY _=>.inl ⟨rfl,E,hY,rfl,rfl,Dp.refl Y⟩
       |cons y K ih=>
        intro Y E hY htY;unfold dropL;rcases ur t Y E y (K++L) hY htY with⟨a1,E',a2,a3,a4,a5⟩|⟨a1,a2⟩
        . rw[if_pos a1];rcases ih _ E' a2 (Nat.lt_of_le_of_lt a5.t htY) with⟨b1,D',b2,b3,b4,b5⟩|⟨b1,b2⟩
          . refine .inl ⟨b1,D',b2,?_,?_,a5.trans b5⟩
            . rw[a3] at b3;exact b3
            . rw[de,a4,b4]
          . exact .inr ⟨b1,by rw[de,a4,b2]⟩
        . rw[if_neg (by rw[a1];decide)]
          exact .inr ⟨a1,by rw[de];exact a2⟩
      have e1:D.count z-1=0:=by rw[<-h.rel.count];omega
      rcases hk (X.on z).pg.kids (X.less z) (D.put z (D.count z-1)) hl (by omega) with⟨b1,D',b2,b3,b4,b5⟩|⟨b1,b2⟩
      . refine .inl ⟨b1,D',b2,b3,?_,dp.trans b5⟩;rw[st L,if_pos e1,<-h.rel.on z h0,b4]
      . refine .inr ⟨b1,?_⟩;rw[st L,if_pos e1,<-h.rel.on z h0,b2]
def Smi(p:Pv):Prop:=Sml p/\p.items.length<=1048576
def SmV(X:Vm):Prop:=∀z,Smi (X.on z)
theorem oG:Smi Pv.zero:=⟨⟨aF _,λx hx=>absurd hx (bu)⟩,aF _⟩
theorem SmV.lay(h:SmV X)(n:Int){p:Pv}(hp:Smi p):SmV (X.lay n p):=λy=>by
 show Smi ((iK X.f n p y).getD Pv.zero);unfold iK;split
 . split
   . exact oG
   . exact hp
 . exact h y
theorem SmV.less(h:SmV X)(z:Int):SmV (X.less z):=by
 unfold Vm.less;split
 . exact SmV.lay (X:=⟨(X.P.dec z).2,X.f,X.ch⟩) h z oG
 . exact h
theorem SmV.left(h:SmV X)(z:Int):SmV (X.left z).2:=by
 unfold Vm.left;split
 all_goals
  exact h.less z
theorem SmV.shadow(h:SmV X)(z:Int):SmV (X.shadow z).2:=by
 have k:=SmV.left (X:=⟨X.P.alloc.2,X.f,X.ch⟩) h z;unfold Vm.shadow;split
 . split
   . exact SmV.lay k _ (h z)
   . exact k
 . exact h
theorem SmV.dropL{F:Vm->Int->Int×Vm}(hF:∀X z,SmV X->SmV (F X z).2):∀(L:List Int)(X:Vm),SmV X->SmV (dropL F X L).2
 | [],X,h=>h
 |z::L,X,h=>by
  unfold Go.Proofs.YtbdkogimlbnlmaaGreat.dropL;split
  . exact SmV.dropL hF L _ (hF X z h)
  . exact hF X z h
theorem SmV.dropM:∀(t:Nat)(X:Vm)(z:Int),SmV X->SmV (dropM t X z).2
 |0,X,z,h=>h
 |t+1,X,z,h=>by
  unfold Go.Proofs.YtbdkogimlbnlmaaGreat.dropM;split
  . exact h.less z
  . exact SmV.dropL (SmV.dropM t) _ _ (h.less z)
def Ckd(D:Rd):Prop:=∀z,D.count z≠0->(D.on z).pg.check=0
theorem Rd.count_put(hz:D.has z=true)(c y:Int):(D.put z c).count y=if y=z then c else D.count y:=by
 obtain⟨h1,h2⟩:=Rd.has_iff.1 hz;have hl:(D.put z c).C.length=D.C.length:=aO;have hh:(D.put z c).has y=D.has y:=by unfold Rd.has;rw[hl]
 unfold Rd.count;rw[hh];by_cases e:y=z
 . subst e;rw[if_pos hz,if_pos rfl];show(D.C.set (y-1).toNat c).getD (y-1).toNat 0=c;have hi:(y-1).toNat<D.C.length:=by omega
   generalize (y-1).toNat=k at hi;rw[aq,dF hi];rfl
 . rw[if_neg e];split
   . rename_i hy;obtain⟨k1,k2⟩:=Rd.has_iff.1 hy;show(D.C.set (z-1).toNat c).getD (y-1).toNat 0=_;rw[aq,bT (by omega),<-aq]
   . rfl
theorem Ckd.put(h:Ckd D)(hz:D.count z≠0)(c:Int):Ckd (D.put z c):=λy hy=>by
 have hh:=Rd.count_has hz;rw[Rd.count_put hh] at hy;show(D.on y).pg.check=0;split at hy
 . rename_i e;rw[e];exact h z hz
 . exact h y hy
theorem Ckd.inc(h:Ckd D)(z:Int):Ckd (D.inc z).2:=by
 unfold Rd.inc;split
 . split
   . exact h
   . exact h.put (by omega) _
 . exact h
theorem Ckd.incs:∀(L:List Int){D:Rd},Ckd D->Ckd (D.incs L).2
 | [],D,h=>h
 |z::L,D,h=>by
  show Ckd (if (D.inc z).1=0 then (D.inc z).2.incs L else D.inc z).2
  split
  . exact Ckd.incs L (h.inc z)
  . exact h.inc z
theorem Ckd.leave(h:Ckd D)(hz:D.count z≠0):Ckd (D.leave z).2:=by
 unfold Rd.leave;split
 . exact h.put hz _
 . exact Ckd.incs _ (h.put hz _)
theorem Ckd.lay(h:Ckd D)(hz:D.has z=true)(hP:D.P.length=D.C.length)(c:Int){q:Pv}(hq:q.pg.check=0):Ckd {D with C:=D.C.set (z-1).toNat c,P:=D.P.set (z-1).toNat q}:=λy hy=>by
 obtain⟨h1,h2⟩:=Rd.has_iff.1 hz;have hc:({D with C:=D.C.set (z-1).toNat c,P:=D.P.set (z-1).toNat q}:Rd).count y=(D.put z c).count y:=rfl;rw[hc,Rd.count_put hz] at hy;show((D.P.set (z-1).toNat q).getD (y-1).toNat Pv.zero).pg.check=0;rw[jI];split at hy
 . rename_i e;rw[e,if_pos ⟨rfl,by omega⟩]
   exact hq
 . rename_i e;have hy2:=Rd.count_has hy;obtain⟨k1,k2⟩:=Rd.has_iff.1 hy2;rw[if_neg (λk=>by have:=k.1;omega)]
   exact h y hy
theorem Ckd.dropS:∀(t:Nat)(D:Rd)(L:List Int)(D2:Rd),Ckd D->Rd.dropS t D L=some D2->Ckd D2
 |0,D,L,D2,_,h=>by cases h
 |t+1,D,[],D2,k,h=>by cases h;exact k
 |t+1,D,x::L,D2,k,h=>by
  have h1:(if 0<D.count x then Rd.dropS t (D.put x (D.count x-1)) (if D.count x-1=0 then (D.on x).pg.kids++L else L) else none)=some D2:=h
  split at h1
  . exact Ckd.dropS t _ _ D2 (k.put (by omega) _) h1
  . cases h1
theorem Ckd.settle(h:Ckd D)(hs:D.Set D' D.C.length):Ckd D':=λz hz=>by
 have eC:D'.C=D.C:=by rw[hs.e]
 have ec:D'.count z=D.count z:=by unfold Rd.count Rd.has;rw[eC]
 rw[ec] at hz;have k:=h z hz;have hh:=Rd.count_has hz;obtain⟨h1,h2⟩:=Rd.has_iff.1 hh;unfold Rd.count at hz;rw[if_pos hh] at hz;show(D'.P.getD (z-1).toNat Pv.zero).pg.check=0;rw[hs.p,if_neg (λe=>hz e.2)]
 exact k
def Rd.writeR(D:Rd)(z:Int)(p:Pg):Int:=if D.own z=true then (p.check:Int) else 15
def Rd.writeD(D:Rd)(z:Int)(p:Pg)(q:Pv):Rd:=if D.own z=true/\p.check=0 then {D with P:=D.P.set (z-1).toNat q} else D
def RWr(w:World)(rb:Nat)(D:Rd)(H:List Sn)(col:Nat->Nat)(z:Int)(p:Pg)(e:Ending)(w':World):Prop:=∃(q:Pv)(D':Rd)(H':List Sn)(col':Nat->Nat),q.pg=p/\e=.returned (.int .i64 (D.writeR z p))/\Ra w' rb D' H' col'/\Vf w col w' col'/\D'.Al (D.writeD z p q)/\Dn D H (D.writeR z p) H'
theorem yi(w:World)(rb:Nat)(D:Rd)(H:List Sn)(col:Nat->Nat)(hra:Ra w rb D H col)(hh:D.hush=false)(hH:H.length<=1000000000000)(z:Int)(p:Pv)(hP:Pf col w p):
 Calls Tryz.prog 94 #[.pointer (some ⟨rb,0,none⟩),.int .i64 z,p.vl] w λe w'=>RWr w rb D H col z p.pg e w':=by
 have h:=hra.q;have HRA:=gZ hra;have HQ:=gZ h;have HP:=gZ hP;have A0:=gZ (al w (.cells p.cs 31));have X0:=gZ (aH w (.cells p.cs 31));have PVL:Hid (p.vl=.agg #[.int .i64 p.kind,.int .i64 p.level,.slice p.aI p.items.length p.cI,.slice p.aD p.data.length p.cD,.int .i64 p.next]):=rfl;have PCS:Hid (p.cs=#[.int .i64 p.kind,.int .i64 p.level,.slice p.aI p.items.length p.cI,.slice p.aD p.data.length p.cD,.int .i64 p.next]):=rfl;have OW:=gZ λ(W:World)(hb:Below w.heap.size w W)=>sZ W rb D col (h.keep hb) z
 have CK:=gZ λ(W:World)(hb:Below w.heap.size w W)=>qp W p (hP.pi.keep hb)
 have AC:=gZ λ(W:World)(hb:Below w.heap.size w W)=>ut W rb D H col (hra.keep hb) hh hH
 simp only[PVL.o] at CK ⊢;simp only[PCS.o] at A0 X0;cases ho:D.own z with
 |false=>
  have MK:Hid (D.writeR z p.pg=15/\∀q,D.writeD z p.pg q=D):=by
   unfold Rd.writeR Rd.writeD;exact⟨if_neg (by rw[ho];decide),λq=>if_neg (λe=>by rw[ho] at e;exact absurd e.1 (by decide))⟩
  rw[ho] at OW;clear h hra hP ho CK AC;go_enter Tryz.func94,Tryz.ntmps94;go_wp2_with fail
  refine(OW.o _ A0.o).mono ?_;rintro _ wq ⟨rfl,hwq⟩;rw[hwq];clear hwq;go_wp2_with fail
  go_ret;exact⟨p,D,H,col,rfl,by rw[MK.o.1];rfl,HRA.o.keep A0.o,Vf.keep A0.o,by rw[MK.o.2];exact⟨rfl,rfl,rfl,rfl,rfl,rfl⟩,.inr ⟨by rw[MK.o.1];decide,rfl⟩⟩
 |true=>
  rw[ho] at OW;by_cases hck:p.pg.check=0
  . have HCK:=gZ hck;have ho2:=ho;unfold Rd.own at ho2;rw[bO,bL] at ho2;have hhz:=Rd.state_has (D:=D) (z:=z) (by rw[ho2.1];decide)
    obtain⟨z1,z2⟩:=Rd.has_iff.1 hhz;obtain⟨i,hi0⟩:∃i:Nat,z=(i:Int)+1:=⟨(z-1).toNat,by omega⟩
    subst hi0;have hi:i<D.C.length:=by omega
    have ei:((i:Int)+1-1).toNat=i:=by omega
    have MK:Hid (D.writeR ((i:Int)+1) p.pg=0/\∀q,D.writeD ((i:Int)+1) p.pg q={D with P:=D.P.set i q}):=by
     unfold Rd.writeR Rd.writeD;exact⟨by rw[if_pos ho,hck];rfl,λq=>by rw[if_pos ⟨ho,hck⟩,ei]⟩
    rw[hck] at CK;obtain⟨gP,egP⟩:∃gg,D.aP=some ⟨gg,0,none⟩:=h.pr.addr (by rw[h.nP];omega)
    have EGP:=gZ egP;have NP:=gZ h.nP;have h6:=h.n6;have hs:(i:Int)+1-1=(i:Int):=by omega
    have WKK:Hid (IntKind.i64.wrap ((i:Nat):Int)=(i:Int)):=im (by omega) (by omega)
    have hii:(i:Int)<(D.C.length:Int):=by omega
    have HI:=gZ hi;clear h hra hP hck ho ho2 hhz z1 z2 ei egP;go_enter Tryz.func94,Tryz.ntmps94;go_wp2_with fail
    refine(OW.o _ A0.o).mono ?_;rintro _ wq ⟨rfl,hwq⟩;rw[hwq];clear hwq;go_wp2_with fail
    refine(CK.o _ A0.o).mono ?_;rintro _ w1 ⟨rfl,hb1⟩;have B1:=gZ (bt A0.o hb1);have X1:=gZ (ig X0.o hb1);clear hb1 A0 X0;go_wp2_with fail
    refine(AC.o _ B1.o).mono ?_;rintro _ wa ⟨sn,a',c',cola,rfl,hsC,hsP,hRa,hFa⟩;have RA:=gZ hRa;have FA:=gZ ((Vf.keep (c:=col) B1.o).trans hFa);have SN:=gZ (And.intro hsC hsP)
    have Z0:Hid (col w.heap.size=0):=by
     show _=_;cases e:col w.heap.size with
     |zero=>rfl
     |succ n=>exact absurd (HQ.o.lt _ (by rw[e];exact Nat.succ_ne_zero n)) (dZ _)
    have XA:=gZ (hFa.box X1.o Z0.o);have ZL:Hid (∀k,cola k≠0->k<wa.heap.size):=hRa.q.lt;have XW:Hid (w.heap.size<w1.heap.size):=(af.1 X1.o).1;have ZA:Hid (cola w.heap.size=0):=(hFa.c _ XW.o).trans Z0.o;clear hsC hsP hRa hFa X1 XW;obtain⟨DA,hDA⟩:∃X,({D with aA:=a',nA:=H.length+1,cA:=c'}:Rd)=X:=⟨_,rfl⟩;have EGP:Hid (DA.aP=some ⟨gP,0,none⟩):=by show _=_;rw[<-hDA];exact EGP.o
    have NP:Hid (DA.P.length=DA.C.length):=by show _=_;rw[<-hDA];exact NP.o
    have HI:Hid (i<DA.C.length):=by show _<_;rw[<-hDA];exact HI.o
    have ED:Hid (DA.C=D.C/\DA.P=D.P/\DA.cP=D.cP):=by show _/\_;rw[<-hDA];exact⟨rfl,rfl,rfl⟩
    rw[<-ED.o.1] at hii h6;rw[hDA] at RA;have HDA:=gZ hDA;clear hDA;obtain⟨cl,hcl⟩:∃c,c57 cola=c:=⟨_,rfl⟩;have HCL:=gZ hcl;have R1:=gZ RA.o.q.five;rw[hcl] at R1;clear hcl;have P2:=gZ (HP.o.vf FA.o);obtain⟨m,hm⟩:∃m,DA.C.length=m:=⟨_,rfl⟩;have NPM:Hid (DA.P.length=m):=NP.o.trans hm;rw[hm] at hii h6;clear NP hm;go_upto_region 7 with fail
    clear OW AC CK;have X2:=gZ XA.o;have R2:=gZ R1.o;have V2:Hid (Vf wa (c57 cola) wa cl):=by show Vf _ _ _ _;rw[HCL.o];exact Vf.refl _ _
    clear XA R1;generalize hw2:wa=w2 at *;clear hw2;obtain⟨y0,y1,y2,y3,y6⟩:=R2.o.cells;rw[EGP.o,NPM.o] at y3;clear y0 y1 y2 y6;have DR:=gZ (dr2 w2)
    have SS:Hid (∀W:World,Below w2.heap.size w2 W->W.cell? ⟨rb,3,none⟩=some (.slice (some ⟨gP,0,none⟩) m DA.cP)/\W.cell? ⟨w.heap.size,0,none⟩=some (.int .i64 p.kind)/\W.cell? ⟨w.heap.size,1,none⟩=some (.int .i64 p.level)/\W.cell? ⟨w.heap.size,2,none⟩=some (.slice p.aI p.items.length p.cI)/\W.cell? ⟨w.heap.size,3,none⟩=some (.slice p.aD p.data.length p.cD)/\W.cell? ⟨w.heap.size,4,none⟩=some (.int .i64 p.next)):=λW hb=>by
     have hx:=ig X2.o hb;refine⟨(hb.cell (p:=⟨rb,3,none⟩) (block_lt_of_cell y3)).trans y3,?_,?_,?_,?_,?_⟩<;>(rw[ax _ _ _ _ _ _ hx];rfl)
    obtain⟨sm,si⟩:=jS (p:=p) (.inl HCK.o);have CP:=gZ (jQ w2.drew p (P2.o.keep DR.o) sm.1 (by omega) sm.2)
    rw[PVL.o] at CP;clear y3 sm si;refine wrd SS DR.o λhHeld=>?_
    refine tkd 0 1 2 3 ?_;refine tkb 4 5 ?_;refine tk 6 ?_;rw[WKK.o];refine tw 7 λK hK=>?_
    go_simp;refine CP.o.mono ?_;rintro _ w5 ⟨qq,rfl,hP5,hl5,hg5,hb5⟩;have N5:=gZ (hP5.pre (v':=w2) (ai _));have L5:=gZ hl5;have G5:=gZ hg5;have B5:=gZ (bt DR.o hb5);clear hP5 hl5 hg5 hb5;go_wp2_with fail
    refine hK.o _ _ (SS.o _ B5.o) (λhHeld=>?_)
    clear hK K;refine tk 8 ?_;obtain⟨R5,F5⟩:Hid (Rq w5 rb _ (ia cl w2 w5 6))/\Hid (Vf w2 cl w5 (ia cl w2 w5 6)):=R2.o.page B5.o;have CQ:Hid (qq.pg.check=0):=by show _=_;rw[G5.o];exact HCK.o
    have Z5:=gZ (N5.o.pz (col:=cl) (aU (jS (p:=qq) (.inl CQ.o)).2 (by decide)))
    have TH5:Hid (w5.there gP (i*5) 5):=by
     have hr:=R5.o.pr;try dsimp only at hr
     rw[EGP.o] at hr;exact hr.there5 (by rw[NPM.o];omega)
    obtain⟨R6,F6⟩:Hid (Rq (w5.setCells gP (i*5) qq.cs.toList) rb _ (ia cl w2 w5 6))/\Hid (Vf w5 (ia cl w2 w5 6) (w5.setCells gP (i*5) qq.cs.toList) (ia cl w2 w5 6)):=R5.o.setP (g:=gP) EGP.o i qq Z5.o (.inl CQ.o);refine tw 9 λK hK=>?_
    rw[if_pos (by rfl)]
    refine wp_store_mid (P:=Tryz.prog) 31 _ _ rfl gP (i*5) qq.cs ?hxs ?hys TH5.o ie (by simp[Pv.cs,Value.oneCell']) ?_
    case hxs=>simp[Act.eval]
    case hys=>rfl
    have S6:Hid ((w5.setCells gP (i*5) qq.cs.toList).cell? ⟨rb,3,none⟩=some (.slice (some ⟨gP,0,none⟩) m DA.cP)/\(w5.setCells gP (i*5) qq.cs.toList).heap[w.heap.size]?=some (.cells #[.int .i64 p.kind,.int .i64 p.level,.slice p.aI p.items.length p.cI,.slice p.aD p.data.length p.cD,.int .i64 p.next] 31 (0,0))):=by
     refine⟨?_,?_⟩
     . obtain⟨z0,z1,z2,z3,z6⟩:=R6.o.cells;dsimp only at z3;rw[aO,EGP.o,NPM.o] at z3;exact z3
     . refine(iV gP qq.cs.toList w5 (i*5)).same (ig X2.o B5.o) (λe=>?_)
       have h1:=R2.o.lt gP (by rw[R2.o.cp _ EGP.o];decide)
       have h2:cl gP=4:=R2.o.cp _ EGP.o;rw[<-HCL.o,<-e,kg ZA.o (by decide)] at h2
       cases h2
    refine hK.o _ _ ⟨S6.o.1,?t0,?t1,?t2,?t3,?t4⟩ (λhHeld=>?_)
    case t0=>rw[ax _ _ _ _ _ _ S6.o.2];rfl
    case t1=>rw[ax _ _ _ _ _ _ S6.o.2];rfl
    case t2=>rw[ax _ _ _ _ _ _ S6.o.2];rfl
    case t3=>rw[ax _ _ _ _ _ _ S6.o.2];rfl
    case t4=>rw[ax _ _ _ _ _ _ S6.o.2];rfl
    clear hK K S6;refine td ?_;have V6:=gZ (V2.o.trans (F5.o.trans F6.o));clear hHeld SS TH5 R5 F5 F6 DR CP Z5 N5 B5 X2 P2 R2 V2;generalize w5.setCells gP (i*5) qq.cs.toList=w6 at *;generalize ia cl w2 w5 6=col6 at *;go_wp2_with fail
    go_ret;obtain⟨K1,K2⟩:=RA.o.step R6.o V6.o (by rw[<-HDA.o]) (by rw[<-HDA.o]) (by rw[<-HDA.o]) rfl
    refine⟨qq,_,_,_,G5.o,by rw[MK.o.1];rfl,K1,FA.o.trans K2,?_,.inl ⟨by rw[MK.o.1],sn,SN.o.1,SN.o.2,rfl⟩⟩
    rw[MK.o.2,<-HDA.o];exact⟨rfl,rfl,rfl,rfl,rfl,rfl⟩
  . have MK:Hid (D.writeR z p.pg=(p.pg.check:Int)/\∀q,D.writeD z p.pg q=D):=by
     unfold Rd.writeR Rd.writeD;exact⟨if_pos ho,λq=>if_neg (λe=>hck e.2)⟩
    obtain⟨ck0,hck0⟩:∃c,p.pg.check=c:=⟨_,rfl⟩;simp only[hck0] at CK hck MK;have NZ:Hid (((ck0:Nat):Int)≠0):=by show _≠_;omega
    have cn0:((ck0:Int) != 0)=true:=by simpa using hck
    clear h hra hP hck ho hck0 AC;go_enter Tryz.func94,Tryz.ntmps94;go_wp2_with fail
    refine(OW.o _ A0.o).mono ?_;rintro _ wq ⟨rfl,hwq⟩;rw[hwq];clear hwq;go_wp2_with fail
    refine(CK.o _ A0.o).mono ?_;rintro _ w1 ⟨rfl,hb1⟩;have B1:=gZ (bt A0.o hb1);clear hb1;go_wp2_with fail
    go_ret;exact⟨p,D,H,col,rfl,by rw[MK.o.1];rfl,HRA.o.keep B1.o,Vf.keep B1.o,by rw[MK.o.2];exact⟨rfl,rfl,rfl,rfl,rfl,rfl⟩,.inr ⟨by rw[MK.o.1];exact NZ.o,rfl⟩⟩
theorem ld(w:World)(rb:Nat)(D:Rd)(H:List Sn)(col:Nat->Nat)(h:Ra w rb D H col)(hf:0<=D.fl/\D.fl<=1000000000000)(hH:H.length<=1000000000000):Calls Tryz.prog 55 #[.pointer (some ⟨rb,0,none⟩)] w λe w'=>e=.returned (.int .i64 (D.fl+(H.length:Int)))/\Below w.heap.size w w':=by
 have c4:=h.c4;have c5:=h.c5;have WK:Hid (IntKind.i64.wrap (D.fl+(H.length:Int))=D.fl+(H.length:Int)):=im (by omega) (by omega)
 clear h;generalize H.length=n at *;generalize D.fl=f at *;go_enter Tryz.func55,Tryz.ntmps55;go_wp2_with fail
 go_quiet (fail)
 go_wp2_with fail
 go_ret;refine⟨?_,drN _ _⟩;first|rfl|rw[WK.o]
theorem xO(L:List Sn)(m:Nat)(h:m<=L.length):(je L).take (m*2)=je (L.take m):=by
 have e:je L=je (L.take m)++je (L.drop m):=by rw[<-lO,cJ]
 rw[e,dE (by rw[kB,bh];omega),da (by rw[kB,bh];omega)]
theorem Cq{a:Option Addr}{cap n:Nat}{L:List Sn}(h:Q.Gw 163 2 w a cap n (je L))(hn:n=L.length){m:Nat}(hm:m<=n):Q.Gw 163 2 w a cap m (je (L.take m)):=by
 rcases h.cases with⟨rfl,rfl,rfl,h4⟩|⟨g,cur,rfl,hg,h1,h2,h3,h4⟩
 . obtain rfl:m=0:=by omega
   exact Q.Gw.nil _ _ _
 . refine Q.Gw.mk (by rw[kB,bh];omega) hg (by omega) h2 h3 ?_
   rw[<-xO L m (by omega),<-h4,eZ,cY (by omega)]
section
variable {w W w':World} {rb:Nat} {D:Rd} {H:List Sn} {col:Nat->Nat}
theorem Ra.cut(h:Ra w rb D H col){m:Nat}(hm:m<=H.length):
 Ra (w.setCell ⟨rb,4,none⟩ (.slice D.aA m D.cA)) rb {D with nA:=m} (H.take m) col/\Vf w col (w.setCell ⟨rb,4,none⟩ (.slice D.aA m D.cA)) col:=by
 have q:=h.q;have bs:But (λk=>k=rb) w (w.setCell ⟨rb,4,none⟩ (.slice D.aA m D.cA)):=(But.refl (λk=>k=rb) w).setCell (p:=⟨rb,4,none⟩) (λ_=>rfl) _
 have ne:∀{k c:Nat},col k=c->c≠1->¬k=rb:=λe hc e2=>hc (by rw[<-e,e2];exact q.cb)
 have hl:(H.take m).length=m:=by rw[bh];omega
 refine⟨⟨⟨?_,q.cr.but bs (λx hx=>ne (q.cc x hx) (by decide)),q.lr.but bs (λx hx=>ne (q.cl x hx) (by decide)),q.pr.but bs (λx hx=>ne (q.cp x hx) (by decide)),λp hp=>(q.pz p hp).but bs (λk _ e=>ne e (by decide)),q.ps,q.cb,q.cc,q.cl,q.cp,λk hk=>aZ (q.lt k hk) bs.size,q.nL,q.nP,q.n6⟩,⟨?_,hl.symm,h.a.ca,λt ht=>(h.a.sv t (fp ht)).but bs (λk _ e e2=>by rw[e2,q.cb] at e;omega)⟩⟩,nj (by rw[q.cb];decide) bs⟩
 . rw[aR _ _ _ _ _ _ q.box];rfl
 . show Q.Gw _ _ _ D.aA D.cA (H.take m).length _;rw[hl];exact(Cq h.a.ar rfl hm).but bs (λx hx=>ne (h.a.ca x hx) (by decide))
def js(col:Nat->Nat)(a:Option Addr)(c k:Nat):Nat:=if jr a k=true then c else col k
theorem Ra.newC(h:Ra w rb D H col)(hb:Below w.heap.size w W){a:Option Addr}{c:Nat}{C:List Int}(hC:Q.Ig W a c C)(hn:C.length=D.C.length)(nw:New w none a):
 Ra (W.setCell ⟨rb,1,none⟩ (.slice a C.length c)) rb {D with aC:=a,cC:=c,C:=C} H (js col a 2)/\Vf w col (W.setCell ⟨rb,1,none⟩ (.slice a C.length c)) (js col a 2):=by
 have q:=h.q.keep hb;have bs:But (λk=>k=rb) W (W.setCell ⟨rb,1,none⟩ (.slice a C.length c)):=(But.refl (λk=>k=rb) W).setCell (p:=⟨rb,1,none⟩) (λ_=>rfl) _
 have ne:∀{k c:Nat},col k=c->c≠1->¬k=rb:=λe hc e2=>hc (by rw[<-e,e2];exact q.cb)
 have old:∀{k:Nat},k<w.heap.size->js col a 2 k=col k:=λ{k} hk=>if_neg (λe=>by obtain⟨x,hx,e⟩:=iw.1 e;have:=iz nw hx;omega)
 have at0:∀{k c:Nat},col k=c->c≠0->js col a 2 k=c:=λe hc=>(old (h.q.lt _ (by rw[e];exact hc))).trans e
 have nx:∀x,a=some x->¬x.block=rb:=λx hx e=>by have:=iz nw hx;have:=h.q.lb;omega
 have av:=h.a.keep hb;refine⟨⟨⟨?_,hC.but bs nx,q.lr.but bs (λx hx=>ne (q.cl x hx) (by decide)),q.pr.but bs (λx hx=>ne (q.cp x hx) (by decide)),λp hp=>((q.pz p hp).but bs (λk _ e=>ne e (by decide))).mono (λk _ e=>at0 e (by decide)),q.ps,at0 q.cb (by decide),λx hx=>if_pos (iw.2 ⟨x,hx,rfl⟩),λx hx=>at0 (q.cl x hx) (by decide),λx hx=>at0 (q.cp x hx) (by decide),λk hk=>?_,?_,?_,?_⟩,⟨av.ar.but bs (λx hx=>ne (av.ca x hx) (by decide)),av.na,λx hx=>at0 (av.ca x hx) (by decide),λt ht=>?_⟩⟩,⟨(But.ofBelow hb).trans (bs.mono (T:=λk=>1<=col k/\col k<=5) (λk _ e=>by rw[e,q.cb];decide)) (λ_ _ e=>e),λk hk=>old hk⟩⟩
 . rw[aR _ _ _ _ _ _ q.box];rfl
 . unfold js at hk;split at hk
   . rename_i e;obtain⟨x,hx,e⟩:=iw.1 e;rw[<-e];exact aZ (Q.Gw.lt hC hx) bs.size
   . exact aZ (q.lt k hk) bs.size
 . show D.L.length=C.length;rw[hn];exact q.nL
 . show D.P.length=C.length;rw[hn];exact q.nP
 . show C.length<=_;rw[hn];exact q.n6
 . have t1:=((av.sv t ht).but bs (λk _ e e2=>by rw[e2,q.cb] at e;omega)).recol (col':=js col a 2) (λk _ e=>at0 rfl (by omega))
   exact⟨t1.cr,t1.pr,t1.pz,t1.ps,t1.nC.trans hn.symm,t1.nP.trans hn.symm,t1.cc,t1.cp⟩
theorem Ra.newP(h:Ra w rb D H col)(hb:Below w.heap.size w W){a:Option Addr}{c:Nat}{P:List Pv}(hP:Q.Gw 31 5 W a c P.length (vpg P))(hn:P.length=D.C.length)(nw:New w none a)(hz:∀p∈P,Pz (λk=>col k=6) w p)(hs:∀p∈P,p.pg.check=0\/p=Pv.zero):
 Ra (W.setCell ⟨rb,3,none⟩ (.slice a P.length c)) rb {D with aP:=a,cP:=c,P:=P} H (js col a 4)/\Vf w col (W.setCell ⟨rb,3,none⟩ (.slice a P.length c)) (js col a 4):=by
 have q:=h.q.keep hb;have bs:But (λk=>k=rb) W (W.setCell ⟨rb,3,none⟩ (.slice a P.length c)):=(But.refl (λk=>k=rb) W).setCell (p:=⟨rb,3,none⟩) (λ_=>rfl) _
 have ne:∀{k c:Nat},col k=c->c≠1->¬k=rb:=λe hc e2=>hc (by rw[<-e,e2];exact q.cb)
 have old:∀{k:Nat},k<w.heap.size->js col a 4 k=col k:=λ{k} hk=>if_neg (λe=>by obtain⟨x,hx,e⟩:=iw.1 e;have:=iz nw hx;omega)
 have at0:∀{k c:Nat},col k=c->c≠0->js col a 4 k=c:=λe hc=>(old (h.q.lt _ (by rw[e];exact hc))).trans e
 have nx:∀x,a=some x->¬x.block=rb:=λx hx e=>by have:=iz nw hx;have:=h.q.lb;omega
 have av:=h.a.keep hb;refine⟨⟨⟨?_,q.cr.but bs (λx hx=>ne (q.cc x hx) (by decide)),q.lr.but bs (λx hx=>ne (q.cl x hx) (by decide)),hP.but bs nx,λp hp=>(((hz p hp).keep hb).but bs (λk _ e=>ne e (by decide))).mono (λk _ e=>at0 e (by decide)),hs,at0 q.cb (by decide),λx hx=>at0 (q.cc x hx) (by decide),λx hx=>at0 (q.cl x hx) (by decide),λx hx=>if_pos (iw.2 ⟨x,hx,rfl⟩),λk hk=>?_,q.nL,hn,q.n6⟩,⟨av.ar.but bs (λx hx=>ne (av.ca x hx) (by decide)),av.na,λx hx=>at0 (av.ca x hx) (by decide),λt ht=>?_⟩⟩,⟨(But.ofBelow hb).trans (bs.mono (T:=λk=>1<=col k/\col k<=5) (λk _ e=>by rw[e,q.cb];decide)) (λ_ _ e=>e),λk hk=>old hk⟩⟩
 . rw[aR _ _ _ _ _ _ q.box];rfl
 . unfold js at hk;split at hk
   . rename_i e;obtain⟨x,hx,e⟩:=iw.1 e;rw[<-e];exact aZ (hP.lt hx) bs.size
   . exact aZ (q.lt k hk) bs.size
 . exact((av.sv t ht).but bs (λk _ e e2=>by rw[e2,q.cb] at e;omega)).recol (λk _ e=>at0 rfl (by omega))
end
theorem Sv.pgs{n:Nat}{s:Sn}(h:Sv w col n s):Pgs w s.aP s.P:=λt ht=>by
 obtain⟨g,e⟩:=h.pr.addr (by omega)
 refine⟨g,0,e,λk u hk hu=>?_⟩
 have r:=h.pr;rw[e] at r;rw[bG];exact r.cell (by rw[lW s.P t k ht hk];exact hu)
theorem Ra.at{rb:Nat}{H:List Sn}(h:Ra w rb D H col){i:Nat}(hi:i<H.length):∃g,D.aA=some ⟨g,0,none⟩/\w.cell? ⟨g,i*2,none⟩=some (.slice H[i].aC H[i].C.length H[i].cC)/\w.cell? ⟨g,i*2+1,none⟩=some (.slice H[i].aP H[i].P.length H[i].cP):=by
 obtain⟨g,e⟩:=h.a.ar.addr (by omega)
 have r:=h.a.ar;rw[e] at r;have k0:=pU H i 0 hi (by decide)
 have k1:=pU H i 1 hi (by decide)
 exact⟨g,e,r.cell (by rw[bY] at k0;rw[k0];rfl),r.cell (by rw[k1];rfl)⟩
theorem Av(w:World)(rb:Nat)(D:Rd)(H:List Sn)(col:Nat->Nat)(h:Ra w rb D H col)(hf:0<=D.fl/\D.fl<=1000000000000)(hH:H.length<=1000000000000)(z:Int)(hz:z<D.fl\/D.fl+(H.length:Int)<z):
 Calls Tryz.prog 118 #[.pointer (some ⟨rb,0,none⟩),.int .i64 z] w λe w'=>e=.returned (.bool false)/\Below w.heap.size w w':=by
 have MK:=gZ (ld w rb D H col h hf hH);have c5:=h.c5;clear h;generalize H.length=n at *;generalize D.fl=f at *;by_cases h1:z<f
 . go_enter Tryz.func118,Tryz.ntmps118;go_wp2_with fail
   go_ret;exact⟨rfl,Below.refl _ _⟩
 . have h2:f+(n:Int)<z:=by omega
   have h3:¬z<f:=h1;clear hz;go_enter Tryz.func118,Tryz.ntmps118;go_wp2_with fail
   refine MK.o.mono ?_;rintro _ w1 ⟨rfl,hb⟩;have HB:=gZ hb;clear hb;go_wp2_with fail
   go_ret;exact⟨rfl,HB.o⟩
theorem wi(w:World)(rb:Nat)(D:Rd)(H:List Sn)(col:Nat->Nat)(h:Ra w rb D H col)(hf:0<=D.fl/\D.fl<=1000000000000)(hH:H.length<=1000000000000):
 Calls Tryz.prog 118 #[.pointer (some ⟨rb,0,none⟩),.int .i64 (D.fl+(H.length:Int))] w λe w'=>e=.returned (.bool true)/\Below w.heap.size w w':=by
 have MK:=gZ (ld w rb D H col h hf hH);have c5:=h.c5;have KK:Hid (∀W:World,Below w.heap.size w W->W.cell? ⟨rb,4,none⟩=some (.slice D.aA H.length D.cA)/\W.cell? ⟨rb,5,none⟩=some (.int .i64 D.fl)):=λW hb=>⟨(h.keep hb).c4,(h.keep hb).c5⟩
 clear h;generalize H.length=n at *;generalize D.fl=f at *;have h1:¬f+(n:Int)<f:=by omega
 have h2:f+(n:Int)-f=(n:Int):=by omega
 have WK:Hid (IntKind.i64.wrap ((n:Nat):Int)=(n:Int)):=im (by omega) (by omega)
 go_enter Tryz.func118,Tryz.ntmps118;go_wp2_with fail
 refine MK.o.mono ?_;rintro _ w1 ⟨rfl,hb⟩;have HB:=gZ hb;obtain⟨d4,d5⟩:=KK.o w1 hb;clear hb c5 KK MK;go_wp2_with fail
 go_ret;exact⟨rfl,HB.o⟩
def RUn(w:World)(rb:Nat)(D:Rd)(H:List Sn)(col:Nat->Nat)(i:Nat)(s:Sn)(e:Ending)(w':World):Prop:=∃(D':Rd)(col':Nat->Nat),e=.returned (.bool true)/\Ra w' rb D' (H.take i) col'/\Vf w col w' col'/\D'.Al {D with C:=s.C,P:=s.P}
theorem yu(w:World)(rb:Nat)(D:Rd)(H:List Sn)(col:Nat->Nat)(h:Ra w rb D H col)(hf:0<=D.fl/\D.fl<=1000000000000)(hH:H.length<=1000000000000)(i:Nat)(hi:i<H.length):
 Calls Tryz.prog 118 #[.pointer (some ⟨rb,0,none⟩),.int .i64 (D.fl+(i:Int))] w λe w'=>RUn w rb D H col i H[i] e w':=by
 have MK:=gZ (ld w rb D H col h hf hH);have c5:=h.c5;obtain⟨s,hs⟩:∃s,H[i]=s:=⟨_,rfl⟩;have SV:Hid (Sv w col D.C.length s):=h.a.sv s (by rw[<-hs];exact dX hi)
 have AT:Hid (∀(W:World)(D2:Rd)(c:Nat->Nat),Ra W rb D2 H c->∃g,D2.aA=some ⟨g,0,none⟩/\W.cell? ⟨g,i*2,none⟩=some (.slice s.aC s.C.length s.cC)/\W.cell? ⟨g,i*2+1,none⟩=some (.slice s.aP s.P.length s.cP)):=λW D2 c h2=>by
  have k:=h2.at hi;rw[hs] at k;exact k
 obtain⟨g,eg,_⟩:=h.at hi;have EG:=gZ eg;have HR:=gZ h;have n6:=h.q.n6;have CI:=gZ λ(W:World)(hb:Below w.heap.size w W)=>Q.jx W s.aC s.C.length s.cC s.C (SV.o.keep hb).cr.ir rfl (by rw[SV.o.nC];exact n6)
 have HI:=gZ hi;rw[hs];clear h hs eg;obtain⟨n,hn⟩:∃n,H.length=n:=⟨_,rfl⟩;obtain⟨f,hfl⟩:∃f,D.fl=f:=⟨_,rfl⟩;have HN:=gZ hn;have HF:=gZ hfl;rw[hfl] at MK c5 hf ⊢;rw[hn] at MK hi hH;clear hn hfl;have h1:¬f+(i:Int)<f:=by omega
 have h2:f+(i:Int)-f=(i:Int):=by omega
 have h3:¬f+(n:Int)<f+(i:Int):=by omega
 have h4:(i:Int)<(n:Int):=by omega
 have WK:Hid (IntKind.i64.wrap ((i:Nat):Int)=(i:Int)):=im (by omega) (by omega)
 go_enter Tryz.func118,Tryz.ntmps118;go_wp2_with fail
 refine MK.o.mono ?_;rintro _ w1 ⟨rfl,hb1⟩;have B1:=gZ hb1;have R1:=gZ (HR.o.keep hb1);have d4:=R1.o.c4;have d5:=R1.o.c5;obtain⟨g',eg',k0,k1⟩:=AT.o w1 D col R1.o;obtain rfl:g'=g:=by have:=eg'.symm.trans EG.o;simpa using this
 rw[EG.o,HN.o] at d4;rw[HF.o] at d5;clear hb1 c5 MK eg';go_wp2_with fail
 refine(CI.o _ B1.o).mono ?_;rintro _ w2 ⟨a1,c1,rfl,hO⟩;have B2:=gZ (bt B1.o hO.b);obtain⟨R3,F3⟩:Hid (Ra (w2.setCell ⟨rb,1,none⟩ (.slice a1 s.C.length c1)) rb {D with aC:=a1,cC:=c1,C:=s.C} H (js col a1 2))/\Hid (Vf w col (w2.setCell ⟨rb,1,none⟩ (.slice a1 s.C.length c1)) (js col a1 2)):=HR.o.newC B2.o hO.r SV.o.nC (hO.n.mono (B1.o).size);have R2:=gZ (HR.o.keep B2.o);have y1:=R2.o.q.cells.2.1;have z1:w2.frozen? ⟨rb,1,none⟩=false:=bq _ _ _ _ _ R2.o.q.box;clear hO d4 d5 k0 k1 R1 R2 CI;go_upto_region 6 with fail
 generalize w2.setCell ⟨rb,1,none⟩ (.slice a1 s.C.length c1)=w3 at *;clear y1 z1;have d4:=R3.o.c4;dsimp only at d4;obtain⟨g2,eg2,k0,k1⟩:=AT.o w3 _ _ R3.o;obtain rfl:g2=g':=by have:=eg2.symm.trans EG.o;simpa using this
 rw[EG.o,HN.o] at d4;clear eg2;have SV3:=gZ (SV.o.vf F3.o);have CP:=gZ (jj w3 s.aP s.P.length s.cP s.P SV3.o.pgs rfl (by rw[SV3.o.nP];exact n6))
 go_wp2_with fail
 refine CP.o.mono ?_;rintro _ w4 ⟨a2,c2,rfl,hG,hN,hb4⟩;obtain⟨R5,F5⟩:Hid (Ra (w4.setCell ⟨rb,3,none⟩ (.slice a2 s.P.length c2)) rb {D with aC:=a1,cC:=c1,C:=s.C,aP:=a2,cP:=c2,P:=s.P} H (js (js col a1 2) a2 4))/\Hid (Vf w3 (js col a1 2) (w4.setCell ⟨rb,3,none⟩ (.slice a2 s.P.length c2)) (js (js col a1 2) a2 4)):=R3.o.newP hb4 hG (by show s.P.length=s.C.length;rw[SV.o.nP,SV.o.nC]) hN SV3.o.pz SV3.o.ps
 have R4:=gZ (R3.o.keep hb4);have y3:=R4.o.q.cells.2.2.2.1;have z3:w4.frozen? ⟨rb,3,none⟩=false:=bq _ _ _ _ _ R4.o.q.box;have F6:=gZ (F3.o.trans F5.o);clear hG hN hb4 d4 k0 k1 R4 CP R3 F3 F5;go_upto_region 7 with fail
 generalize w4.setCell ⟨rb,3,none⟩ (.slice a2 s.P.length c2)=w5 at *;generalize js (js col a1 2) a2 4=c5 at *;clear y3 z3;have d4:=R5.o.c4;dsimp only at d4;obtain⟨K1,K2⟩:Hid (Ra (w5.setCell ⟨rb,4,none⟩ (.slice D.aA i D.cA)) rb {D with aC:=a1,cC:=c1,C:=s.C,aP:=a2,cP:=c2,P:=s.P,nA:=i} (H.take i) c5)/\Hid (Vf w5 c5 (w5.setCell ⟨rb,4,none⟩ (.slice D.aA i D.cA)) c5):=R5.o.cut (fI HI.o);have z4:w5.frozen? ⟨rb,4,none⟩=false:=bq _ _ _ _ _ R5.o.q.box;have CAP:Hid (n<=D.cA):=by have:=R5.o.a.ar.capLe;rw[HN.o] at this;exact this.1
 have cap1:=CAP.o;rw[EG.o,HN.o] at d4;rw[EG.o] at K1 K2;go_wp2_with fail
 go_ret;exact⟨_,_,rfl,K1.o,F6.o.trans K2.o,⟨rfl,rfl,rfl,rfl,rfl,rfl⟩⟩
end Go.Proofs.YtbdkogimlbnlmaaGreat
