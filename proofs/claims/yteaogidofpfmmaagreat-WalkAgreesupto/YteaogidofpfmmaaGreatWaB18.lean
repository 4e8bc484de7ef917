import Derived.Test.YteaogidofpfmmaaGreatWaB16
import Derived.Test.YteaogidofpfmmaaGreatWaB17
set_option linter.all false
set_option maxHeartbeats 8000000
set_option maxRecDepth 10000
namespace Go.Proofs.YteaogidofpfmmaaGreat
open Go.Proofs.Tryz
open Go.RowKit
variable {r:Int}{g rd:Int->Option Pg}{C G:List Int}{b mb pb rb:Nat}{col pc:Nat->Nat}{p:Pg}{D:Rd}{S:Vs}{w:World}
theorem vS{rd:Int->Option Pg}:∀(t:Nat)(G:List Int)(n l:Int),∀x∈G,x∈(iX rd t G n l).1
 |0,G,n,l,x,h=>h
 |t+1,G,n,l,x,h=>by
  unfold iX;split
  . exact h
  . cases hp:rd n with
    |none=>exact h
    |some p=>
     simp only;split
     . exact h
     . split
       . exact br _ h
       . split
         . exact br _ h
         . exact vS t (n::G) p.next (l-480) x (br _ h)
theorem yj{r:Rg}{x:It}:∀k∈G,k∈(itM rd r x G).1:=by
 intro k hk;unfold itM;split
 . exact hk
 . split
   . exact hk
   . exact vS _ _ _ _ k hk
theorem yf{r:Rg}{x:It}(h:Gok rd G):Gok rd (itM rd r x G).1/\G.length<=(itM rd r x G).1.length:=by
 unfold itM;split
 . exact⟨h,am _⟩
 . split
   . exact⟨h,am _⟩
   . exact qt _ _ _ _ h
theorem Ec(h:Sound p):lvl p 0=decide (p.kind=1):=by
 by_cases c:p.kind=1
 . rw[ar c];exact jA.2 ⟨by omega,(h.leaf0 c).1⟩
 . rw[ah c];cases e:lvl p 0 with
   |false=>rfl
   |true=>
    obtain⟨a,b⟩:=jA.1 e;rcases h.kind with k|k|k
    . exact absurd k c
    . have:=(h.idx k).1;omega
    . exact absurd k a
theorem Gd(h:Sound p){c:Int}(f:0<c):lvl p c=(decide (p.kind=2)&&decide (p.level=c)):=by
 by_cases d:p.kind=2
 . unfold lvl;simp[d]
 . rw[ah d,eQ];cases e:lvl p c with
   |false=>rfl
   |true=>
    obtain⟨a,b⟩:=jA.1 e;rcases h.kind with k|k|k
    . have:=(h.leaf0 k).1;omega
    . exact absurd k d
    . exact absurd k a
def PgR(w w':World)(e:Ending)(cb rb gm:Nat)(D:Rd)(G:List Int)(s:Cst):Prop:=∃ks':Nat,e=.returned (.int .i64 ((s.er:Nat):Int))/\But (cko cb gm) w w'/\Ckm w' cb rb gm D.C.length s.G ks'/\(s.er=0->ks'=s.ks/\Kb (rdR D) s/\∀x∈G,x∈s.G)
def sd(r:Rv)(k:Nat):Prop:=(∃x,r.aL=some x/\x.block=k)\/∃x,r.aH=some x/\x.block=k
theorem Ri.but'{S:Nat->Prop}{d:World}{r:Rv}(h:Ri w r)(hb:But S w d)(c:∀k,sd r k->¬S k):Ri d r:=⟨h.bl.but hb (λx a _=>c _ (.inl ⟨x,a,rfl⟩)),h.cl,h.bh.but hb (λx a _=>c _ (.inr ⟨x,a,rfl⟩)),h.ch⟩
def yY(D:Rd)(root:Int)(f:Nat):Prop:=∀(w:World)(cb rb gm:Nat)(col:Nat->Nat),Rq w rb D col->(∀k,cko cb gm k->col k=0)->∀(G:List Int)(ks:Nat),Ckm w cb rb gm D.C.length G ks->∀(n lv:Int),lv=(f:Int)->∀(r:Rv),Ri w r->Rb r->(∀k,sd r k->¬cko cb gm k)->∀(rt:Bool),(rt=true/\n=root\/rt=false/\root∈G)->Kb (rdR D) ⟨G,ks,0⟩->
 Calls prog 68 #[.pointer (some ⟨cb,0,none⟩),.int .i64 n,.int .i64 lv,r.val,.bool rt] w λe w'=>PgR w w' e cb rb gm D G (iE (iM (rdR D) root) (rdR D) (λ_=>true) true f ⟨G,ks,0⟩ ⟨n,lv,r.rg⟩)
theorem Fr(D:Rd)(hA:iF (rdR D))(hN:jx (rdR D) 65536)(root:Int):yY D root 0:=by
 intro w s rb m col hR aX G l E aC lv aR r aP aO aQ rt aU hK;have A0:=ix (al w (.cells r.cs 62));have X0:=ix (ag w (.cells r.cs 62));have EN:=ix (oP _ s rb m D col (hR.keep A0.o) G l (E.keep A0.o) aC);have HR:=ix hR;have HC:=ix E;have HL:=ix E.lb;have RI:=ix aP;have RB:=ix aO;have am:=ix aQ;have X:=ix aX;have HK:=ix hK;have aJ:=ix aU;have HA:=ix hA;have HN:=ix hN;have aI:=ix aR;obtain⟨W,aG⟩:∃W,iE (iM (rdR D) root) (rdR D) (λ_=>true) true 0 ⟨G,l,0⟩ ⟨aC,lv,r.rg⟩=W:=⟨_,rfl⟩
 rw[aG];have TS:=ix aG;unfold Rv.val;simp only[Rv.cs] at A0 X0 EN ⊢;clear hR E aP aO aQ aX hK aU hA hN aG aR;go_enter func68,ntmps68;go_upto_region 1 with fail
 generalize w.alloc (.cells #[.slice r.aL r.lo.length r.cL,.slice r.aH r.hi.length r.cH,.bool r.op] 62)=w1 at *;go_wp2_with fail
 refine EN.o.mono ?_;rintro e k (⟨rfl,aY,hw⟩|⟨rfl,h0,aS,aa,ac⟩)
 . obtain rfl:=hw.symm
   have t:Hid (W=⟨G,l,15⟩):=by
    show _=_;rw[<-TS.o];refine(oM rfl ?_);rcases aY with h|h
    . exact .inl (mY h)
    . exact .inr h
   clear hw aY;go_wp2;go_ret;rw[t.o];exact⟨l,rfl,But.ofBelow A0.o,HC.o.keep A0.o,λh=>by cases h⟩
 have aZ:=ix (aa.same X0.o (λe=>by have e:w.heap.size=m:=e;have:=HL.o.2;omega))
 have J:=ix (((But.ofBelow (S:=cko s m) A0.o).trans (aa.mono (T:=cko s m) λab _ e=>.inr e) (λ_ _ e=>e)))
 have N:=ix ac;have H0:=ix h0;have ao:=ix aS;have aA:=ix (HA.o aC _ (mr h0));have RD:=ix (mr h0);have R2:=ix (HR.o.cko X.o J.o);obtain⟨i,g,rfl,hi,K,c3,F⟩:=R2.o.page h0;have aT:=R2.o.ps _ (Rd.on_mem R2.o (jN h0));have aD:=ix ((R2.o.pz _ (Rd.on_mem R2.o (jN h0))));clear aa ac h0 aS EN;have a9:(i:Int)<(D.C.length:Int):=by omega
 have a4:(i:Int)+1-1=(i:Int):=by omega
 have ba:IntKind.i64.wrap ((i:Int)+1-1)=(i:Int):=by rw[a4];exact iQ (by omega) (by omega)
 obtain⟨c0,c1,c2⟩:=N.o.cells;obtain⟨q,hq⟩:∃q,D.on ((i:Int)+1)=q:=⟨_,rfl⟩;rw[hq] at F aA RD aD aT;clear hq;obtain⟨kq,lq,aq,Y,L,ad,cd,aj,nx⟩:=q;have y0:=F 0 _ (by decide) rfl
 have y1:=F 1 _ (by decide) rfl
 have y2:=F 2 _ (by decide) rfl
 have y3:=F 3 _ (by decide) rfl
 have y4:=F 4 _ (by decide) rfl
 rw[dp] at y0;have gl:g<k.heap.size:=block_lt_of_cell y0;have XR:=ix (aZ.o);have A3:=ix (al k (.cells #[.int .i64 kq,.int .i64 lq,.slice aq L.length Y,.slice ad aj.length cd,.int .i64 nx] 77));have X3:=ix (ag k (.cells #[.int .i64 kq,.int .i64 lq,.slice aq L.length Y,.slice ad aj.length cd,.int .i64 nx] 77));clear F;go_upto_region 4 with fail
 have B3:=ix (J.o.andBelow A3.o);have aM:=ix ((A3.o.block w.heap.size (ae.1 XR.o).1).trans XR.o);have C3:=ix (N.o.keep A3.o);have R3:=ix (R2.o.keep A3.o);have P3:=ix (aD.o.keep A3.o);have aL:=ix (RI.o.but' B3.o am.o);have bb:=J.o.size;have v:k.heap.size≠s/\k.heap.size≠m/\w.heap.size≠s/\w.heap.size≠m:=by have:=HL.o;omega
 generalize k.alloc (.cells #[.int .i64 kq,.int .i64 lq,.slice aq L.length Y,.slice ad aj.length cd,.int .i64 nx] 77)=w3 at *;obtain⟨m0,m1,m2,m3,m4⟩:=mW X3.o;have a8:L.length<=1048576:=(mC (aT)).2;clear y0 y1 y2 y3 y4 c0 c1 c2 c3 XR A3 J N R2 aD A0 X0;obtain rfl:lv=0:=by have:=aI.o;omega
 clear aI;have af:=Ec aA.o;by_cases hk:kq=1
 . subst hk;have af:lvl (Pv.pg ⟨1,lq,aq,Y,L,ad,cd,aj,nx⟩) 0=true:=by rw[af];rfl
   obtain⟨R,aN⟩:∃R,jb (rdR D) r.rg (L.map Iv.it) (((i:Int)+1)::G)=R:=⟨_,rfl⟩;have RR:=ix aN
   have az:Hid (W=ju (rdR D) root ⟨((i:Int)+1)::G,l,0⟩ ⟨(i:Int)+1,0,r.rg⟩ (Pv.pg ⟨1,lq,aq,Y,L,ad,cd,aj,nx⟩)):=ix (by
    rw[<-TS.o];exact oR (M:=iM (rdR D) root) rfl RD.o ao.o af (.inr rfl))
   have h8:L.length<=8:=by have:=(aA.o.node (.inl rfl)).2.2.1;simpa[Pv.pg] using this
   have KT:=ix (HK.o.tel (root:=root) (a:=⟨(i:Int)+1,0,r.rg⟩) RD.o ao.o (by simpa[Pv.pg] using h8))
   have GK:=ix (HK.o.g.cons RD.o ao.o);have KN:Hid (l<=8*65536):=ix (HK.o.len HN.o);have SZ:Hid (∀x∈L,x.size<=3840):=ix (λx B=>((aA.o.fits (x:=x.it) (bE.2 ⟨x,B,rfl⟩)).leaf rfl).2.1)
   clear af aN;by_cases aB:rt=false/\L.length<4
   . obtain⟨rfl,h4⟩:=aB
     have a3:(i:Int)+1≠root:=λe=>by
      rcases aJ.o with⟨h,_⟩|⟨_,h⟩
      . cases h
      . exact ao.o (e▸h)
     have a0:(L.length:Int)<4:=by omega
     have t:Hid (W=⟨((i:Int)+1)::G,l,5⟩):=ix (by
      rw[az.o];unfold ju;rw[if_pos ⟨a3,by simpa[Pv.pg] using h4⟩])
     go_wp2;go_ret;rw[t.o];exact⟨l,rfl,B3.o,C3.o,λh=>by cases h⟩
   . have CT:Hid (W=if R.2≠0 then ⟨R.1,l,R.2⟩ else ⟨R.1,l+L.length,0⟩):=ix (by
      rw[az.o,<-RR.o];unfold ju
      rw[if_neg (λh=>aB (by
       rcases aJ.o with⟨h1,h2⟩|⟨h1,h2⟩
       . exact absurd h2 h.1
       . exact⟨h1,by simpa[Pv.pg] using h.2⟩))]
      refine(if_pos rfl).trans ?_;show(if (jb (rdR D) r.rg (L.map Iv.it) (((i:Int)+1)::G)).2≠0 then _ else (⟨_,l+(L.map Iv.it).length,0⟩:Cst))=_
      rw[bM];rfl)
     have a1:rt=true\/rt=false/\¬L.length<4:=by
      cases rt with
      |true=>exact .inl rfl
      |false=>exact .inr ⟨rfl,λh=>aB ⟨rfl,h⟩⟩
     have aW:=az;clear aB az;rcases a1 with rfl|⟨rfl,h4⟩
     . go_upto_region 9 with fail
       clear m0 m1 m2 m3 m4;go_loopw [12] (λq wr=>∃(j:Nat)(c:List Int),q=.int .i64 (j:Int)/\j<=L.length/\But (cko s m) w3 wr/\Ckm wr s rb m D.C.length c (l+j)/\Gok (rdR D) c/\(∀x∈((i:Int)+1)::G,x∈c)/\jb (rdR D) r.rg ((L.drop j).map Iv.it) c=R) (λq _=>L.length-(intOf q).toNat)
       case atStart=>exact⟨0,_,rfl,an _,But.refl _ _,C3.o,GK.o,λ_ h=>h,RR.o⟩
       case round=>
        obtain⟨j,c,rfl,hj,A,E,hg,ax,F⟩:=hrel;have Z:=ix A;have CC:=ix E;have GG:=ix hg;have ap:=ix ax;have HV:=ix F;have X4:=ix (A.same X3.o (λe=>e.elim v.1 v.2.1))
        have aF:=ix (A.same aM.o (λe=>e.elim v.2.2.1 v.2.2.2))
        have R4:=ix (R3.o.cko X.o A);have P4:=ix (Pz.pi (P3.o.but A (λab _ K e=>by rw[X.o ab e] at K;cases K)))
        have aE:=ix (aL.o.but' A am.o);clear A E hg ax F;obtain⟨m0,m1,m2,m3,m4⟩:=mW X4.o;by_cases I:j<L.length
        . have a7:(j:Int)<(L.length:Int):=by omega
          have a2:(0:Int)<=(j:Int):=by omega
          obtain⟨d,f,ea,cA⟩:=P4.o.it.at I;have ea:aq=some ⟨d,f,none⟩:=ea;obtain⟨x,B⟩:∃x,L.getD j Iv.zero=x:=⟨_,rfl⟩;have XI:=ix (P4.o.it.1 _ (iH I));have SX:=SZ.o _ (iH I)
          have H:Hid ((if (itM (rdR D) r.rg x.it c).2≠0 then itM (rdR D) r.rg x.it c else jb (rdR D) r.rg ((L.drop (j+1)).map Iv.it) (itM (rdR D) r.rg x.it c).1)=R):=ix (by
           have e:L.getD j Iv.zero=L[j]:=by simp[I]
           rw[<-HV.o,df I,bT,<-e,B,tj])
          have ar:L.getD j Iv.zero=x:=B;simp only[ar] at cA XI SX;subst ea;have HX:=ix B;clear B ar HV;have GS:=ix (yj (rd:=rdR D) (r:=r.rg) (x:=x.it) (G:=c));have GO:=ix (yf (r:=r.rg) (x:=x.it) GG.o);have O:=ix (λ(U:World)(hb:But (cko s m) wr U)(E:Ckm U s rb m D.C.length c (l+j))(hk:Bs U x.aK x.key)=>tO U s rb m D col (R4.o.cko X.o hb) HA.o X.o c (l+j) E x SX r (aE.o.but' hb am.o) hk (by have:=KN.o;omega))
          obtain⟨ai,hZ⟩:∃ai,itM (rdR D) r.rg x.it c=ai:=⟨_,rfl⟩;rw[hZ] at O H GS GO;clear hZ;obtain⟨aK,cK,av,aV,cV,val,child,ay⟩:=x;simp only[Iv.cs] at cA;unfold Iv.vl Rv.val at O;simp only[Iv.cs,Rv.cs] at O
          have SS:Hid (∀U:World,But (cko s m) wr U->(U.cell? ⟨k.heap.size,2,none⟩=some (.slice (some ⟨d,f,none⟩) L.length Y))/\(U.cell? ⟨d,f+j*4,none⟩=some (.slice aK av.length cK)/\U.cell? ⟨d,f+j*4+1,none⟩=some (.slice aV val.length cV)/\U.cell? ⟨d,f+j*4+2,none⟩=some (.int .i64 child)/\U.cell? ⟨d,f+j*4+3,none⟩=some (.int .i64 ay))/\(U.cell? ⟨w.heap.size,0,none⟩=some (.slice r.aL r.lo.length r.cL)/\U.cell? ⟨w.heap.size,1,none⟩=some (.slice r.aH r.hi.length r.cH)/\U.cell? ⟨w.heap.size,2,none⟩=some (.bool r.op))):=ix (λU hb=>by
           have PU:=Pz.pi (P3.o.but (Z.o.trans hb (λ_ _ e=>e)) (λab _ K e=>by rw[X.o ab e] at K;cases K))
           obtain⟨b2,o2,e2,cB⟩:=PU.it.at I;have e2:(some ⟨d,f,none⟩:Option Addr)=some ⟨b2,o2,none⟩:=e2;simp only[au,Addr.mk.injEq] at e2;obtain⟨rfl,rfl,_⟩:=e2;have cB:U.rangeAt d (f+j*4) (L.getD j Iv.zero).cs.toList:=cB;rw[HX.o] at cB;obtain⟨q0,q1,q2,q3⟩:=sQ cB;obtain⟨_,_,p2,_,_⟩:=mW (hb.same X4.o (λe=>e.elim v.1 v.2.1))
           exact⟨p2,⟨q0,q1,q2,q3⟩,iz (hb.same aF.o (λe=>e.elim v.2.2.1 v.2.2.2))⟩)
          go_upto_region 13 with fail
          have DR:=ix (dr2 wr);have DB:=ix (But.ofBelow (S:=cko s m) DR.o);refine be (S:=λU=>(U.cell? ⟨k.heap.size,2,none⟩=some (.slice (some ⟨d,f,none⟩) L.length Y))/\(U.cell? ⟨d,f+j*4,none⟩=some (.slice aK av.length cK)/\U.cell? ⟨d,f+j*4+1,none⟩=some (.slice aV val.length cV)/\U.cell? ⟨d,f+j*4+2,none⟩=some (.int .i64 child)/\U.cell? ⟨d,f+j*4+3,none⟩=some (.int .i64 ay))/\(U.cell? ⟨w.heap.size,0,none⟩=some (.slice r.aL r.lo.length r.cL)/\U.cell? ⟨w.heap.size,1,none⟩=some (.slice r.aH r.hi.length r.cH)/\U.cell? ⟨w.heap.size,2,none⟩=some (.bool r.op))) (by kernel_rfl) (SS.o _ DB.o) (λhHeld=>?_)
          refine tkd 0 1 2 3 ?_;refine tkb 4 5 ?_;refine tk 6 ?_;refine tw 7 λKx hK=>?_
          go_simp;refine(O.o _ DB.o (CC.o.keep DR.o) (XI.o.bk.keep DR.o)).mono ?_;rintro e W2 ⟨aH,rfl,aa,ac,aw⟩;have J:=ix (DB.o.trans aa (λ_ _ e=>e))
          have N:=ix ac;have n:=ix aw;clear aa ac aw O;go_wp2_with fail
          refine hK.o _ _ (SS.o _ J.o) (λhHeld=>?_)
          refine tk 8 ?_;refine td ?_;clear hHeld SS;obtain⟨Z1,P⟩:=ai;simp only at H N n GS GO;by_cases V:P=0
          . subst V;have t:Hid (jb (rdR D) r.rg ((L.drop (j+1)).map Iv.it) Z1=R):=ix ((if_neg (by simp)).symm.trans H.o)
            have ek:=n.o rfl;subst ek;clear H n;go_wp2;go_roundw
            case rel=>exact⟨j+1,Z1,by go_num,by omega,Z.o.trans J.o (λ_ _ e=>e),N.o,GO.o.1,λak hy=>GS.o ak (ap.o ak hy),t.o⟩
            case measure=>simp[intOf];omega
          . have t:Hid ((Z1,P)=R):=ix ((if_pos V).symm.trans H.o);have a5:((P:Int)==0)=false:=by simp[V]
            have a6:¬(P:Int)=0:=by omega
            have y:Hid (W=⟨Z1,l,P⟩):=ix (by rw[CT.o,<-t.o];exact if_pos V)
            clear H n;go_wp2;go_ret;rw[y.o];exact⟨aH,rfl,B3.o.trans (Z.o.trans J.o (λ_ _ e=>e)) (λ_ _ e=>e),N.o,λh=>absurd h V⟩
        . obtain rfl:j=L.length:=by omega
          have t:Hid ((c,0)=R):=ix (by rw[<-HV.o,fR];rfl)
          have y:Hid (W=⟨c,l+L.length,0⟩):=ix (by rw[CT.o,<-t.o];exact if_neg (by simp))
          go_wp2;go_ret;rw[y.o];refine⟨l+L.length,rfl,B3.o.trans Z.o (λ_ _ e=>e),CC.o,λ_=>⟨rfl,?_,λx B=>ap.o x (br _ B)⟩⟩
          have kt:=KT.o;rw[<-aW.o,y.o] at kt;exact kt
     . have a0:¬(L.length:Int)<4:=by omega
       go_upto_region 9 with fail
       clear m0 m1 m2 m3 m4;go_loopw [12] (λq wr=>∃(j:Nat)(c:List Int),q=.int .i64 (j:Int)/\j<=L.length/\But (cko s m) w3 wr/\Ckm wr s rb m D.C.length c (l+j)/\Gok (rdR D) c/\(∀x∈((i:Int)+1)::G,x∈c)/\jb (rdR D) r.rg ((L.drop j).map Iv.it) c=R) (λq _=>L.length-(intOf q).toNat)
       case atStart=>exact⟨0,_,rfl,an _,But.refl _ _,C3.o,GK.o,λ_ h=>h,RR.o⟩
       case round=>
        obtain⟨j,c,rfl,hj,A,E,hg,ax,F⟩:=hrel;have Z:=ix A;have CC:=ix E;have GG:=ix hg;have ap:=ix ax;have HV:=ix F;have X4:=ix (A.same X3.o (λe=>e.elim v.1 v.2.1))
        have aF:=ix (A.same aM.o (λe=>e.elim v.2.2.1 v.2.2.2))
        have R4:=ix (R3.o.cko X.o A);have P4:=ix (Pz.pi (P3.o.but A (λab _ K e=>by rw[X.o ab e] at K;cases K)))
        have aE:=ix (aL.o.but' A am.o);clear A E hg ax F;obtain⟨m0,m1,m2,m3,m4⟩:=mW X4.o;by_cases I:j<L.length
        . have a7:(j:Int)<(L.length:Int):=by omega
          have a2:(0:Int)<=(j:Int):=by omega
          obtain⟨d,f,ea,cA⟩:=P4.o.it.at I;have ea:aq=some ⟨d,f,none⟩:=ea;obtain⟨x,B⟩:∃x,L.getD j Iv.zero=x:=⟨_,rfl⟩;have XI:=ix (P4.o.it.1 _ (iH I));have SX:=SZ.o _ (iH I)
          have H:Hid ((if (itM (rdR D) r.rg x.it c).2≠0 then itM (rdR D) r.rg x.it c else jb (rdR D) r.rg ((L.drop (j+1)).map Iv.it) (itM (rdR D) r.rg x.it c).1)=R):=ix (by
           have e:L.getD j Iv.zero=L[j]:=by simp[I]
           rw[<-HV.o,df I,bT,<-e,B,tj])
          have ar:L.getD j Iv.zero=x:=B;simp only[ar] at cA XI SX;subst ea;have HX:=ix B;clear B ar HV;have GS:=ix (yj (rd:=rdR D) (r:=r.rg) (x:=x.it) (G:=c));have GO:=ix (yf (r:=r.rg) (x:=x.it) GG.o);have O:=ix (λ(U:World)(hb:But (cko s m) wr U)(E:Ckm U s rb m D.C.length c (l+j))(hk:Bs U x.aK x.key)=>tO U s rb m D col (R4.o.cko X.o hb) HA.o X.o c (l+j) E x SX r (aE.o.but' hb am.o) hk (by have:=KN.o;omega))
          obtain⟨ai,hZ⟩:∃ai,itM (rdR D) r.rg x.it c=ai:=⟨_,rfl⟩;rw[hZ] at O H GS GO;clear hZ;obtain⟨aK,cK,av,aV,cV,val,child,ay⟩:=x;simp only[Iv.cs] at cA;unfold Iv.vl Rv.val at O;simp only[Iv.cs,Rv.cs] at O
          have SS:Hid (∀U:World,But (cko s m) wr U->(U.cell? ⟨k.heap.size,2,none⟩=some (.slice (some ⟨d,f,none⟩) L.length Y))/\(U.cell? ⟨d,f+j*4,none⟩=some (.slice aK av.length cK)/\U.cell? ⟨d,f+j*4+1,none⟩=some (.slice aV val.length cV)/\U.cell? ⟨d,f+j*4+2,none⟩=some (.int .i64 child)/\U.cell? ⟨d,f+j*4+3,none⟩=some (.int .i64 ay))/\(U.cell? ⟨w.heap.size,0,none⟩=some (.slice r.aL r.lo.length r.cL)/\U.cell? ⟨w.heap.size,1,none⟩=some (.slice r.aH r.hi.length r.cH)/\U.cell? ⟨w.heap.size,2,none⟩=some (.bool r.op))):=ix (λU hb=>by
           have PU:=Pz.pi (P3.o.but (Z.o.trans hb (λ_ _ e=>e)) (λab _ K e=>by rw[X.o ab e] at K;cases K))
           obtain⟨b2,o2,e2,cB⟩:=PU.it.at I;have e2:(some ⟨d,f,none⟩:Option Addr)=some ⟨b2,o2,none⟩:=e2;simp only[au,Addr.mk.injEq] at e2;obtain⟨rfl,rfl,_⟩:=e2;have cB:U.rangeAt d (f+j*4) (L.getD j Iv.zero).cs.toList:=cB;rw[HX.o] at cB;obtain⟨q0,q1,q2,q3⟩:=sQ cB;obtain⟨_,_,p2,_,_⟩:=mW (hb.same X4.o (λe=>e.elim v.1 v.2.1))
           exact⟨p2,⟨q0,q1,q2,q3⟩,iz (hb.same aF.o (λe=>e.elim v.2.2.1 v.2.2.2))⟩)
          go_upto_region 13 with fail
          have DR:=ix (dr2 wr);have DB:=ix (But.ofBelow (S:=cko s m) DR.o);refine be (S:=λU=>(U.cell? ⟨k.heap.size,2,none⟩=some (.slice (some ⟨d,f,none⟩) L.length Y))/\(U.cell? ⟨d,f+j*4,none⟩=some (.slice aK av.length cK)/\U.cell? ⟨d,f+j*4+1,none⟩=some (.slice aV val.length cV)/\U.cell? ⟨d,f+j*4+2,none⟩=some (.int .i64 child)/\U.cell? ⟨d,f+j*4+3,none⟩=some (.int .i64 ay))/\(U.cell? ⟨w.heap.size,0,none⟩=some (.slice r.aL r.lo.length r.cL)/\U.cell? ⟨w.heap.size,1,none⟩=some (.slice r.aH r.hi.length r.cH)/\U.cell? ⟨w.heap.size,2,none⟩=some (.bool r.op))) (by kernel_rfl) (SS.o _ DB.o) (λhHeld=>?_)
          refine tkd 0 1 2 3 ?_;refine tkb 4 5 ?_;refine tk 6 ?_;refine tw 7 λKx hK=>?_
          go_simp;refine(O.o _ DB.o (CC.o.keep DR.o) (XI.o.bk.keep DR.o)).mono ?_;rintro e W2 ⟨aH,rfl,aa,ac,aw⟩;have J:=ix (DB.o.trans aa (λ_ _ e=>e))
          have N:=ix ac;have n:=ix aw;clear aa ac aw O;go_wp2_with fail
          refine hK.o _ _ (SS.o _ J.o) (λhHeld=>?_)
          refine tk 8 ?_;refine td ?_;clear hHeld SS;obtain⟨Z1,P⟩:=ai;simp only at H N n GS GO;by_cases V:P=0
          . subst V;have t:Hid (jb (rdR D) r.rg ((L.drop (j+1)).map Iv.it) Z1=R):=ix ((if_neg (by simp)).symm.trans H.o)
            have ek:=n.o rfl;subst ek;clear H n;go_wp2;go_roundw
            case rel=>exact⟨j+1,Z1,by go_num,by omega,Z.o.trans J.o (λ_ _ e=>e),N.o,GO.o.1,λak hy=>GS.o ak (ap.o ak hy),t.o⟩
            case measure=>simp[intOf];omega
          . have t:Hid ((Z1,P)=R):=ix ((if_pos V).symm.trans H.o);have a5:((P:Int)==0)=false:=by simp[V]
            have a6:¬(P:Int)=0:=by omega
            have y:Hid (W=⟨Z1,l,P⟩):=ix (by rw[CT.o,<-t.o];exact if_pos V)
            clear H n;go_wp2;go_ret;rw[y.o];exact⟨aH,rfl,B3.o.trans (Z.o.trans J.o (λ_ _ e=>e)) (λ_ _ e=>e),N.o,λh=>absurd h V⟩
        . obtain rfl:j=L.length:=by omega
          have t:Hid ((c,0)=R):=ix (by rw[<-HV.o,fR];rfl)
          have y:Hid (W=⟨c,l+L.length,0⟩):=ix (by rw[CT.o,<-t.o];exact if_neg (by simp))
          go_wp2;go_ret;rw[y.o];refine⟨l+L.length,rfl,B3.o.trans Z.o (λ_ _ e=>e),CC.o,λ_=>⟨rfl,?_,λx B=>ap.o x (br _ B)⟩⟩
          have kt:=KT.o;rw[<-aW.o,y.o] at kt;exact kt
 . have af:lvl (Pv.pg ⟨kq,lq,aq,Y,L,ad,cd,aj,nx⟩) 0=false:=by rw[af];exact ah hk
   have t:Hid (W=⟨((i:Int)+1)::G,l,15⟩):=ix (by
    rw[<-TS.o];exact mT (M:=iM (rdR D) root) rfl RD.o ao.o af)
   clear af;go_wp2;go_ret;rw[t.o];exact⟨l,rfl,B3.o,C3.o,λh=>by cases h⟩
theorem xU{i:Nat}{r:Rg}{M:Nat}(c:24<=M)(d:r.lo.length<=M)(a:r.hi.length<=M)(hk:∀j,(p.at j).key.length<=24):(wth p i r).lo.length<=M/\(wth p i r).hi.length<=M:=by
 have e:(p.at i).key.length<=M:=ay (hk i) c
 have hb:(if i+1<p.items.length then (p.at (i+1)).key else []).length<=M:=by
  split
  . exact ay (hk _) c
  . exact an _
 unfold wth jK;dsimp only;refine⟨pC d e,?_⟩;split<;>split
 . exact an _
 . exact hb
 . exact a
 . exact pH a hb
theorem Sound.at24(h:Sound p)(j:Nat):(p.at j).key.length<=24:=by
 by_cases a:j<p.items.length
 . exact(h.fits (oj a▸fp a)).key
 . have:p.at j=It.zero:=by unfold Pg.at;simp[a]
   rw[this];exact an _
theorem FP(D:Rd)(hA:iF (rdR D))(hN:jx (rdR D) 65536)(root:Int)(f:Nat)(hf:f+1<=11)(IH:yY D root f):yY D root (f+1):=by
 intro w F rb E col hR a3 G P Z aG lv aZ r aX aW aY rt a2 hK;have A0:=ix (al w (.cells r.cs 62));have X0:=ix (ag w (.cells r.cs 62));have EN:=ix (oP _ F rb E D col (hR.keep A0.o) G P (Z.keep A0.o) aG);have HR:=ix hR;have HC:=ix Z;have HL:=ix Z.lb;have RI:=ix aX;have RB:=ix aW;have ar:=ix aY;have aa:=ix a3;have HK:=ix hK;have aH:=ix a2;have HA:=ix hA;have HN:=ix hN;have av:=ix aZ;obtain⟨W,aN⟩:∃W,iE (iM (rdR D) root) (rdR D) (λ_=>true) true (f+1) ⟨G,P,0⟩ ⟨aG,lv,r.rg⟩=W:=⟨_,rfl⟩
 rw[aN];have TS:=ix aN;unfold Rv.val;simp only[Rv.cs] at A0 X0 EN ⊢;clear hR Z aX aW aY a3 hK a2 hA hN aN aZ;go_enter func68,ntmps68;go_upto_region 1 with fail
 generalize w.alloc (.cells #[.slice r.aL r.lo.length r.cL,.slice r.aH r.hi.length r.cH,.bool r.op] 62)=w1 at *;go_wp2_with fail
 refine EN.o.mono ?_;rintro e H (⟨rfl,a4,hw⟩|⟨rfl,h0,a0,ac,ah⟩)
 . obtain rfl:=hw.symm
   have ab:Hid (W=⟨G,P,15⟩):=by
    show _=_;rw[<-TS.o];refine(oM rfl ?_);rcases a4 with h|h
    . exact .inl (mY h)
    . exact .inr h
   clear hw a4;go_wp2;go_ret;rw[ab.o];exact⟨P,rfl,But.ofBelow A0.o,HC.o.keep A0.o,λh=>by cases h⟩
 have a6:=ix (ac.same X0.o (λe=>by have e:w.heap.size=E:=e;have:=HL.o.2;omega))
 have B2:=ix (((But.ofBelow (S:=cko F E) A0.o).trans (ac.mono (T:=cko F E) λk _ e=>.inr e) (λ_ _ e=>e)))
 have C2:=ix ah;have H0:=ix h0;have am:=ix a0;have ao:=ix (HA.o aG _ (mr h0));have RD:=ix (mr h0);have R2:=ix (HR.o.cko aa.o B2.o);obtain⟨i,g,rfl,hi,R,c3,hc⟩:=R2.o.page h0;have a1:=R2.o.ps _ (Rd.on_mem R2.o (jN h0));have aI:=ix ((R2.o.pz _ (Rd.on_mem R2.o (jN h0))));clear ac ah h0 a0 EN;have bB:(i:Int)<(D.C.length:Int):=by omega
 have bl:(i:Int)+1-1=(i:Int):=by omega
 have bF:IntKind.i64.wrap ((i:Int)+1-1)=(i:Int):=by rw[bl];exact iQ (by omega) (by omega)
 obtain⟨c0,c1,c2⟩:=C2.o.cells;obtain⟨q,V⟩:∃q,D.on ((i:Int)+1)=q:=⟨_,rfl⟩;rw[V] at hc ao RD aI a1;clear V;obtain⟨kq,d,B,t,L,l,m,A,v⟩:=q;have y0:=hc 0 _ (by decide) rfl
 have y1:=hc 1 _ (by decide) rfl
 have y2:=hc 2 _ (by decide) rfl
 have y3:=hc 3 _ (by decide) rfl
 have y4:=hc 4 _ (by decide) rfl
 rw[dp] at y0;have gl:g<H.heap.size:=block_lt_of_cell y0;have XR:=ix (a6.o);have A3:=ix (al H (.cells #[.int .i64 kq,.int .i64 d,.slice B L.length t,.slice l A.length m,.int .i64 v] 77));have X3:=ix (ag H (.cells #[.int .i64 kq,.int .i64 d,.slice B L.length t,.slice l A.length m,.int .i64 v] 77));clear hc;go_upto_region 4 with fail
 have B3:=ix (B2.o.andBelow A3.o);have aU:=ix ((A3.o.block w.heap.size (ae.1 XR.o).1).trans XR.o);have C3:=ix (C2.o.keep A3.o);have R3:=ix (R2.o.keep A3.o);have P3:=ix (aI.o.keep A3.o);have aS:=ix (RI.o.but' B3.o ar.o);have bH:=B2.o.size;have X:H.heap.size≠F/\H.heap.size≠E/\w.heap.size≠F/\w.heap.size≠E:=by have:=HL.o;omega
 generalize H.alloc (.cells #[.int .i64 kq,.int .i64 d,.slice B L.length t,.slice l A.length m,.int .i64 v] 77)=w3 at *;obtain⟨m0,m1,m2,m3,m4⟩:=mW X3.o;have bz:L.length<=1048576:=(mC (a1)).2;clear y0 y1 y2 y3 y4 c0 c1 c2 c3 XR A3 B2 C2 R2 aI A0 X0;have aQ:Hid (lv-1=(f:Int)):=ix (by have:=av.o;omega)
 have aM:¬lv=0:=by have:=av.o;omega
 have aE:(lv==0)=false:=by simp[aM]
 have bj:0<lv:=by have:=av.o;omega
 have bC:lv<=11:=by have:=av.o;omega
 have bD:IntKind.i64.wrap (lv-1)=lv-1:=iQ (by omega) (by omega)
 clear av;have n:=Gd ao.o bj;by_cases hk:kq=2
 . subst hk;by_cases he:d=lv
   . subst he;have n:lvl (Pv.pg ⟨2,d,B,t,L,l,m,A,v⟩) d=true:=by rw[n];simp[Pv.pg]
     have h8:L.length<=8:=by have:=(ao.o.node (.inr rfl)).2.2.1;simpa[Pv.pg] using this
     have h2:2<=L.length:=by have:=(ao.o.idx rfl).2.2;simpa[Pv.pg] using this
     have bx:¬(L.length:Int)<2:=by omega
     have GK:=ix (show Kb (rdR D) ⟨((i:Int)+1)::G,P,0⟩ from⟨HK.o.g.cons RD.o am.o,by have:=HK.o.k;simp only[a7] at this ⊢;omega⟩)
     have aR:Hid (∀x∈L,x.key.length<=24):=ix (λx O=>(ao.o.fits (x:=x.it) (bE.2 ⟨x,O,rfl⟩)).key)
     have aP:=ix (ao.o.at24);by_cases aF:rt=false/\L.length<4
     . obtain⟨rfl,h4⟩:=aF
       have bk:(i:Int)+1≠root:=λe=>by
        rcases aH.o with⟨h,_⟩|⟨_,h⟩
        . cases h
        . exact am.o (e▸h)
       have bc:(L.length:Int)<4:=by omega
       have aj:ju (rdR D) root ⟨((i:Int)+1)::G,P,0⟩ ⟨(i:Int)+1,d,r.rg⟩ (Pv.pg ⟨2,d,B,t,L,l,m,A,v⟩)=⟨((i:Int)+1)::G,P,5⟩:=by
        unfold ju;rw[if_pos ⟨bk,by simpa[Pv.pg] using h4⟩]
       have ab:Hid (W=⟨((i:Int)+1)::G,P,5⟩):=ix (by
        rw[<-TS.o];refine(oR (M:=iM (rdR D) root) rfl RD.o am.o n (.inl ?_)).trans aj;show decide ((ju (rdR D) root ⟨((i:Int)+1)::G,P,0⟩ ⟨(i:Int)+1,d,r.rg⟩ (Pv.pg ⟨2,d,B,t,L,l,m,A,v⟩)).er≠0)=true;rw[aj];rfl)
       clear n aj aE;have aE:(d==0)=false:=by simp[aM]
       go_wp2;go_ret;rw[ab.o];exact⟨P,rfl,B3.o,C3.o,λh=>by cases h⟩
     . have aj:ju (rdR D) root ⟨((i:Int)+1)::G,P,0⟩ ⟨(i:Int)+1,d,r.rg⟩ (Pv.pg ⟨2,d,B,t,L,l,m,A,v⟩)=⟨((i:Int)+1)::G,P,0⟩:=by
        unfold ju
        rw[if_neg (λh=>aF (by
         rcases aH.o with⟨h1,h2⟩|⟨h1,h2⟩
         . exact absurd h2 h.1
         . exact⟨h1,by simpa[Pv.pg] using h.2⟩))]
        exact if_neg (by show ¬(2:Int)=1;decide)
       have aT:Hid (flw (λs c=>iE (iM (rdR D) root) (rdR D) (λ_=>true) true f s c) (iM (rdR D) root).stp (ben ⟨(i:Int)+1,d,r.rg⟩ (Pv.pg ⟨2,d,B,t,L,l,m,A,v⟩)) ⟨((i:Int)+1)::G,P,0⟩=W):=ix (by
        rw[<-TS.o]
        have h:=sX (M:=iM (rdR D) root) (wants:=λ_=>true) (o:=true) (f:=f) (a:=⟨(i:Int)+1,d,r.rg⟩) (s:=⟨G,P,0⟩) rfl RD.o am.o n (by
         show decide ((ju (rdR D) root ⟨((i:Int)+1)::G,P,0⟩ ⟨(i:Int)+1,d,r.rg⟩ (Pv.pg ⟨2,d,B,t,L,l,m,A,v⟩)).er≠0)=false;rw[aj];rfl) (by show ¬(2:Int)=1;decide)
        refine Eq.trans ?_ h.symm;show _=flw _ _ (ben ⟨(i:Int)+1,d,r.rg⟩ (Pv.pg ⟨2,d,B,t,L,l,m,A,v⟩)) (ju (rdR D) root ⟨((i:Int)+1)::G,P,0⟩ ⟨(i:Int)+1,d,r.rg⟩ (Pv.pg ⟨2,d,B,t,L,l,m,A,v⟩));rw[aj])
       have bf:rt=true\/rt=false/\¬L.length<4:=by
        cases rt with
        |true=>exact .inl rfl
        |false=>exact .inr ⟨rfl,λh=>aF ⟨rfl,h⟩⟩
       have a5:Hid (root∈((i:Int)+1)::G):=ix (by
        rcases aH.o with⟨_,h⟩|⟨_,h⟩
        . rw[h];exact bG
        . exact br _ h)
       clear aF n aj TS aE;have aE:(d==0)=false:=by simp[aM]
       rcases bf with rfl|⟨rfl,h4⟩
       . go_upto_region 9 with fail
         clear m0 m1 m2 m3 m4;go_loopw [12] (λq wr=>∃(j:Nat)(I:List Int)(K:Nat),q=.int .i64 (j:Int)/\j<=L.length/\But (cko F E) w3 wr/\Ckm wr F rb E D.C.length I K/\Kb (rdR D) ⟨I,K,0⟩/\(∀x∈((i:Int)+1)::G,x∈I)/\flw (λs c=>iE (iM (rdR D) root) (rdR D) (λ_=>true) true f s c) (iM (rdR D) root).stp ((ben ⟨(i:Int)+1,d,r.rg⟩ (Pv.pg ⟨2,d,B,t,L,l,m,A,v⟩)).drop j) ⟨I,K,0⟩=W) (λq _=>L.length-(intOf q).toNat)
         case atStart=>exact⟨0,_,P,rfl,an _,But.refl _ _,C3.o,GK.o,λ_ h=>h,aT.o⟩
         case round=>
          obtain⟨j,I,K,rfl,hj,Y,Z,hg,aD,hc⟩:=hrel;have HB:=ix Y;have CC:=ix Z;have GG:=ix hg;have ak:=ix aD;have HV:=ix hc;have X4:=ix (Y.same X3.o (λe=>e.elim X.1 X.2.1))
          have aL:=ix (Y.same aU.o (λe=>e.elim X.2.2.1 X.2.2.2))
          have R4:=ix (R3.o.cko aa.o Y);have P4:=ix (Pz.pi (P3.o.but Y (λk _ R e=>by rw[aa.o k e] at R;cases R)))
          have aJ:=ix (aS.o.but' Y ar.o);clear Y Z hg aD hc;obtain⟨m0,m1,m2,m3,m4⟩:=mW X4.o;by_cases af:j<L.length
          . have bu:(j:Int)<(L.length:Int):=by omega
            have bi:(0:Int)<=(j:Int):=by omega
            obtain⟨J,N,ea,cA⟩:=P4.o.it.at af;have ea:B=some ⟨J,N,none⟩:=ea;obtain⟨x,O⟩:∃x,L.getD j Iv.zero=x:=⟨_,rfl⟩;have aO:j<(Pv.pg ⟨2,d,B,t,L,l,m,A,v⟩).items.length:=by simpa[Pv.pg] using af
            have AT:(Pv.pg ⟨2,d,B,t,L,l,m,A,v⟩).at j=x.it:=by rw[<-O];exact js L j
            have y:Hid ((if (iE (iM (rdR D) root) (rdR D) (λ_=>true) true f ⟨I,K,0⟩ ⟨x.child,d-1,wth (Pv.pg ⟨2,d,B,t,L,l,m,A,v⟩) j r.rg⟩).er≠0 then iE (iM (rdR D) root) (rdR D) (λ_=>true) true f ⟨I,K,0⟩ ⟨x.child,d-1,wth (Pv.pg ⟨2,d,B,t,L,l,m,A,v⟩) j r.rg⟩ else flw (λs c=>iE (iM (rdR D) root) (rdR D) (λ_=>true) true f s c) (iM (rdR D) root).stp ((ben ⟨(i:Int)+1,d,r.rg⟩ (Pv.pg ⟨2,d,B,t,L,l,m,A,v⟩)).drop (j+1)) (iE (iM (rdR D) root) (rdR D) (λ_=>true) true f ⟨I,K,0⟩ ⟨x.child,d-1,wth (Pv.pg ⟨2,d,B,t,L,l,m,A,v⟩) j r.rg⟩))=W):=ix (by
             obtain⟨hk,e⟩:=bA.1 (sT (a:=⟨(i:Int)+1,d,r.rg⟩) aO);rw[<-HV.o,df hk,e,jB,AT];show _=if decide (_≠0)=true then _ else _
             simp only[cZ];rfl)
            have az:L.getD j Iv.zero=x:=O;simp only[az] at cA;subst ea;have HX:=ix O;clear O az HV AT;have WT:=ix (λ(U:World)(hb:But (cko F E) wr U)=>qf U ⟨2,d,some ⟨J,N,none⟩,t,L,l,m,A,v⟩ j af r (Pz.pi (P3.o.but (HB.o.trans hb (λ_ _ e=>e)) (λk _ R e=>by rw[aa.o k e] at R;cases R))) (aJ.o.but' hb ar.o) RB.o aR.o)
            have PG:=ix (λ(U:World)(hb:But (cko F E) wr U)(Z:Ckm U F rb E D.C.length I K)(q:Rv)(V:Ri U q)(hg:q.rg=wth (Pv.pg ⟨2,d,some ⟨J,N,none⟩,t,L,l,m,A,v⟩) j r.rg)(hi:∀k,sd q k->¬cko F E k)=>hg▸IH U F rb E col (R4.o.cko aa.o hb) aa.o I K Z x.child (d-1) aQ.o q V (by
             have h:=xU (p:=Pv.pg ⟨2,d,some ⟨J,N,none⟩,t,L,l,m,A,v⟩) (i:=j) (r:=r.rg) (M:=140737488355328) (by decide) RB.o.1 RB.o.2 aP.o
             rw[<-hg] at h;exact h) hi false (.inr ⟨rfl,ak.o _ a5.o⟩) GG.o)
            obtain⟨wt,ay⟩:∃wt,wth (Pv.pg ⟨2,d,some ⟨J,N,none⟩,t,L,l,m,A,v⟩) j r.rg=wt:=⟨_,rfl⟩;rw[ay] at y PG WT;clear ay;obtain⟨ai,hZ⟩:∃ai,iE (iM (rdR D) root) (rdR D) (λ_=>true) true f ⟨I,K,0⟩ ⟨x.child,d-1,wt⟩=ai:=⟨_,rfl⟩
            rw[hZ] at y PG;clear hZ;obtain⟨aK,cK,bp,aV,cV,val,child,bw⟩:=x;simp only[Iv.cs] at cA;unfold Pv.vl Rv.val at WT;unfold Rv.val at PG;simp only[Pv.cs,Rv.cs] at WT PG
            have SS:Hid (∀U:World,But (cko F E) wr U->(U.cell? ⟨H.heap.size,0,none⟩=some (.int .i64 2)/\U.cell? ⟨H.heap.size,1,none⟩=some (.int .i64 d)/\U.cell? ⟨H.heap.size,2,none⟩=some (.slice (some ⟨J,N,none⟩) L.length t)/\U.cell? ⟨H.heap.size,3,none⟩=some (.slice l A.length m)/\U.cell? ⟨H.heap.size,4,none⟩=some (.int .i64 v))/\U.cell? ⟨J,N+j*4+2,none⟩=some (.int .i64 child)/\(U.cell? ⟨w.heap.size,0,none⟩=some (.slice r.aL r.lo.length r.cL)/\U.cell? ⟨w.heap.size,1,none⟩=some (.slice r.aH r.hi.length r.cH)/\U.cell? ⟨w.heap.size,2,none⟩=some (.bool r.op))):=ix (λU hb=>by
             have PU:=Pz.pi (P3.o.but (HB.o.trans hb (λ_ _ e=>e)) (λk _ R e=>by rw[aa.o k e] at R;cases R))
             obtain⟨b2,o2,e2,cB⟩:=PU.it.at af;have e2:(some ⟨J,N,none⟩:Option Addr)=some ⟨b2,o2,none⟩:=e2;simp only[au,Addr.mk.injEq] at e2;obtain⟨rfl,rfl,_⟩:=e2;have cB:U.rangeAt J (N+j*4) (L.getD j Iv.zero).cs.toList:=cB;rw[HX.o] at cB;obtain⟨q0,q1,q2,q3⟩:=sQ cB;exact⟨mW (hb.same X4.o (λe=>e.elim X.1 X.2.1)),q2,iz (hb.same aL.o (λe=>e.elim X.2.2.1 X.2.2.2))⟩)
            go_upto_region 14 with fail
            have DR:=ix (dr2 wr);have DB:=ix (But.ofBelow (S:=cko F E) DR.o);refine be (S:=λU=>(U.cell? ⟨H.heap.size,0,none⟩=some (.int .i64 2)/\U.cell? ⟨H.heap.size,1,none⟩=some (.int .i64 d)/\U.cell? ⟨H.heap.size,2,none⟩=some (.slice (some ⟨J,N,none⟩) L.length t)/\U.cell? ⟨H.heap.size,3,none⟩=some (.slice l A.length m)/\U.cell? ⟨H.heap.size,4,none⟩=some (.int .i64 v))/\U.cell? ⟨J,N+j*4+2,none⟩=some (.int .i64 child)/\(U.cell? ⟨w.heap.size,0,none⟩=some (.slice r.aL r.lo.length r.cL)/\U.cell? ⟨w.heap.size,1,none⟩=some (.slice r.aH r.hi.length r.cH)/\U.cell? ⟨w.heap.size,2,none⟩=some (.bool r.op))) (by kernel_rfl) (SS.o _ DB.o) (λhHeld=>?_)
            refine tkd 0 1 2 3 ?_;refine tkd 4 5 6 7 ?_;refine tkd 8 9 10 11 ?_;refine tw 12 λKx hK=>?_
            go_simp;refine(WT.o _ DB.o).mono ?_;rintro e V2 ⟨q,rfl,V,ax⟩;have VB:=ix (bt DR.o V.l.b);have VC:=ix (But.ofBelow (S:=cko F E) VB.o);have QR:=ix V.ri;have QG:=ix ax
            have QI:Hid (∀k,sd q k->¬cko F E k):=ix (λk hk e=>by
             have bm:=HB.o.size;have bv:=B3.o.size;have hd:wr.drew.heap.size=wr.heap.size:=rfl;have:=HL.o
             have bg:wr.drew.heap.size<=k:=by
              rcases hk with⟨x,O,rfl⟩|⟨x,O,rfl⟩
              . exact V.l.fresh O
              . exact V.h.fresh O
             rcases e with e|e<;>omega)
            clear V ax WT;obtain⟨a9,bb,bq,a8,ba,bh,bs⟩:=q;go_wp2_with fail
            refine hK.o _ _ (SS.o _ VC.o) (λhHeld=>?_)
            refine tw 13 λKx hK=>?_
            go_simp;refine(PG.o _ VC.o (CC.o.keep VB.o) _ QR.o QG.o QI.o).mono ?_;rintro e W2 ⟨aA,rfl,ac,ah,aC⟩;have B2:=ix (VC.o.trans ac (λ_ _ e=>e))
            have C2:=ix ah;have K2:=ix aC;clear ac ah aC PG;go_wp2_with fail
            refine hK.o _ _ (SS.o _ B2.o) (λhHeld=>?_)
            refine tk 14 ?_;refine td ?_;clear hHeld SS;obtain⟨Z1,Zk,Z2⟩:=ai;simp only at y C2 K2;by_cases hz:Z2=0
            . subst hz;have ab:Hid (flw (λs c=>iE (iM (rdR D) root) (rdR D) (λ_=>true) true f s c) (iM (rdR D) root).stp ((ben ⟨(i:Int)+1,d,r.rg⟩ (Pv.pg ⟨2,d,some ⟨J,N,none⟩,t,L,l,m,A,v⟩)).drop (j+1)) ⟨Z1,Zk,0⟩=W):=ix ((if_neg (by simp)).symm.trans y.o)
              obtain⟨ek,aw,aB⟩:=K2.o rfl;subst ek;have EK:=ix aw;have ES:=ix aB;clear y K2 aw aB;go_wp2;go_roundw
              case rel=>exact⟨j+1,Z1,aA,by go_num,by omega,HB.o.trans B2.o (λ_ _ e=>e),C2.o,EK.o,λap hy=>ES.o ap (ak.o ap hy),ab.o⟩
              case measure=>simp[intOf];omega
            . have F2:Hid (W=⟨Z1,Zk,Z2⟩):=ix ((if_pos hz).symm.trans y.o).symm;have bn:((Z2:Int)==0)=false:=by simp[hz]
              have bo:¬(Z2:Int)=0:=by omega
              clear y K2;go_wp2;go_ret;rw[F2.o];exact⟨aA,rfl,B3.o.trans (HB.o.trans B2.o (λ_ _ e=>e)) (λ_ _ e=>e),C2.o,λh=>absurd h hz⟩
          . obtain rfl:j=L.length:=by omega
            have F2:Hid (W=⟨I,K,0⟩):=ix (by
             rw[<-HV.o,dw (by simp[ben,Pv.pg])]
             rfl)
            go_wp2;go_ret;rw[F2.o];exact⟨K,rfl,B3.o.trans HB.o (λ_ _ e=>e),CC.o,λ_=>⟨rfl,GG.o,λx O=>ak.o x (br _ O)⟩⟩
       . have bc:¬(L.length:Int)<4:=by omega
         go_upto_region 9 with fail
         clear m0 m1 m2 m3 m4;go_loopw [12] (λq wr=>∃(j:Nat)(I:List Int)(K:Nat),q=.int .i64 (j:Int)/\j<=L.length/\But (cko F E) w3 wr/\Ckm wr F rb E D.C.length I K/\Kb (rdR D) ⟨I,K,0⟩/\(∀x∈((i:Int)+1)::G,x∈I)/\flw (λs c=>iE (iM (rdR D) root) (rdR D) (λ_=>true) true f s c) (iM (rdR D) root).stp ((ben ⟨(i:Int)+1,d,r.rg⟩ (Pv.pg ⟨2,d,B,t,L,l,m,A,v⟩)).drop j) ⟨I,K,0⟩=W) (λq _=>L.length-(intOf q).toNat)
         case atStart=>exact⟨0,_,P,rfl,an _,But.refl _ _,C3.o,GK.o,λ_ h=>h,aT.o⟩
         case round=>
          obtain⟨j,I,K,rfl,hj,Y,Z,hg,aD,hc⟩:=hrel;have HB:=ix Y;have CC:=ix Z;have GG:=ix hg;have ak:=ix aD;have HV:=ix hc;have X4:=ix (Y.same X3.o (λe=>e.elim X.1 X.2.1))
          have aL:=ix (Y.same aU.o (λe=>e.elim X.2.2.1 X.2.2.2))
          have R4:=ix (R3.o.cko aa.o Y);have P4:=ix (Pz.pi (P3.o.but Y (λk _ R e=>by rw[aa.o k e] at R;cases R)))
          have aJ:=ix (aS.o.but' Y ar.o);clear Y Z hg aD hc;obtain⟨m0,m1,m2,m3,m4⟩:=mW X4.o;by_cases af:j<L.length
          . have bu:(j:Int)<(L.length:Int):=by omega
            have bi:(0:Int)<=(j:Int):=by omega
            obtain⟨J,N,ea,cA⟩:=P4.o.it.at af;have ea:B=some ⟨J,N,none⟩:=ea;obtain⟨x,O⟩:∃x,L.getD j Iv.zero=x:=⟨_,rfl⟩;have aO:j<(Pv.pg ⟨2,d,B,t,L,l,m,A,v⟩).items.length:=by simpa[Pv.pg] using af
            have AT:(Pv.pg ⟨2,d,B,t,L,l,m,A,v⟩).at j=x.it:=by rw[<-O];exact js L j
            have y:Hid ((if (iE (iM (rdR D) root) (rdR D) (λ_=>true) true f ⟨I,K,0⟩ ⟨x.child,d-1,wth (Pv.pg ⟨2,d,B,t,L,l,m,A,v⟩) j r.rg⟩).er≠0 then iE (iM (rdR D) root) (rdR D) (λ_=>true) true f ⟨I,K,0⟩ ⟨x.child,d-1,wth (Pv.pg ⟨2,d,B,t,L,l,m,A,v⟩) j r.rg⟩ else flw (λs c=>iE (iM (rdR D) root) (rdR D) (λ_=>true) true f s c) (iM (rdR D) root).stp ((ben ⟨(i:Int)+1,d,r.rg⟩ (Pv.pg ⟨2,d,B,t,L,l,m,A,v⟩)).drop (j+1)) (iE (iM (rdR D) root) (rdR D) (λ_=>true) true f ⟨I,K,0⟩ ⟨x.child,d-1,wth (Pv.pg ⟨2,d,B,t,L,l,m,A,v⟩) j r.rg⟩))=W):=ix (by
             obtain⟨hk,e⟩:=bA.1 (sT (a:=⟨(i:Int)+1,d,r.rg⟩) aO);rw[<-HV.o,df hk,e,jB,AT];show _=if decide (_≠0)=true then _ else _
             simp only[cZ];rfl)
            have az:L.getD j Iv.zero=x:=O;simp only[az] at cA;subst ea;have HX:=ix O;clear O az HV AT;have WT:=ix (λ(U:World)(hb:But (cko F E) wr U)=>qf U ⟨2,d,some ⟨J,N,none⟩,t,L,l,m,A,v⟩ j af r (Pz.pi (P3.o.but (HB.o.trans hb (λ_ _ e=>e)) (λk _ R e=>by rw[aa.o k e] at R;cases R))) (aJ.o.but' hb ar.o) RB.o aR.o)
            have PG:=ix (λ(U:World)(hb:But (cko F E) wr U)(Z:Ckm U F rb E D.C.length I K)(q:Rv)(V:Ri U q)(hg:q.rg=wth (Pv.pg ⟨2,d,some ⟨J,N,none⟩,t,L,l,m,A,v⟩) j r.rg)(hi:∀k,sd q k->¬cko F E k)=>hg▸IH U F rb E col (R4.o.cko aa.o hb) aa.o I K Z x.child (d-1) aQ.o q V (by
             have h:=xU (p:=Pv.pg ⟨2,d,some ⟨J,N,none⟩,t,L,l,m,A,v⟩) (i:=j) (r:=r.rg) (M:=140737488355328) (by decide) RB.o.1 RB.o.2 aP.o
             rw[<-hg] at h;exact h) hi false (.inr ⟨rfl,ak.o _ a5.o⟩) GG.o)
            obtain⟨wt,ay⟩:∃wt,wth (Pv.pg ⟨2,d,some ⟨J,N,none⟩,t,L,l,m,A,v⟩) j r.rg=wt:=⟨_,rfl⟩;rw[ay] at y PG WT;clear ay;obtain⟨ai,hZ⟩:∃ai,iE (iM (rdR D) root) (rdR D) (λ_=>true) true f ⟨I,K,0⟩ ⟨x.child,d-1,wt⟩=ai:=⟨_,rfl⟩
            rw[hZ] at y PG;clear hZ;obtain⟨aK,cK,bp,aV,cV,val,child,bw⟩:=x;simp only[Iv.cs] at cA;unfold Pv.vl Rv.val at WT;unfold Rv.val at PG;simp only[Pv.cs,Rv.cs] at WT PG
            have SS:Hid (∀U:World,But (cko F E) wr U->(U.cell? ⟨H.heap.size,0,none⟩=some (.int .i64 2)/\U.cell? ⟨H.heap.size,1,none⟩=some (.int .i64 d)/\U.cell? ⟨H.heap.size,2,none⟩=some (.slice (some ⟨J,N,none⟩) L.length t)/\U.cell? ⟨H.heap.size,3,none⟩=some (.slice l A.length m)/\U.cell? ⟨H.heap.size,4,none⟩=some (.int .i64 v))/\U.cell? ⟨J,N+j*4+2,none⟩=some (.int .i64 child)/\(U.cell? ⟨w.heap.size,0,none⟩=some (.slice r.aL r.lo.length r.cL)/\U.cell? ⟨w.heap.size,1,none⟩=some (.slice r.aH r.hi.length r.cH)/\U.cell? ⟨w.heap.size,2,none⟩=some (.bool r.op))):=ix (λU hb=>by
             have PU:=Pz.pi (P3.o.but (HB.o.trans hb (λ_ _ e=>e)) (λk _ R e=>by rw[aa.o k e] at R;cases R))
             obtain⟨b2,o2,e2,cB⟩:=PU.it.at af;have e2:(some ⟨J,N,none⟩:Option Addr)=some ⟨b2,o2,none⟩:=e2;simp only[au,Addr.mk.injEq] at e2;obtain⟨rfl,rfl,_⟩:=e2;have cB:U.rangeAt J (N+j*4) (L.getD j Iv.zero).cs.toList:=cB;rw[HX.o] at cB;obtain⟨q0,q1,q2,q3⟩:=sQ cB;exact⟨mW (hb.same X4.o (λe=>e.elim X.1 X.2.1)),q2,iz (hb.same aL.o (λe=>e.elim X.2.2.1 X.2.2.2))⟩)
            go_upto_region 14 with fail
            have DR:=ix (dr2 wr);have DB:=ix (But.ofBelow (S:=cko F E) DR.o);refine be (S:=λU=>(U.cell? ⟨H.heap.size,0,none⟩=some (.int .i64 2)/\U.cell? ⟨H.heap.size,1,none⟩=some (.int .i64 d)/\U.cell? ⟨H.heap.size,2,none⟩=some (.slice (some ⟨J,N,none⟩) L.length t)/\U.cell? ⟨H.heap.size,3,none⟩=some (.slice l A.length m)/\U.cell? ⟨H.heap.size,4,none⟩=some (.int .i64 v))/\U.cell? ⟨J,N+j*4+2,none⟩=some (.int .i64 child)/\(U.cell? ⟨w.heap.size,0,none⟩=some (.slice r.aL r.lo.length r.cL)/\U.cell? ⟨w.heap.size,1,none⟩=some (.slice r.aH r.hi.length r.cH)/\U.cell? ⟨w.heap.size,2,none⟩=some (.bool r.op))) (by kernel_rfl) (SS.o _ DB.o) (λhHeld=>?_)
            refine tkd 0 1 2 3 ?_;refine tkd 4 5 6 7 ?_;refine tkd 8 9 10 11 ?_;refine tw 12 λKx hK=>?_
            go_simp;refine(WT.o _ DB.o).mono ?_;rintro e V2 ⟨q,rfl,V,ax⟩;have VB:=ix (bt DR.o V.l.b);have VC:=ix (But.ofBelow (S:=cko F E) VB.o);have QR:=ix V.ri;have QG:=ix ax
            have QI:Hid (∀k,sd q k->¬cko F E k):=ix (λk hk e=>by
             have bm:=HB.o.size;have bv:=B3.o.size;have hd:wr.drew.heap.size=wr.heap.size:=rfl;have:=HL.o
             have bg:wr.drew.heap.size<=k:=by
              rcases hk with⟨x,O,rfl⟩|⟨x,O,rfl⟩
              . exact V.l.fresh O
              . exact V.h.fresh O
             rcases e with e|e<;>omega)
            clear V ax WT;obtain⟨a9,bb,bq,a8,ba,bh,bs⟩:=q;go_wp2_with fail
            refine hK.o _ _ (SS.o _ VC.o) (λhHeld=>?_)
            refine tw 13 λKx hK=>?_
            go_simp;refine(PG.o _ VC.o (CC.o.keep VB.o) _ QR.o QG.o QI.o).mono ?_;rintro e W2 ⟨aA,rfl,ac,ah,aC⟩;have B2:=ix (VC.o.trans ac (λ_ _ e=>e))
            have C2:=ix ah;have K2:=ix aC;clear ac ah aC PG;go_wp2_with fail
            refine hK.o _ _ (SS.o _ B2.o) (λhHeld=>?_)
            refine tk 14 ?_;refine td ?_;clear hHeld SS;obtain⟨Z1,Zk,Z2⟩:=ai;simp only at y C2 K2;by_cases hz:Z2=0
            . subst hz;have ab:Hid (flw (λs c=>iE (iM (rdR D) root) (rdR D) (λ_=>true) true f s c) (iM (rdR D) root).stp ((ben ⟨(i:Int)+1,d,r.rg⟩ (Pv.pg ⟨2,d,some ⟨J,N,none⟩,t,L,l,m,A,v⟩)).drop (j+1)) ⟨Z1,Zk,0⟩=W):=ix ((if_neg (by simp)).symm.trans y.o)
              obtain⟨ek,aw,aB⟩:=K2.o rfl;subst ek;have EK:=ix aw;have ES:=ix aB;clear y K2 aw aB;go_wp2;go_roundw
              case rel=>exact⟨j+1,Z1,aA,by go_num,by omega,HB.o.trans B2.o (λ_ _ e=>e),C2.o,EK.o,λap hy=>ES.o ap (ak.o ap hy),ab.o⟩
              case measure=>simp[intOf];omega
            . have F2:Hid (W=⟨Z1,Zk,Z2⟩):=ix ((if_pos hz).symm.trans y.o).symm;have bn:((Z2:Int)==0)=false:=by simp[hz]
              have bo:¬(Z2:Int)=0:=by omega
              clear y K2;go_wp2;go_ret;rw[F2.o];exact⟨aA,rfl,B3.o.trans (HB.o.trans B2.o (λ_ _ e=>e)) (λ_ _ e=>e),C2.o,λh=>absurd h hz⟩
          . obtain rfl:j=L.length:=by omega
            have F2:Hid (W=⟨I,K,0⟩):=ix (by
             rw[<-HV.o,dw (by simp[ben,Pv.pg])]
             rfl)
            go_wp2;go_ret;rw[F2.o];exact⟨K,rfl,B3.o.trans HB.o (λ_ _ e=>e),CC.o,λ_=>⟨rfl,GG.o,λx O=>ak.o x (br _ O)⟩⟩
   . have n:lvl (Pv.pg ⟨2,d,B,t,L,l,m,A,v⟩) lv=false:=by rw[n];simp[Pv.pg,he]
     have ab:Hid (W=⟨((i:Int)+1)::G,P,15⟩):=ix (by
      rw[<-TS.o];exact mT (M:=iM (rdR D) root) rfl RD.o am.o n)
     clear n;have bd:(d==lv)=false:=by simp[he]
     go_wp2;go_ret;rw[ab.o];exact⟨P,rfl,B3.o,C3.o,λh=>by cases h⟩
 . have n:lvl (Pv.pg ⟨kq,d,B,t,L,l,m,A,v⟩) lv=false:=by rw[n];simp[Pv.pg,hk]
   have ab:Hid (W=⟨((i:Int)+1)::G,P,15⟩):=ix (by
    rw[<-TS.o];exact mT (M:=iM (rdR D) root) rfl RD.o am.o n)
   clear n;have bd:(kq==2)=false:=by simp[hk]
   go_wp2;go_ret;rw[ab.o];exact⟨P,rfl,B3.o,C3.o,λh=>by cases h⟩
theorem tI(D:Rd)(a:iF (rdR D))(c:jx (rdR D) 65536)(root:Int):∀f:Nat,f<=11->yY D root f
 |0,_=>Fr D a c root
 |f+1,h=>FP D a c root f (by omega) (tI D a c root f (by omega))
theorem m6(h:Rq w rb D col):jx (rdR D) 65536:=λn c=>by
 by_cases a:0<D.count n
 . have:=Rd.has_iff.1 (jN a);have:=h.n6;omega
 . rw[mY a] at c;cases c
theorem Bl:(prog.info? 4).map (λi=>(i.zero,i.size,i.bytes))=some (some (.bool false),1,1):=by kernel_rfl
theorem rU(n:Nat)(m:n<=1000000)(w:World):(Instr.makeSlice 105 (.int .i64 (n:Int)) (.int .i64 (n:Int))).run prog w=.ok (.slice (some ⟨w.heap.size,0,none⟩) n n) (w.alloc (.cells (vbl (List.replicate n false)).toArray 4)):=by
 obtain⟨d,c,f,h,j⟩:=eo Bl;have a:=run_make (P:=prog) w 105 4 d (.bool false) underlying105 c f .i64 .i64 n n (by omega) (by omega) (by rw[j];omega) (by omega)
 simp only[e8,h,eR] at a;rw[a]
 have e:madeCells (Value.bool false).cells n=(vbl (List.replicate n false)).toArray:=by
  unfold madeCells vbl;apply Array.ext
  . simp
  . intro i k l;simp[Value.cells,Nat.mod_one]
 rw[e]
theorem yM(w:World)(rb:Nat)(D:Rd)(col:Nat->Nat)(H:Rq w rb D col)(hA:iF (rdR D))(t:Tr):
 Calls prog 35 #[.pointer (some ⟨rb,0,none⟩),.agg #[.int .i64 t.root,.int .i64 t.height,.int .i64 t.items]] w λe w'=>e=.returned (.int .i64 ((chk (rdR D) t:Nat):Int))/\Below w.heap.size w w':=by
 obtain⟨d,a,f⟩:=t;have m:=ix (al w (.cells #[.int .i64 d,.int .i64 a,.int .i64 f] 34));have B:=ix (ag w (.cells #[.int .i64 d,.int .i64 a,.int .i64 f] 34));simp only;by_cases j:d=0/\a=0/\f=0
 . obtain⟨rfl,rfl,rfl⟩:=j;have M:chk (rdR D) ⟨0,0,0⟩=0:=by unfold chk;exact if_pos ⟨rfl,rfl,rfl⟩
   rw[M];go_enter func35,ntmps35;go_wp2;go_ret;exact⟨rfl,m.o⟩
 . by_cases l:d=0\/a<1\/12<a\/f<1
   . have M:chk (rdR D) ⟨d,a,f⟩=5:=by
      unfold chk;rw[if_neg j,if_pos l]
     rw[M];by_cases hr:d=0
     . subst hr;by_cases hh:a=0
       . subst hh;have q:¬f=0:=λe=>j ⟨rfl,rfl,e⟩
         have bi:(f==0)=false:=by simp[q]
         clear j l;go_enter func35,ntmps35;go_wp2;go_ret;exact⟨rfl,m.o⟩
       . have bh:(a==0)=false:=by simp[hh]
         clear j l;go_enter func35,ntmps35;go_wp2;go_ret;exact⟨rfl,m.o⟩
     . have b1:(d==0)=false:=by simp[hr]
       by_cases l1:a<1
       . clear j l;go_enter func35,ntmps35;go_wp2;go_ret;exact⟨rfl,m.o⟩
       . by_cases l2:12<a
         . clear j l;go_enter func35,ntmps35;go_wp2;go_ret;exact⟨rfl,m.o⟩
         . have l3:f<1:=by omega
           clear j l;go_enter func35,ntmps35;go_wp2;go_ret;exact⟨rfl,m.o⟩
   . have V:chk (rdR D) ⟨d,a,f⟩=if (kO (rdR D) ⟨d,a,f⟩).er≠0 then (kO (rdR D) ⟨d,a,f⟩).er else if ((kO (rdR D) ⟨d,a,f⟩).ks:Int)≠f then 4 else 0:=by
      unfold chk;rw[if_neg j,if_neg l]
     obtain⟨F,ac⟩:∃ah,chk (rdR D) ⟨d,a,f⟩=ah:=⟨_,rfl⟩;rw[ac] at V ⊢;have s:=ix V;clear ac;have r0:¬d=0:=λh=>l (.inl h)
     have h2:1<=a:=by omega
     have h3:a<=12:=by omega
     have h4:1<=f:=by omega
     have b1:(d==0)=false:=by simp[r0]
     have l1:¬a<1:=by omega
     have l2:¬12<a:=by omega
     have l3:¬f<1:=by omega
     have ak:IntKind.i64.wrap (a-1)=a-1:=iQ (by omega) (by omega)
     obtain⟨n,I⟩:∃n,D.C.length=n:=⟨_,rfl⟩;have O:=ix (λ(W:World)(hb:Below w.heap.size w W)=>uT W rb D col (H.keep hb))
     rw[I] at O;have h6:n<=65536:=by rw[<-I];exact H.n6
     have HN:=ix I
     have ai:∀W,(Instr.makeSlice 105 (.int .i64 ((n:Int)+1)) (.int .i64 ((n:Int)+1))).run prog W=.ok (.slice (some ⟨W.heap.size,0,none⟩) (n+1) (n+1)) (W.alloc (.cells (vbl (List.replicate (n+1) false)).toArray 4)):=λW=>by
      have:=rU (n+1) (by omega) W
      rw[show((n+1:Nat):Int)=(n:Int)+1 from rfl] at this
      exact this
     have ao:IntKind.i64.wrap ((n:Int)+1)=(n:Int)+1:=iQ (by omega) (by omega)
     have N:=ix H;have HA:=ix hA;clear V j l I H hA;go_enter func35,ntmps35;go_upto_region 5 with fail
     generalize w.alloc (.cells #[.int .i64 d,.int .i64 a,.int .i64 f] 34)=i at *;go_wp2_with fail
     refine(O.o _ m.o).mono ?_;rintro _ wq ⟨rfl,af⟩;obtain rfl:=af.symm;clear af;go_upto_region 6 with fail
     have K:=ix (bt (al i (.cells (vbl (List.replicate (n+1) false)).toArray 4)) (al (i.alloc (.cells (vbl (List.replicate (n+1) false)).toArray 4)) (.cells #[.pointer (some ⟨rb,0,none⟩),.slice (some ⟨i.heap.size,0,none⟩) (n+1) (n+1),.int .i64 0] 138)))
     have CK:Hid (Ckm ((i.alloc (.cells (vbl (List.replicate (n+1) false)).toArray 4)).alloc (.cells #[.pointer (some ⟨rb,0,none⟩),.slice (some ⟨i.heap.size,0,none⟩) (n+1) (n+1),.int .i64 0] 138)) (i.heap.size+1) rb i.heap.size n [] 0):=ix (by
      obtain⟨z0,z1,_,_⟩:=iS i (.cells (vbl (List.replicate (n+1) false)).toArray 4) (.cells #[.pointer (some ⟨rb,0,none⟩),.slice (some ⟨i.heap.size,0,none⟩) (n+1) (n+1),.int .i64 0] 138) (Below.refl _ _);refine⟨z1,?_⟩;rw[Cp];exact z0)
     generalize (i.alloc (.cells (vbl (List.replicate (n+1) false)).toArray 4)).alloc (.cells #[.pointer (some ⟨rb,0,none⟩),.slice (some ⟨i.heap.size,0,none⟩) (n+1) (n+1),.int .i64 0] 138)=w2 at *;have X:=ix (bt m.o K.o);have X2:=ix ((K.o.block w.heap.size (ae.1 B.o).1).trans B.o);have aj:w.heap.size<i.heap.size:=(ae.1 B.o).1
     have y:=ix (tI D HA.o (m6 N.o) d (a-1).toNat (by omega) w2 (i.heap.size+1) rb i.heap.size col (N.o.keep X.o) (λk hk=>by
      have h5:=N.o.lt;by_cases e:col k=0
      . exact e
      . have:=h5 k e;have:=aj;rcases hk with rfl|rfl<;>omega) [] 0 (by rw[HN.o];exact CK.o) d (a-1) (by omega) ⟨none,0,[],none,0,[],true⟩ ⟨Bs.nil _,am _,Bs.nil _,am _⟩ ⟨an _,an _⟩ (λk hk=>by rcases hk with⟨x,h,_⟩|⟨x,h,_⟩<;>cases h) true (.inl ⟨rfl,rfl⟩) ⟨Gok.nil _,an _⟩)
     have aa:kO (rdR D) ⟨d,a,f⟩=iE (iM (rdR D) d) (rdR D) (λ_=>true) true (a-1).toNat ⟨[],0,0⟩ ⟨d,a-1,(⟨none,0,[],none,0,[],true⟩:Rv).rg⟩:=rfl
     obtain⟨Z,P⟩:∃Z,iE (iM (rdR D) d) (rdR D) (λ_=>true) true (a-1).toNat ⟨[],0,0⟩ ⟨d,a-1,(⟨none,0,[],none,0,[],true⟩:Rv).rg⟩=Z:=⟨_,rfl⟩
     rw[aa,P] at s;rw[P] at y;clear aa P;unfold Rv.val at y;simp only[Rv.cs,bg] at y;obtain⟨t0,t1,t2⟩:=iz X2.o;clear ai B O K CK;go_wp2_with fail
     refine y.o.mono ?_;rintro e W3 ⟨U,rfl,T,ab,ad⟩;have Y:=ix ((But.ofBelow (S:=cko (i.heap.size+1) i.heap.size) X.o).trans T (λ_ _ e=>e))
     have L:Hid (Below w.heap.size w W3):=ix (Y.o.below (λk hk e=>by rcases e with rfl|rfl<;>omega))
     have X3:=ix (T.same X2.o (λe=>by rcases e with e|e<;>omega))
     have c:=ix ab;have A:=ix ad;clear T ab ad y t0 t1 t2 Y;obtain⟨Z1,Zk,E⟩:=Z;simp only at s c A;by_cases R:E=0
     . subst R;obtain⟨ek,_,_⟩:=A.o rfl;subst ek;have J:Hid (F=if ((U:Nat):Int)≠f then 4 else 0):=ix (s.o.trans (if_neg (by simp)))
       clear s A;go_upto_region 9 with fail
       obtain⟨t0,t1,t2⟩:=iz X3.o;obtain⟨c0,c1,c2⟩:=c.o.cells;by_cases q:((U:Nat):Int)=f
       . have v:Hid (F=0):=ix (J.o.trans (if_neg (by rw[q];simp)))
         subst q;clear J;go_quiet (fail)
         go_wp2;go_ret;rw[v.o];exact⟨rfl,bt L.o (drN _ _)⟩
       . have v:Hid (F=4):=ix (J.o.trans (if_pos q));have bi:(((U:Nat):Int)==f)=false:=by simp[q]
         clear J;go_quiet (fail)
         go_wp2;go_ret;rw[v.o];exact⟨rfl,bt L.o (drN _ _)⟩
     . have v:Hid (F=E):=ix (s.o.trans (if_pos R));have ap:((E:Int)==0)=false:=by simp[R]
       have aq:¬(E:Int)=0:=by omega
       clear s A;go_wp2;go_ret;rw[v.o];exact⟨rfl,L.o⟩
def PVi(r:Int)(C:List Int)(g:Int->Option Pg)(S:Vs):Prop:=∃f:Int->Option Pv,S=ldS r C f/\(∀k,(f k).map Pv.pg=g k)/\(∀k q,f k=some q->q.pg.check=0)/\∀k,(f k).isSome=true->0<iO C k
def PRi(C:List Int)(g:Int->Option Pg)(D:Rd):Prop:=D.C=C/\(D.L=C.map λc=>decide (0<c))/\D.P.length=C.length/\∀i,i<C.length->(D.P.getD i Pv.zero).pg=(g ((i:Int)+1)).getD Pv.zero.pg
theorem PRi.count(h:PRi C g D)(z:Int):D.count z=iO C z:=by
 obtain⟨c,_⟩:=h;unfold Rd.count iO;rw[c];by_cases a:1<=z/\z<=C.length
 . rw[if_pos a,if_pos (Rd.has_iff.2 (by rw[c];exact a))]
 . rw[if_neg a,if_neg (λe=>a (by have:=Rd.has_iff.1 e;rw[c] at this;exact this))]
theorem tH{z:Int}(h:0<iO C z):1<=z/\z<=C.length:=by
 unfold iO at h;split at h
 . assumption
 . omega
theorem xe(i:PVi r C g S)(a:PRi C g D):rdV S=rdR D:=by
 funext z
 unfold rdV rdR;rw[a.count z];obtain⟨f,rfl,j,_⟩:=i;rw[show(ldS r C f).X.P.count z=iO C z from nF r C z]
 by_cases h:0<iO C z
 . rw[if_pos h,if_pos h];have l:=tH h;have k:(z-1).toNat<C.length:=by omega
   have e:=a.2.2.2 _ k;have d:(((z-1).toNat:Nat):Int)+1=z:=by omega
   rw[d,<-j z] at e
   have c:((ldS r C f).X.on z).pg=((f z).map Pv.pg).getD Pv.zero.pg:=by
    show((f z).getD Pv.zero).pg=_;cases f z<;>rfl
   rw[c,<-e];rfl
 . rw[if_neg h,if_neg h]
theorem ve(d:PVi r C g S)(a:PRi C g D):S.X.P.counts=D.C:=by
 obtain⟨f,rfl,_⟩:=d;rw[a.1];show(C.map λc=>(c,decide (0<c))).map Prod.fst=C
 rw[List.map_map];exact(List.map_congr_left (λ_ _=>rfl)).trans (List.map_id C)
theorem AU{r:Int}{C:List Int}{g:Int->Option Pg}{S:Vs}(a:PVi r C g S)(z:Int):Sml (S.X.on z):=by
 obtain⟨f,rfl,_,c,_⟩:=a;show Sml ((f z).getD Pv.zero);cases e:f z with
 |none=>exact(mC (.inr rfl)).1
 |some q=>exact(mC (.inl (c z q e))).1
theorem CU(m:PVi r C g S)(l:PRi C g D)(d:lf C g=false):rdR D=g:=by
 have y:=m;obtain⟨f,rfl,t,x,v⟩:=m;funext z
 unfold rdR;rw[l.count z];by_cases h:0<iO C z
 . rw[if_pos h];have i:=tH h;have n:(z-1).toNat<C.length:=by omega
   have e:=l.2.2.2 _ n;have j:(((z-1).toNat:Nat):Int)+1=z:=by omega
   rw[j] at e
   have s:(g z).isNone=false:=by
    unfold lf at d;rw[fb] at d;have k:=d (z-1).toNat (dB.2 n);rw[j] at k
    have a:0<C.getD (z-1).toNat 0:=by
     have c:=h;unfold iO at c;rw[if_pos i] at c;exact c
    rw[ar a,gW] at k;exact Bool.eq_false_iff.2 k
   cases a:g z with
   |none=>rw[a] at s;cases s
   |some p=>
    rw[a] at e;show some (D.on z).pg=_;exact bf some e
 . rw[if_neg h];cases a:g z with
   |none=>rfl
   |some p=>
    exfalso;apply h;apply v z;have:=t z;rw[a] at this;cases i:f z with
    |none=>rw[i] at this;cases this
    |some q=>rfl
theorem Dg{r:Int}{C:List Int}{g:Int->Option Pg}{S:Vs}(a:PVi r C g S):iF g:=λn p h=>by
 obtain⟨f,rfl,d,c,_⟩:=a;have e:=d n;rw[h] at e;cases hz:f n with
 |none=>rw[hz] at e;cases e
 |some q=>
  rw[hz] at e;have e:q.pg=p:=fC e;rw[<-e];exact Pg.check_zero.1 (c n q hz)
theorem yz{l:List (Int×Pg)}(h:(iP r C l).1=0):lf C (iP r C l).2=false:=by
 unfold iP at h ⊢;split at h
 . cases h
 . rename_i d;rw[if_neg d];split at h
   . cases h
   . rename_i e;rw[if_neg e];split at h
     . rename_i a;exact absurd h a
     . rename_i a;rw[if_neg a];split at h
       . cases h
       . rename_i c;rw[if_neg c];simpa using c
theorem Vw.rdsx(h:Vw w b S pb mb pc col)(a:∀z,Sml (S.X.on z)):i9 52 (.pointer (some ⟨b,0,none⟩)) (rdV S) (λk=>col k≠0) w:=λW hb z=>
 (h.but13 hb (λk hk e=>e hk)).reads a W (Below.refl _ _) z
theorem Vw.xlt(h:Vw w b S pb mb pc col):∀k,col k≠0->k<w.heap.size:=λk hk=>by
 by_cases a:k<w.heap.size
 . exact a
 . exact absurd (h.z (ia a)) hk
theorem Rn.hushed{W:World}(h:Rn w W rb D):Rn w (W.setCell ⟨rb,6,none⟩ (.bool true)) rb {D with hush:=true}:=by
 have bs:But (λk=>k=rb) W (W.setCell ⟨rb,6,none⟩ (.bool true)):=(But.refl (λk=>k=rb) W).setCell (p:=⟨rb,6,none⟩) (λ_=>rfl) _
 have c:∀{e:TypeId}{sz:Nat}{a:Option Addr}{cap n:Nat}{C:List Value},e≠109->Q.Gw e sz W a cap n C->Q.Gw e sz (W.setCell ⟨rb,6,none⟩ (.bool true)) a cap n C:=λf d=>
  d.but bs (λy l e=>by obtain⟨m,i⟩:=d.blk l;exact jd i h.box f e)
 refine⟨?_,c (by decide) h.cr,c (by decide) h.lr,c (by decide) h.pr,λp j=>(h.pn p j).but bs (λk e=>⟨109,D.box,by rw[e];exact h.box,by decide,by decide⟩),h.ps,h.nb,h.nC,h.nl,h.np,?_⟩
 . rw[aE _ _ _ _ _ _ h.box];rfl
 . exact((But.ofBelow (S:=λk=>k=rb) h.b).trans bs (λ_ _ e=>e)).below (λk hk e=>by have:=h.nb;omega)
end Go.Proofs.YteaogidofpfmmaaGreat
