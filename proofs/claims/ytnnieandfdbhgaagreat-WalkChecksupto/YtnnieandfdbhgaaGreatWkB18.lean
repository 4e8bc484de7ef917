import Derived.Test.YtnnieandfdbhgaaGreatWkB16
import Derived.Test.YtnnieandfdbhgaaGreatWkB17
set_option linter.all false
set_option maxHeartbeats 8000000
set_option maxRecDepth 10000
namespace Go.Proofs.YtnnieandfdbhgaaGreat
open Go.Proofs.Tryz
open Go.RowKit
variable {r:Int}{g rd:Int->Option Pg}{C G:List Int}{b mb pb rb:Nat}{col pc:Nat->Nat}{p:Pg}{D:Rd}{S:Vs}{w:World}
theorem qa{rd:Int->Option Pg}:∀(t:Nat)(G:List Int)(n l:Int),∀x∈G,x∈(fy rd t G n l).1
 |0,G,n,l,x,h=>h
 |t+1,G,n,l,x,h=>by
  unfold fy;split
  . exact h
  . cases hp:rd n with
    |none=>exact h
    |some p=>
     simp only;split
     . exact h
     . split
       . exact aY _ h
       . split
         . exact aY _ h
         . exact qa t (n::G) p.next (l-480) x (aY _ h)
theorem rT{r:Rg}{x:It}:∀k∈G,k∈(itM rd r x G).1:=by
 intro k a;unfold itM;split
 . exact a
 . split
   . exact a
   . exact qa _ _ _ _ k a
theorem rO{r:Rg}{x:It}(h:Gok rd G):Gok rd (itM rd r x G).1/\G.length<=(itM rd r x G).1.length:=by
 unfold itM;split
 . exact⟨h,ai _⟩
 . split
   . exact⟨h,ai _⟩
   . exact lY _ _ _ _ h
theorem wv(h:Sound p):lvl p 0=decide (p.kind=1):=by
 by_cases c:p.kind=1
 . rw[an c];exact iM.2 ⟨by omega,(h.leaf0 c).1⟩
 . rw[am c];cases e:lvl p 0 with
   |false=>rfl
   |true=>
    obtain⟨a,b⟩:=iM.1 e;rcases h.kind with k|k|k
    . exact absurd k c
    . have:=(h.idx k).1;omega
    . exact absurd k a
theorem xQ(h:Sound p){c:Int}(f:0<c):lvl p c=(decide (p.kind=2)&&decide (p.level=c)):=by
 by_cases d:p.kind=2
 . unfold lvl;simp[d]
 . rw[am d,dF];cases e:lvl p c with
   |false=>rfl
   |true=>
    obtain⟨a,b⟩:=iM.1 e;rcases h.kind with k|k|k
    . have:=(h.leaf0 k).1;omega
    . exact absurd k d
    . exact absurd k a
def PgR(w w':World)(e:Ending)(cb rb gm:Nat)(D:Rd)(G:List Int)(s:Cst):Prop:=∃ks':Nat,e=.returned (.int .i64 ((s.er:Nat):Int))/\But (cko cb gm) w w'/\Ckm w' cb rb gm D.C.length s.G ks'/\(s.er=0->ks'=s.ks/\Kb (rdR D) s/\∀x∈G,x∈s.G)
def nN(r:Rv)(k:Nat):Prop:=(∃x,r.aL=some x/\x.block=k)\/∃x,r.aH=some x/\x.block=k
theorem Ri.but'{S:Nat->Prop}{d:World}{r:Rv}(h:Ri w r)(hb:But S w d)(c:∀k,nN r k->¬S k):Ri d r:=⟨h.bl.but hb (λx a _=>c _ (.inl ⟨x,a,rfl⟩)),h.cl,h.bh.but hb (λx a _=>c _ (.inr ⟨x,a,rfl⟩)),h.ch⟩
def sj(D:Rd)(root:Int)(f:Nat):Prop:=∀(w:World)(cb rb gm:Nat)(col:Nat->Nat),Rq w rb D col->(∀k,cko cb gm k->col k=0)->∀(G:List Int)(ks:Nat),Ckm w cb rb gm D.C.length G ks->∀(n lv:Int),lv=(f:Int)->∀(r:Rv),Ri w r->Rb r->(∀k,nN r k->¬cko cb gm k)->∀(rt:Bool),(rt=true/\n=root\/rt=false/\root∈G)->Kb (rdR D) ⟨G,ks,0⟩->
 Calls prog 68 #[.pointer (some ⟨cb,0,none⟩),.int .i64 n,.int .i64 lv,r.val,.bool rt] w λe w'=>PgR w w' e cb rb gm D G (fs (fG (rdR D) root) (rdR D) (λ_=>true) true f ⟨G,ks,0⟩ ⟨n,lv,r.rg⟩)
theorem xO(D:Rd)(hA:gc (rdR D))(hN:jc (rdR D) 65536)(root:Int):sj D root 0:=by
 intro w s rb m col hR a0 G l E aD lv aS r aQ aP aR rt aW hK;have A0:=e7 (al w (.cells r.cs 62));have X0:=e7 (ag w (.cells r.cs 62));have EN:=e7 (j9 _ s rb m D col (hR.keep A0.o) G l (E.keep A0.o) aD);have HR:=e7 hR;have HC:=e7 E;have HL:=e7 E.lb;have RI:=e7 aQ;have RB:=e7 aP;have ak:=e7 aR;have X:=e7 a0;have HK:=e7 hK;have aL:=e7 aW;have HA:=e7 hA;have HN:=e7 hN;have aJ:=e7 aS;obtain⟨W,aH⟩:∃W,fs (fG (rdR D) root) (rdR D) (λ_=>true) true 0 ⟨G,l,0⟩ ⟨aD,lv,r.rg⟩=W:=⟨_,rfl⟩
 rw[aH];have TS:=e7 aH;unfold Rv.val;simp only[Rv.cs] at A0 X0 EN ⊢;clear hR E aQ aP aR a0 hK aW hA hN aH aS;go_enter func68,ntmps68;go_upto_region 1 with fail
 generalize w.alloc (.cells #[.slice r.aL r.lo.length r.cL,.slice r.aH r.hi.length r.cH,.bool r.op] 62)=w1 at *;go_wp2_with fail
 refine EN.o.mono ?_;rintro e k (⟨rfl,a1,hw⟩|⟨rfl,h0,aT,aa,ac⟩)
 . obtain rfl:=hw.symm
   have t:Hid (W=⟨G,l,15⟩):=by
    show _=_;rw[<-TS.o];refine(jZ rfl ?_);rcases a1 with h|h
    . exact .inl (jP h)
    . exact .inr h
   clear hw a1;go_wp2;go_ret;rw[t.o];exact⟨l,rfl,But.ofBelow A0.o,HC.o.keep A0.o,λh=>by cases h⟩
 have a2:=e7 (aa.same X0.o (λe=>by have e:w.heap.size=m:=e;have:=HL.o.2;omega))
 have J:=e7 (((But.ofBelow (S:=cko s m) A0.o).trans (aa.mono (T:=cko s m) λab _ e=>.inr e) (λ_ _ e=>e)))
 have N:=e7 ac;have H0:=e7 h0;have an:=e7 aT;have aB:=e7 (HA.o aD _ (i5 h0));have RD:=e7 (i5 h0);have R2:=e7 (HR.o.cko X.o J.o);obtain⟨i,g,rfl,hi,K,c3,F⟩:=R2.o.page h0;have aU:=R2.o.ps _ (Rd.on_mem R2.o (iW h0));have aE:=e7 ((R2.o.pz _ (Rd.on_mem R2.o (iW h0))));clear aa ac h0 aT EN;have bc:(i:Int)<(D.C.length:Int):=by omega
 have a7:(i:Int)+1-1=(i:Int):=by omega
 have bd:IntKind.i64.wrap ((i:Int)+1-1)=(i:Int):=by rw[a7];exact fB (by omega) (by omega)
 obtain⟨c0,c1,c2⟩:=N.o.cells;obtain⟨q,hq⟩:∃q,D.on ((i:Int)+1)=q:=⟨_,rfl⟩;rw[hq] at F aB RD aE aU;clear hq;obtain⟨kq,lq,aq,Y,L,ad,cd,ai,nx⟩:=q;have y0:=F 0 _ (by decide) rfl
 have y1:=F 1 _ (by decide) rfl
 have y2:=F 2 _ (by decide) rfl
 have y3:=F 3 _ (by decide) rfl
 have y4:=F 4 _ (by decide) rfl
 rw[cx] at y0;have gl:g<k.heap.size:=block_lt_of_cell y0;have XR:=e7 (a2.o);have A3:=e7 (al k (.cells #[.int .i64 kq,.int .i64 lq,.slice aq L.length Y,.slice ad ai.length cd,.int .i64 nx] 77));have X3:=e7 (ag k (.cells #[.int .i64 kq,.int .i64 lq,.slice aq L.length Y,.slice ad ai.length cd,.int .i64 nx] 77));clear F;go_upto_region 4 with fail
 have B3:=e7 (J.o.andBelow A3.o);have aN:=e7 ((A3.o.block w.heap.size (ae.1 XR.o).1).trans XR.o);have C3:=e7 (N.o.keep A3.o);have R3:=e7 (R2.o.keep A3.o);have P3:=e7 (aE.o.keep A3.o);have aM:=e7 (RI.o.but' B3.o ak.o);have be:=J.o.size;have v:k.heap.size≠s/\k.heap.size≠m/\w.heap.size≠s/\w.heap.size≠m:=by have:=HL.o;omega
 generalize k.alloc (.cells #[.int .i64 kq,.int .i64 lq,.slice aq L.length Y,.slice ad ai.length cd,.int .i64 nx] 77)=w3 at *;obtain⟨m0,m1,m2,m3,m4⟩:=jp X3.o;have bb:L.length<=1048576:=(iQ (aU)).2;clear y0 y1 y2 y3 y4 c0 c1 c2 c3 XR A3 J N R2 aE A0 X0;obtain rfl:lv=0:=by have:=aJ.o;omega
 clear aJ;have af:=wv aB.o;by_cases hk:kq=1
 . subst hk;have af:lvl (Pv.pg ⟨1,lq,aq,Y,L,ad,cd,ai,nx⟩) 0=true:=by rw[af];rfl
   obtain⟨R,aO⟩:∃R,fE (rdR D) r.rg (L.map Iv.it) (((i:Int)+1)::G)=R:=⟨_,rfl⟩;have RR:=e7 aO
   have aA:Hid (W=iy (rdR D) root ⟨((i:Int)+1)::G,l,0⟩ ⟨(i:Int)+1,0,r.rg⟩ (Pv.pg ⟨1,lq,aq,Y,L,ad,cd,ai,nx⟩)):=e7 (by
    rw[<-TS.o];exact kf (M:=fG (rdR D) root) rfl RD.o an.o af (.inr rfl))
   have h8:L.length<=8:=by have:=(aB.o.node (.inl rfl)).2.2.1;simpa[Pv.pg] using this
   have KT:=e7 (HK.o.tel (root:=root) (a:=⟨(i:Int)+1,0,r.rg⟩) RD.o an.o (by simpa[Pv.pg] using h8))
   have GK:=e7 (HK.o.g.cons RD.o an.o);have KN:Hid (l<=8*65536):=e7 (HK.o.len HN.o);have SZ:Hid (∀x∈L,x.size<=3840):=e7 (λx B=>((aB.o.fits (x:=x.it) (bN.2 ⟨x,B,rfl⟩)).leaf rfl).2.1)
   clear af aO;by_cases aC:rt=false/\L.length<4
   . obtain⟨rfl,h4⟩:=aC
     have a6:(i:Int)+1≠root:=λe=>by
      rcases aL.o with⟨h,_⟩|⟨_,h⟩
      . cases h
      . exact an.o (e▸h)
     have a3:(L.length:Int)<4:=by omega
     have t:Hid (W=⟨((i:Int)+1)::G,l,5⟩):=e7 (by
      rw[aA.o];unfold iy;rw[if_pos ⟨a6,by simpa[Pv.pg] using h4⟩])
     go_wp2;go_ret;rw[t.o];exact⟨l,rfl,B3.o,C3.o,λh=>by cases h⟩
   . have CT:Hid (W=if R.2≠0 then ⟨R.1,l,R.2⟩ else ⟨R.1,l+L.length,0⟩):=e7 (by
      rw[aA.o,<-RR.o];unfold iy
      rw[if_neg (λh=>aC (by
       rcases aL.o with⟨h1,h2⟩|⟨h1,h2⟩
       . exact absurd h2 h.1
       . exact⟨h1,by simpa[Pv.pg] using h.2⟩))]
      refine(if_pos rfl).trans ?_;show(if (fE (rdR D) r.rg (L.map Iv.it) (((i:Int)+1)::G)).2≠0 then _ else (⟨_,l+(L.map Iv.it).length,0⟩:Cst))=_
      rw[bf];rfl)
     have a4:rt=true\/rt=false/\¬L.length<4:=by
      cases rt with
      |true=>exact .inl rfl
      |false=>exact .inr ⟨rfl,λh=>aC ⟨rfl,h⟩⟩
     have aZ:=aA;clear aC aA;rcases a4 with rfl|⟨rfl,h4⟩
     . go_upto_region 9 with fail
       clear m0 m1 m2 m3 m4;go_loopw [12] (λq wr=>∃(j:Nat)(c:List Int),q=.int .i64 (j:Int)/\j<=L.length/\But (cko s m) w3 wr/\Ckm wr s rb m D.C.length c (l+j)/\Gok (rdR D) c/\(∀x∈((i:Int)+1)::G,x∈c)/\fE (rdR D) r.rg ((L.drop j).map Iv.it) c=R) (λq _=>L.length-(intOf q).toNat)
       case atStart=>exact⟨0,_,rfl,ar _,But.refl _ _,C3.o,GK.o,λ_ h=>h,RR.o⟩
       case round=>
        obtain⟨j,c,rfl,hj,A,E,hg,ax,F⟩:=hrel;have Z:=e7 A;have CC:=e7 E;have GG:=e7 hg;have ao:=e7 ax;have HV:=e7 F;have X4:=e7 (A.same X3.o (λe=>e.elim v.1 v.2.1))
        have aG:=e7 (A.same aN.o (λe=>e.elim v.2.2.1 v.2.2.2))
        have R4:=e7 (R3.o.cko X.o A);have P4:=e7 (Pz.pi (P3.o.but A (λab _ K e=>by rw[X.o ab e] at K;cases K)))
        have aF:=e7 (aM.o.but' A ak.o);clear A E hg ax F;obtain⟨m0,m1,m2,m3,m4⟩:=jp X4.o;by_cases I:j<L.length
        . have ba:(j:Int)<(L.length:Int):=by omega
          have a5:(0:Int)<=(j:Int):=by omega
          obtain⟨d,f,ea,cA⟩:=P4.o.it.at I;have ea:aq=some ⟨d,f,none⟩:=ea;obtain⟨x,B⟩:∃x,L.getD j Iv.zero=x:=⟨_,rfl⟩;have XI:=e7 (P4.o.it.1 _ (fh I));have SX:=SZ.o _ (fh I)
          have H:Hid ((if (itM (rdR D) r.rg x.it c).2≠0 then itM (rdR D) r.rg x.it c else fE (rdR D) r.rg ((L.drop (j+1)).map Iv.it) (itM (rdR D) r.rg x.it c).1)=R):=e7 (by
           have e:L.getD j Iv.zero=L[j]:=by simp[I]
           rw[<-HV.o,bC I,bE,<-e,B,ox])
          have ap:L.getD j Iv.zero=x:=B;simp only[ap] at cA XI SX;subst ea;have HX:=e7 B;clear B ap HV;have GS:=e7 (rT (rd:=rdR D) (r:=r.rg) (x:=x.it) (G:=c));have GO:=e7 (rO (r:=r.rg) (x:=x.it) GG.o);have O:=e7 (λ(U:World)(hb:But (cko s m) wr U)(E:Ckm U s rb m D.C.length c (l+j))(hk:Bs U x.aK x.key)=>oC U s rb m D col (R4.o.cko X.o hb) HA.o X.o c (l+j) E x SX r (aF.o.but' hb ak.o) hk (by have:=KN.o;omega))
          obtain⟨ah,hZ⟩:∃ah,itM (rdR D) r.rg x.it c=ah:=⟨_,rfl⟩;rw[hZ] at O H GS GO;clear hZ;obtain⟨aK,cK,av,aV,cV,val,az,ay⟩:=x;simp only[Iv.cs] at cA;unfold Iv.vl Rv.val at O;simp only[Iv.cs,Rv.cs] at O
          have SS:Hid (∀U:World,But (cko s m) wr U->(U.cell? ⟨k.heap.size,2,none⟩=some (.slice (some ⟨d,f,none⟩) L.length Y))/\(U.cell? ⟨d,f+j*4,none⟩=some (.slice aK av.length cK)/\U.cell? ⟨d,f+j*4+1,none⟩=some (.slice aV val.length cV)/\U.cell? ⟨d,f+j*4+2,none⟩=some (.int .i64 az)/\U.cell? ⟨d,f+j*4+3,none⟩=some (.int .i64 ay))/\(U.cell? ⟨w.heap.size,0,none⟩=some (.slice r.aL r.lo.length r.cL)/\U.cell? ⟨w.heap.size,1,none⟩=some (.slice r.aH r.hi.length r.cH)/\U.cell? ⟨w.heap.size,2,none⟩=some (.bool r.op))):=e7 (λU hb=>by
           have PU:=Pz.pi (P3.o.but (Z.o.trans hb (λ_ _ e=>e)) (λab _ K e=>by rw[X.o ab e] at K;cases K))
           obtain⟨b2,o2,e2,cB⟩:=PU.it.at I;have e2:(some ⟨d,f,none⟩:Option Addr)=some ⟨b2,o2,none⟩:=e2;simp only[au,Addr.mk.injEq] at e2;obtain⟨rfl,rfl,_⟩:=e2;have cB:U.rangeAt d (f+j*4) (L.getD j Iv.zero).cs.toList:=cB;rw[HX.o] at cB;obtain⟨q0,q1,q2,q3⟩:=nu cB;obtain⟨_,_,p2,_,_⟩:=jp (hb.same X4.o (λe=>e.elim v.1 v.2.1))
           exact⟨p2,⟨q0,q1,q2,q3⟩,fb (hb.same aG.o (λe=>e.elim v.2.2.1 v.2.2.2))⟩)
          go_upto_region 13 with fail
          have DR:=e7 (dr2 wr);have DB:=e7 (But.ofBelow (S:=cko s m) DR.o);refine aX (S:=λU=>(U.cell? ⟨k.heap.size,2,none⟩=some (.slice (some ⟨d,f,none⟩) L.length Y))/\(U.cell? ⟨d,f+j*4,none⟩=some (.slice aK av.length cK)/\U.cell? ⟨d,f+j*4+1,none⟩=some (.slice aV val.length cV)/\U.cell? ⟨d,f+j*4+2,none⟩=some (.int .i64 az)/\U.cell? ⟨d,f+j*4+3,none⟩=some (.int .i64 ay))/\(U.cell? ⟨w.heap.size,0,none⟩=some (.slice r.aL r.lo.length r.cL)/\U.cell? ⟨w.heap.size,1,none⟩=some (.slice r.aH r.hi.length r.cH)/\U.cell? ⟨w.heap.size,2,none⟩=some (.bool r.op))) (by kernel_rfl) (SS.o _ DB.o) (λhHeld=>?_)
          refine tkd 0 1 2 3 ?_;refine tkb 4 5 ?_;refine tk 6 ?_;refine tw 7 λKx hK=>?_
          go_simp;refine(O.o _ DB.o (CC.o.keep DR.o) (XI.o.bk.keep DR.o)).mono ?_;rintro e W2 ⟨aI,rfl,aa,ac,aw⟩;have J:=e7 (DB.o.trans aa (λ_ _ e=>e))
          have N:=e7 ac;have n:=e7 aw;clear aa ac aw O;go_wp2_with fail
          refine hK.o _ _ (SS.o _ J.o) (λhHeld=>?_)
          refine tk 8 ?_;refine td ?_;clear hHeld SS;obtain⟨Z1,P⟩:=ah;simp only at H N n GS GO;by_cases V:P=0
          . subst V;have t:Hid (fE (rdR D) r.rg ((L.drop (j+1)).map Iv.it) Z1=R):=e7 ((if_neg (by simp)).symm.trans H.o)
            have ek:=n.o rfl;subst ek;clear H n;go_wp2;go_roundw
            case rel=>exact⟨j+1,Z1,by go_num,by omega,Z.o.trans J.o (λ_ _ e=>e),N.o,GO.o.1,λaj hy=>GS.o aj (ao.o aj hy),t.o⟩
            case measure=>simp[intOf];omega
          . have t:Hid ((Z1,P)=R):=e7 ((if_pos V).symm.trans H.o);have a8:((P:Int)==0)=false:=by simp[V]
            have a9:¬(P:Int)=0:=by omega
            have y:Hid (W=⟨Z1,l,P⟩):=e7 (by rw[CT.o,<-t.o];exact if_pos V)
            clear H n;go_wp2;go_ret;rw[y.o];exact⟨aI,rfl,B3.o.trans (Z.o.trans J.o (λ_ _ e=>e)) (λ_ _ e=>e),N.o,λh=>absurd h V⟩
        . obtain rfl:j=L.length:=by omega
          have t:Hid ((c,0)=R):=e7 (by rw[<-HV.o,ep];rfl)
          have y:Hid (W=⟨c,l+L.length,0⟩):=e7 (by rw[CT.o,<-t.o];exact if_neg (by simp))
          go_wp2;go_ret;rw[y.o];refine⟨l+L.length,rfl,B3.o.trans Z.o (λ_ _ e=>e),CC.o,λ_=>⟨rfl,?_,λx B=>ao.o x (aY _ B)⟩⟩
          have kt:=KT.o;rw[<-aZ.o,y.o] at kt;exact kt
     . have a3:¬(L.length:Int)<4:=by omega
       go_upto_region 9 with fail
       clear m0 m1 m2 m3 m4;go_loopw [12] (λq wr=>∃(j:Nat)(c:List Int),q=.int .i64 (j:Int)/\j<=L.length/\But (cko s m) w3 wr/\Ckm wr s rb m D.C.length c (l+j)/\Gok (rdR D) c/\(∀x∈((i:Int)+1)::G,x∈c)/\fE (rdR D) r.rg ((L.drop j).map Iv.it) c=R) (λq _=>L.length-(intOf q).toNat)
       case atStart=>exact⟨0,_,rfl,ar _,But.refl _ _,C3.o,GK.o,λ_ h=>h,RR.o⟩
       case round=>
        obtain⟨j,c,rfl,hj,A,E,hg,ax,F⟩:=hrel;have Z:=e7 A;have CC:=e7 E;have GG:=e7 hg;have ao:=e7 ax;have HV:=e7 F;have X4:=e7 (A.same X3.o (λe=>e.elim v.1 v.2.1))
        have aG:=e7 (A.same aN.o (λe=>e.elim v.2.2.1 v.2.2.2))
        have R4:=e7 (R3.o.cko X.o A);have P4:=e7 (Pz.pi (P3.o.but A (λab _ K e=>by rw[X.o ab e] at K;cases K)))
        have aF:=e7 (aM.o.but' A ak.o);clear A E hg ax F;obtain⟨m0,m1,m2,m3,m4⟩:=jp X4.o;by_cases I:j<L.length
        . have ba:(j:Int)<(L.length:Int):=by omega
          have a5:(0:Int)<=(j:Int):=by omega
          obtain⟨d,f,ea,cA⟩:=P4.o.it.at I;have ea:aq=some ⟨d,f,none⟩:=ea;obtain⟨x,B⟩:∃x,L.getD j Iv.zero=x:=⟨_,rfl⟩;have XI:=e7 (P4.o.it.1 _ (fh I));have SX:=SZ.o _ (fh I)
          have H:Hid ((if (itM (rdR D) r.rg x.it c).2≠0 then itM (rdR D) r.rg x.it c else fE (rdR D) r.rg ((L.drop (j+1)).map Iv.it) (itM (rdR D) r.rg x.it c).1)=R):=e7 (by
           have e:L.getD j Iv.zero=L[j]:=by simp[I]
           rw[<-HV.o,bC I,bE,<-e,B,ox])
          have ap:L.getD j Iv.zero=x:=B;simp only[ap] at cA XI SX;subst ea;have HX:=e7 B;clear B ap HV;have GS:=e7 (rT (rd:=rdR D) (r:=r.rg) (x:=x.it) (G:=c));have GO:=e7 (rO (r:=r.rg) (x:=x.it) GG.o);have O:=e7 (λ(U:World)(hb:But (cko s m) wr U)(E:Ckm U s rb m D.C.length c (l+j))(hk:Bs U x.aK x.key)=>oC U s rb m D col (R4.o.cko X.o hb) HA.o X.o c (l+j) E x SX r (aF.o.but' hb ak.o) hk (by have:=KN.o;omega))
          obtain⟨ah,hZ⟩:∃ah,itM (rdR D) r.rg x.it c=ah:=⟨_,rfl⟩;rw[hZ] at O H GS GO;clear hZ;obtain⟨aK,cK,av,aV,cV,val,az,ay⟩:=x;simp only[Iv.cs] at cA;unfold Iv.vl Rv.val at O;simp only[Iv.cs,Rv.cs] at O
          have SS:Hid (∀U:World,But (cko s m) wr U->(U.cell? ⟨k.heap.size,2,none⟩=some (.slice (some ⟨d,f,none⟩) L.length Y))/\(U.cell? ⟨d,f+j*4,none⟩=some (.slice aK av.length cK)/\U.cell? ⟨d,f+j*4+1,none⟩=some (.slice aV val.length cV)/\U.cell? ⟨d,f+j*4+2,none⟩=some (.int .i64 az)/\U.cell? ⟨d,f+j*4+3,none⟩=some (.int .i64 ay))/\(U.cell? ⟨w.heap.size,0,none⟩=some (.slice r.aL r.lo.length r.cL)/\U.cell? ⟨w.heap.size,1,none⟩=some (.slice r.aH r.hi.length r.cH)/\U.cell? ⟨w.heap.size,2,none⟩=some (.bool r.op))):=e7 (λU hb=>by
           have PU:=Pz.pi (P3.o.but (Z.o.trans hb (λ_ _ e=>e)) (λab _ K e=>by rw[X.o ab e] at K;cases K))
           obtain⟨b2,o2,e2,cB⟩:=PU.it.at I;have e2:(some ⟨d,f,none⟩:Option Addr)=some ⟨b2,o2,none⟩:=e2;simp only[au,Addr.mk.injEq] at e2;obtain⟨rfl,rfl,_⟩:=e2;have cB:U.rangeAt d (f+j*4) (L.getD j Iv.zero).cs.toList:=cB;rw[HX.o] at cB;obtain⟨q0,q1,q2,q3⟩:=nu cB;obtain⟨_,_,p2,_,_⟩:=jp (hb.same X4.o (λe=>e.elim v.1 v.2.1))
           exact⟨p2,⟨q0,q1,q2,q3⟩,fb (hb.same aG.o (λe=>e.elim v.2.2.1 v.2.2.2))⟩)
          go_upto_region 13 with fail
          have DR:=e7 (dr2 wr);have DB:=e7 (But.ofBelow (S:=cko s m) DR.o);refine aX (S:=λU=>(U.cell? ⟨k.heap.size,2,none⟩=some (.slice (some ⟨d,f,none⟩) L.length Y))/\(U.cell? ⟨d,f+j*4,none⟩=some (.slice aK av.length cK)/\U.cell? ⟨d,f+j*4+1,none⟩=some (.slice aV val.length cV)/\U.cell? ⟨d,f+j*4+2,none⟩=some (.int .i64 az)/\U.cell? ⟨d,f+j*4+3,none⟩=some (.int .i64 ay))/\(U.cell? ⟨w.heap.size,0,none⟩=some (.slice r.aL r.lo.length r.cL)/\U.cell? ⟨w.heap.size,1,none⟩=some (.slice r.aH r.hi.length r.cH)/\U.cell? ⟨w.heap.size,2,none⟩=some (.bool r.op))) (by kernel_rfl) (SS.o _ DB.o) (λhHeld=>?_)
          refine tkd 0 1 2 3 ?_;refine tkb 4 5 ?_;refine tk 6 ?_;refine tw 7 λKx hK=>?_
          go_simp;refine(O.o _ DB.o (CC.o.keep DR.o) (XI.o.bk.keep DR.o)).mono ?_;rintro e W2 ⟨aI,rfl,aa,ac,aw⟩;have J:=e7 (DB.o.trans aa (λ_ _ e=>e))
          have N:=e7 ac;have n:=e7 aw;clear aa ac aw O;go_wp2_with fail
          refine hK.o _ _ (SS.o _ J.o) (λhHeld=>?_)
          refine tk 8 ?_;refine td ?_;clear hHeld SS;obtain⟨Z1,P⟩:=ah;simp only at H N n GS GO;by_cases V:P=0
          . subst V;have t:Hid (fE (rdR D) r.rg ((L.drop (j+1)).map Iv.it) Z1=R):=e7 ((if_neg (by simp)).symm.trans H.o)
            have ek:=n.o rfl;subst ek;clear H n;go_wp2;go_roundw
            case rel=>exact⟨j+1,Z1,by go_num,by omega,Z.o.trans J.o (λ_ _ e=>e),N.o,GO.o.1,λaj hy=>GS.o aj (ao.o aj hy),t.o⟩
            case measure=>simp[intOf];omega
          . have t:Hid ((Z1,P)=R):=e7 ((if_pos V).symm.trans H.o);have a8:((P:Int)==0)=false:=by simp[V]
            have a9:¬(P:Int)=0:=by omega
            have y:Hid (W=⟨Z1,l,P⟩):=e7 (by rw[CT.o,<-t.o];exact if_pos V)
            clear H n;go_wp2;go_ret;rw[y.o];exact⟨aI,rfl,B3.o.trans (Z.o.trans J.o (λ_ _ e=>e)) (λ_ _ e=>e),N.o,λh=>absurd h V⟩
        . obtain rfl:j=L.length:=by omega
          have t:Hid ((c,0)=R):=e7 (by rw[<-HV.o,ep];rfl)
          have y:Hid (W=⟨c,l+L.length,0⟩):=e7 (by rw[CT.o,<-t.o];exact if_neg (by simp))
          go_wp2;go_ret;rw[y.o];refine⟨l+L.length,rfl,B3.o.trans Z.o (λ_ _ e=>e),CC.o,λ_=>⟨rfl,?_,λx B=>ao.o x (aY _ B)⟩⟩
          have kt:=KT.o;rw[<-aZ.o,y.o] at kt;exact kt
 . have af:lvl (Pv.pg ⟨kq,lq,aq,Y,L,ad,cd,ai,nx⟩) 0=false:=by rw[af];exact am hk
   have t:Hid (W=⟨((i:Int)+1)::G,l,15⟩):=e7 (by
    rw[<-TS.o];exact jy (M:=fG (rdR D) root) rfl RD.o an.o af)
   clear af;go_wp2;go_ret;rw[t.o];exact⟨l,rfl,B3.o,C3.o,λh=>by cases h⟩
theorem rz{i:Nat}{r:Rg}{M:Nat}(d:24<=M)(e:r.lo.length<=M)(a:r.hi.length<=M)(c:∀j,(p.at j).key.length<=24):(wth p i r).lo.length<=M/\(wth p i r).hi.length<=M:=by
 have f:(p.at i).key.length<=M:=az (c i) d
 have hb:(if i+1<p.items.length then (p.at (i+1)).key else []).length<=M:=by
  split
  . exact az (c _) d
  . exact ar _
 unfold wth gZ;dsimp only;refine⟨kU e f,?_⟩;split<;>split
 . exact ar _
 . exact hb
 . exact a
 . exact kP a hb
theorem Sound.at24(h:Sound p)(j:Nat):(p.at j).key.length<=24:=by
 by_cases a:j<p.items.length
 . exact(h.fits (yD a▸et a)).key
 . have:p.at j=It.zero:=by unfold Pg.at;simp[a]
   rw[this];exact ar _
theorem xC(D:Rd)(hA:gc (rdR D))(hN:jc (rdR D) 65536)(root:Int)(f:Nat)(hf:f+1<=11)(IH:sj D root f):sj D root (f+1):=by
 intro w F rb E col hR a8 G P Z aH lv a4 r a2 a1 a3 rt a7 hK;have A0:=e7 (al w (.cells r.cs 62));have X0:=e7 (ag w (.cells r.cs 62));have EN:=e7 (j9 _ F rb E D col (hR.keep A0.o) G P (Z.keep A0.o) aH);have HR:=e7 hR;have HC:=e7 Z;have HL:=e7 Z.lb;have RI:=e7 a2;have RB:=e7 a1;have ap:=e7 a3;have aa:=e7 a8;have HK:=e7 hK;have aI:=e7 a7;have HA:=e7 hA;have HN:=e7 hN;have av:=e7 a4;obtain⟨W,aO⟩:∃W,fs (fG (rdR D) root) (rdR D) (λ_=>true) true (f+1) ⟨G,P,0⟩ ⟨aH,lv,r.rg⟩=W:=⟨_,rfl⟩
 rw[aO];have TS:=e7 aO;unfold Rv.val;simp only[Rv.cs] at A0 X0 EN ⊢;clear hR Z a2 a1 a3 a8 hK a7 hA hN aO a4;go_enter func68,ntmps68;go_upto_region 1 with fail
 generalize w.alloc (.cells #[.slice r.aL r.lo.length r.cL,.slice r.aH r.hi.length r.cH,.bool r.op] 62)=w1 at *;go_wp2_with fail
 refine EN.o.mono ?_;rintro e H (⟨rfl,a9,hw⟩|⟨rfl,h0,a5,ac,ah⟩)
 . obtain rfl:=hw.symm
   have ab:Hid (W=⟨G,P,15⟩):=by
    show _=_;rw[<-TS.o];refine(jZ rfl ?_);rcases a9 with h|h
    . exact .inl (jP h)
    . exact .inr h
   clear hw a9;go_wp2;go_ret;rw[ab.o];exact⟨P,rfl,But.ofBelow A0.o,HC.o.keep A0.o,λh=>by cases h⟩
 have bb:=e7 (ac.same X0.o (λe=>by have e:w.heap.size=E:=e;have:=HL.o.2;omega))
 have B2:=e7 (((But.ofBelow (S:=cko F E) A0.o).trans (ac.mono (T:=cko F E) λk _ e=>.inr e) (λ_ _ e=>e)))
 have C2:=e7 ah;have H0:=e7 h0;have am:=e7 a5;have an:=e7 (HA.o aH _ (i5 h0));have RD:=e7 (i5 h0);have R2:=e7 (HR.o.cko aa.o B2.o);obtain⟨i,g,rfl,hi,R,c3,hc⟩:=R2.o.page h0;have a6:=R2.o.ps _ (Rd.on_mem R2.o (iW h0));have aJ:=e7 ((R2.o.pz _ (Rd.on_mem R2.o (iW h0))));clear ac ah h0 a5 EN;have bE:(i:Int)<(D.C.length:Int):=by omega
 have bp:(i:Int)+1-1=(i:Int):=by omega
 have bH:IntKind.i64.wrap ((i:Int)+1-1)=(i:Int):=by rw[bp];exact fB (by omega) (by omega)
 obtain⟨c0,c1,c2⟩:=C2.o.cells;obtain⟨q,V⟩:∃q,D.on ((i:Int)+1)=q:=⟨_,rfl⟩;rw[V] at hc an RD aJ a6;clear V;obtain⟨kq,d,B,t,L,l,m,A,v⟩:=q;have y0:=hc 0 _ (by decide) rfl
 have y1:=hc 1 _ (by decide) rfl
 have y2:=hc 2 _ (by decide) rfl
 have y3:=hc 3 _ (by decide) rfl
 have y4:=hc 4 _ (by decide) rfl
 rw[cx] at y0;have gl:g<H.heap.size:=block_lt_of_cell y0;have XR:=e7 (bb.o);have A3:=e7 (al H (.cells #[.int .i64 kq,.int .i64 d,.slice B L.length t,.slice l A.length m,.int .i64 v] 77));have X3:=e7 (ag H (.cells #[.int .i64 kq,.int .i64 d,.slice B L.length t,.slice l A.length m,.int .i64 v] 77));clear hc;go_upto_region 4 with fail
 have B3:=e7 (B2.o.andBelow A3.o);have a0:=e7 ((A3.o.block w.heap.size (ae.1 XR.o).1).trans XR.o);have C3:=e7 (C2.o.keep A3.o);have R3:=e7 (R2.o.keep A3.o);have P3:=e7 (aJ.o.keep A3.o);have aU:=e7 (RI.o.but' B3.o ap.o);have bI:=B2.o.size;have X:H.heap.size≠F/\H.heap.size≠E/\w.heap.size≠F/\w.heap.size≠E:=by have:=HL.o;omega
 generalize H.alloc (.cells #[.int .i64 kq,.int .i64 d,.slice B L.length t,.slice l A.length m,.int .i64 v] 77)=w3 at *;obtain⟨m0,m1,m2,m3,m4⟩:=jp X3.o;have bD:L.length<=1048576:=(iQ (a6)).2;clear y0 y1 y2 y3 y4 c0 c1 c2 c3 XR A3 B2 C2 R2 aJ A0 X0;have aS:Hid (lv-1=(f:Int)):=e7 (by have:=av.o;omega)
 have aN:¬lv=0:=by have:=av.o;omega
 have aF:(lv==0)=false:=by simp[aN]
 have bn:0<lv:=by have:=av.o;omega
 have bF:lv<=11:=by have:=av.o;omega
 have bG:IntKind.i64.wrap (lv-1)=lv-1:=fB (by omega) (by omega)
 clear av;have n:=xQ an.o bn;by_cases hk:kq=2
 . subst hk;by_cases he:d=lv
   . subst he;have n:lvl (Pv.pg ⟨2,d,B,t,L,l,m,A,v⟩) d=true:=by rw[n];simp[Pv.pg]
     have h8:L.length<=8:=by have:=(an.o.node (.inr rfl)).2.2.1;simpa[Pv.pg] using this
     have h2:2<=L.length:=by have:=(an.o.idx rfl).2.2;simpa[Pv.pg] using this
     have bB:¬(L.length:Int)<2:=by omega
     have GK:=e7 (show Kb (rdR D) ⟨((i:Int)+1)::G,P,0⟩ from⟨HK.o.g.cons RD.o am.o,by have:=HK.o.k;simp only[aR] at this ⊢;omega⟩)
     have aT:Hid (∀x∈L,x.key.length<=24):=e7 (λx O=>(an.o.fits (x:=x.it) (bN.2 ⟨x,O,rfl⟩)).key)
     have aQ:=e7 (an.o.at24);by_cases aG:rt=false/\L.length<4
     . obtain⟨rfl,h4⟩:=aG
       have bo:(i:Int)+1≠root:=λe=>by
        rcases aI.o with⟨h,_⟩|⟨_,h⟩
        . cases h
        . exact am.o (e▸h)
       have bh:(L.length:Int)<4:=by omega
       have aj:iy (rdR D) root ⟨((i:Int)+1)::G,P,0⟩ ⟨(i:Int)+1,d,r.rg⟩ (Pv.pg ⟨2,d,B,t,L,l,m,A,v⟩)=⟨((i:Int)+1)::G,P,5⟩:=by
        unfold iy;rw[if_pos ⟨bo,by simpa[Pv.pg] using h4⟩]
       have ab:Hid (W=⟨((i:Int)+1)::G,P,5⟩):=e7 (by
        rw[<-TS.o];refine(kf (M:=fG (rdR D) root) rfl RD.o am.o n (.inl ?_)).trans aj;show decide ((iy (rdR D) root ⟨((i:Int)+1)::G,P,0⟩ ⟨(i:Int)+1,d,r.rg⟩ (Pv.pg ⟨2,d,B,t,L,l,m,A,v⟩)).er≠0)=true;rw[aj];rfl)
       clear n aj aF;have aF:(d==0)=false:=by simp[aN]
       go_wp2;go_ret;rw[ab.o];exact⟨P,rfl,B3.o,C3.o,λh=>by cases h⟩
     . have aj:iy (rdR D) root ⟨((i:Int)+1)::G,P,0⟩ ⟨(i:Int)+1,d,r.rg⟩ (Pv.pg ⟨2,d,B,t,L,l,m,A,v⟩)=⟨((i:Int)+1)::G,P,0⟩:=by
        unfold iy
        rw[if_neg (λh=>aG (by
         rcases aI.o with⟨h1,h2⟩|⟨h1,h2⟩
         . exact absurd h2 h.1
         . exact⟨h1,by simpa[Pv.pg] using h.2⟩))]
        exact if_neg (by show ¬(2:Int)=1;decide)
       have aZ:Hid (flw (λs c=>fs (fG (rdR D) root) (rdR D) (λ_=>true) true f s c) (fG (rdR D) root).stp (ben ⟨(i:Int)+1,d,r.rg⟩ (Pv.pg ⟨2,d,B,t,L,l,m,A,v⟩)) ⟨((i:Int)+1)::G,P,0⟩=W):=e7 (by
        rw[<-TS.o]
        have h:=nE (M:=fG (rdR D) root) (wants:=λ_=>true) (o:=true) (f:=f) (a:=⟨(i:Int)+1,d,r.rg⟩) (s:=⟨G,P,0⟩) rfl RD.o am.o n (by
         show decide ((iy (rdR D) root ⟨((i:Int)+1)::G,P,0⟩ ⟨(i:Int)+1,d,r.rg⟩ (Pv.pg ⟨2,d,B,t,L,l,m,A,v⟩)).er≠0)=false;rw[aj];rfl) (by show ¬(2:Int)=1;decide)
        refine Eq.trans ?_ h.symm;show _=flw _ _ (ben ⟨(i:Int)+1,d,r.rg⟩ (Pv.pg ⟨2,d,B,t,L,l,m,A,v⟩)) (iy (rdR D) root ⟨((i:Int)+1)::G,P,0⟩ ⟨(i:Int)+1,d,r.rg⟩ (Pv.pg ⟨2,d,B,t,L,l,m,A,v⟩));rw[aj])
       have bj:rt=true\/rt=false/\¬L.length<4:=by
        cases rt with
        |true=>exact .inl rfl
        |false=>exact .inr ⟨rfl,λh=>aG ⟨rfl,h⟩⟩
       have ba:Hid (root∈((i:Int)+1)::G):=e7 (by
        rcases aI.o with⟨_,h⟩|⟨_,h⟩
        . rw[h];exact cU
        . exact aY _ h)
       clear aG n aj TS aF;have aF:(d==0)=false:=by simp[aN]
       rcases bj with rfl|⟨rfl,h4⟩
       . go_upto_region 9 with fail
         clear m0 m1 m2 m3 m4;go_loopw [12] (λq wr=>∃(j:Nat)(I:List Int)(K:Nat),q=.int .i64 (j:Int)/\j<=L.length/\But (cko F E) w3 wr/\Ckm wr F rb E D.C.length I K/\Kb (rdR D) ⟨I,K,0⟩/\(∀x∈((i:Int)+1)::G,x∈I)/\flw (λs c=>fs (fG (rdR D) root) (rdR D) (λ_=>true) true f s c) (fG (rdR D) root).stp ((ben ⟨(i:Int)+1,d,r.rg⟩ (Pv.pg ⟨2,d,B,t,L,l,m,A,v⟩)).drop j) ⟨I,K,0⟩=W) (λq _=>L.length-(intOf q).toNat)
         case atStart=>exact⟨0,_,P,rfl,ar _,But.refl _ _,C3.o,GK.o,λ_ h=>h,aZ.o⟩
         case round=>
          obtain⟨j,I,K,rfl,hj,Y,Z,hg,aD,hc⟩:=hrel;have HB:=e7 Y;have CC:=e7 Z;have GG:=e7 hg;have ak:=e7 aD;have HV:=e7 hc;have X4:=e7 (Y.same X3.o (λe=>e.elim X.1 X.2.1))
          have aM:=e7 (Y.same a0.o (λe=>e.elim X.2.2.1 X.2.2.2))
          have R4:=e7 (R3.o.cko aa.o Y);have P4:=e7 (Pz.pi (P3.o.but Y (λk _ R e=>by rw[aa.o k e] at R;cases R)))
          have aL:=e7 (aU.o.but' Y ap.o);clear Y Z hg aD hc;obtain⟨m0,m1,m2,m3,m4⟩:=jp X4.o;by_cases af:j<L.length
          . have bx:(j:Int)<(L.length:Int):=by omega
            have bm:(0:Int)<=(j:Int):=by omega
            obtain⟨J,N,ea,cA⟩:=P4.o.it.at af;have ea:B=some ⟨J,N,none⟩:=ea;obtain⟨x,O⟩:∃x,L.getD j Iv.zero=x:=⟨_,rfl⟩;have aP:j<(Pv.pg ⟨2,d,B,t,L,l,m,A,v⟩).items.length:=by simpa[Pv.pg] using af
            have AT:(Pv.pg ⟨2,d,B,t,L,l,m,A,v⟩).at j=x.it:=by rw[<-O];exact fT L j
            have y:Hid ((if (fs (fG (rdR D) root) (rdR D) (λ_=>true) true f ⟨I,K,0⟩ ⟨x.child,d-1,wth (Pv.pg ⟨2,d,B,t,L,l,m,A,v⟩) j r.rg⟩).er≠0 then fs (fG (rdR D) root) (rdR D) (λ_=>true) true f ⟨I,K,0⟩ ⟨x.child,d-1,wth (Pv.pg ⟨2,d,B,t,L,l,m,A,v⟩) j r.rg⟩ else flw (λs c=>fs (fG (rdR D) root) (rdR D) (λ_=>true) true f s c) (fG (rdR D) root).stp ((ben ⟨(i:Int)+1,d,r.rg⟩ (Pv.pg ⟨2,d,B,t,L,l,m,A,v⟩)).drop (j+1)) (fs (fG (rdR D) root) (rdR D) (λ_=>true) true f ⟨I,K,0⟩ ⟨x.child,d-1,wth (Pv.pg ⟨2,d,B,t,L,l,m,A,v⟩) j r.rg⟩))=W):=e7 (by
             obtain⟨hk,e⟩:=aW.1 (rL (a:=⟨(i:Int)+1,d,r.rg⟩) aP);rw[<-HV.o,bC hk,e,iI,AT];show _=if decide (_≠0)=true then _ else _
             simp only[be];rfl)
            have az:L.getD j Iv.zero=x:=O;simp only[az] at cA;subst ea;have HX:=e7 O;clear O az HV AT;have WT:=e7 (λ(U:World)(hb:But (cko F E) wr U)=>lz U ⟨2,d,some ⟨J,N,none⟩,t,L,l,m,A,v⟩ j af r (Pz.pi (P3.o.but (HB.o.trans hb (λ_ _ e=>e)) (λk _ R e=>by rw[aa.o k e] at R;cases R))) (aL.o.but' hb ap.o) RB.o aT.o)
            have PG:=e7 (λ(U:World)(hb:But (cko F E) wr U)(Z:Ckm U F rb E D.C.length I K)(q:Rv)(V:Ri U q)(hg:q.rg=wth (Pv.pg ⟨2,d,some ⟨J,N,none⟩,t,L,l,m,A,v⟩) j r.rg)(hi:∀k,nN q k->¬cko F E k)=>hg▸IH U F rb E col (R4.o.cko aa.o hb) aa.o I K Z x.child (d-1) aS.o q V (by
             have h:=rz (p:=Pv.pg ⟨2,d,some ⟨J,N,none⟩,t,L,l,m,A,v⟩) (i:=j) (r:=r.rg) (M:=140737488355328) (by decide) RB.o.1 RB.o.2 aQ.o
             rw[<-hg] at h;exact h) hi false (.inr ⟨rfl,ak.o _ ba.o⟩) GG.o)
            obtain⟨wt,ay⟩:∃wt,wth (Pv.pg ⟨2,d,some ⟨J,N,none⟩,t,L,l,m,A,v⟩) j r.rg=wt:=⟨_,rfl⟩;rw[ay] at y PG WT;clear ay;obtain⟨ai,hZ⟩:∃ai,fs (fG (rdR D) root) (rdR D) (λ_=>true) true f ⟨I,K,0⟩ ⟨x.child,d-1,wt⟩=ai:=⟨_,rfl⟩
            rw[hZ] at y PG;clear hZ;obtain⟨aK,cK,bu,aV,cV,val,aE,bA⟩:=x;simp only[Iv.cs] at cA;unfold Pv.vl Rv.val at WT;unfold Rv.val at PG;simp only[Pv.cs,Rv.cs] at WT PG
            have SS:Hid (∀U:World,But (cko F E) wr U->(U.cell? ⟨H.heap.size,0,none⟩=some (.int .i64 2)/\U.cell? ⟨H.heap.size,1,none⟩=some (.int .i64 d)/\U.cell? ⟨H.heap.size,2,none⟩=some (.slice (some ⟨J,N,none⟩) L.length t)/\U.cell? ⟨H.heap.size,3,none⟩=some (.slice l A.length m)/\U.cell? ⟨H.heap.size,4,none⟩=some (.int .i64 v))/\U.cell? ⟨J,N+j*4+2,none⟩=some (.int .i64 aE)/\(U.cell? ⟨w.heap.size,0,none⟩=some (.slice r.aL r.lo.length r.cL)/\U.cell? ⟨w.heap.size,1,none⟩=some (.slice r.aH r.hi.length r.cH)/\U.cell? ⟨w.heap.size,2,none⟩=some (.bool r.op))):=e7 (λU hb=>by
             have PU:=Pz.pi (P3.o.but (HB.o.trans hb (λ_ _ e=>e)) (λk _ R e=>by rw[aa.o k e] at R;cases R))
             obtain⟨b2,o2,e2,cB⟩:=PU.it.at af;have e2:(some ⟨J,N,none⟩:Option Addr)=some ⟨b2,o2,none⟩:=e2;simp only[au,Addr.mk.injEq] at e2;obtain⟨rfl,rfl,_⟩:=e2;have cB:U.rangeAt J (N+j*4) (L.getD j Iv.zero).cs.toList:=cB;rw[HX.o] at cB;obtain⟨q0,q1,q2,q3⟩:=nu cB;exact⟨jp (hb.same X4.o (λe=>e.elim X.1 X.2.1)),q2,fb (hb.same aM.o (λe=>e.elim X.2.2.1 X.2.2.2))⟩)
            go_upto_region 14 with fail
            have DR:=e7 (dr2 wr);have DB:=e7 (But.ofBelow (S:=cko F E) DR.o);refine aX (S:=λU=>(U.cell? ⟨H.heap.size,0,none⟩=some (.int .i64 2)/\U.cell? ⟨H.heap.size,1,none⟩=some (.int .i64 d)/\U.cell? ⟨H.heap.size,2,none⟩=some (.slice (some ⟨J,N,none⟩) L.length t)/\U.cell? ⟨H.heap.size,3,none⟩=some (.slice l A.length m)/\U.cell? ⟨H.heap.size,4,none⟩=some (.int .i64 v))/\U.cell? ⟨J,N+j*4+2,none⟩=some (.int .i64 aE)/\(U.cell? ⟨w.heap.size,0,none⟩=some (.slice r.aL r.lo.length r.cL)/\U.cell? ⟨w.heap.size,1,none⟩=some (.slice r.aH r.hi.length r.cH)/\U.cell? ⟨w.heap.size,2,none⟩=some (.bool r.op))) (by kernel_rfl) (SS.o _ DB.o) (λhHeld=>?_)
            refine tkd 0 1 2 3 ?_;refine tkd 4 5 6 7 ?_;refine tkd 8 9 10 11 ?_;refine tw 12 λKx hK=>?_
            go_simp;refine(WT.o _ DB.o).mono ?_;rintro e V2 ⟨q,rfl,V,ax⟩;have VB:=e7 (bt DR.o V.l.b);have VC:=e7 (But.ofBelow (S:=cko F E) VB.o);have QR:=e7 V.ri;have QG:=e7 ax
            have QI:Hid (∀k,nN q k->¬cko F E k):=e7 (λk hk e=>by
             have bq:=HB.o.size;have bz:=B3.o.size;have hd:wr.drew.heap.size=wr.heap.size:=rfl;have:=HL.o
             have bk:wr.drew.heap.size<=k:=by
              rcases hk with⟨x,O,rfl⟩|⟨x,O,rfl⟩
              . exact V.l.fresh O
              . exact V.h.fresh O
             rcases e with e|e<;>omega)
            clear V ax WT;obtain⟨bd,bg,bv,bc,bf,bl,bw⟩:=q;go_wp2_with fail
            refine hK.o _ _ (SS.o _ VC.o) (λhHeld=>?_)
            refine tw 13 λKx hK=>?_
            go_simp;refine(PG.o _ VC.o (CC.o.keep VB.o) _ QR.o QG.o QI.o).mono ?_;rintro e W2 ⟨aA,rfl,ac,ah,aC⟩;have B2:=e7 (VC.o.trans ac (λ_ _ e=>e))
            have C2:=e7 ah;have K2:=e7 aC;clear ac ah aC PG;go_wp2_with fail
            refine hK.o _ _ (SS.o _ B2.o) (λhHeld=>?_)
            refine tk 14 ?_;refine td ?_;clear hHeld SS;obtain⟨Z1,Zk,Z2⟩:=ai;simp only at y C2 K2;by_cases hz:Z2=0
            . subst hz;have ab:Hid (flw (λs c=>fs (fG (rdR D) root) (rdR D) (λ_=>true) true f s c) (fG (rdR D) root).stp ((ben ⟨(i:Int)+1,d,r.rg⟩ (Pv.pg ⟨2,d,some ⟨J,N,none⟩,t,L,l,m,A,v⟩)).drop (j+1)) ⟨Z1,Zk,0⟩=W):=e7 ((if_neg (by simp)).symm.trans y.o)
              obtain⟨ek,aw,aB⟩:=K2.o rfl;subst ek;have EK:=e7 aw;have ES:=e7 aB;clear y K2 aw aB;go_wp2;go_roundw
              case rel=>exact⟨j+1,Z1,aA,by go_num,by omega,HB.o.trans B2.o (λ_ _ e=>e),C2.o,EK.o,λao hy=>ES.o ao (ak.o ao hy),ab.o⟩
              case measure=>simp[intOf];omega
            . have F2:Hid (W=⟨Z1,Zk,Z2⟩):=e7 ((if_pos hz).symm.trans y.o).symm;have br:((Z2:Int)==0)=false:=by simp[hz]
              have bs:¬(Z2:Int)=0:=by omega
              clear y K2;go_wp2;go_ret;rw[F2.o];exact⟨aA,rfl,B3.o.trans (HB.o.trans B2.o (λ_ _ e=>e)) (λ_ _ e=>e),C2.o,λh=>absurd h hz⟩
          . obtain rfl:j=L.length:=by omega
            have F2:Hid (W=⟨I,K,0⟩):=e7 (by
             rw[<-HV.o,cw (by simp[ben,Pv.pg])]
             rfl)
            go_wp2;go_ret;rw[F2.o];exact⟨K,rfl,B3.o.trans HB.o (λ_ _ e=>e),CC.o,λ_=>⟨rfl,GG.o,λx O=>ak.o x (aY _ O)⟩⟩
       . have bh:¬(L.length:Int)<4:=by omega
         go_upto_region 9 with fail
         clear m0 m1 m2 m3 m4;go_loopw [12] (λq wr=>∃(j:Nat)(I:List Int)(K:Nat),q=.int .i64 (j:Int)/\j<=L.length/\But (cko F E) w3 wr/\Ckm wr F rb E D.C.length I K/\Kb (rdR D) ⟨I,K,0⟩/\(∀x∈((i:Int)+1)::G,x∈I)/\flw (λs c=>fs (fG (rdR D) root) (rdR D) (λ_=>true) true f s c) (fG (rdR D) root).stp ((ben ⟨(i:Int)+1,d,r.rg⟩ (Pv.pg ⟨2,d,B,t,L,l,m,A,v⟩)).drop j) ⟨I,K,0⟩=W) (λq _=>L.length-(intOf q).toNat)
         case atStart=>exact⟨0,_,P,rfl,ar _,But.refl _ _,C3.o,GK.o,λ_ h=>h,aZ.o⟩
         case round=>
          obtain⟨j,I,K,rfl,hj,Y,Z,hg,aD,hc⟩:=hrel;have HB:=e7 Y;have CC:=e7 Z;have GG:=e7 hg;have ak:=e7 aD;have HV:=e7 hc;have X4:=e7 (Y.same X3.o (λe=>e.elim X.1 X.2.1))
          have aM:=e7 (Y.same a0.o (λe=>e.elim X.2.2.1 X.2.2.2))
          have R4:=e7 (R3.o.cko aa.o Y);have P4:=e7 (Pz.pi (P3.o.but Y (λk _ R e=>by rw[aa.o k e] at R;cases R)))
          have aL:=e7 (aU.o.but' Y ap.o);clear Y Z hg aD hc;obtain⟨m0,m1,m2,m3,m4⟩:=jp X4.o;by_cases af:j<L.length
          . have bx:(j:Int)<(L.length:Int):=by omega
            have bm:(0:Int)<=(j:Int):=by omega
            obtain⟨J,N,ea,cA⟩:=P4.o.it.at af;have ea:B=some ⟨J,N,none⟩:=ea;obtain⟨x,O⟩:∃x,L.getD j Iv.zero=x:=⟨_,rfl⟩;have aP:j<(Pv.pg ⟨2,d,B,t,L,l,m,A,v⟩).items.length:=by simpa[Pv.pg] using af
            have AT:(Pv.pg ⟨2,d,B,t,L,l,m,A,v⟩).at j=x.it:=by rw[<-O];exact fT L j
            have y:Hid ((if (fs (fG (rdR D) root) (rdR D) (λ_=>true) true f ⟨I,K,0⟩ ⟨x.child,d-1,wth (Pv.pg ⟨2,d,B,t,L,l,m,A,v⟩) j r.rg⟩).er≠0 then fs (fG (rdR D) root) (rdR D) (λ_=>true) true f ⟨I,K,0⟩ ⟨x.child,d-1,wth (Pv.pg ⟨2,d,B,t,L,l,m,A,v⟩) j r.rg⟩ else flw (λs c=>fs (fG (rdR D) root) (rdR D) (λ_=>true) true f s c) (fG (rdR D) root).stp ((ben ⟨(i:Int)+1,d,r.rg⟩ (Pv.pg ⟨2,d,B,t,L,l,m,A,v⟩)).drop (j+1)) (fs (fG (rdR D) root) (rdR D) (λ_=>true) true f ⟨I,K,0⟩ ⟨x.child,d-1,wth (Pv.pg ⟨2,d,B,t,L,l,m,A,v⟩) j r.rg⟩))=W):=e7 (by
             obtain⟨hk,e⟩:=aW.1 (rL (a:=⟨(i:Int)+1,d,r.rg⟩) aP);rw[<-HV.o,bC hk,e,iI,AT];show _=if decide (_≠0)=true then _ else _
             simp only[be];rfl)
            have az:L.getD j Iv.zero=x:=O;simp only[az] at cA;subst ea;have HX:=e7 O;clear O az HV AT;have WT:=e7 (λ(U:World)(hb:But (cko F E) wr U)=>lz U ⟨2,d,some ⟨J,N,none⟩,t,L,l,m,A,v⟩ j af r (Pz.pi (P3.o.but (HB.o.trans hb (λ_ _ e=>e)) (λk _ R e=>by rw[aa.o k e] at R;cases R))) (aL.o.but' hb ap.o) RB.o aT.o)
            have PG:=e7 (λ(U:World)(hb:But (cko F E) wr U)(Z:Ckm U F rb E D.C.length I K)(q:Rv)(V:Ri U q)(hg:q.rg=wth (Pv.pg ⟨2,d,some ⟨J,N,none⟩,t,L,l,m,A,v⟩) j r.rg)(hi:∀k,nN q k->¬cko F E k)=>hg▸IH U F rb E col (R4.o.cko aa.o hb) aa.o I K Z x.child (d-1) aS.o q V (by
             have h:=rz (p:=Pv.pg ⟨2,d,some ⟨J,N,none⟩,t,L,l,m,A,v⟩) (i:=j) (r:=r.rg) (M:=140737488355328) (by decide) RB.o.1 RB.o.2 aQ.o
             rw[<-hg] at h;exact h) hi false (.inr ⟨rfl,ak.o _ ba.o⟩) GG.o)
            obtain⟨wt,ay⟩:∃wt,wth (Pv.pg ⟨2,d,some ⟨J,N,none⟩,t,L,l,m,A,v⟩) j r.rg=wt:=⟨_,rfl⟩;rw[ay] at y PG WT;clear ay;obtain⟨ai,hZ⟩:∃ai,fs (fG (rdR D) root) (rdR D) (λ_=>true) true f ⟨I,K,0⟩ ⟨x.child,d-1,wt⟩=ai:=⟨_,rfl⟩
            rw[hZ] at y PG;clear hZ;obtain⟨aK,cK,bu,aV,cV,val,aE,bA⟩:=x;simp only[Iv.cs] at cA;unfold Pv.vl Rv.val at WT;unfold Rv.val at PG;simp only[Pv.cs,Rv.cs] at WT PG
            have SS:Hid (∀U:World,But (cko F E) wr U->(U.cell? ⟨H.heap.size,0,none⟩=some (.int .i64 2)/\U.cell? ⟨H.heap.size,1,none⟩=some (.int .i64 d)/\U.cell? ⟨H.heap.size,2,none⟩=some (.slice (some ⟨J,N,none⟩) L.length t)/\U.cell? ⟨H.heap.size,3,none⟩=some (.slice l A.length m)/\U.cell? ⟨H.heap.size,4,none⟩=some (.int .i64 v))/\U.cell? ⟨J,N+j*4+2,none⟩=some (.int .i64 aE)/\(U.cell? ⟨w.heap.size,0,none⟩=some (.slice r.aL r.lo.length r.cL)/\U.cell? ⟨w.heap.size,1,none⟩=some (.slice r.aH r.hi.length r.cH)/\U.cell? ⟨w.heap.size,2,none⟩=some (.bool r.op))):=e7 (λU hb=>by
             have PU:=Pz.pi (P3.o.but (HB.o.trans hb (λ_ _ e=>e)) (λk _ R e=>by rw[aa.o k e] at R;cases R))
             obtain⟨b2,o2,e2,cB⟩:=PU.it.at af;have e2:(some ⟨J,N,none⟩:Option Addr)=some ⟨b2,o2,none⟩:=e2;simp only[au,Addr.mk.injEq] at e2;obtain⟨rfl,rfl,_⟩:=e2;have cB:U.rangeAt J (N+j*4) (L.getD j Iv.zero).cs.toList:=cB;rw[HX.o] at cB;obtain⟨q0,q1,q2,q3⟩:=nu cB;exact⟨jp (hb.same X4.o (λe=>e.elim X.1 X.2.1)),q2,fb (hb.same aM.o (λe=>e.elim X.2.2.1 X.2.2.2))⟩)
            go_upto_region 14 with fail
            have DR:=e7 (dr2 wr);have DB:=e7 (But.ofBelow (S:=cko F E) DR.o);refine aX (S:=λU=>(U.cell? ⟨H.heap.size,0,none⟩=some (.int .i64 2)/\U.cell? ⟨H.heap.size,1,none⟩=some (.int .i64 d)/\U.cell? ⟨H.heap.size,2,none⟩=some (.slice (some ⟨J,N,none⟩) L.length t)/\U.cell? ⟨H.heap.size,3,none⟩=some (.slice l A.length m)/\U.cell? ⟨H.heap.size,4,none⟩=some (.int .i64 v))/\U.cell? ⟨J,N+j*4+2,none⟩=some (.int .i64 aE)/\(U.cell? ⟨w.heap.size,0,none⟩=some (.slice r.aL r.lo.length r.cL)/\U.cell? ⟨w.heap.size,1,none⟩=some (.slice r.aH r.hi.length r.cH)/\U.cell? ⟨w.heap.size,2,none⟩=some (.bool r.op))) (by kernel_rfl) (SS.o _ DB.o) (λhHeld=>?_)
            refine tkd 0 1 2 3 ?_;refine tkd 4 5 6 7 ?_;refine tkd 8 9 10 11 ?_;refine tw 12 λKx hK=>?_
            go_simp;refine(WT.o _ DB.o).mono ?_;rintro e V2 ⟨q,rfl,V,ax⟩;have VB:=e7 (bt DR.o V.l.b);have VC:=e7 (But.ofBelow (S:=cko F E) VB.o);have QR:=e7 V.ri;have QG:=e7 ax
            have QI:Hid (∀k,nN q k->¬cko F E k):=e7 (λk hk e=>by
             have bq:=HB.o.size;have bz:=B3.o.size;have hd:wr.drew.heap.size=wr.heap.size:=rfl;have:=HL.o
             have bk:wr.drew.heap.size<=k:=by
              rcases hk with⟨x,O,rfl⟩|⟨x,O,rfl⟩
              . exact V.l.fresh O
              . exact V.h.fresh O
             rcases e with e|e<;>omega)
            clear V ax WT;obtain⟨bd,bg,bv,bc,bf,bl,bw⟩:=q;go_wp2_with fail
            refine hK.o _ _ (SS.o _ VC.o) (λhHeld=>?_)
            refine tw 13 λKx hK=>?_
            go_simp;refine(PG.o _ VC.o (CC.o.keep VB.o) _ QR.o QG.o QI.o).mono ?_;rintro e W2 ⟨aA,rfl,ac,ah,aC⟩;have B2:=e7 (VC.o.trans ac (λ_ _ e=>e))
            have C2:=e7 ah;have K2:=e7 aC;clear ac ah aC PG;go_wp2_with fail
            refine hK.o _ _ (SS.o _ B2.o) (λhHeld=>?_)
            refine tk 14 ?_;refine td ?_;clear hHeld SS;obtain⟨Z1,Zk,Z2⟩:=ai;simp only at y C2 K2;by_cases hz:Z2=0
            . subst hz;have ab:Hid (flw (λs c=>fs (fG (rdR D) root) (rdR D) (λ_=>true) true f s c) (fG (rdR D) root).stp ((ben ⟨(i:Int)+1,d,r.rg⟩ (Pv.pg ⟨2,d,some ⟨J,N,none⟩,t,L,l,m,A,v⟩)).drop (j+1)) ⟨Z1,Zk,0⟩=W):=e7 ((if_neg (by simp)).symm.trans y.o)
              obtain⟨ek,aw,aB⟩:=K2.o rfl;subst ek;have EK:=e7 aw;have ES:=e7 aB;clear y K2 aw aB;go_wp2;go_roundw
              case rel=>exact⟨j+1,Z1,aA,by go_num,by omega,HB.o.trans B2.o (λ_ _ e=>e),C2.o,EK.o,λao hy=>ES.o ao (ak.o ao hy),ab.o⟩
              case measure=>simp[intOf];omega
            . have F2:Hid (W=⟨Z1,Zk,Z2⟩):=e7 ((if_pos hz).symm.trans y.o).symm;have br:((Z2:Int)==0)=false:=by simp[hz]
              have bs:¬(Z2:Int)=0:=by omega
              clear y K2;go_wp2;go_ret;rw[F2.o];exact⟨aA,rfl,B3.o.trans (HB.o.trans B2.o (λ_ _ e=>e)) (λ_ _ e=>e),C2.o,λh=>absurd h hz⟩
          . obtain rfl:j=L.length:=by omega
            have F2:Hid (W=⟨I,K,0⟩):=e7 (by
             rw[<-HV.o,cw (by simp[ben,Pv.pg])]
             rfl)
            go_wp2;go_ret;rw[F2.o];exact⟨K,rfl,B3.o.trans HB.o (λ_ _ e=>e),CC.o,λ_=>⟨rfl,GG.o,λx O=>ak.o x (aY _ O)⟩⟩
   . have n:lvl (Pv.pg ⟨2,d,B,t,L,l,m,A,v⟩) lv=false:=by rw[n];simp[Pv.pg,he]
     have ab:Hid (W=⟨((i:Int)+1)::G,P,15⟩):=e7 (by
      rw[<-TS.o];exact jy (M:=fG (rdR D) root) rfl RD.o am.o n)
     clear n;have bi:(d==lv)=false:=by simp[he]
     go_wp2;go_ret;rw[ab.o];exact⟨P,rfl,B3.o,C3.o,λh=>by cases h⟩
 . have n:lvl (Pv.pg ⟨kq,d,B,t,L,l,m,A,v⟩) lv=false:=by rw[n];simp[Pv.pg,hk]
   have ab:Hid (W=⟨((i:Int)+1)::G,P,15⟩):=e7 (by
    rw[<-TS.o];exact jy (M:=fG (rdR D) root) rfl RD.o am.o n)
   clear n;have bi:(kq==2)=false:=by simp[hk]
   go_wp2;go_ret;rw[ab.o];exact⟨P,rfl,B3.o,C3.o,λh=>by cases h⟩
theorem ol(D:Rd)(a:gc (rdR D))(c:jc (rdR D) 65536)(root:Int):∀f:Nat,f<=11->sj D root f
 |0,_=>xO D a c root
 |f+1,h=>xC D a c root f (by omega) (ol D a c root f (by omega))
theorem mf(h:Rq w rb D col):jc (rdR D) 65536:=λn c=>by
 by_cases a:0<D.count n
 . have:=Rd.has_iff.1 (iW a);have:=h.n6;omega
 . rw[jP a] at c;cases c
theorem uC:(prog.info? 4).map (λi=>(i.zero,i.size,i.bytes))=some (some (.bool false),1,1):=by kernel_rfl
theorem s9(n:Nat)(m:n<=1000000)(w:World):(Instr.makeSlice 105 (.int .i64 (n:Int)) (.int .i64 (n:Int))).run prog w=.ok (.slice (some ⟨w.heap.size,0,none⟩) n n) (w.alloc (.cells (vbl (List.replicate n false)).toArray 4)):=by
 obtain⟨d,c,f,h,j⟩:=dm uC;have a:=run_make (P:=prog) w 105 4 d (.bool false) underlying105 c f .i64 .i64 n n (by omega) (by omega) (by rw[j];omega) (by omega)
 simp only[dQ,h,dG] at a;rw[a]
 have e:madeCells (Value.bool false).cells n=(vbl (List.replicate n false)).toArray:=by
  unfold madeCells vbl;apply Array.ext
  . simp
  . intro i k l;simp[Value.cells,Nat.mod_one]
 rw[e]
theorem sS(w:World)(rb:Nat)(D:Rd)(col:Nat->Nat)(H:Rq w rb D col)(hA:gc (rdR D))(t:Tr):
 Calls prog 35 #[.pointer (some ⟨rb,0,none⟩),.agg #[.int .i64 t.root,.int .i64 t.height,.int .i64 t.items]] w λe w'=>e=.returned (.int .i64 ((chk (rdR D) t:Nat):Int))/\Below w.heap.size w w':=by
 obtain⟨d,a,f⟩:=t;have m:=e7 (al w (.cells #[.int .i64 d,.int .i64 a,.int .i64 f] 34));have B:=e7 (ag w (.cells #[.int .i64 d,.int .i64 a,.int .i64 f] 34));simp only;by_cases j:d=0/\a=0/\f=0
 . obtain⟨rfl,rfl,rfl⟩:=j;have N:chk (rdR D) ⟨0,0,0⟩=0:=by unfold chk;exact if_pos ⟨rfl,rfl,rfl⟩
   rw[N];go_enter func35,ntmps35;go_wp2;go_ret;exact⟨rfl,m.o⟩
 . by_cases l:d=0\/a<1\/12<a\/f<1
   . have N:chk (rdR D) ⟨d,a,f⟩=5:=by
      unfold chk;rw[if_neg j,if_pos l]
     rw[N];by_cases hr:d=0
     . subst hr;by_cases hh:a=0
       . subst hh;have q:¬f=0:=λe=>j ⟨rfl,rfl,e⟩
         have bi:(f==0)=false:=by simp[q]
         clear j l;go_enter func35,ntmps35;go_wp2;go_ret;exact⟨rfl,m.o⟩
       . have bh:(a==0)=false:=by simp[hh]
         clear j l;go_enter func35,ntmps35;go_wp2;go_ret;exact⟨rfl,m.o⟩
     . have b1:(d==0)=false:=by simp[hr]
       by_cases l1:a<1
       . clear j l;go_enter func35,ntmps35;go_wp2;go_ret;exact⟨rfl,m.o⟩
       . by_cases l2:12<a
         . clear j l;go_enter func35,ntmps35;go_wp2;go_ret;exact⟨rfl,m.o⟩
         . have l3:f<1:=by omega
           clear j l;go_enter func35,ntmps35;go_wp2;go_ret;exact⟨rfl,m.o⟩
   . have X:chk (rdR D) ⟨d,a,f⟩=if (jb (rdR D) ⟨d,a,f⟩).er≠0 then (jb (rdR D) ⟨d,a,f⟩).er else if ((jb (rdR D) ⟨d,a,f⟩).ks:Int)≠f then 4 else 0:=by
      unfold chk;rw[if_neg j,if_neg l]
     obtain⟨F,ac⟩:∃ah,chk (rdR D) ⟨d,a,f⟩=ah:=⟨_,rfl⟩;rw[ac] at X ⊢;have s:=e7 X;clear ac;have r0:¬d=0:=λh=>l (.inl h)
     have h2:1<=a:=by omega
     have h3:a<=12:=by omega
     have h4:1<=f:=by omega
     have b1:(d==0)=false:=by simp[r0]
     have l1:¬a<1:=by omega
     have l2:¬12<a:=by omega
     have l3:¬f<1:=by omega
     have am:IntKind.i64.wrap (a-1)=a-1:=fB (by omega) (by omega)
     obtain⟨n,J⟩:∃n,D.C.length=n:=⟨_,rfl⟩;have P:=e7 (λ(W:World)(hb:Below w.heap.size w W)=>qw W rb D col (H.keep hb))
     rw[J] at P;have h6:n<=65536:=by rw[<-J];exact H.n6
     have HN:=e7 J
     have aj:∀W,(Instr.makeSlice 105 (.int .i64 ((n:Int)+1)) (.int .i64 ((n:Int)+1))).run prog W=.ok (.slice (some ⟨W.heap.size,0,none⟩) (n+1) (n+1)) (W.alloc (.cells (vbl (List.replicate (n+1) false)).toArray 4)):=λW=>by
      have:=s9 (n+1) (by omega) W
      rw[show((n+1:Nat):Int)=(n:Int)+1 from rfl] at this
      exact this
     have an:IntKind.i64.wrap ((n:Int)+1)=(n:Int)+1:=fB (by omega) (by omega)
     have O:=e7 H;have HA:=e7 hA;clear X j l J H hA;go_enter func35,ntmps35;go_upto_region 5 with fail
     generalize w.alloc (.cells #[.int .i64 d,.int .i64 a,.int .i64 f] 34)=i at *;go_wp2_with fail
     refine(P.o _ m.o).mono ?_;rintro _ wq ⟨rfl,af⟩;obtain rfl:=af.symm;clear af;go_upto_region 6 with fail
     have L:=e7 (bt (al i (.cells (vbl (List.replicate (n+1) false)).toArray 4)) (al (i.alloc (.cells (vbl (List.replicate (n+1) false)).toArray 4)) (.cells #[.pointer (some ⟨rb,0,none⟩),.slice (some ⟨i.heap.size,0,none⟩) (n+1) (n+1),.int .i64 0] 138)))
     have CK:Hid (Ckm ((i.alloc (.cells (vbl (List.replicate (n+1) false)).toArray 4)).alloc (.cells #[.pointer (some ⟨rb,0,none⟩),.slice (some ⟨i.heap.size,0,none⟩) (n+1) (n+1),.int .i64 0] 138)) (i.heap.size+1) rb i.heap.size n [] 0):=e7 (by
      obtain⟨z0,z1,_,_⟩:=fK i (.cells (vbl (List.replicate (n+1) false)).toArray 4) (.cells #[.pointer (some ⟨rb,0,none⟩),.slice (some ⟨i.heap.size,0,none⟩) (n+1) (n+1),.int .i64 0] 138) (Below.refl _ _);refine⟨z1,?_⟩;rw[vG];exact z0)
     generalize (i.alloc (.cells (vbl (List.replicate (n+1) false)).toArray 4)).alloc (.cells #[.pointer (some ⟨rb,0,none⟩),.slice (some ⟨i.heap.size,0,none⟩) (n+1) (n+1),.int .i64 0] 138)=w2 at *;have Y:=e7 (bt m.o L.o);have X2:=e7 ((L.o.block w.heap.size (ae.1 B.o).1).trans B.o);have ak:w.heap.size<i.heap.size:=(ae.1 B.o).1
     have y:=e7 (ol D HA.o (mf O.o) d (a-1).toNat (by omega) w2 (i.heap.size+1) rb i.heap.size col (O.o.keep Y.o) (λk I=>by
      have h5:=O.o.lt;by_cases e:col k=0
      . exact e
      . have:=h5 k e;have:=ak;rcases I with rfl|rfl<;>omega) [] 0 (by rw[HN.o];exact CK.o) d (a-1) (by omega) ⟨none,0,[],none,0,[],true⟩ ⟨Bs.nil _,ai _,Bs.nil _,ai _⟩ ⟨ar _,ar _⟩ (λk I=>by rcases I with⟨x,h,_⟩|⟨x,h,_⟩<;>cases h) true (.inl ⟨rfl,rfl⟩) ⟨Gok.nil _,ar _⟩)
     have aa:jb (rdR D) ⟨d,a,f⟩=fs (fG (rdR D) d) (rdR D) (λ_=>true) true (a-1).toNat ⟨[],0,0⟩ ⟨d,a-1,(⟨none,0,[],none,0,[],true⟩:Rv).rg⟩:=rfl
     obtain⟨Z,R⟩:∃Z,fs (fG (rdR D) d) (rdR D) (λ_=>true) true (a-1).toNat ⟨[],0,0⟩ ⟨d,a-1,(⟨none,0,[],none,0,[],true⟩:Rv).rg⟩=Z:=⟨_,rfl⟩
     rw[aa,R] at s;rw[R] at y;clear aa R;unfold Rv.val at y;simp only[Rv.cs,aO] at y;obtain⟨t0,t1,t2⟩:=fb X2.o;clear aj B P L CK;go_wp2_with fail
     refine y.o.mono ?_;rintro e W3 ⟨V,rfl,U,ab,ad⟩;have c:=e7 ((But.ofBelow (S:=cko (i.heap.size+1) i.heap.size) Y.o).trans U (λ_ _ e=>e))
     have M:Hid (Below w.heap.size w W3):=e7 (c.o.below (λk I e=>by rcases e with rfl|rfl<;>omega))
     have X3:=e7 (U.same X2.o (λe=>by rcases e with e|e<;>omega))
     have C3:=e7 ab;have A:=e7 ad;clear U ab ad y t0 t1 t2 c;obtain⟨Z1,Zk,E⟩:=Z;simp only at s C3 A;by_cases T:E=0
     . subst T;obtain⟨ek,_,_⟩:=A.o rfl;subst ek;have K:Hid (F=if ((V:Nat):Int)≠f then 4 else 0):=e7 (s.o.trans (if_neg (by simp)))
       clear s A;go_upto_region 9 with fail
       obtain⟨t0,t1,t2⟩:=fb X3.o;obtain⟨c0,c1,c2⟩:=C3.o.cells;by_cases q:((V:Nat):Int)=f
       . have v:Hid (F=0):=e7 (K.o.trans (if_neg (by rw[q];simp)))
         subst q;clear K;go_quiet (fail)
         go_wp2;go_ret;rw[v.o];exact⟨rfl,bt M.o (drN _ _)⟩
       . have v:Hid (F=4):=e7 (K.o.trans (if_pos q));have bi:(((V:Nat):Int)==f)=false:=by simp[q]
         clear K;go_quiet (fail)
         go_wp2;go_ret;rw[v.o];exact⟨rfl,bt M.o (drN _ _)⟩
     . have v:Hid (F=E):=e7 (s.o.trans (if_pos T));have ao:((E:Int)==0)=false:=by simp[T]
       have ap:¬(E:Int)=0:=by omega
       clear s A;go_wp2;go_ret;rw[v.o];exact⟨rfl,M.o⟩
def PVi(r:Int)(C:List Int)(g:Int->Option Pg)(S:Vs):Prop:=∃f:Int->Option Pv,S=ldS r C f/\(∀k,(f k).map Pv.pg=g k)/\(∀k q,f k=some q->q.pg.check=0)/\∀k,(f k).isSome=true->0<fk C k
def PRi(C:List Int)(g:Int->Option Pg)(D:Rd):Prop:=D.C=C/\(D.L=C.map λc=>decide (0<c))/\D.P.length=C.length/\∀i,i<C.length->(D.P.getD i Pv.zero).pg=(g ((i:Int)+1)).getD Pv.zero.pg
theorem PRi.count(h:PRi C g D)(z:Int):D.count z=fk C z:=by
 obtain⟨c,_⟩:=h;unfold Rd.count fk;rw[c];by_cases a:1<=z/\z<=C.length
 . rw[if_pos a,if_pos (Rd.has_iff.2 (by rw[c];exact a))]
 . rw[if_neg a,if_neg (λe=>a (by have:=Rd.has_iff.1 e;rw[c] at this;exact this))]
theorem oW{z:Int}(h:0<fk C z):1<=z/\z<=C.length:=by
 unfold fk at h;split at h
 . assumption
 . omega
theorem qU(i:PVi r C g S)(a:PRi C g D):rdV S=rdR D:=by
 funext z
 unfold rdV rdR;rw[a.count z];obtain⟨f,rfl,j,_⟩:=i;rw[show(ldS r C f).X.P.count z=fk C z from jF r C z]
 by_cases h:0<fk C z
 . rw[if_pos h,if_pos h];have l:=oW h;have k:(z-1).toNat<C.length:=by omega
   have e:=a.2.2.2 _ k;have d:(((z-1).toNat:Nat):Int)+1=z:=by omega
   rw[d,<-j z] at e
   have c:((ldS r C f).X.on z).pg=((f z).map Pv.pg).getD Pv.zero.pg:=by
    show((f z).getD Pv.zero).pg=_;cases f z<;>rfl
   rw[c,<-e];rfl
 . rw[if_neg h,if_neg h]
theorem pk(d:PVi r C g S)(a:PRi C g D):S.X.P.counts=D.C:=by
 obtain⟨f,rfl,_⟩:=d;rw[a.1];show(C.map λc=>(c,decide (0<c))).map Prod.fst=C
 rw[List.map_map];exact(List.map_congr_left (λ_ _=>rfl)).trans (List.map_id C)
theorem t8{r:Int}{C:List Int}{g:Int->Option Pg}{S:Vs}(a:PVi r C g S)(z:Int):Sml (S.X.on z):=by
 obtain⟨f,rfl,_,c,_⟩:=a;show Sml ((f z).getD Pv.zero);cases e:f z with
 |none=>exact(iQ (.inr rfl)).1
 |some q=>exact(iQ (.inl (c z q e))).1
theorem vY(m:PVi r C g S)(l:PRi C g D)(d:iA C g=false):rdR D=g:=by
 have y:=m;obtain⟨f,rfl,t,x,v⟩:=m;funext z
 unfold rdR;rw[l.count z];by_cases h:0<fk C z
 . rw[if_pos h];have i:=oW h;have n:(z-1).toNat<C.length:=by omega
   have e:=l.2.2.2 _ n;have j:(((z-1).toNat:Nat):Int)+1=z:=by omega
   rw[j] at e
   have s:(g z).isNone=false:=by
    unfold iA at d;rw[dS] at d;have k:=d (z-1).toNat (cQ.2 n);rw[j] at k
    have a:0<C.getD (z-1).toNat 0:=by
     have c:=h;unfold fk at c;rw[if_pos i] at c;exact c
    rw[an a,eO] at k;exact Bool.eq_false_iff.2 k
   cases a:g z with
   |none=>rw[a] at s;cases s
   |some p=>
    rw[a] at e;show some (D.on z).pg=_;exact aU some e
 . rw[if_neg h];cases a:g z with
   |none=>rfl
   |some p=>
    exfalso;apply h;apply v z;have:=t z;rw[a] at this;cases i:f z with
    |none=>rw[i] at this;cases this
    |some q=>rfl
theorem wC{r:Int}{C:List Int}{g:Int->Option Pg}{S:Vs}(a:PVi r C g S):gc g:=λn p h=>by
 obtain⟨f,rfl,d,c,_⟩:=a;have e:=d n;rw[h] at e;cases hz:f n with
 |none=>rw[hz] at e;cases e
 |some q=>
  rw[hz] at e;have e:q.pg=p:=Option.some.inj e;rw[<-e];exact Pg.check_zero.1 (c n q hz)
theorem sv{l:List (Int×Pg)}(h:(fp r C l).1=0):iA C (fp r C l).2=false:=by
 unfold fp at h ⊢;split at h
 . cases h
 . rename_i d;rw[if_neg d];split at h
   . cases h
   . rename_i e;rw[if_neg e];split at h
     . rename_i a;exact absurd h a
     . rename_i a;rw[if_neg a];split at h
       . cases h
       . rename_i c;rw[if_neg c];simpa using c
theorem Vw.rdsx(h:Vw w b S pb mb pc col)(c:∀z,Sml (S.X.on z)):gu 52 (.pointer (some ⟨b,0,none⟩)) (rdV S) (λk=>col k≠0) w:=λW hb z=>
 (h.but13 hb (λk a e=>e a)).reads c W (Below.refl _ _) z
theorem Vw.xlt(h:Vw w b S pb mb pc col):∀k,col k≠0->k<w.heap.size:=λk c=>by
 by_cases a:k<w.heap.size
 . exact a
 . exact absurd (h.z (Nat.le_of_not_lt a)) c
theorem Rn.hushed{W:World}(h:Rn w W rb D):Rn w (W.setCell ⟨rb,6,none⟩ (.bool true)) rb {D with hush:=true}:=by
 have bs:But (λk=>k=rb) W (W.setCell ⟨rb,6,none⟩ (.bool true)):=(But.refl (λk=>k=rb) W).setCell (p:=⟨rb,6,none⟩) (λ_=>rfl) _
 have c:∀{e:TypeId}{sz:Nat}{a:Option Addr}{cap n:Nat}{C:List Value},e≠109->Q.Gw e sz W a cap n C->Q.Gw e sz (W.setCell ⟨rb,6,none⟩ (.bool true)) a cap n C:=λf d=>
  d.but bs (λy l e=>by obtain⟨q,i⟩:=d.blk l;exact fJ i h.box f e)
 refine⟨?_,c (by decide) h.cr,c (by decide) h.lr,c (by decide) h.pr,λp j=>(h.pn p j).but bs (λk e=>⟨109,D.box,by rw[e];exact h.box,by decide,by decide⟩),h.ps,h.nb,h.nC,h.nl,h.np,?_⟩
 . rw[ay _ _ _ _ _ _ h.box];rfl
 . exact((But.ofBelow (S:=λk=>k=rb) h.b).trans bs (λ_ _ e=>e)).below (λk m e=>by have:=h.nb;omega)
end Go.Proofs.YtnnieandfdbhgaaGreat
