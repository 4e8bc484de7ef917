import Derived.Test.YteaogidofpfmmaaGreatWgB19
set_option linter.all false
set_option maxHeartbeats 8000000
set_option maxRecDepth 10000
namespace Go.Proofs.YteaogidofpfmmaaGreat
open Go.Proofs.Tryz
open Go.RowKit
variable {r:Int}{g:Int->Option Pg}{C:List Int}{b mb pb rb:Nat}{col pc:Nat->Nat}{p:Pg}{D:Rd}{S:Vs}{w:World}
theorem wU{i:Nat}{r:Rg}{M:Nat}(c:24<=M)(d:r.lo.length<=M)(a:r.hi.length<=M)(hk:∀j,(p.at j).key.length<=24):(wth p i r).lo.length<=M/\(wth p i r).hi.length<=M:=by
 have e:(p.at i).key.length<=M:=az (hk i) c
 have hb:(if i+1<p.items.length then (p.at (i+1)).key else []).length<=M:=by
  split
  . exact az (hk _) c
  . exact an _
 unfold wth js;dsimp only;refine⟨oQ d e,?_⟩;split<;>split
 . exact an _
 . exact hb
 . exact a
 . exact oY a hb
theorem Sound.at24(h:Sound p)(j:Nat):(p.at j).key.length<=24:=by
 by_cases a:j<p.items.length
 . exact(h.fits (mP a▸fq a)).key
 . have:p.at j=It.zero:=by unfold Pg.at;simp[a]
   rw[this];exact an _
theorem ER(D:Rd)(hA:ix (rdR D))(hN:j5 (rdR D) 65536)(root:Int)(f:Nat)(hf:f+1<=11)(IH:xY D root f):xY D root (f+1):=by
 intro w F rb E col hR a3 G P Z aG lv aZ r aX aW aY rt a2 hK;have A0:=gW (al w (.cells r.cs 62));have X0:=gW (ah w (.cells r.cs 62));have EN:=gW (nO _ F rb E D col (hR.keep A0.o) G P (Z.keep A0.o) aG);have HR:=gW hR;have HC:=gW Z;have HL:=gW Z.lb;have RI:=gW aX;have RB:=gW aW;have ar:=gW aY;have aa:=gW a3;have HK:=gW hK;have aH:=gW a2;have HA:=gW hA;have HN:=gW hN;have au:=gW aZ;obtain⟨W,aN⟩:∃W,ib (ik (rdR D) root) (rdR D) (λ_=>true) true (f+1) ⟨G,P,0⟩ ⟨aG,lv,r.rg⟩=W:=⟨_,rfl⟩
 rw[aN];have TS:=gW aN;unfold Rv.val;simp only[Rv.cs] at A0 X0 EN ⊢;clear hR Z aX aW aY a3 hK a2 hA hN aN aZ;go_enter func68,ntmps68;go_upto_region 1 with fail
 generalize w.alloc (.cells #[.slice r.aL r.lo.length r.cL,.slice r.aH r.hi.length r.cH,.bool r.op] 62)=w1 at *;go_wp2_with fail
 refine EN.o.mono ?_;rintro e H (⟨rfl,a4,hw⟩|⟨rfl,h0,a0,ac,ag⟩)
 . obtain rfl:=hw.symm
   have ab:Hid (W=⟨G,P,15⟩):=by
    show _=_;rw[<-TS.o];refine(nH rfl ?_);rcases a4 with h|h
    . exact .inl (mo h)
    . exact .inr h
   clear hw a4;go_wp2;go_ret;rw[ab.o];exact⟨P,rfl,But.ofBelow A0.o,HC.o.keep A0.o,λh=>by cases h⟩
 have a6:=gW (ac.same X0.o (λe=>by have e:w.heap.size=E:=e;have:=HL.o.2;omega))
 have B2:=gW (((But.ofBelow (S:=cko F E) A0.o).trans (ac.mono (T:=cko F E) λk _ e=>.inr e) (λ_ _ e=>e)))
 have C2:=gW ag;have H0:=gW h0;have am:=gW a0;have ao:=gW (HA.o aG _ (lh h0));have RD:=gW (lh h0);have R2:=gW (HR.o.cko aa.o B2.o);obtain⟨i,g,rfl,hi,R,c3,hc⟩:=R2.o.page h0;have a1:=R2.o.ps _ (Rd.on_mem R2.o (ju h0));have aI:=gW ((R2.o.pz _ (Rd.on_mem R2.o (ju h0))));clear ac ag h0 a0 EN;have bz:(i:Int)<(D.C.length:Int):=by omega
 have bl:(i:Int)+1-1=(i:Int):=by omega
 have bF:IntKind.i64.wrap ((i:Int)+1-1)=(i:Int):=by rw[bl];exact iz (by omega) (by omega)
 obtain⟨c0,c1,c2⟩:=C2.o.cells;obtain⟨q,V⟩:∃q,D.on ((i:Int)+1)=q:=⟨_,rfl⟩;rw[V] at hc ao RD aI a1;clear V;obtain⟨kq,d,B,t,L,l,m,A,v⟩:=q;have y0:=hc 0 _ (by decide) rfl
 have y1:=hc 1 _ (by decide) rfl
 have y2:=hc 2 _ (by decide) rfl
 have y3:=hc 3 _ (by decide) rfl
 have y4:=hc 4 _ (by decide) rfl
 rw[dr] at y0;have gl:g<H.heap.size:=block_lt_of_cell y0;have XR:=gW (a6.o);have A3:=gW (al H (.cells #[.int .i64 kq,.int .i64 d,.slice B L.length t,.slice l A.length m,.int .i64 v] 77));have X3:=gW (ah H (.cells #[.int .i64 kq,.int .i64 d,.slice B L.length t,.slice l A.length m,.int .i64 v] 77));clear hc;go_upto_region 4 with fail
 have B3:=gW (B2.o.andBelow A3.o);have aU:=gW ((A3.o.block w.heap.size (ae.1 XR.o).1).trans XR.o);have C3:=gW (C2.o.keep A3.o);have R3:=gW (R2.o.keep A3.o);have P3:=gW (aI.o.keep A3.o);have aS:=gW (RI.o.but' B3.o ar.o);have bG:=B2.o.size;have X:H.heap.size≠F/\H.heap.size≠E/\w.heap.size≠F/\w.heap.size≠E:=by have:=HL.o;omega
 generalize H.alloc (.cells #[.int .i64 kq,.int .i64 d,.slice B L.length t,.slice l A.length m,.int .i64 v] 77)=w3 at *;obtain⟨m0,m1,m2,m3,m4⟩:=mj X3.o;have bx:L.length<=1048576:=(kW (a1)).2;clear y0 y1 y2 y3 y4 c0 c1 c2 c3 XR A3 B2 C2 R2 aI A0 X0;have aQ:Hid (lv-1=(f:Int)):=gW (by have:=au.o;omega)
 have aM:¬lv=0:=by have:=au.o;omega
 have aE:(lv==0)=false:=by simp[aM]
 have bi:0<lv:=by have:=au.o;omega
 have bB:lv<=11:=by have:=au.o;omega
 have bD:IntKind.i64.wrap (lv-1)=lv-1:=iz (by omega) (by omega)
 clear au;have n:=Fg ao.o bi;by_cases hk:kq=2
 . subst hk;by_cases he:d=lv
   . subst he;have n:lvl (Pv.pg ⟨2,d,B,t,L,l,m,A,v⟩) d=true:=by rw[n];simp[Pv.pg]
     have h8:L.length<=8:=by have:=(ao.o.node (.inr rfl)).2.2.1;simpa[Pv.pg] using this
     have h2:2<=L.length:=by have:=(ao.o.idx rfl).2.2;simpa[Pv.pg] using this
     have bw:¬(L.length:Int)<2:=by omega
     have GK:=gW (show Kb (rdR D) ⟨((i:Int)+1)::G,P,0⟩ from⟨HK.o.g.cons RD.o am.o,by have:=HK.o.k;simp only[a7] at this ⊢;omega⟩)
     have aR:Hid (∀x∈L,x.key.length<=24):=gW (λx O=>(ao.o.fits (x:=x.it) (bM.2 ⟨x,O,rfl⟩)).key)
     have aP:=gW (ao.o.at24);by_cases aF:rt=false/\L.length<4
     . obtain⟨rfl,h4⟩:=aF
       have bk:(i:Int)+1≠root:=λe=>by
        rcases aH.o with⟨h,_⟩|⟨_,h⟩
        . cases h
        . exact am.o (e▸h)
       have bc:(L.length:Int)<4:=by omega
       have aj:i6 (rdR D) root ⟨((i:Int)+1)::G,P,0⟩ ⟨(i:Int)+1,d,r.rg⟩ (Pv.pg ⟨2,d,B,t,L,l,m,A,v⟩)=⟨((i:Int)+1)::G,P,5⟩:=by
        unfold i6;rw[if_pos ⟨bk,by simpa[Pv.pg] using h4⟩]
       have ab:Hid (W=⟨((i:Int)+1)::G,P,5⟩):=gW (by
        rw[<-TS.o];refine(nR (M:=ik (rdR D) root) rfl RD.o am.o n (.inl ?_)).trans aj;show decide ((i6 (rdR D) root ⟨((i:Int)+1)::G,P,0⟩ ⟨(i:Int)+1,d,r.rg⟩ (Pv.pg ⟨2,d,B,t,L,l,m,A,v⟩)).er≠0)=true;rw[aj];rfl)
       clear n aj aE;have aE:(d==0)=false:=by simp[aM]
       go_wp2;go_ret;rw[ab.o];exact⟨P,rfl,B3.o,C3.o,λh=>by cases h⟩
     . have aj:i6 (rdR D) root ⟨((i:Int)+1)::G,P,0⟩ ⟨(i:Int)+1,d,r.rg⟩ (Pv.pg ⟨2,d,B,t,L,l,m,A,v⟩)=⟨((i:Int)+1)::G,P,0⟩:=by
        unfold i6
        rw[if_neg (λh=>aF (by
         rcases aH.o with⟨h1,h2⟩|⟨h1,h2⟩
         . exact absurd h2 h.1
         . exact⟨h1,by simpa[Pv.pg] using h.2⟩))]
        exact if_neg (by show ¬(2:Int)=1;decide)
       have aT:Hid (flw (λs c=>ib (ik (rdR D) root) (rdR D) (λ_=>true) true f s c) (ik (rdR D) root).stp (ben ⟨(i:Int)+1,d,r.rg⟩ (Pv.pg ⟨2,d,B,t,L,l,m,A,v⟩)) ⟨((i:Int)+1)::G,P,0⟩=W):=gW (by
        rw[<-TS.o]
        have h:=sf (M:=ik (rdR D) root) (wants:=λ_=>true) (o:=true) (f:=f) (a:=⟨(i:Int)+1,d,r.rg⟩) (s:=⟨G,P,0⟩) rfl RD.o am.o n (by
         show decide ((i6 (rdR D) root ⟨((i:Int)+1)::G,P,0⟩ ⟨(i:Int)+1,d,r.rg⟩ (Pv.pg ⟨2,d,B,t,L,l,m,A,v⟩)).er≠0)=false;rw[aj];rfl) (by show ¬(2:Int)=1;decide)
        refine Eq.trans ?_ h.symm;show _=flw _ _ (ben ⟨(i:Int)+1,d,r.rg⟩ (Pv.pg ⟨2,d,B,t,L,l,m,A,v⟩)) (i6 (rdR D) root ⟨((i:Int)+1)::G,P,0⟩ ⟨(i:Int)+1,d,r.rg⟩ (Pv.pg ⟨2,d,B,t,L,l,m,A,v⟩));rw[aj])
       have be:rt=true\/rt=false/\¬L.length<4:=by
        cases rt with
        |true=>exact .inl rfl
        |false=>exact .inr ⟨rfl,λh=>aF ⟨rfl,h⟩⟩
       have a5:Hid (root∈((i:Int)+1)::G):=gW (by
        rcases aH.o with⟨_,h⟩|⟨_,h⟩
        . rw[h];exact bC
        . exact bj _ h)
       clear aF n aj TS aE;have aE:(d==0)=false:=by simp[aM]
       rcases be with rfl|⟨rfl,h4⟩
       . go_upto_region 9 with fail
         clear m0 m1 m2 m3 m4;go_loopw [12] (λq wr=>∃(j:Nat)(I:List Int)(K:Nat),q=.int .i64 (j:Int)/\j<=L.length/\But (cko F E) w3 wr/\Ckm wr F rb E D.C.length I K/\Kb (rdR D) ⟨I,K,0⟩/\(∀x∈((i:Int)+1)::G,x∈I)/\flw (λs c=>ib (ik (rdR D) root) (rdR D) (λ_=>true) true f s c) (ik (rdR D) root).stp ((ben ⟨(i:Int)+1,d,r.rg⟩ (Pv.pg ⟨2,d,B,t,L,l,m,A,v⟩)).drop j) ⟨I,K,0⟩=W) (λq _=>L.length-(intOf q).toNat)
         case atStart=>exact⟨0,_,P,rfl,an _,But.refl _ _,C3.o,GK.o,λ_ h=>h,aT.o⟩
         case round=>
          obtain⟨j,I,K,rfl,hj,Y,Z,hg,aD,hc⟩:=hrel;have HB:=gW Y;have CC:=gW Z;have GG:=gW hg;have ak:=gW aD;have HV:=gW hc;have X4:=gW (Y.same X3.o (λe=>e.elim X.1 X.2.1))
          have aL:=gW (Y.same aU.o (λe=>e.elim X.2.2.1 X.2.2.2))
          have R4:=gW (R3.o.cko aa.o Y);have P4:=gW (Pz.pi (P3.o.but Y (λk _ R e=>by rw[aa.o k e] at R;cases R)))
          have aJ:=gW (aS.o.but' Y ar.o);clear Y Z hg aD hc;obtain⟨m0,m1,m2,m3,m4⟩:=mj X4.o;by_cases af:j<L.length
          . have bs:(j:Int)<(L.length:Int):=by omega
            have bh:(0:Int)<=(j:Int):=by omega
            obtain⟨J,N,ea,cA⟩:=P4.o.it.at af;have ea:B=some ⟨J,N,none⟩:=ea;obtain⟨x,O⟩:∃x,L.getD j Iv.zero=x:=⟨_,rfl⟩;have aO:j<(Pv.pg ⟨2,d,B,t,L,l,m,A,v⟩).items.length:=by simpa[Pv.pg] using af
            have AT:(Pv.pg ⟨2,d,B,t,L,l,m,A,v⟩).at j=x.it:=by rw[<-O];exact iY L j
            have y:Hid ((if (ib (ik (rdR D) root) (rdR D) (λ_=>true) true f ⟨I,K,0⟩ ⟨x.child,d-1,wth (Pv.pg ⟨2,d,B,t,L,l,m,A,v⟩) j r.rg⟩).er≠0 then ib (ik (rdR D) root) (rdR D) (λ_=>true) true f ⟨I,K,0⟩ ⟨x.child,d-1,wth (Pv.pg ⟨2,d,B,t,L,l,m,A,v⟩) j r.rg⟩ else flw (λs c=>ib (ik (rdR D) root) (rdR D) (λ_=>true) true f s c) (ik (rdR D) root).stp ((ben ⟨(i:Int)+1,d,r.rg⟩ (Pv.pg ⟨2,d,B,t,L,l,m,A,v⟩)).drop (j+1)) (ib (ik (rdR D) root) (rdR D) (λ_=>true) true f ⟨I,K,0⟩ ⟨x.child,d-1,wth (Pv.pg ⟨2,d,B,t,L,l,m,A,v⟩) j r.rg⟩))=W):=gW (by
             obtain⟨hk,e⟩:=bE.1 (se (a:=⟨(i:Int)+1,d,r.rg⟩) aO);rw[<-HV.o,co hk,e,jj,AT];show _=if decide (_≠0)=true then _ else _
             simp only[bZ];rfl)
            have az:L.getD j Iv.zero=x:=O;simp only[az] at cA;subst ea;have HX:=gW O;clear O az HV AT;have WT:=gW (λ(U:World)(hb:But (cko F E) wr U)=>pJ U ⟨2,d,some ⟨J,N,none⟩,t,L,l,m,A,v⟩ j af r (Pz.pi (P3.o.but (HB.o.trans hb (λ_ _ e=>e)) (λk _ R e=>by rw[aa.o k e] at R;cases R))) (aJ.o.but' hb ar.o) RB.o aR.o)
            have PG:=gW (λ(U:World)(hb:But (cko F E) wr U)(Z:Ckm U F rb E D.C.length I K)(q:Rv)(V:Ri U q)(hg:q.rg=wth (Pv.pg ⟨2,d,some ⟨J,N,none⟩,t,L,l,m,A,v⟩) j r.rg)(hi:∀k,rE q k->¬cko F E k)=>hg▸IH U F rb E col (R4.o.cko aa.o hb) aa.o I K Z x.child (d-1) aQ.o q V (by
             have h:=wU (p:=Pv.pg ⟨2,d,some ⟨J,N,none⟩,t,L,l,m,A,v⟩) (i:=j) (r:=r.rg) (M:=140737488355328) (by decide) RB.o.1 RB.o.2 aP.o
             rw[<-hg] at h;exact h) hi false (.inr ⟨rfl,ak.o _ a5.o⟩) GG.o)
            obtain⟨wt,ax⟩:∃wt,wth (Pv.pg ⟨2,d,some ⟨J,N,none⟩,t,L,l,m,A,v⟩) j r.rg=wt:=⟨_,rfl⟩;rw[ax] at y PG WT;clear ax;obtain⟨ai,hZ⟩:∃ai,ib (ik (rdR D) root) (rdR D) (λ_=>true) true f ⟨I,K,0⟩ ⟨x.child,d-1,wt⟩=ai:=⟨_,rfl⟩
            rw[hZ] at y PG;clear hZ;obtain⟨aK,cK,bp,aV,cV,val,child,bv⟩:=x;simp only[Iv.cs] at cA;unfold Pv.vl Rv.val at WT;unfold Rv.val at PG;simp only[Pv.cs,Rv.cs] at WT PG
            have SS:Hid (∀U:World,But (cko F E) wr U->(U.cell? ⟨H.heap.size,0,none⟩=some (.int .i64 2)/\U.cell? ⟨H.heap.size,1,none⟩=some (.int .i64 d)/\U.cell? ⟨H.heap.size,2,none⟩=some (.slice (some ⟨J,N,none⟩) L.length t)/\U.cell? ⟨H.heap.size,3,none⟩=some (.slice l A.length m)/\U.cell? ⟨H.heap.size,4,none⟩=some (.int .i64 v))/\U.cell? ⟨J,N+j*4+2,none⟩=some (.int .i64 child)/\(U.cell? ⟨w.heap.size,0,none⟩=some (.slice r.aL r.lo.length r.cL)/\U.cell? ⟨w.heap.size,1,none⟩=some (.slice r.aH r.hi.length r.cH)/\U.cell? ⟨w.heap.size,2,none⟩=some (.bool r.op))):=gW (λU hb=>by
             have PU:=Pz.pi (P3.o.but (HB.o.trans hb (λ_ _ e=>e)) (λk _ R e=>by rw[aa.o k e] at R;cases R))
             obtain⟨b2,o2,e2,cB⟩:=PU.it.at af;have e2:(some ⟨J,N,none⟩:Option Addr)=some ⟨b2,o2,none⟩:=e2;simp only[ay,Addr.mk.injEq] at e2;obtain⟨rfl,rfl,_⟩:=e2;have cB:U.rangeAt J (N+j*4) (L.getD j Iv.zero).cs.toList:=cB;rw[HX.o] at cB;obtain⟨q0,q1,q2,q3⟩:=sc cB;exact⟨mj (hb.same X4.o (λe=>e.elim X.1 X.2.1)),q2,ia (hb.same aL.o (λe=>e.elim X.2.2.1 X.2.2.2))⟩)
            go_upto_region 14 with fail
            have DR:=gW (dr2 wr);have DB:=gW (But.ofBelow (S:=cko F E) DR.o);refine bA (S:=λU=>(U.cell? ⟨H.heap.size,0,none⟩=some (.int .i64 2)/\U.cell? ⟨H.heap.size,1,none⟩=some (.int .i64 d)/\U.cell? ⟨H.heap.size,2,none⟩=some (.slice (some ⟨J,N,none⟩) L.length t)/\U.cell? ⟨H.heap.size,3,none⟩=some (.slice l A.length m)/\U.cell? ⟨H.heap.size,4,none⟩=some (.int .i64 v))/\U.cell? ⟨J,N+j*4+2,none⟩=some (.int .i64 child)/\(U.cell? ⟨w.heap.size,0,none⟩=some (.slice r.aL r.lo.length r.cL)/\U.cell? ⟨w.heap.size,1,none⟩=some (.slice r.aH r.hi.length r.cH)/\U.cell? ⟨w.heap.size,2,none⟩=some (.bool r.op))) (by kernel_rfl) (SS.o _ DB.o) (λhHeld=>?_)
            refine tkd 0 1 2 3 ?_;refine tkd 4 5 6 7 ?_;refine tkd 8 9 10 11 ?_;refine tw 12 λKx hK=>?_
            go_simp;refine(WT.o _ DB.o).mono ?_;rintro e V2 ⟨q,rfl,V,aw⟩;have VB:=gW (bt DR.o V.l.b);have VC:=gW (But.ofBelow (S:=cko F E) VB.o);have QR:=gW V.ri;have QG:=gW aw
            have QI:Hid (∀k,rE q k->¬cko F E k):=gW (λk hk e=>by
             have bm:=HB.o.size;have bu:=B3.o.size;have hd:wr.drew.heap.size=wr.heap.size:=rfl;have:=HL.o
             have bf:wr.drew.heap.size<=k:=by
              rcases hk with⟨x,O,rfl⟩|⟨x,O,rfl⟩
              . exact V.l.fresh O
              . exact V.h.fresh O
             rcases e with e|e<;>omega)
            clear V aw WT;obtain⟨a9,bb,bq,a8,ba,bg,br⟩:=q;go_wp2_with fail
            refine hK.o _ _ (SS.o _ VC.o) (λhHeld=>?_)
            refine tw 13 λKx hK=>?_
            go_simp;refine(PG.o _ VC.o (CC.o.keep VB.o) _ QR.o QG.o QI.o).mono ?_;rintro e W2 ⟨aA,rfl,ac,ag,aC⟩;have B2:=gW (VC.o.trans ac (λ_ _ e=>e))
            have C2:=gW ag;have K2:=gW aC;clear ac ag aC PG;go_wp2_with fail
            refine hK.o _ _ (SS.o _ B2.o) (λhHeld=>?_)
            refine tk 14 ?_;refine td ?_;clear hHeld SS;obtain⟨Z1,Zk,Z2⟩:=ai;simp only at y C2 K2;by_cases hz:Z2=0
            . subst hz;have ab:Hid (flw (λs c=>ib (ik (rdR D) root) (rdR D) (λ_=>true) true f s c) (ik (rdR D) root).stp ((ben ⟨(i:Int)+1,d,r.rg⟩ (Pv.pg ⟨2,d,some ⟨J,N,none⟩,t,L,l,m,A,v⟩)).drop (j+1)) ⟨Z1,Zk,0⟩=W):=gW ((if_neg (by simp)).symm.trans y.o)
              obtain⟨ek,av,aB⟩:=K2.o rfl;subst ek;have EK:=gW av;have ES:=gW aB;clear y K2 av aB;go_wp2;go_roundw
              case rel=>exact⟨j+1,Z1,aA,by go_num,by omega,HB.o.trans B2.o (λ_ _ e=>e),C2.o,EK.o,λap hy=>ES.o ap (ak.o ap hy),ab.o⟩
              case measure=>simp[intOf];omega
            . have F2:Hid (W=⟨Z1,Zk,Z2⟩):=gW ((if_pos hz).symm.trans y.o).symm;have bn:((Z2:Int)==0)=false:=by simp[hz]
              have bo:¬(Z2:Int)=0:=by omega
              clear y K2;go_wp2;go_ret;rw[F2.o];exact⟨aA,rfl,B3.o.trans (HB.o.trans B2.o (λ_ _ e=>e)) (λ_ _ e=>e),C2.o,λh=>absurd h hz⟩
          . obtain rfl:j=L.length:=by omega
            have F2:Hid (W=⟨I,K,0⟩):=gW (by
             rw[<-HV.o,dw (by simp[ben,Pv.pg])]
             rfl)
            go_wp2;go_ret;rw[F2.o];exact⟨K,rfl,B3.o.trans HB.o (λ_ _ e=>e),CC.o,λ_=>⟨rfl,GG.o,λx O=>ak.o x (bj _ O)⟩⟩
       . have bc:¬(L.length:Int)<4:=by omega
         go_upto_region 9 with fail
         clear m0 m1 m2 m3 m4;go_loopw [12] (λq wr=>∃(j:Nat)(I:List Int)(K:Nat),q=.int .i64 (j:Int)/\j<=L.length/\But (cko F E) w3 wr/\Ckm wr F rb E D.C.length I K/\Kb (rdR D) ⟨I,K,0⟩/\(∀x∈((i:Int)+1)::G,x∈I)/\flw (λs c=>ib (ik (rdR D) root) (rdR D) (λ_=>true) true f s c) (ik (rdR D) root).stp ((ben ⟨(i:Int)+1,d,r.rg⟩ (Pv.pg ⟨2,d,B,t,L,l,m,A,v⟩)).drop j) ⟨I,K,0⟩=W) (λq _=>L.length-(intOf q).toNat)
         case atStart=>exact⟨0,_,P,rfl,an _,But.refl _ _,C3.o,GK.o,λ_ h=>h,aT.o⟩
         case round=>
          obtain⟨j,I,K,rfl,hj,Y,Z,hg,aD,hc⟩:=hrel;have HB:=gW Y;have CC:=gW Z;have GG:=gW hg;have ak:=gW aD;have HV:=gW hc;have X4:=gW (Y.same X3.o (λe=>e.elim X.1 X.2.1))
          have aL:=gW (Y.same aU.o (λe=>e.elim X.2.2.1 X.2.2.2))
          have R4:=gW (R3.o.cko aa.o Y);have P4:=gW (Pz.pi (P3.o.but Y (λk _ R e=>by rw[aa.o k e] at R;cases R)))
          have aJ:=gW (aS.o.but' Y ar.o);clear Y Z hg aD hc;obtain⟨m0,m1,m2,m3,m4⟩:=mj X4.o;by_cases af:j<L.length
          . have bs:(j:Int)<(L.length:Int):=by omega
            have bh:(0:Int)<=(j:Int):=by omega
            obtain⟨J,N,ea,cA⟩:=P4.o.it.at af;have ea:B=some ⟨J,N,none⟩:=ea;obtain⟨x,O⟩:∃x,L.getD j Iv.zero=x:=⟨_,rfl⟩;have aO:j<(Pv.pg ⟨2,d,B,t,L,l,m,A,v⟩).items.length:=by simpa[Pv.pg] using af
            have AT:(Pv.pg ⟨2,d,B,t,L,l,m,A,v⟩).at j=x.it:=by rw[<-O];exact iY L j
            have y:Hid ((if (ib (ik (rdR D) root) (rdR D) (λ_=>true) true f ⟨I,K,0⟩ ⟨x.child,d-1,wth (Pv.pg ⟨2,d,B,t,L,l,m,A,v⟩) j r.rg⟩).er≠0 then ib (ik (rdR D) root) (rdR D) (λ_=>true) true f ⟨I,K,0⟩ ⟨x.child,d-1,wth (Pv.pg ⟨2,d,B,t,L,l,m,A,v⟩) j r.rg⟩ else flw (λs c=>ib (ik (rdR D) root) (rdR D) (λ_=>true) true f s c) (ik (rdR D) root).stp ((ben ⟨(i:Int)+1,d,r.rg⟩ (Pv.pg ⟨2,d,B,t,L,l,m,A,v⟩)).drop (j+1)) (ib (ik (rdR D) root) (rdR D) (λ_=>true) true f ⟨I,K,0⟩ ⟨x.child,d-1,wth (Pv.pg ⟨2,d,B,t,L,l,m,A,v⟩) j r.rg⟩))=W):=gW (by
             obtain⟨hk,e⟩:=bE.1 (se (a:=⟨(i:Int)+1,d,r.rg⟩) aO);rw[<-HV.o,co hk,e,jj,AT];show _=if decide (_≠0)=true then _ else _
             simp only[bZ];rfl)
            have az:L.getD j Iv.zero=x:=O;simp only[az] at cA;subst ea;have HX:=gW O;clear O az HV AT;have WT:=gW (λ(U:World)(hb:But (cko F E) wr U)=>pJ U ⟨2,d,some ⟨J,N,none⟩,t,L,l,m,A,v⟩ j af r (Pz.pi (P3.o.but (HB.o.trans hb (λ_ _ e=>e)) (λk _ R e=>by rw[aa.o k e] at R;cases R))) (aJ.o.but' hb ar.o) RB.o aR.o)
            have PG:=gW (λ(U:World)(hb:But (cko F E) wr U)(Z:Ckm U F rb E D.C.length I K)(q:Rv)(V:Ri U q)(hg:q.rg=wth (Pv.pg ⟨2,d,some ⟨J,N,none⟩,t,L,l,m,A,v⟩) j r.rg)(hi:∀k,rE q k->¬cko F E k)=>hg▸IH U F rb E col (R4.o.cko aa.o hb) aa.o I K Z x.child (d-1) aQ.o q V (by
             have h:=wU (p:=Pv.pg ⟨2,d,some ⟨J,N,none⟩,t,L,l,m,A,v⟩) (i:=j) (r:=r.rg) (M:=140737488355328) (by decide) RB.o.1 RB.o.2 aP.o
             rw[<-hg] at h;exact h) hi false (.inr ⟨rfl,ak.o _ a5.o⟩) GG.o)
            obtain⟨wt,ax⟩:∃wt,wth (Pv.pg ⟨2,d,some ⟨J,N,none⟩,t,L,l,m,A,v⟩) j r.rg=wt:=⟨_,rfl⟩;rw[ax] at y PG WT;clear ax;obtain⟨ai,hZ⟩:∃ai,ib (ik (rdR D) root) (rdR D) (λ_=>true) true f ⟨I,K,0⟩ ⟨x.child,d-1,wt⟩=ai:=⟨_,rfl⟩
            rw[hZ] at y PG;clear hZ;obtain⟨aK,cK,bp,aV,cV,val,child,bv⟩:=x;simp only[Iv.cs] at cA;unfold Pv.vl Rv.val at WT;unfold Rv.val at PG;simp only[Pv.cs,Rv.cs] at WT PG
            have SS:Hid (∀U:World,But (cko F E) wr U->(U.cell? ⟨H.heap.size,0,none⟩=some (.int .i64 2)/\U.cell? ⟨H.heap.size,1,none⟩=some (.int .i64 d)/\U.cell? ⟨H.heap.size,2,none⟩=some (.slice (some ⟨J,N,none⟩) L.length t)/\U.cell? ⟨H.heap.size,3,none⟩=some (.slice l A.length m)/\U.cell? ⟨H.heap.size,4,none⟩=some (.int .i64 v))/\U.cell? ⟨J,N+j*4+2,none⟩=some (.int .i64 child)/\(U.cell? ⟨w.heap.size,0,none⟩=some (.slice r.aL r.lo.length r.cL)/\U.cell? ⟨w.heap.size,1,none⟩=some (.slice r.aH r.hi.length r.cH)/\U.cell? ⟨w.heap.size,2,none⟩=some (.bool r.op))):=gW (λU hb=>by
             have PU:=Pz.pi (P3.o.but (HB.o.trans hb (λ_ _ e=>e)) (λk _ R e=>by rw[aa.o k e] at R;cases R))
             obtain⟨b2,o2,e2,cB⟩:=PU.it.at af;have e2:(some ⟨J,N,none⟩:Option Addr)=some ⟨b2,o2,none⟩:=e2;simp only[ay,Addr.mk.injEq] at e2;obtain⟨rfl,rfl,_⟩:=e2;have cB:U.rangeAt J (N+j*4) (L.getD j Iv.zero).cs.toList:=cB;rw[HX.o] at cB;obtain⟨q0,q1,q2,q3⟩:=sc cB;exact⟨mj (hb.same X4.o (λe=>e.elim X.1 X.2.1)),q2,ia (hb.same aL.o (λe=>e.elim X.2.2.1 X.2.2.2))⟩)
            go_upto_region 14 with fail
            have DR:=gW (dr2 wr);have DB:=gW (But.ofBelow (S:=cko F E) DR.o);refine bA (S:=λU=>(U.cell? ⟨H.heap.size,0,none⟩=some (.int .i64 2)/\U.cell? ⟨H.heap.size,1,none⟩=some (.int .i64 d)/\U.cell? ⟨H.heap.size,2,none⟩=some (.slice (some ⟨J,N,none⟩) L.length t)/\U.cell? ⟨H.heap.size,3,none⟩=some (.slice l A.length m)/\U.cell? ⟨H.heap.size,4,none⟩=some (.int .i64 v))/\U.cell? ⟨J,N+j*4+2,none⟩=some (.int .i64 child)/\(U.cell? ⟨w.heap.size,0,none⟩=some (.slice r.aL r.lo.length r.cL)/\U.cell? ⟨w.heap.size,1,none⟩=some (.slice r.aH r.hi.length r.cH)/\U.cell? ⟨w.heap.size,2,none⟩=some (.bool r.op))) (by kernel_rfl) (SS.o _ DB.o) (λhHeld=>?_)
            refine tkd 0 1 2 3 ?_;refine tkd 4 5 6 7 ?_;refine tkd 8 9 10 11 ?_;refine tw 12 λKx hK=>?_
            go_simp;refine(WT.o _ DB.o).mono ?_;rintro e V2 ⟨q,rfl,V,aw⟩;have VB:=gW (bt DR.o V.l.b);have VC:=gW (But.ofBelow (S:=cko F E) VB.o);have QR:=gW V.ri;have QG:=gW aw
            have QI:Hid (∀k,rE q k->¬cko F E k):=gW (λk hk e=>by
             have bm:=HB.o.size;have bu:=B3.o.size;have hd:wr.drew.heap.size=wr.heap.size:=rfl;have:=HL.o
             have bf:wr.drew.heap.size<=k:=by
              rcases hk with⟨x,O,rfl⟩|⟨x,O,rfl⟩
              . exact V.l.fresh O
              . exact V.h.fresh O
             rcases e with e|e<;>omega)
            clear V aw WT;obtain⟨a9,bb,bq,a8,ba,bg,br⟩:=q;go_wp2_with fail
            refine hK.o _ _ (SS.o _ VC.o) (λhHeld=>?_)
            refine tw 13 λKx hK=>?_
            go_simp;refine(PG.o _ VC.o (CC.o.keep VB.o) _ QR.o QG.o QI.o).mono ?_;rintro e W2 ⟨aA,rfl,ac,ag,aC⟩;have B2:=gW (VC.o.trans ac (λ_ _ e=>e))
            have C2:=gW ag;have K2:=gW aC;clear ac ag aC PG;go_wp2_with fail
            refine hK.o _ _ (SS.o _ B2.o) (λhHeld=>?_)
            refine tk 14 ?_;refine td ?_;clear hHeld SS;obtain⟨Z1,Zk,Z2⟩:=ai;simp only at y C2 K2;by_cases hz:Z2=0
            . subst hz;have ab:Hid (flw (λs c=>ib (ik (rdR D) root) (rdR D) (λ_=>true) true f s c) (ik (rdR D) root).stp ((ben ⟨(i:Int)+1,d,r.rg⟩ (Pv.pg ⟨2,d,some ⟨J,N,none⟩,t,L,l,m,A,v⟩)).drop (j+1)) ⟨Z1,Zk,0⟩=W):=gW ((if_neg (by simp)).symm.trans y.o)
              obtain⟨ek,av,aB⟩:=K2.o rfl;subst ek;have EK:=gW av;have ES:=gW aB;clear y K2 av aB;go_wp2;go_roundw
              case rel=>exact⟨j+1,Z1,aA,by go_num,by omega,HB.o.trans B2.o (λ_ _ e=>e),C2.o,EK.o,λap hy=>ES.o ap (ak.o ap hy),ab.o⟩
              case measure=>simp[intOf];omega
            . have F2:Hid (W=⟨Z1,Zk,Z2⟩):=gW ((if_pos hz).symm.trans y.o).symm;have bn:((Z2:Int)==0)=false:=by simp[hz]
              have bo:¬(Z2:Int)=0:=by omega
              clear y K2;go_wp2;go_ret;rw[F2.o];exact⟨aA,rfl,B3.o.trans (HB.o.trans B2.o (λ_ _ e=>e)) (λ_ _ e=>e),C2.o,λh=>absurd h hz⟩
          . obtain rfl:j=L.length:=by omega
            have F2:Hid (W=⟨I,K,0⟩):=gW (by
             rw[<-HV.o,dw (by simp[ben,Pv.pg])]
             rfl)
            go_wp2;go_ret;rw[F2.o];exact⟨K,rfl,B3.o.trans HB.o (λ_ _ e=>e),CC.o,λ_=>⟨rfl,GG.o,λx O=>ak.o x (bj _ O)⟩⟩
   . have n:lvl (Pv.pg ⟨2,d,B,t,L,l,m,A,v⟩) lv=false:=by rw[n];simp[Pv.pg,he]
     have ab:Hid (W=⟨((i:Int)+1)::G,P,15⟩):=gW (by
      rw[<-TS.o];exact mf (M:=ik (rdR D) root) rfl RD.o am.o n)
     clear n;have bd:(d==lv)=false:=by simp[he]
     go_wp2;go_ret;rw[ab.o];exact⟨P,rfl,B3.o,C3.o,λh=>by cases h⟩
 . have n:lvl (Pv.pg ⟨kq,d,B,t,L,l,m,A,v⟩) lv=false:=by rw[n];simp[Pv.pg,hk]
   have ab:Hid (W=⟨((i:Int)+1)::G,P,15⟩):=gW (by
    rw[<-TS.o];exact mf (M:=ik (rdR D) root) rfl RD.o am.o n)
   clear n;have bd:(kq==2)=false:=by simp[hk]
   go_wp2;go_ret;rw[ab.o];exact⟨P,rfl,B3.o,C3.o,λh=>by cases h⟩
theorem sS(D:Rd)(a:ix (rdR D))(c:j5 (rdR D) 65536)(root:Int):∀f:Nat,f<=11->xY D root f
 |0,_=>Ek D a c root
 |f+1,h=>ER D a c root f (by omega) (sS D a c root f (by omega))
theorem nU(h:Rq w rb D col):j5 (rdR D) 65536:=λn c=>by
 by_cases a:0<D.count n
 . have:=Rd.has_iff.1 (ju a);have:=h.n6;omega
 . rw[mo a] at c;cases c
theorem At:(prog.info? 4).map (λi=>(i.zero,i.size,i.bytes))=some (some (.bool false),1,1):=by kernel_rfl
theorem ru(n:Nat)(m:n<=1000000)(w:World):(Instr.makeSlice 105 (.int .i64 (n:Int)) (.int .i64 (n:Int))).run prog w=.ok (.slice (some ⟨w.heap.size,0,none⟩) n n) (w.alloc (.cells (vbl (List.replicate n false)).toArray 4)):=by
 obtain⟨d,c,f,h,j⟩:=dN At;have a:=run_make (P:=prog) w 105 4 d (.bool false) underlying105 c f .i64 .i64 n n (by omega) (by omega) (by rw[j];omega) (by omega)
 simp only[eJ,h,dG] at a;rw[a]
 have e:madeCells (Value.bool false).cells n=(vbl (List.replicate n false)).toArray:=by
  unfold madeCells vbl;apply Array.ext
  . simp
  . intro i k l;simp[Value.cells,Nat.mod_one]
 rw[e]
theorem xJ(w:World)(rb:Nat)(D:Rd)(col:Nat->Nat)(G:Rq w rb D col)(hA:ix (rdR D))(t:Tr):
 Calls prog 35 #[.pointer (some ⟨rb,0,none⟩),.agg #[.int .i64 t.root,.int .i64 t.height,.int .i64 t.items]] w λe w'=>e=.returned (.int .i64 ((chk (rdR D) t:Nat):Int))/\Below w.heap.size w w':=by
 obtain⟨d,a,f⟩:=t;have m:=gW (al w (.cells #[.int .i64 d,.int .i64 a,.int .i64 f] 34));have B:=gW (ah w (.cells #[.int .i64 d,.int .i64 a,.int .i64 f] 34));simp only;by_cases j:d=0/\a=0/\f=0
 . obtain⟨rfl,rfl,rfl⟩:=j;have L:chk (rdR D) ⟨0,0,0⟩=0:=by unfold chk;exact if_pos ⟨rfl,rfl,rfl⟩
   rw[L];go_enter func35,ntmps35;go_wp2;go_ret;exact⟨rfl,m.o⟩
 . by_cases l:d=0\/a<1\/12<a\/f<1
   . have L:chk (rdR D) ⟨d,a,f⟩=5:=by
      unfold chk;rw[if_neg j,if_pos l]
     rw[L];by_cases hr:d=0
     . subst hr;by_cases hh:a=0
       . subst hh;have q:¬f=0:=λe=>j ⟨rfl,rfl,e⟩
         have bi:(f==0)=false:=by simp[q]
         clear j l;go_enter func35,ntmps35;go_wp2;go_ret;exact⟨rfl,m.o⟩
       . have bh:(a==0)=false:=by simp[hh]
         clear j l;go_enter func35,ntmps35;go_wp2;go_ret;exact⟨rfl,m.o⟩
     . have b1:(d==0)=false:=by simp[hr]
       by_cases l1:a<1
       . clear j l;go_enter func35,ntmps35;go_wp2;go_ret;exact⟨rfl,m.o⟩
       . by_cases l2:12<a
         . clear j l;go_enter func35,ntmps35;go_wp2;go_ret;exact⟨rfl,m.o⟩
         . have l3:f<1:=by omega
           clear j l;go_enter func35,ntmps35;go_wp2;go_ret;exact⟨rfl,m.o⟩
   . have U:chk (rdR D) ⟨d,a,f⟩=if (kd (rdR D) ⟨d,a,f⟩).er≠0 then (kd (rdR D) ⟨d,a,f⟩).er else if ((kd (rdR D) ⟨d,a,f⟩).ks:Int)≠f then 4 else 0:=by
      unfold chk;rw[if_neg j,if_neg l]
     obtain⟨F,ac⟩:∃ag,chk (rdR D) ⟨d,a,f⟩=ag:=⟨_,rfl⟩;rw[ac] at U ⊢;have s:=gW U;clear ac;have r0:¬d=0:=λh=>l (.inl h)
     have h2:1<=a:=by omega
     have h3:a<=12:=by omega
     have h4:1<=f:=by omega
     have b1:(d==0)=false:=by simp[r0]
     have l1:¬a<1:=by omega
     have l2:¬12<a:=by omega
     have l3:¬f<1:=by omega
     have am:IntKind.i64.wrap (a-1)=a-1:=iz (by omega) (by omega)
     obtain⟨n,H⟩:∃n,D.C.length=n:=⟨_,rfl⟩;have N:=gW (λ(W:World)(hb:Below w.heap.size w W)=>qb W rb D col (G.keep hb))
     rw[H] at N;have h6:n<=65536:=by rw[<-H];exact G.n6
     have HN:=gW H
     have aj:∀W,(Instr.makeSlice 105 (.int .i64 ((n:Int)+1)) (.int .i64 ((n:Int)+1))).run prog W=.ok (.slice (some ⟨W.heap.size,0,none⟩) (n+1) (n+1)) (W.alloc (.cells (vbl (List.replicate (n+1) false)).toArray 4)):=λW=>by
      have:=ru (n+1) (by omega) W
      rw[show((n+1:Nat):Int)=(n:Int)+1 from rfl] at this
      exact this
     have ao:IntKind.i64.wrap ((n:Int)+1)=(n:Int)+1:=iz (by omega) (by omega)
     have M:=gW G;have HA:=gW hA;clear U j l H G hA;go_enter func35,ntmps35;go_upto_region 5 with fail
     generalize w.alloc (.cells #[.int .i64 d,.int .i64 a,.int .i64 f] 34)=i at *;go_wp2_with fail
     refine(N.o _ m.o).mono ?_;rintro _ wq ⟨rfl,af⟩;obtain rfl:=af.symm;clear af;go_upto_region 6 with fail
     have J:=gW (bt (al i (.cells (vbl (List.replicate (n+1) false)).toArray 4)) (al (i.alloc (.cells (vbl (List.replicate (n+1) false)).toArray 4)) (.cells #[.pointer (some ⟨rb,0,none⟩),.slice (some ⟨i.heap.size,0,none⟩) (n+1) (n+1),.int .i64 0] 138)))
     have c:Hid (Ckm ((i.alloc (.cells (vbl (List.replicate (n+1) false)).toArray 4)).alloc (.cells #[.pointer (some ⟨rb,0,none⟩),.slice (some ⟨i.heap.size,0,none⟩) (n+1) (n+1),.int .i64 0] 138)) (i.heap.size+1) rb i.heap.size n [] 0):=gW (by
      obtain⟨z0,z1,_,_⟩:=iN i (.cells (vbl (List.replicate (n+1) false)).toArray 4) (.cells #[.pointer (some ⟨rb,0,none⟩),.slice (some ⟨i.heap.size,0,none⟩) (n+1) (n+1),.int .i64 0] 138) (Below.refl _ _);refine⟨z1,?_⟩;rw[Bj];exact z0)
     generalize (i.alloc (.cells (vbl (List.replicate (n+1) false)).toArray 4)).alloc (.cells #[.pointer (some ⟨rb,0,none⟩),.slice (some ⟨i.heap.size,0,none⟩) (n+1) (n+1),.int .i64 0] 138)=w2 at *;have V:=gW (bt m.o J.o);have X2:=gW ((J.o.block w.heap.size (ae.1 B.o).1).trans B.o);have ak:w.heap.size<i.heap.size:=(ae.1 B.o).1
     have y:=gW (sS D HA.o (nU M.o) d (a-1).toNat (by omega) w2 (i.heap.size+1) rb i.heap.size col (M.o.keep V.o) (λk hk=>by
      have h5:=M.o.lt;by_cases e:col k=0
      . exact e
      . have:=h5 k e;have:=ak;rcases hk with rfl|rfl<;>omega) [] 0 (by rw[HN.o];exact c.o) d (a-1) (by omega) ⟨none,0,[],none,0,[],true⟩ ⟨Bs.nil _,ai _,Bs.nil _,ai _⟩ ⟨an _,an _⟩ (λk hk=>by rcases hk with⟨x,h,_⟩|⟨x,h,_⟩<;>cases h) true (.inl ⟨rfl,rfl⟩) ⟨Gok.nil _,an _⟩)
     have aa:kd (rdR D) ⟨d,a,f⟩=ib (ik (rdR D) d) (rdR D) (λ_=>true) true (a-1).toNat ⟨[],0,0⟩ ⟨d,a-1,(⟨none,0,[],none,0,[],true⟩:Rv).rg⟩:=rfl
     obtain⟨Z,O⟩:∃Z,ib (ik (rdR D) d) (rdR D) (λ_=>true) true (a-1).toNat ⟨[],0,0⟩ ⟨d,a-1,(⟨none,0,[],none,0,[],true⟩:Rv).rg⟩=Z:=⟨_,rfl⟩
     rw[aa,O] at s;rw[O] at y;clear aa O;unfold Rv.val at y;simp only[Rv.cs,bg] at y;obtain⟨t0,t1,t2⟩:=ia X2.o;clear aj B N J c;go_wp2_with fail
     refine y.o.mono ?_;rintro e W3 ⟨T,rfl,R,ab,ad⟩;have X:=gW ((But.ofBelow (S:=cko (i.heap.size+1) i.heap.size) V.o).trans R (λ_ _ e=>e))
     have K:Hid (Below w.heap.size w W3):=gW (X.o.below (λk hk e=>by rcases e with rfl|rfl<;>omega))
     have X3:=gW (R.same X2.o (λe=>by rcases e with e|e<;>omega))
     have Y:=gW ab;have A:=gW ad;clear R ab ad y t0 t1 t2 X;obtain⟨Z1,Zk,E⟩:=Z;simp only at s Y A;by_cases P:E=0
     . subst P;obtain⟨ek,_,_⟩:=A.o rfl;subst ek;have I:Hid (F=if ((T:Nat):Int)≠f then 4 else 0):=gW (s.o.trans (if_neg (by simp)))
       clear s A;go_upto_region 9 with fail
       obtain⟨t0,t1,t2⟩:=ia X3.o;obtain⟨c0,c1,c2⟩:=Y.o.cells;by_cases q:((T:Nat):Int)=f
       . have v:Hid (F=0):=gW (I.o.trans (if_neg (by rw[q];simp)))
         subst q;clear I;go_quiet (fail)
         go_wp2;go_ret;rw[v.o];exact⟨rfl,bt K.o (drN _ _)⟩
       . have v:Hid (F=4):=gW (I.o.trans (if_pos q));have bi:(((T:Nat):Int)==f)=false:=by simp[q]
         clear I;go_quiet (fail)
         go_wp2;go_ret;rw[v.o];exact⟨rfl,bt K.o (drN _ _)⟩
     . have v:Hid (F=E):=gW (s.o.trans (if_pos P));have ap:((E:Int)==0)=false:=by simp[P]
       have aq:¬(E:Int)=0:=by omega
       clear s A;go_wp2;go_ret;rw[v.o];exact⟨rfl,K.o⟩
def PVi(r:Int)(C:List Int)(g:Int->Option Pg)(S:Vs):Prop:=∃f:Int->Option Pv,S=ldS r C f/\(∀k,(f k).map Pv.pg=g k)/\(∀k q,f k=some q->q.pg.check=0)/\∀k,(f k).isSome=true->0<ip C k
def PRi(C:List Int)(g:Int->Option Pg)(D:Rd):Prop:=D.C=C/\(D.L=C.map λc=>decide (0<c))/\D.P.length=C.length/\∀i,i<C.length->(D.P.getD i Pv.zero).pg=(g ((i:Int)+1)).getD Pv.zero.pg
theorem PRi.count(h:PRi C g D)(z:Int):D.count z=ip C z:=by
 obtain⟨c,_⟩:=h;unfold Rd.count ip;rw[c];by_cases a:1<=z/\z<=C.length
 . rw[if_pos a,if_pos (Rd.has_iff.2 (by rw[c];exact a))]
 . rw[if_neg a,if_neg (λe=>a (by have:=Rd.has_iff.1 e;rw[c] at this;exact this))]
theorem sR{z:Int}(h:0<ip C z):1<=z/\z<=C.length:=by
 unfold ip at h;split at h
 . assumption
 . omega
theorem wa(i:PVi r C g S)(a:PRi C g D):rdV S=rdR D:=by
 funext z
 unfold rdV rdR;rw[a.count z];obtain⟨f,rfl,j,_⟩:=i;rw[show(ldS r C f).X.P.count z=ip C z from mD r C z]
 by_cases h:0<ip C z
 . rw[if_pos h,if_pos h];have l:=sR h;have k:(z-1).toNat<C.length:=by omega
   have e:=a.2.2.2 _ k;have d:(((z-1).toNat:Nat):Int)+1=z:=by omega
   rw[d,<-j z] at e
   have c:((ldS r C f).X.on z).pg=((f z).map Pv.pg).getD Pv.zero.pg:=by
    show((f z).getD Pv.zero).pg=_;cases f z<;>rfl
   rw[c,<-e];rfl
 . rw[if_neg h,if_neg h]
theorem uG(d:PVi r C g S)(a:PRi C g D):S.X.P.counts=D.C:=by
 obtain⟨f,rfl,_⟩:=d;rw[a.1];show(C.map λc=>(c,decide (0<c))).map Prod.fst=C
 rw[List.map_map];exact(List.map_congr_left (λ_ _=>rfl)).trans (List.map_id C)
theorem Ab{r:Int}{C:List Int}{g:Int->Option Pg}{S:Vs}(a:PVi r C g S)(z:Int):Sml (S.X.on z):=by
 obtain⟨f,rfl,_,c,_⟩:=a;show Sml ((f z).getD Pv.zero);cases e:f z with
 |none=>exact(kW (.inr rfl)).1
 |some q=>exact(kW (.inl (c z q e))).1
theorem Bw(m:PVi r C g S)(l:PRi C g D)(d:kD C g=false):rdR D=g:=by
 have y:=m;obtain⟨f,rfl,t,x,v⟩:=m;funext z
 unfold rdR;rw[l.count z];by_cases h:0<ip C z
 . rw[if_pos h];have i:=sR h;have n:(z-1).toNat<C.length:=by omega
   have e:=l.2.2.2 _ n;have j:(((z-1).toNat:Nat):Int)+1=z:=by omega
   rw[j] at e
   have s:(g z).isNone=false:=by
    unfold kD at d;rw[fb] at d;have k:=d (z-1).toNat (dv.2 n);rw[j] at k
    have a:0<C.getD (z-1).toNat 0:=by
     have c:=h;unfold ip at c;rw[if_pos i] at c;exact c
    rw[au a,gz] at k;exact Bool.eq_false_iff.2 k
   cases a:g z with
   |none=>rw[a] at s;cases s
   |some p=>
    rw[a] at e;show some (D.on z).pg=_;exact bf some e
 . rw[if_neg h];cases a:g z with
   |none=>rfl
   |some p=>
    exfalso;apply h;apply v z;have:=t z;rw[a] at this;cases i:f z with
    |none=>rw[i] at this;cases this
    |some q=>rfl
theorem BY{r:Int}{C:List Int}{g:Int->Option Pg}{S:Vs}(a:PVi r C g S):ix g:=λn p h=>by
 obtain⟨f,rfl,d,c,_⟩:=a;have e:=d n;rw[h] at e;cases hz:f n with
 |none=>rw[hz] at e;cases e
 |some q=>
  rw[hz] at e;have e:q.pg=p:=Option.some.inj e;rw[<-e];exact Pg.check_zero.1 (c n q hz)
theorem xt{l:List (Int×Pg)}(h:(iu r C l).1=0):kD C (iu r C l).2=false:=by
 unfold iu at h ⊢;split at h
 . cases h
 . rename_i d;rw[if_neg d];split at h
   . cases h
   . rename_i e;rw[if_neg e];split at h
     . rename_i a;exact absurd h a
     . rename_i a;rw[if_neg a];split at h
       . cases h
       . rename_i c;rw[if_neg c];simpa using c
theorem Vw.rdsx(h:Vw w b S pb mb pc col)(a:∀z,Sml (S.X.on z)):iZ 52 (.pointer (some ⟨b,0,none⟩)) (rdV S) (λk=>col k≠0) w:=λW hb z=>
 (h.but13 hb (λk hk e=>e hk)).reads a W (Below.refl _ _) z
theorem Vw.xlt(h:Vw w b S pb mb pc col):∀k,col k≠0->k<w.heap.size:=λk hk=>by
 by_cases a:k<w.heap.size
 . exact a
 . exact absurd (h.z (gF a)) hk
theorem Rn.hushed{W:World}(h:Rn w W rb D):Rn w (W.setCell ⟨rb,6,none⟩ (.bool true)) rb {D with hush:=true}:=by
 have bs:But (λk=>k=rb) W (W.setCell ⟨rb,6,none⟩ (.bool true)):=(But.refl (λk=>k=rb) W).setCell (p:=⟨rb,6,none⟩) (λ_=>rfl) _
 have c:∀{e:TypeId}{sz:Nat}{a:Option Addr}{cap n:Nat}{C:List Value},e≠109->Q.Gw e sz W a cap n C->Q.Gw e sz (W.setCell ⟨rb,6,none⟩ (.bool true)) a cap n C:=λf d=>
  d.but bs (λy l e=>by obtain⟨m,i⟩:=d.blk l;exact iP i h.box f e)
 refine⟨?_,c (by decide) h.cr,c (by decide) h.lr,c (by decide) h.pr,λp j=>(h.pn p j).but bs (λk e=>⟨109,D.box,by rw[e];exact h.box,by decide,by decide⟩),h.ps,h.nb,h.nC,h.nl,h.np,?_⟩
 . rw[aS _ _ _ _ _ _ h.box];rfl
 . exact((But.ofBelow (S:=λk=>k=rb) h.b).trans bs (λ_ _ e=>e)).below (λk hk e=>by have:=h.nb;omega)
end Go.Proofs.YteaogidofpfmmaaGreat
namespace Go.Proofs.YteaogidofpfmmaaGreat
open Go.Proofs.Tryz
section
open Go.ChangeShapes Go.WideShapes Go.ChangeAt Go.RowKit
theorem sL:prog.cellsOf 89=4:=by kernel_rfl
theorem xM:prog.cellsOf 75=1:=by kernel_rfl
theorem sy:prog.cellsOf 77=5:=by kernel_rfl
theorem tS:prog.cellsOf 91=6:=by kernel_rfl
theorem zT:prog.cellsOf 22=1:=by kernel_rfl
theorem zE:prog.cellsOf 23=1:=by kernel_rfl
theorem oM{H:Type}{enc:TypeId×Value->H}{P:Program}{w:World}{e:Nat}{g:Nat->Bool}{f:Bool}{t:TypeId}{a b c d:Field}{s:Nat}{cs:List Value}{x:DataW H×List MemPlace}(q:P.underlying t=some (.struct #[a,b,c,d]))(h:DataW.trod enc P w e g f s t cs=some x):
 ∃j k l m n,x.1=.agg [j.1,k.1,l.1,m.1]/\cs.length=P.cellsOf t/\DataW.trod enc P w e g f n a.type ((cs.drop a.offset).take (P.cellsOf a.type))=some j/\DataW.trod enc P w e g f n b.type ((cs.drop b.offset).take (P.cellsOf b.type))=some k/\DataW.trod enc P w e g f n c.type ((cs.drop c.offset).take (P.cellsOf c.type))=some l/\DataW.trod enc P w e g f n d.type ((cs.drop d.offset).take (P.cellsOf d.type))=some m:=by
 obtain⟨r,n,_,rfl,p,v,i⟩:=DataW.trod_struct q h;match r,v with
 | [j,k,l,m],_=>exact⟨j,k,l,m,n,by simp,p,by simpa using i 0 a rfl,by simpa using i 1 b rfl,by simpa using i 2 c rfl,by simpa using i 3 d rfl⟩
theorem DL{α:Type}{l:List α}(h:l.length=4):∃c0 c1 c2 c3,l=[c0,c1,c2,c3]:=by
 match l,h with
 | [c0,c1,c2,c3],_=>exact⟨c0,c1,c2,c3,rfl⟩
theorem uW{H:Type}{enc:TypeId×Value->H}{P:Program}{w:World}{a:Nat}{c:Nat->Bool}{b:Bool}{t:TypeId}{d e f g i:Field}{y:Nat}{cs:List Value}{x:DataW H×List MemPlace}(s:P.underlying t=some (.struct #[d,e,f,g,i]))(h:DataW.trod enc P w a c b y t cs=some x):
 ∃k l m p q n,x.1=.agg [k.1,l.1,m.1,p.1,q.1]/\cs.length=P.cellsOf t/\DataW.trod enc P w a c b n d.type ((cs.drop d.offset).take (P.cellsOf d.type))=some k/\DataW.trod enc P w a c b n e.type ((cs.drop e.offset).take (P.cellsOf e.type))=some l/\DataW.trod enc P w a c b n f.type ((cs.drop f.offset).take (P.cellsOf f.type))=some m/\DataW.trod enc P w a c b n g.type ((cs.drop g.offset).take (P.cellsOf g.type))=some p/\DataW.trod enc P w a c b n i.type ((cs.drop i.offset).take (P.cellsOf i.type))=some q:=by
 obtain⟨v,n,_,rfl,r,A,j⟩:=DataW.trod_struct s h;match v,A with
 | [k,l,m,p,q],_=>exact⟨k,l,m,p,q,n,by simp,r,by simpa using j 0 d rfl,by simpa using j 1 e rfl,by simpa using j 2 f rfl,by simpa using j 3 g rfl,by simpa using j 4 i rfl⟩
theorem Gg{α:Type}{l:List α}(h:l.length=5):∃c0 c1 c2 c3 a,l=[c0,c1,c2,c3,a]:=by
 match l,h with
 | [c0,c1,c2,c3,a],_=>exact⟨c0,c1,c2,c3,a,rfl⟩
theorem vg{H:Type}{enc:TypeId×Value->H}{P:Program}{w:World}{e:Nat}{g:Nat->Bool}{f:Bool}{t:TypeId}{a b:Field}{m:Nat}{cs:List Value}{x:DataW H×List MemPlace}(k:P.underlying t=some (.struct #[a,b]))(h:DataW.trod enc P w e g f m t cs=some x):
 ∃c d n,x.1=.agg [c.1,d.1]/\cs.length=P.cellsOf t/\DataW.trod enc P w e g f n a.type ((cs.drop a.offset).take (P.cellsOf a.type))=some c/\DataW.trod enc P w e g f n b.type ((cs.drop b.offset).take (P.cellsOf b.type))=some d:=by
 obtain⟨l,n,_,rfl,j,p,i⟩:=DataW.trod_struct k h;match l,p with
 | [c,d],_=>exact⟨c,d,n,by simp,j,by simpa using i 0 a rfl,by simpa using i 1 b rfl⟩
theorem Gd{α:Type}{l:List α}(h:l.length=6):∃c0 c1 c2 c3 a b,l=[c0,c1,c2,c3,a,b]:=by
 match l,h with
 | [c0,c1,c2,c3,a,b],_=>exact⟨c0,c1,c2,c3,a,b,rfl⟩
theorem uZ{H:Type}{enc:TypeId×Value->H}{P:Program}{w:World}{g:Nat}{j:Nat->Bool}{i:Bool}{t:TypeId}{a b c:Field}{q:Nat}{cs:List Value}{x:DataW H×List MemPlace}(m:P.underlying t=some (.struct #[a,b,c]))(h:DataW.trod enc P w g j i q t cs=some x):
 ∃d e f n,x.1=.agg [d.1,e.1,f.1]/\cs.length=P.cellsOf t/\DataW.trod enc P w g j i n a.type ((cs.drop a.offset).take (P.cellsOf a.type))=some d/\DataW.trod enc P w g j i n b.type ((cs.drop b.offset).take (P.cellsOf b.type))=some e/\DataW.trod enc P w g j i n c.type ((cs.drop c.offset).take (P.cellsOf c.type))=some f:=by
 obtain⟨p,n,_,rfl,l,r,k⟩:=DataW.trod_struct m h;match p,r with
 | [d,e,f],_=>exact⟨d,e,f,n,by simp,l,by simpa using k 0 a rfl,by simpa using k 1 b rfl,by simpa using k 2 c rfl⟩
theorem DF{α:Type}{l:List α}(h:l.length=3):∃c0 c1 c2,l=[c0,c1,c2]:=by
 match l,h with
 | [c0,c1,c2],_=>exact⟨c0,c1,c2,rfl⟩
theorem sX:prog.cellsOf 34=3:=by kernel_rfl
theorem xu:prog.cellsOf 24=1:=by kernel_rfl
theorem AG:prog.cellsOf 26=4:=by kernel_rfl
end
def Tr.cs(t:Tr):List Value:=[.int .i64 t.root,.int .i64 t.height,.int .i64 t.items]
structure Img where
 r:Int
 aC:Option Addr
 cC:Nat
 C:List Int
 aN:Option Addr
 cN:Nat
 N:List (Int×Pv)
 aT:Option Addr
 cT:Nat
 T:List Tr
def Img.cs(x:Img):Array Value:=#[.int .i64 x.r,.slice x.aC x.C.length x.cC,.slice x.aN x.N.length x.cN,.slice x.aT x.T.length x.cT]
def Smi(p:Pv):Prop:=Sml p/\p.items.length<=1048576
section
open Go.ChangeShapes Go.WideShapes Go.ChangeAt Go.RowKit
variable {H:Type} {enc:TypeId×Value->H} {W:World} {fuel:Nat} {cs:List Value} {a:Option Addr} {len cap:Nat} {d:DataW H} {p:List MemPlace}
theorem kZ{α:Type}(z:α){t e:TypeId}{c:Nat}{E:α->List Value}{Y:α->Prop}(s:Nat)(P:prog.underlying t=some (.slice e))(K:prog.cellsOf e=c)(c0:0<c)(C:∀v,(E v).length=c)
 (O:∀(fuel:Nat)(cs:List Value)(d:DataW H)(p:List MemPlace),DataW.trod enc prog W 0 (λ_=>true) true fuel e cs=some (d,p)->Rows.uptoBulk d<=1048576->∃v,cs=E v/\s<=Rows.uptoBulk d/\Y v)
 (N:DataW.trod enc prog W 0 (λ_=>true) true fuel t cs=some (d,p)) (M:Rows.uptoBulk d<=1048576):
 ∃(a:Option Addr)(L:List α)(cap:Nat),cs=[.slice a L.length cap]/\L.length<=1048576/\s*L.length<=1048576/\L.length<=cap/\(∀v∈L,Y v)/\(L=[]\/∃b y,a=some ⟨b,y,none⟩/\∀r,r<L.length->∀k u,(E (L.getD r z))[k]?=some u->W.cell? ⟨b,y+r*c+k,none⟩=some u):=by
 rcases Deep.open_slice P N with⟨hcs,_⟩|⟨x,len,cap,m,n,D,Pl,hcs,_,hl,hm,hmm,q,hrows⟩
 . exact⟨none,[],0,hcs,an _,an _,ai _,by simp,.inl rfl⟩
 simp only[fN] at q;obtain⟨rfl,_⟩:=q;simp only[if_true] at hmm;subst hmm;simp only[Rows.uptoBulk] at M;have T:=pq ((List.range len).map D);rw[bu,List.length_range] at T
 have I:∀r,r<len->∃v:α,(∀k u,(E v)[k]?=some u->W.cell? ((x.add (r*c)).add k)=some u)/\s<=Rows.uptoBulk (D r)/\Y v:=by
  intro r f;obtain⟨cs,G,U⟩:=hrows r (by omega)
  have g:=tQ (show D r∈(List.range len).map D from bM.2 ⟨r,dv.2 f,rfl⟩)
  obtain⟨v,rfl,g⟩:=O _ _ _ _ U (by omega)
  rw[K] at G;obtain⟨_,_,S⟩:=World.cells?_some G;exact⟨v,λj u i=>(S j (by rw[<-C v];exact(bE.1 i).1)).trans i,g⟩
 have hb:∀l:List Nat,(∀r∈l,r<len)->s*l.length<=Rows.uptoBulkAll (l.map D):=λl=>by
  induction l with
  |nil=>exact λ_=>an _
  |cons r l ih=>
   intro h;obtain⟨_,_,g,_⟩:=I r (h r bC);have Z:=ih (λx q=>h x (bj _ q))
   simp only[bO,Rows.uptoBulkAll,a7,Nat.mul_add];omega
 have hb:=hb (List.range len) (λr f=>dv.1 f)
 rw[List.length_range] at hb;haveI:Inhabited α:=⟨z⟩;obtain⟨F,B⟩:=Deep.choose_lt I;have A:((List.range len).map F).length=len:=by simp
 refine⟨some x,(List.range len).map F,_,by rw[A];exact hcs,by omega,by rw[A];omega,by rw[A];exact hl,λv R=>?_,?_⟩
 . obtain⟨r,f,rfl⟩:=bM.1 R;exact(B r (dv.1 f)).2.2
 by_cases J:len=0
 . exact .inl (by simp[J])
 obtain⟨b,y,V⟩:=x
 have X:V=none:=by
  have g:=World.cell?_spot ((B 0 (by omega)).1 0 _ (ce (by rw[C];exact c0)))
  simpa[Addr.add] using g
 subst X;refine .inr ⟨b,y,rfl,λr f k u i=>?_⟩
 rw[A] at f;rw[show((List.range len).map F).getD r z=F r by simp[f]] at i
 have:=(B r f).1 k u i;rwa [Deep.add_add,Addr.add_mid,<-fM] at this
theorem ye(h:DataW.trod enc prog W 0 (λ_=>true) true fuel 89 cs=some (d,p))(x:Rows.uptoBulk d<=1048576):
 ∃r:Iv,cs=r.cs.toList/\1<=Rows.uptoBulk d/\Ii W r/\r.key.length<=140737488355264/\r.val.length<=140737488355264:=by
 obtain⟨b,c,K,L,n,A,y,j,k,l,m⟩:=oM underlying89 h;obtain⟨c0,c1,c2,c3,rfl⟩:=DL (y.trans sL);simp only[nN,kF,eB,ft,eR,fp] at j k l m;obtain⟨M,g,_,B⟩:=DataW.trod_int underlying3 l;obtain⟨N,i,_,C⟩:=DataW.trod_int underlying3 m;obtain rfl:d=.agg [b.1,c.1,K.1,L.1]:=A;simp only[Rows.uptoBulk,Rows.uptoBulkAll] at x ⊢;obtain⟨q,D,I,e,t,O,F,_⟩:=kB (d:=b.1) (p:=b.2) j (.inr (by omega))
 obtain⟨s,E,J,f,v,P,G,_⟩:=kB (d:=c.1) (p:=c.2) k (.inr (by omega))
 simp only[ep,d5] at e f g i;subst e f g i;exact⟨⟨q,I,D,s,J,E,M,N⟩,rfl,by omega,⟨t,F,v,G,n64 B,n64 C⟩,by dsimp only;omega,by dsimp only;omega⟩
theorem yA(h:DataW.trod enc prog W 0 (λ_=>true) true fuel 77 cs=some (d,p))(c:Rows.uptoBulk d<=1048576):
 ∃r:Pv,cs=r.cs.toList/\Pi W r/\Smi r:=by
 obtain⟨Z,n,g,i,y4,ab,M,I,t,x,y,A,B⟩:=uW underlying77 h;obtain⟨c0,c1,c2,c3,c4,rfl⟩:=Gg (I.trans sy);simp only[xM,nN,kF,eB,ft,eR,fp] at t x y A B;obtain⟨z0,k,_,N⟩:=DataW.trod_int underlying3 t;obtain⟨z1,l,_,O⟩:=DataW.trod_int underlying3 x;obtain⟨z4,s,_,P⟩:=DataW.trod_int underlying3 B;obtain rfl:d=.agg [Z.1,n.1,g.1,i.1,y4.1]:=M;simp only[Rows.uptoBulk,Rows.uptoBulkAll] at c;obtain⟨D,L,V,m,U,_,S,C,Y⟩:=kZ Iv.zero (E:=λv=>v.cs.toList) 1 underlying75 sL (by decide) (λ_=>rfl) (λ_ _ _ _ h c=>ye h c) (d:=g.1) (p:=g.2) y (by omega)
 obtain⟨F,R,X,q,G,n3,T,_⟩:=kB (d:=i.1) (p:=i.2) A (.inr (by omega))
 simp only[ep,d5] at k l m q s;subst k l m q s;exact⟨⟨z0,z1,D,V,L,F,X,R,z4⟩,rfl,⟨⟨λv f=>(C v f).1,by dsimp only;omega,Y.imp id λ⟨b,aa,e,h⟩=>⟨b,aa,e,λr J j u K=>h r J j u K⟩⟩,S,G,T,n64 N,n64 O,n64 P⟩,⟨by dsimp only;omega,λv f=>(C v f).2⟩,U⟩
theorem Ak{cs:List Value}(h:DataW.trod enc prog W 0 (λ_=>true) true fuel 91 cs=some (d,p))(k:Rows.uptoBulk d<=1048576):
 ∃x:Int×Pv,cs=nmc x/\3<=Rows.uptoBulk d/\(Pi W x.2/\N64 x.1)/\Smi x.2:=by
 obtain⟨g,b,n,r,l,e,f⟩:=vg underlying91 h;obtain⟨c0,c1,c2,c3,v,y,rfl⟩:=Gd (l.trans tS);simp only[sy,kF,eB,ft,eR,fp] at e f;obtain⟨t,c,_,s⟩:=DataW.trod_int underlying3 e;obtain rfl:d=.agg [g.1,b.1]:=r;have:=qn g.1;have:=qn b.1;simp only[Rows.uptoBulk,Rows.uptoBulkAll] at k ⊢;obtain⟨q,i,j,m⟩:=yA (d:=b.1) (p:=b.2) f (by omega)
 simp only[ep,d5] at c;subst c;exact⟨(t,q),by rw[i];rfl,by omega,⟨j,n64 s⟩,m⟩
theorem open_intsU(h:DataW.Trod enc prog W 0 (λ_=>true) true 22 (.slice a len cap) d p)(c:Rows.uptoBulk d<=1048576):
 ∃C:List Int,len=C.length/\Q.Ir W a C/\C.length<=1048576:=by
 obtain⟨fuel,f⟩:=h
 obtain⟨k,L,q,e,n,_,_,_,i⟩:=kZ 0 (E:=λz:Int=>[Value.int .i64 z]) (Y:=λ_=>True) 0 underlying22 kF (by decide) (λ_=>rfl) (λ_ _ _ _ h _=>by
  obtain⟨z,e,_⟩:=DataW.trod_int underlying3 h;exact⟨z,e,an _,trivial⟩) f c
 simp only[Value.cells,ep,d5,bT] at e;obtain⟨rfl,rfl,rfl⟩:=e;exact⟨L,rfl,i.imp id λ⟨b,j,e,h⟩=>⟨b,j,e,λr g=>by simpa using h r g 0 _ rfl⟩,n⟩
def Trs(w:World)(a:Option Addr)(L:List Tr):Prop:=∀j,j<L.length->∃g off,a=some ⟨g,off,none⟩/\∀k u,(L.getD j ⟨0,0,0⟩).cs[k]?=some u->w.cell? ⟨g,off+j*3+k,none⟩=some u
theorem Trs.keep{w f:World}{a:Option Addr}{L:List Tr}(h:Trs w a L)(hb:Below w.heap.size w f):Trs f a L:=λj l=>by
 obtain⟨g,i,e,b⟩:=h j l;exact⟨g,i,e,λk u c=>(hb.cell (p:=⟨g,i+j*3+k,none⟩) (block_lt_of_cell (b k u c))).trans (b k u c)⟩
theorem yr(h:DataW.trod enc prog W 0 (λ_=>true) true fuel 34 cs=some (d,p))(q:Rows.uptoBulk d<=1048576):
 ∃t:Tr,cs=t.cs/\0<=Rows.uptoBulk d/\True:=by
 obtain⟨y,A,B,n,r,j,f,g,i⟩:=uZ underlying34 h;obtain⟨c0,c1,c2,rfl⟩:=DF (j.trans sX);simp only[kF,eB,ft,eR,fp] at f g i;obtain⟨k,b,_,s⟩:=DataW.trod_int underlying3 f;obtain⟨l,c,_,v⟩:=DataW.trod_int underlying3 g;obtain⟨m,e,_,x⟩:=DataW.trod_int underlying3 i;simp only[ep,d5] at b c e;subst b c e;exact⟨⟨k,l,m⟩,rfl,an _,trivial⟩
structure Imi(w:World)(x:Img):Prop where
 c:Q.Ir w x.aC x.C
 n:Nm w x.aN x.N
 t:Trs w x.aT x.T
 nl:x.N.length<=1000000
 tl:x.T.length<=1048576
theorem Imi.keep{w b:World}{x:Img}(h:Imi w x)(hb:Below w.heap.size w b):Imi b x:=⟨h.c.keep hb,h.n.keep hb,h.t.keep hb,h.nl,h.tl⟩
theorem open_img{cs:Array Value}(h:DataW.Trod enc prog W 0 (λ_=>true) true 26 (.agg cs) d p)(f:Rows.uptoBulk d<=1048576):
 ∃x:Img,cs=x.cs/\Imi W x:=by
 obtain⟨fuel,L⟩:=h;obtain⟨U,q,s,t,n,m,c,i,j,k,l⟩:=oM underlying26 L;obtain⟨c0,c1,c2,c3,C⟩:=DL (c.trans AG);rw[C] at i j k l;simp only[zT,kF,zE,xu,eB,ft,eR,fp] at i j k l;obtain⟨V,v,_,Z⟩:=DataW.trod_int underlying3 i;obtain rfl:d=.agg [U.1,q.1,s.1,t.1]:=m;simp only[Rows.uptoBulk,Rows.uptoBulkAll] at f
 obtain⟨I,D,N,y,n1,_,_,_,R⟩:=kZ 0 (E:=λz:Int=>[Value.int .i64 z]) (Y:=λ_=>True) 0 underlying22 kF (by decide) (λ_=>rfl) (λ_ _ _ _ h _=>by
  obtain⟨z,e,_⟩:=DataW.trod_int underlying3 h;exact⟨z,e,an _,trivial⟩) (d:=q.1) (p:=q.2) j (by omega)
 obtain⟨J,F,O,A,_,n2,_,X,S⟩:=kZ nm0 (E:=nmc) 3 underlying23 tS (by decide) (λ_=>rfl) (λ_ _ _ _ h f=>Ak h f) (d:=s.1) (p:=s.2) k (by omega)
 obtain⟨K,G,P,B,M,_,_,_,T⟩:=kZ (⟨0,0,0⟩:Tr) (E:=Tr.cs) (Y:=λ_=>True) 0 underlying24 sX (by decide) (λ_=>rfl) (λ_ _ _ _ h f=>yr h f) (d:=t.1) (p:=t.2) l (by omega)
 simp only[ep,d5] at v y A B;subst v y A B;refine⟨⟨V,I,N,D,J,O,F,K,P,G⟩,Array.ext' (by show cs.toList=[_,_,_,_];simpa[Value.cells] using C),⟨?_,⟨λr c=>?_,λx m=>(X x m).1⟩,λr c=>?_,by dsimp only;omega,M⟩⟩
 . exact R.imp id λ⟨b,g,e,h⟩=>⟨b,g,e,λr c=>by simpa using h r c 0 _ rfl⟩
 . rcases S with rfl|⟨b,g,e,h⟩
   . exact absurd c (dz _)
   exact⟨b,g,e,h r c⟩
 . rcases T with rfl|⟨b,g,e,h⟩
   . exact absurd c (dz _)
   exact⟨b,g,e,h r c⟩
end
end Go.Proofs.YteaogidofpfmmaaGreat
