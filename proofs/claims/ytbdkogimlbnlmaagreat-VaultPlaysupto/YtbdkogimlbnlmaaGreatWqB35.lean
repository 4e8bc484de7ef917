import Derived.Test.YtbdkogimlbnlmaaGreatWqB34
set_option linter.unusedVariables false
set_option linter.unusedSimpArgs false
set_option maxHeartbeats 32000000
set_option maxRecDepth 8000
namespace Go.Proofs.YtbdkogimlbnlmaaGreat
open Go.RowKit
theorem yW(v w:World)(wb b rb:Nat)(col colR:Nat->Nat)(vw:Value)(K:Bkk)(h:Bo v w wb b rb col colR vw K)(he:K.T.map Pv.pg=K.X.map Pv.pg)(h4:K.T.length<=40)(hs:∀p∈K.T,Smi p):
 Calls Tryz.prog 61 #[.pointer (some ⟨wb,0,none⟩)] w λe w'=>e=.returned (.bool true)/\But (kE wb K) w w':=by
 obtain⟨t,ht⟩:∃t,K.T.length=t:=⟨_,rfl⟩;have HT:=gZ ht
 have HX:Hid (K.X.length=t):=by
  have e:=aY List.length he;rw[a7,a7] at e;show _=t;omega
 have HE:=gZ he;have HS:=gZ hs;have HB:=gZ h;rw[ht] at h4;clear ht he hs h;have B0:=gZ (Bj.start HB.o);go_enter Tryz.func61,Tryz.ntmps61;go_wp2_with fail
 go_loopw [3,4] (λvl vi wx=>∃(i:Nat)(R:List Pv)(a3:Option Addr)(c3:Nat),i<=t/\vi=.int .i64 (i:Int)/\vl=.slice a3 (iB (K.T.take i)).length c3/\Bj v w wx wb b rb col colR vw K i i R a3 c3 (iB (K.T.take i))) (λ_ vi _=>t-(intOf vi).toNat)
 case atStart=>exact⟨0,K.T,none,0,aF _,rfl,rfl,B0.o⟩
 case round=>
  obtain⟨i,R,a3,c3,hi,rfl,rfl,hbj⟩:=hrel;have BJ:=gZ hbj;clear hbj B0;by_cases hlt:i<t
  . have hiI:(i:Int)<(t:Int):=by omega
    obtain⟨p,hp⟩:∃p,K.T[i]?=some p:=⟨_,aS (by rw[HT.o];exact hlt)⟩
    obtain⟨x,hx⟩:∃x,K.X[i]?=some x:=⟨_,aS (by rw[HX.o];exact hlt)⟩
    have HPI:=gZ hp;have HXI:=gZ hx
    have EPX:Hid (p.pg=x.pg):=by
     have e:(K.T.map Pv.pg)[i]?=(K.X.map Pv.pg)[i]?:=by rw[HE.o]
     rw[df,df,hp,hx] at e;have e2:p.pg=x.pg:=by simpa using e
     exact e2
    have HRI:Hid (R[i]?=some p):=(BJ.o.hi i (ai _)).trans hp;obtain⟨gT,eT,_⟩:=j6 BJ.o.gt rfl HRI.o;obtain⟨gX,eX,_⟩:=j6 BJ.o.gx rfl hx;have ET:=gZ eT;have EX:=gZ eX
    have SS:Hid (∀V:World,Below wr.heap.size wr V->V.cell? ⟨wb,3,none⟩=some (.slice (some ⟨gT,0,none⟩) t K.cT)/\V.cell? ⟨wb,4,none⟩=some (.slice (some ⟨gX,0,none⟩) t K.cX)/\V.cell? ⟨gT,i*5,none⟩=some (.int .i64 p.kind)/\V.cell? ⟨gT,i*5+1,none⟩=some (.int .i64 p.level)/\V.cell? ⟨gT,i*5+2,none⟩=some (.slice p.aI p.items.length p.cI)/\V.cell? ⟨gT,i*5+3,none⟩=some (.slice p.aD p.data.length p.cD)/\V.cell? ⟨gT,i*5+4,none⟩=some (.int .i64 p.next)/\V.cell? ⟨gX,i*5,none⟩=some (.int .i64 x.kind)/\V.cell? ⟨gX,i*5+1,none⟩=some (.int .i64 x.level)/\V.cell? ⟨gX,i*5+2,none⟩=some (.slice x.aI x.items.length x.cI)/\V.cell? ⟨gX,i*5+3,none⟩=some (.slice x.aD x.data.length x.cD)/\V.cell? ⟨gX,i*5+4,none⟩=some (.int .i64 x.next)):=λV hb=>by
     obtain⟨-,-,-,c3',c4'⟩:=ij (BJ.o.keep hb).box;rw[HT.o,ET.o] at c3';rw[HX.o,EX.o] at c4';obtain⟨g',e1,e2⟩:=j6 (BJ.o.keep hb).gt rfl HRI.o;rw[ET.o] at e1;cases e1;obtain⟨g',e1,e3⟩:=j6 (BJ.o.keep hb).gx rfl HXI.o;rw[EX.o] at e1;cases e1;exact⟨c3',c4',e2.1,e2.2.1,e2.2.2.1,e2.2.2.2.1,e2.2.2.2.2,e3⟩
    have EQ:=gZ λ(V:World)(hb:Below wr.heap.size wr V)=>lN V p x ((BJ.o.keep hb).tp i p (ai _) HPI.o).pi ((BJ.o.keep hb).xp x (cE HXI.o)).pi EPX.o
    unfold Pv.vl at EQ;simp only[Pv.cs] at EQ;have wi3:IntKind.i64.wrap (-3-(i:Int))= -3-(i:Int):=im (by omega) (by omega)
    obtain⟨c3',c4',_⟩:=SS.o _ (Below.refl _ _);clear hp hx eT eX;go_upto_region 5 with fail
    clear c3' c4';have DR:=gZ (dr2 wr);refine wrd SS DR.o λhHeld=>?_
    refine tkd 0 1 2 3 ?_;refine tkd 4 5 6 7 ?_;refine tkd 8 9 10 11 ?_;refine tkb 12 13 ?_;refine tw 14 λKx hK=>?_
    go_simp;refine(EQ.o _ DR.o).mono ?_;rintro _ w5 ⟨rfl,hb5⟩;have B5:=gZ (bt DR.o hb5);have B5L:Hid (∀y,a3=some y->y.block<w5.heap.size):=λy hy=>(BJ.o.keep B5.o).ar.lt hy
    clear hb5;go_wp2_with fail
    refine hK.o _ _ (SS.o _ B5.o) (λhHeld=>?_)
    refine tk 15 ?_;refine td ?_;clear hHeld EQ;have BJ:Hid (Bj v w w5 wb b rb col colR vw K i i R a3 c3 (iB (K.T.take i))):=BJ.o.keep B5.o;obtain⟨n,hn⟩:∃n,p.items.length=n:=⟨_,rfl⟩;have HNI:=gZ hn;have hnb:n<=1048576:=by rw[<-hn];exact(HS.o p (cE HPI.o)).2
    obtain⟨c3',c4',t0,t1,t2,t3,t4,_⟩:=SS.o _ B5.o;have LP:=gZ (qr w5 p (BJ.o.tp i p (ai _) HPI.o).pi.it (by rw[hn];exact hnb))
    unfold Pv.vl at LP;simp only[Pv.cs] at LP;clear SS;rw[hn] at LP t2;go_wp2_with fail
    refine LP.o.mono ?_;rintro _ w6 ⟨g1,c1,rfl,hax⟩;have BJ:=gZ (BJ.o.keep hax.b);obtain⟨rn,hrn⟩:∃rn,1+2*n=rn:=⟨_,rfl⟩;have RN:Hid ((rp p).length=rn):=by show _=_;rw[vJ,hn,hrn]
    have hrb:rn<=2097153:=by omega
    have O1:Hid (Q.Gw 29 1 w6 (some ⟨g1,0,none⟩) c1 rn ((rp p).map bv)):=by
     have e:=hax.r;have el:((rp p).map bv).length=rn:=by rw[a7];exact RN.o
     have e:Q.Gw 29 1 w6 (some ⟨g1,0,none⟩) c1 ((rp p).map bv).length ((rp p).map bv):=e;rw[el] at e;exact e
    have NE1:Hid (∀y,a3=some y->y.block≠g1):=λy hy=>by
     have l:=B5L.o y hy;rcases hax.n ⟨g1,0,none⟩ rfl with⟨z,hz,_⟩|e
     . cases hz
     . have e:w5.heap.size<=g1:=e;omega
    obtain⟨m0,hm0⟩:∃m0,(iB (K.T.take i)).length=m0:=⟨_,rfl⟩;have M0:=gZ hm0
    have hm0b:m0<=83886120:=by
     have e:=nQ (K.T.take i) (λq hq=>(HS.o q (fp hq)).2)
     rw[bh] at e;have:=HT.o;have:min i K.T.length<=40:=by omega
     rw[hm0] at e;have:=dw 2097153 this;omega
    simp only[hrn,hm0];clear hax LP t0 t1 t2 t3 t4 c3' c4' hn hrn hm0 DR;go_wp2_with fail
    go_loopw [3,6] (λvl vk wx=>∃(k:Nat)(a3:Option Addr)(c3:Nat),k<=rn/\vk=.int .i64 (k:Int)/\vl=.slice a3 (m0+k) c3/\Bj v w wx wb b rb col colR vw K i i R a3 c3 (iB (K.T.take i)++(rp p).take k)/\Q.Gw 29 1 wx (some ⟨g1,0,none⟩) c1 rn ((rp p).map bv)/\(∀y,a3=some y->y.block≠g1)) (λ_ vk _=>rn-(intOf vk).toNat)
    case atStart=>exact⟨0,a3,c3,aF _,rfl,rfl,by rw[fK,bZ];exact BJ.o,O1.o,NE1.o⟩
    case round=>
     obtain⟨k,a3,c3,hk,rfl,rfl,hbj,ho,hne⟩:=hrel;have BK:=gZ hbj;have OK:=gZ ho;have NE:=gZ hne;clear hbj ho hne BJ O1 NE1;by_cases hkl:k<rn
     . have hkI:(k:Int)<(rn:Int):=by omega
       obtain⟨tb,htb⟩:∃tb,(rp p)[k]?=some tb:=⟨_,aS (by rw[RN.o];exact hkl)⟩
       have ck:wr.cell? ⟨g1,k,none⟩=some (.slice tb.a tb.l.length tb.c):=OK.o.cell (by rw[df,htb];rfl)
       have ML1:Hid ((iB (K.T.take i)++(rp p).take k).length=m0+k):=by
        show _=_;rw[ae,M0.o,bh,RN.o,cY (by omega)]
       have TS:Hid ((rp p).take (k+1)=(rp p).take k++[tb]):=by show _=_;rw[gz,htb];rfl
       have A2:=gZ (al wr (.cells #[.slice tb.a tb.l.length tb.c] 29));have X2:=gZ (aH wr (.cells #[.slice tb.a tb.l.length tb.c] 29))
       have G2:Hid (Q.Gw 29 1 (wr.alloc (.cells #[.slice tb.a tb.l.length tb.c] 29)) a3 c3 (m0+k) ((iB (K.T.take i)++(rp p).take k).map bv)):=by
        have e:=BK.o.ar.keep A2.o;rw[ML1.o] at e;exact e
       have hmm:m0+k+1<=maxLen:=by unfold maxLen;omega
       obtain⟨vs,hvs⟩:∃vs,(iB (K.T.take i)++(rp p).take k).map bv=vs:=⟨_,rfl⟩;have VS:=gZ hvs;rw[hvs] at G2;clear htb hvs;go_wp2_with (at_builtin;refine jn Tryz.underlying76 nH rfl (by decide) rfl _ _ rfl a3 (m0+k) c3 vs rfl G2.o ⟨wr.heap.size,0,none⟩ 1 [.slice tb.a tb.l.length tb.c] rfl rfl (ra X2.o) (λu hu=>by rw[aQ.1 hu];rfl) hmm (by omega) ?_)
       intro g5 c5 w5 hG hN hB
       have NB:Hid (Bj v w w5 wb b rb col colR vw K i i R (some ⟨g5,0,none⟩) c5 (iB (K.T.take i)++(rp p).take (k+1))):=by
        have e:=BK.o.row A2.o hB (x:=tb) (by rw[ML1.o,VS.o];exact hG) hN
        rw[aM,<-TS.o] at e;exact e
       have lg1:g1<wr.heap.size:=OK.o.lt rfl;have NO:Hid (Q.Gw 29 1 w5 (some ⟨g1,0,none⟩) c1 rn ((rp p).map bv)):=(OK.o.keep A2.o).but hB (λy hy ⟨z,hz,e⟩=>by cases hy;exact NE.o z hz e)
       have NG:Hid (∀y,(some ⟨g5,0,none⟩:Option Addr)=some y->y.block≠g1):=λy hy=>by
        cases hy;rcases hN ⟨g5,0,none⟩ rfl with⟨z,hz,e⟩|e
        . intro e2;exact NE.o z hz (e.trans e2)
        . have e:(wr.alloc (.cells #[.slice tb.a tb.l.length tb.c] 29)).heap.size<=g5:=e;have:=A2.o.size;show g5≠g1;omega
       clear hG hN hB lg1 G2 X2 A2 ck;go_wp2_with fail
       go_roundw
       case rel=>exact⟨k+1,some ⟨g5,0,none⟩,c5,by omega,by go_num,by rw[eE],NB.o,NO.o,NG.o⟩
       case measure=>simp[intOf];omega
     . obtain rfl:k=rn:=by omega
       have BJ:Hid (Bj v w wr wb b rb col colR vw K i i R a3 c3 (iB (K.T.take i)++rp p)):=by
        have e:=BK.o;rw[da (l:=rp p) (by rw[RN.o];exact ai _)] at e
        exact e
       have ML:Hid ((iB (K.T.take i)++rp p).length=m0+k):=by show _=_;rw[ae,M0.o,RN.o]
       have MS:Hid (iB (K.T.take (i+1))=iB (K.T.take i)++rp p):=uM HPI.o;clear BK OK NE;generalize wr=w7 at *;go_wp2_with fail
       go_loopw [7] (λvk wx=>∃(k:Nat)(L:List Iv),k<=n/\vk=.int .i64 (k:Int)/\L.length=n/\Jw wx p.aI p.cI L/\(∀j,j<k->(L.getD j Iv.zero).child= -3-(i:Int))/\Bj v w wx wb b rb col colR vw K i (i+1) R a3 c3 (iB (K.T.take i)++rp p)) (λvk _=>n-(intOf vk).toNat)
       case atStart=>exact⟨0,p.items,aF _,rfl,HNI.o,(BJ.o.tp i p (ai _) HPI.o).n.it,λj hj=>absurd hj (dH _),BJ.o.less⟩
       case round=>
        obtain⟨k,L,hk,rfl,hll,hjl,hch,hbl⟩:=hrel;have LL:=gZ hll;have JL:=gZ hjl;have CH:=gZ hch;have BL:=gZ hbl;clear hll hjl hch hbl BJ;have c3':=(ij BL.o.box).2.2.2.1;rw[HT.o,ET.o] at c3'
        have r2:wr.cell? ⟨gT,i*5+2,none⟩=some (.slice p.aI n p.cI):=by
         obtain⟨g',e1,_,_,e2,_⟩:=j6 BL.o.gt rfl HRI.o;rw[ET.o] at e1;cases e1;rw[HNI.o] at e2;exact e2
        by_cases hkl:k<n
        . have hkI:(k:Int)<(n:Int):=by omega
          obtain⟨gi,egi⟩:∃gi,p.aI=some ⟨gi,0,none⟩:=by
           obtain⟨gi,e,_⟩:=JL.o.addr (by rw[LL.o];omega)
           exact⟨gi,e⟩
          have JG:=gZ JL.o;rw[egi] at JG r2;obtain⟨⟨p0,p1,p2,p3⟩,f0,f1,f2,f3⟩:=JG.o.item4 (k:=k) (by rw[LL.o];exact hkl)
          have bsc:=iV gi (iR i).cs.toList wr (k*4)
          have NJ:Hid (Jw ((((wr.setCell ⟨gi,k*4,none⟩ (.slice none 0 0)).setCell ⟨gi,k*4+1,none⟩ (.slice none 0 0)).setCell ⟨gi,k*4+2,none⟩ (.int .i64 (-3-(i:Int)))).setCell ⟨gi,k*4+3,none⟩ (.int .i64 0)) p.aI p.cI (L.set k (iR i))):=by
           have e:=JG.o.setv k (iR i);rw[<-egi] at e;exact e
          have NB:Hid (Bj v w ((((wr.setCell ⟨gi,k*4,none⟩ (.slice none 0 0)).setCell ⟨gi,k*4+1,none⟩ (.slice none 0 0)).setCell ⟨gi,k*4+2,none⟩ (.int .i64 (-3-(i:Int)))).setCell ⟨gi,k*4+3,none⟩ (.int .i64 0)) wb b rb col colR vw K i (i+1) R a3 c3 (iB (K.T.take i)++rp p)):=BL.o.items HB.o HPI.o JL.o (bsc.mono (λj _ e=>⟨_,egi,e.symm⟩))
          clear bsc;go_wp2_with fail
          generalize (((wr.setCell ⟨gi,k*4,none⟩ (.slice none 0 0)).setCell ⟨gi,k*4+1,none⟩ (.slice none 0 0)).setCell ⟨gi,k*4+2,none⟩ (.int .i64 (-3-(i:Int)))).setCell ⟨gi,k*4+3,none⟩ (.int .i64 0)=wn at *;go_roundw
          case rel=>exact⟨k+1,L.set k (iR i),by omega,by go_num,by rw[aO];exact LL.o,NJ.o,λj hj=>by
           simp only[aq];by_cases e:k=j
           . subst e;rw[dF (by rw[LL.o];exact hkl)]
             rfl
           . rw[bT e];have:=CH.o j (by omega)
             simp only[aq] at this;exact this,NB.o⟩
          case measure=>simp[intOf];omega
        . obtain rfl:k=n:=by omega
          go_upto_region 16 with fail
          clear c3' r2;have hml3:k+3<=maxLen:=by unfold maxLen;omega
          have A8:=gZ (dr2 wr)
          have SS:Hid (∀V:World,Below wr.heap.size wr V->V.cell? ⟨wb,3,none⟩=some (.slice (some ⟨gT,0,none⟩) t K.cT)):=λV hb=>by
           have c:=(ij (BL.o.keep hb).box).2.2.2.1;rw[HT.o,ET.o] at c;exact c
          have RC:Hid (∀V:World,Below wr.heap.size wr V->V.cell? ⟨gT,i*5+2,none⟩=some (.slice p.aI k p.cI)):=λV hb=>by
           obtain⟨g',e1,_,_,e2,_⟩:=j6 (BL.o.keep hb).gt rfl HRI.o;rw[ET.o] at e1;cases e1;rw[HNI.o] at e2;exact e2
          generalize hw8:wr=w8 at *;clear hw8;refine wrd SS A8.o λhHeld=>?_
          refine tkd 0 1 2 3 ?_;refine tkd 4 5 6 7 ?_;refine tkd 8 9 10 11 ?_;refine tkd 13 14 15 16 ?_;refine tkd 17 18 19 20 ?_;refine tk 21 ?_;refine eu (rs:=[12,22]) (by kernel_rfl) (by simp) ?_
          refine(AllReadyH.cons rfl (λKx hK=>?_) (AllReadyH.cons rfl (λKx hK=>?_) AllReadyH.nil))
          all_goals
           first
           |have rcx:=RC.o _ A8.o
            go_simp;clear rcx;refine hK.o _ _ (SS.o _ A8.o) (λhHeld=>?_)
            refine tw 22 λKx hK=>?_
            go_simp;have A4:=gZ (bt (al w8 (.cells #[.slice none 0 0,.slice none 0 0,.int .i64 (-3-(i:Int)),.int .i64 0,.slice none 0 0,.slice none 0 0,.int .i64 (-3-(i:Int)),.int .i64 0,.slice none 0 0,.slice none 0 0,.int .i64 (-3-(i:Int)),.int .i64 0] 51)) (dr2 (w8.alloc (.cells #[.slice none 0 0,.slice none 0 0,.int .i64 (-3-(i:Int)),.int .i64 0,.slice none 0 0,.slice none 0 0,.int .i64 (-3-(i:Int)),.int .i64 0,.slice none 0 0,.slice none 0 0,.int .i64 (-3-(i:Int)),.int .i64 0] 51))));have X4:Hid ((w8.alloc (.cells #[.slice none 0 0,.slice none 0 0,.int .i64 (-3-(i:Int)),.int .i64 0,.slice none 0 0,.slice none 0 0,.int .i64 (-3-(i:Int)),.int .i64 0,.slice none 0 0,.slice none 0 0,.int .i64 (-3-(i:Int)),.int .i64 0] 51)).drew.heap[w8.heap.size]?=some (.cells #[.slice none 0 0,.slice none 0 0,.int .i64 (-3-(i:Int)),.int .i64 0,.slice none 0 0,.slice none 0 0,.int .i64 (-3-(i:Int)),.int .i64 0,.slice none 0 0,.slice none 0 0,.int .i64 (-3-(i:Int)),.int .i64 0] 51 (0,0))):=aH w8 (.cells #[.slice none 0 0,.slice none 0 0,.int .i64 (-3-(i:Int)),.int .i64 0,.slice none 0 0,.slice none 0 0,.int .i64 (-3-(i:Int)),.int .i64 0,.slice none 0 0,.slice none 0 0,.int .i64 (-3-(i:Int)),.int .i64 0] 51);refine hK.o _ _ (SS.o _ A4.o) (λhHeld=>?_)
            try simp only[pt]
            generalize (w8.alloc (.cells #[.slice none 0 0,.slice none 0 0,.int .i64 (-3-(i:Int)),.int .i64 0,.slice none 0 0,.slice none 0 0,.int .i64 (-3-(i:Int)),.int .i64 0,.slice none 0 0,.slice none 0 0,.int .i64 (-3-(i:Int)),.int .i64 0] 51)).drew=w9 at*
           |go_simp
            have A4:=gZ (bt (al w8 (.cells #[.slice none 0 0,.slice none 0 0,.int .i64 (-3-(i:Int)),.int .i64 0,.slice none 0 0,.slice none 0 0,.int .i64 (-3-(i:Int)),.int .i64 0,.slice none 0 0,.slice none 0 0,.int .i64 (-3-(i:Int)),.int .i64 0] 51)) (dr2 (w8.alloc (.cells #[.slice none 0 0,.slice none 0 0,.int .i64 (-3-(i:Int)),.int .i64 0,.slice none 0 0,.slice none 0 0,.int .i64 (-3-(i:Int)),.int .i64 0,.slice none 0 0,.slice none 0 0,.int .i64 (-3-(i:Int)),.int .i64 0] 51))));have X4:Hid ((w8.alloc (.cells #[.slice none 0 0,.slice none 0 0,.int .i64 (-3-(i:Int)),.int .i64 0,.slice none 0 0,.slice none 0 0,.int .i64 (-3-(i:Int)),.int .i64 0,.slice none 0 0,.slice none 0 0,.int .i64 (-3-(i:Int)),.int .i64 0] 51)).drew.heap[w8.heap.size]?=some (.cells #[.slice none 0 0,.slice none 0 0,.int .i64 (-3-(i:Int)),.int .i64 0,.slice none 0 0,.slice none 0 0,.int .i64 (-3-(i:Int)),.int .i64 0,.slice none 0 0,.slice none 0 0,.int .i64 (-3-(i:Int)),.int .i64 0] 51 (0,0))):=aH w8 (.cells #[.slice none 0 0,.slice none 0 0,.int .i64 (-3-(i:Int)),.int .i64 0,.slice none 0 0,.slice none 0 0,.int .i64 (-3-(i:Int)),.int .i64 0,.slice none 0 0,.slice none 0 0,.int .i64 (-3-(i:Int)),.int .i64 0] 51);refine hK.o _ _ (SS.o _ A4.o) (λhHeld=>?_)
            try simp only[pt]
            generalize (w8.alloc (.cells #[.slice none 0 0,.slice none 0 0,.int .i64 (-3-(i:Int)),.int .i64 0,.slice none 0 0,.slice none 0 0,.int .i64 (-3-(i:Int)),.int .i64 0,.slice none 0 0,.slice none 0 0,.int .i64 (-3-(i:Int)),.int .i64 0] 51)).drew=w9 at *;refine tw 12 λKx hK=>?_
            have rcx:=RC.o _ A4.o;go_simp;clear rcx;refine hK.o _ _ (SS.o _ A4.o) (λhHeld=>?_)
            try simp only[pt]
           obtain⟨gs,hgs⟩:∃gs,w8.heap.size=gs:=⟨_,rfl⟩;simp only[hgs] at X4;try simp only[hgs]
           clear hgs;have G4:Hid (Q.Gw 51 4 w9 p.aI p.cI k (Jc L)):=by have e:=qc (JL.o.keep A4.o);rw[LL.o] at e;exact e
           have FIN:Hid (∀(g5 c5:Nat)(w5:World),Q.Gw 51 4 w5 (some ⟨g5,0,none⟩) c5 (k+3) (Jc L++Jc [iR i,iR i,iR i])->New w9 p.aI (some ⟨g5,0,none⟩)->But (Q.InA p.aI) w9 w5->(w5.cell? ⟨wb,3,none⟩=some (.slice (some ⟨gT,0,none⟩) t K.cT)/\w5.frozen? ⟨gT,i*5+2,none⟩=false/\w5.cell? ⟨gT,i*5+2,none⟩=some (.slice p.aI k p.cI))/\(w5.setCell ⟨gT,i*5+2,none⟩ (.slice (some ⟨g5,0,none⟩) (k+3) c5)).cell? ⟨wb,3,none⟩=some (.slice (some ⟨gT,0,none⟩) t K.cT)/\Bj v w (w5.setCell ⟨gT,i*5+2,none⟩ (.slice (some ⟨g5,0,none⟩) (k+3) c5)) wb b rb col colR vw K (i+1) (i+1) (R.set i {p with aI:=some ⟨g5,0,none⟩,cI:=c5,items:=L++[iR i,iR i,iR i]}) a3 c3 (iB (K.T.take i)++rp p)):=λg5 c5 w5 hG hN hB=>by
            have ll:(L++[iR i,iR i,iR i]).length=k+3:=by rw[ae,LL.o];rfl
            have jw5:Jw w5 (some ⟨g5,0,none⟩) c5 (L++[iR i,iR i,iR i]):=Ae (by rw[rE];exact hG) ll.symm
            obtain⟨q1,q2,q3⟩:=BL.o.told HB.o HPI.o JL.o A4.o hB jw5 hN (by rw[ll];omega) (λy hy=>by
             rcases bj.1 hy with hy|hy
             . obtain⟨k,hk,rfl⟩:=List.getElem_of_mem hy;have:=CH.o k (by rw[<-LL.o];exact hk)
               simp only[aq,aS hk,Option.getD_some] at this;exact this
             . simp only[bP,bu,fR] at hy;rcases hy with rfl|rfl|rfl<;>rfl) ET.o
            rw[ll] at q3;rw[HNI.o] at q2;have k5:=(BL.o.items HB.o HPI.o JL.o ((But.ofBelow (S:=Q.InA p.aI) A4.o).trans hB (λ_ _ e=>e))).box
            have c5':=(ij k5).2.2.2.1;have c6':=(ij q3.box).2.2.2.1;rw[HT.o,ET.o] at c5' c6';exact⟨⟨c5',q1 _,q2⟩,c6',q3⟩
           refine tw 23 λKx hK=>?_
           refine An Tryz.underlying28 kX rfl (by decide) rfl _ _ rfl p.aI k p.cI (Jc L) (by first|(simp[Act.eval];done)|simp[Act.eval,Act.put]) G4.o ⟨gs,0,none⟩ 3 3 (Jc [iR i,iR i,iR i]) (by first|(simp[Act.eval];done)|simp[Act.eval,Act.put]) rfl (zK X4.o) (AZ i) (by decide) hml3 (by omega) ?_
           intro g5 c5 w5 hG hN hB;obtain⟨⟨h5,fS,cS⟩,h6,r6⟩:=FIN.o g5 c5 w5 hG hN hB;have H6:=gZ h6;have R6:=gZ r6;clear hG hN hB h6 r6 FIN;refine hK.o _ _ h5 (λhHeld=>?_)
           clear h5;refine tkb 24 25 ?_;refine tw 26 λKx hK=>?_
           go_simp;refine hK.o _ _ H6.o (λhHeld=>?_)
           refine td ?_;clear hHeld fS cS;generalize w5.setCell ⟨gT,i*5+2,none⟩ (.slice (some ⟨g5,0,none⟩) (k+3) c5)=w6 at *;go_wp2_with fail
           go_roundw
           case rel=>exact⟨i+1,_,a3,c3,by omega,by go_num,by rw[MS.o,ML.o],by rw[MS.o];exact R6.o⟩
           case measure=>simp[intOf];omega
  . have LT:=gZ BJ.o.bt.size;have h0:(i:Int)<(t:Int)->False:=λe=>by omega
    obtain rfl:i=t:=by omega
    have tk1:K.T.take i=K.T:=da (by rw[HT.o];exact ai _)
    rw[tk1] at BJ;rw[tk1];clear tk1;generalize wr=w10 at *;obtain⟨-,-,-,q3,q4⟩:=ij BJ.o.box;rw[HT.o] at q3;obtain⟨ml,hml⟩:∃ml,(iB K.T).length=ml:=⟨_,rfl⟩;have HML:=gZ hml;simp only[hml];clear hml;go_wp2_with fail
    go_loopw [8] (λvj wx=>∃j:Nat,j<=i/\vj=.int .i64 (j:Int)/\wx=w10) (λvj _=>i-(intOf vj).toNat)
    case atStart=>exact⟨0,aF _,rfl,rfl⟩
    case round=>
     obtain⟨j,hj,rfl,rfl⟩:=hrel;by_cases hjl:j<i
     . have hjI:(j:Int)<(i:Int):=by omega
       obtain⟨r,hr⟩:∃r,R[j]?=some r:=⟨_,aS (by have:=BJ.o.rl;have:=HT.o;omega)⟩
       obtain⟨g,e1,_,jw,hjb,hch⟩:=BJ.o.lo j r hjl hr;obtain⟨gT,eT,_,_,r2,_⟩:=j6 BJ.o.gt rfl hr;rw[e1] at r2 jw;have JW:=gZ jw;have HC:=gZ hch;obtain⟨n,hn⟩:∃n,r.items.length=n:=⟨_,rfl⟩;have HN:=gZ hn;rw[hn] at r2 hjb;rw[eT] at q3;have wj:IntKind.i64.wrap (-3-(j:Int))= -3-(j:Int):=im (by omega) (by omega)
       clear hn jw hch e1;go_wp2_with fail
       go_loopw [9] (λvk wx=>∃k:Nat,k<=n/\vk=.int .i64 (k:Int)/\wx=wr) (λvk _=>n-(intOf vk).toNat)
       case atStart=>exact⟨0,aF _,rfl,rfl⟩
       case round=>
        obtain⟨k,hk,rfl,rfl⟩:=hrel;by_cases hkl:k<n
        . have hkI:(k:Int)<(n:Int):=by omega
          obtain⟨⟨_,_,p2,_⟩,_⟩:=JW.o.item4 (k:=k) (by rw[HN.o];exact hkl)
          have hm:r.items.getD k Iv.zero∈r.items:=by
           have:=HN.o;simp only[aq];rw[aS (by omega)]
           exact dX _
          rw[HC.o _ hm] at p2;have bn:((-3-(j:Int)) != (-3-(j:Int)))=false:=by simp
          clear hm;go_wp2_with fail
          go_roundw
          case rel=>exact⟨k+1,by omega,by go_num,trivial⟩
          case measure=>simp[intOf];omega
        . obtain rfl:k=n:=by omega
          go_wp2_with fail
          go_roundw
          case rel=>exact⟨j+1,by omega,by go_num,trivial⟩
          case measure=>simp[intOf];omega
     . obtain rfl:j=i:=by omega
       have fz:∀s,wr.frozen? ⟨wb,s,none⟩=false:=λs=>by simp[World.frozen?,BJ.o.box]
       have f3:=fz 3;have f4:=fz 4;have wl:=(af.1 BJ.o.box).1;have bs:But (λk=>k=wb) wr ((wr.setCell ⟨wb,3,none⟩ (.slice none 0 0)).setCell ⟨wb,4,none⟩ (.slice none 0 0)):=((But.refl (λk=>k=wb) wr).setCell (p:=⟨wb,3,none⟩) (λ_=>rfl) _).setCell (p:=⟨wb,4,none⟩) (λ_=>rfl) _
       have AP:=gZ (uS ((wr.setCell ⟨wb,3,none⟩ (.slice none 0 0)).setCell ⟨wb,4,none⟩ (.slice none 0 0)) a3 c3 ml (iB K.T) HML.o.symm (BJ.o.ar.but bs (λy hy e=>iO BJ.o.ar BJ.o.box (by decide) y hy e)) (λt ht=>by
        obtain⟨p,hp,ht⟩:=mB ht;exact(BJ.o.tr p hp t ht).but bs (λy hy e=>(BJ.o.tr p hp t ht).nty BJ.o.box (by decide) hy e)) (ul (λp hp=>(HB.o.tp p hp).n) HB.o.tt) (by
        have:=nQ K.T (λp hp=>(HS.o p hp).2)
        have:=HT.o;omega) (λt ht=>by
        obtain⟨p,hp,ht⟩:=mB ht;exact zO (HS.o p hp) t ht))
       have FB:Hid (∀W:World,But (λk=>∃t∈iB K.T,Q.InA t.a k) ((wr.setCell ⟨wb,3,none⟩ (.slice none 0 0)).setCell ⟨wb,4,none⟩ (.slice none 0 0)) W->But (kE wb K) w W):=λW hb=>(BJ.o.bt.trans bs (λk _ e=>.inl (.inl e))).trans hb (λk _ ⟨t,ht,y,hy,e⟩=>by
        obtain⟨p,hp,ht⟩:=mB ht;exact .inr ⟨p,hp,.inr ⟨t,ht,y,hy,e⟩⟩)
       clear bs fz;go_wp2_with fail
       refine AP.o.mono ?_;rintro _ w12 ⟨rfl,hb12⟩;have F12:=gZ (FB.o _ hb12);clear hb12 AP FB;go_wp2_with fail
       go_ret;exact⟨rfl,F12.o⟩
theorem Po2.zero(w:World)(col colR:Nat->Nat):Po2 w col colR Pv.zero:=⟨Pz.zero _ _,pC⟩
theorem kr(v w:World)(wb b rb pb mb:Nat)(S:Vs)(D:Rd)(H:List Sn)(pc col colR:Nat->Nat)(aW:Option Addr)(cW:Nat)(W:List Wl)(K:Bkk)(M:Nat)(h:Wo v w wb b rb pb mb S D H pc col colR aW cW W K M)(hM:M<=100000000000)(k n kk:Int):
 Calls Tryz.prog 10 #[.pointer (some ⟨wb,0,none⟩),.agg #[.int .i64 k,.int .i64 n,.int .i64 kk,.int .i64 0,.int .i64 0,.slice none 0 0,.slice none 0 0,.int .i64 0]] w λe w'=>e=.returned (.bool true)/\∃(S:Vs)(D:Rd)(H:List Sn)(pc col colR:Nat->Nat)(aW:Option Addr)(cW:Nat)(W:List Wl)(K:Bkk),Wo v w' wb b rb pb mb S D H pc col colR aW cW W K (M+20):=by
 refine(vg v w wb b rb pb mb S D H pc col colR aW cW W K M h hM ⟨k,n,kk,Pv.zero⟩ (Po2.zero _ _ _)).mono ?_;rintro _ w' ⟨rfl,S',D',H',pc',col',colR',aW',cW',W',K',hw,_⟩;exact⟨rfl,S',D',H',pc',col',colR',aW',cW',W',K',hw⟩
theorem sQ(v w:World)(wb b rb pb mb:Nat)(S:Vs)(D:Rd)(H:List Sn)(pc col colR:Nat->Nat)(aW:Option Addr)(cW:Nat)(W:List Wl)(K:Bkk)(N:Nat)(h:Wo v w wb b rb pb mb S D H pc col colR aW cW W K N)(hN:N<=90000000000):
 Calls Tryz.prog 11 #[.pointer (some ⟨wb,0,none⟩)] w λe w'=>e=.returned (.bool true)/\Below v.heap.size v w':=by
 have HW:=gZ h;clear h;go_enter Tryz.func11,Tryz.ntmps11;go_wp2_with fail
 go_loopw [3] (λvi wx=>∃(j:Nat)(S:Vs)(D:Rd)(H:List Sn)(pc col colR:Nat->Nat)(aW:Option Addr)(cW:Nat)(W:List Wl)(K:Bkk)(M:Nat),j<=65540/\vi=.int .i64 ((j:Int)-1)/\M<=N+60*j/\Wo v wx wb b rb pb mb S D H pc col colR aW cW W K M) (λvi _=>65541-(intOf vi+1).toNat)
 case atStart=>exact⟨0,S,D,H,pc,col,colR,aW,cW,W,K,N,aF _,rfl,ai _,HW.o⟩
 case round=>
  clear HW;obtain⟨j,S,D,H,pc,col,colR,aW,cW,W,K,M,hj,rfl,hM,hw⟩:=hrel;have H1:=gZ hw;clear hw;obtain⟨n,hn⟩:∃n,D.C.length=n:=⟨_,rfl⟩;have hn6:n<=65536:=by rw[<-hn];exact H1.o.va.R.q.n6
  have c1:=H1.o.ws.cells.2.1;have c2:wr.cell? ⟨rb,1,none⟩=some (.slice D.aC n D.cC):=by rw[<-hn];exact H1.o.va.R.q.cells.2.1
  have w1:IntKind.i64.wrap ((n:Int)+1)=(n:Int)+1:=im (by omega) (by omega)
  clear hn;by_cases hlt:j<=n+2
  . have hle:(j:Int)-1<=(n:Int)+1:=by omega
    have dle:decide ((j:Int)-1<=(n:Int)+1)=true:=ay hle;obtain⟨z,hz⟩:∃z,(j:Int)-1=z:=⟨_,rfl⟩;have HZ:=gZ hz;have wz:IntKind.i64.wrap (z+1)=z+1:=im (by omega) (by omega)
    simp only[hz] at dle hle ⊢;clear hz;have C1:=gZ (kr v wr wb b rb pb mb _ _ _ _ _ _ _ _ _ _ _ H1.o (by omega) 6 z 0)
    go_wp2_with fail
    refine C1.o.mono ?_;rintro _ w2 ⟨rfl,S,D,H,pc,col,colR,aW,cW,W,K,hw⟩;have H2:=gZ hw;clear hw C1;have C2:=gZ (kr v w2 wb b rb pb mb _ _ _ _ _ _ _ _ _ _ _ H2.o (by omega) 7 z 0)
    go_wp2_with fail
    refine C2.o.mono ?_;rintro _ w3 ⟨rfl,S,D,H,pc,col,colR,aW,cW,W,K,hw⟩;have H3:=gZ hw;clear hw C2;have C3:=gZ (kr v w3 wb b rb pb mb _ _ _ _ _ _ _ _ _ _ _ H3.o (by omega) 8 z 0)
    go_wp2_with fail
    refine C3.o.mono ?_;rintro _ w4 ⟨rfl,S,D,H,pc,col,colR,aW,cW,W,K,hw⟩;have H4:=gZ hw;clear hw C3;clear dle hle w1;go_wp2_with fail
    go_roundw
    case rel=>exact⟨j+1,S,D,H,pc,col,colR,aW,cW,W,K,M+20+20+20,by omega,by rw[<-HZ.o];go_num,by omega,H4.o⟩
    case measure=>simp[intOf];have:=HZ.o;omega
  . have hle:¬((j:Int)-1<=(n:Int)+1):=by omega
    have dle:decide ((j:Int)-1<=(n:Int)+1)=false:=au hle;have hM2:M<=95000000000:=by omega
    generalize wr=w1 at *;obtain⟨nw,hnw⟩:∃nw,W.length=nw:=⟨_,rfl⟩;have NW:=gZ hnw;have hnm:=oo H1.o.gw;rw[hnw] at hnm;clear hnw;go_wp2_with fail
    clear c1 c2 dle hle;go_loopw [5] (λvi wx=>∃(i:Nat)(K:Bkk),i<=nw/\vi=.int .i64 (i:Int)/\Wo v wx wb b rb pb mb S D H pc col colR aW cW W K M) (λvi _=>nw-(intOf vi).toNat)
    case atStart=>exact⟨0,K,aF _,rfl,H1.o⟩
    case round=>
     clear H1;obtain⟨i,K,hi,rfl,hw⟩:=hrel;have H1:=gZ hw;clear hw;have c2:wr.cell? ⟨wb,2,none⟩=some (.slice aW nw cW):=by rw[<-NW.o];exact H1.o.ws.cells.2.2.1
     by_cases hlt:i<nw
     . have hiI:(i:Int)<(nw:Int):=by omega
       obtain⟨x,hx⟩:∃x,W[i]?=some x:=⟨_,aS (by rw[NW.o];exact hlt)⟩
       obtain⟨g,hg⟩:∃g,aW=some ⟨g,0,none⟩:=⟨_,(me H1.o.gw hx).choose_spec.1⟩;have xm:x∈W:=cE hx
       have SS:Hid (∀V:World,Below wr.heap.size wr V->V.cell? ⟨wb,2,none⟩=some (.slice (some ⟨g,0,none⟩) nw cW)/\V.cell? ⟨g,i*2,none⟩=some (.func (.func 116) #[] #[.pointer (some ⟨x.tb,0,none⟩)])/\V.cell? ⟨g,i*2+1,none⟩=some (.slice x.aN x.N.length x.cN)):=λV hb=>by
        have c:=(H1.o.ws.keep hb).cells;obtain⟨g',e1,e2,e3⟩:=me (H1.o.keep hb).gw hx;rw[hg] at e1;cases e1;exact⟨by rw[c.2.2.1,hg,NW.o],e2,e3⟩
       have AG:=gZ hg;have HXI:=gZ hx;have LG:=gZ λ(V:World)(hb:Below wr.heap.size wr V)=>n9 v V wb b rb col colR (.slice aW W.length cW) K (H1.o.keep hb).bo H1.o.eq H1.o.l4 (λk hk=>(H1.o.keep hb).va.z hk) (λk hk=>fq λe=>hk ((H1.o.keep hb).va.z (gF e)).1) (H1.o.keep hb).va.bl.size x.tb x.a x.c x.L ((H1.o.keep hb).wt x xm) x.aN x.cN x.N ((H1.o.keep hb).wn x xm) (H1.o.we x xm) (λp hp y hy=>H1.o.tn p hp x xm y hy) (oo ((H1.o.keep hb).wt x xm).lr) 1048576
       rw[hg] at c2;clear hx hg xm;go_upto_region 10 with fail
       clear c2;have DR:=gZ (dr2 wr);refine wrd SS DR.o λhHeld=>?_
       refine tkd 0 1 2 3 ?_;refine tkd 4 5 6 7 ?_;refine tkd 8 9 10 11 ?_;refine tkd 12 13 14 15 ?_;refine tk 16 ?_;refine tw 17 λKx hK=>?_
       go_simp;refine(LG.o _ DR.o).mono ?_;rintro e4 w4 hg4;obtain⟨rfl,K4,wo4,hb4⟩:=(H1.o.keep DR.o).gone hg4;have WO4:=gZ wo4;clear hg4 hb4 wo4 LG
       obtain⟨x2,x3,x4⟩:w4.cell? ⟨wb,2,none⟩=some (.slice (some ⟨g,0,none⟩) nw cW)/\w4.cell? ⟨g,i*2,none⟩=some (.func (.func 116) #[] #[.pointer (some ⟨x.tb,0,none⟩)])/\w4.cell? ⟨g,i*2+1,none⟩=some (.slice x.aN x.N.length x.cN):=by
        have c:=WO4.o.ws.cells;obtain⟨g',e1,e2,e3⟩:=me WO4.o.gw HXI.o;rw[AG.o] at e1;cases e1;exact⟨by rw[c.2.2.1,AG.o,NW.o],e2,e3⟩
       go_wp2_with fail
       refine hK.o _ _ (⟨x2,x3,x4⟩) (λhHeld=>?_)
       try simp only[pt]
       clear x2 x3 x4;refine tk 18 ?_;refine td ?_;clear hHeld SS;go_wp2_with fail
       go_roundw
       case rel=>exact⟨i+1,K4,by omega,by go_num,WO4.o⟩
       case measure=>simp[intOf];omega
     . obtain rfl:i=nw:=by omega
       generalize wr=w2 at *;go_wp2_with fail
       clear c2;go_loopw [7] (λvi wx=>∃(s:Nat)(S:Vs)(D:Rd)(H:List Sn)(pc col colR:Nat->Nat)(aW:Option Addr)(cW:Nat)(W:List Wl)(K:Bkk)(Q:Nat),s<=6/\vi=.int .i64 (s:Int)/\Q<=M+20*s/\Wo v wx wb b rb pb mb S D H pc col colR aW cW W K Q) (λvi _=>6-(intOf vi).toNat)
       case atStart=>exact⟨0,S,D,H,pc,col,colR,aW,cW,W,K,M,aF _,rfl,ai _,H1.o⟩
       case round=>
        clear H1 NW;obtain⟨s,S,D,H,pc,col,colR,aW,cW,W,K,Q,hs,rfl,hQ,hw⟩:=hrel;have H1:=gZ hw;clear hw;by_cases hlt:s<6
        . have hsI:(s:Int)<6:=by omega
          have dsI:decide ((s:Int)<6)=true:=ay hsI;have C1:=gZ (kr v wr wb b rb pb mb _ _ _ _ _ _ _ _ _ _ _ H1.o (by omega) 10 (s:Int) 1048576)
          go_wp2_with fail
          refine C1.o.mono ?_;rintro _ w2 ⟨rfl,S,D,H,pc,col,colR,aW,cW,W,K,hw⟩;have H2:=gZ hw;clear hw C1;go_wp2_with fail
          go_roundw
          case rel=>exact⟨s+1,S,D,H,pc,col,colR,aW,cW,W,K,Q+20,by omega,by go_num,by omega,H2.o⟩
          case measure=>simp[intOf];omega
        . obtain rfl:s=6:=by omega
          generalize wr=w3 at *;have C1:=gZ (kr v w3 wb b rb pb mb _ _ _ _ _ _ _ _ _ _ _ H1.o (by omega) 9 0 0)
          go_wp2_with fail
          refine C1.o.mono ?_;rintro _ w4 ⟨rfl,S,D,H,pc,col,colR,aW,cW,W,K,hw⟩;have H4:=gZ hw;clear hw C1;have C2:=gZ (kr v w4 wb b rb pb mb _ _ _ _ _ _ _ _ _ _ _ H4.o (by omega) 99 0 0)
          go_wp2_with fail
          refine C2.o.mono ?_;rintro _ w5 ⟨rfl,S,D,H,pc,col,colR,aW,cW,W,K,hw⟩;have H5:=gZ hw;clear hw C2;have BK:=gZ (yW v w5 wb b rb col colR (.slice aW W.length cW) K H5.o.bo H5.o.eq H5.o.l4 H5.o.sm);go_wp2_with fail
          refine BK.o.mono ?_;rintro _ w6 ⟨rfl,hb6⟩;have F6:Hid (Below v.heap.size v w6):=((But.ofBelow (S:=λ_=>False) H5.o.va.bl).trans hb6 (λk hk e=>by have:=(H5.o.bo.col_off e).2.2;omega)).below (λ_ _ e=>e)
          clear hb6 BK;go_wp2_with fail
          go_ret;exact⟨rfl,F6.o⟩
def qH(x:Nat):Pg:=⟨1,0,[⟨[x],[],0,0⟩],[],0⟩
def xD:Pg:=⟨2,1,[⟨[],[],1,0⟩,⟨[109],[],2,0⟩],[],0⟩
def liv0:Vs:=Vs.start (Q.Po.start 3 (List.replicate 6 0))
theorem uH(q1 q2 q3:Pv)(h3:q3.pg=xD):(((((liv0.makeS (qH 97) q1).makeS (qH 112) q2).makeS xD q3).keepS 3).shadow 3).2.X.P.count 1=2/\(((((liv0.makeS (qH 97) q1).makeS (qH 112) q2).makeS xD q3).keepS 3).shadow 3).2.X.P.count 4=1:=by
 obtain⟨kind,level,aI,cI,items,aD,cD,data,next⟩:=q3
 have e1:kind=2:=aY Pg.kind h3;have e2:items.map Iv.it=[⟨[],[],1,0⟩,⟨[109],[],2,0⟩]:=aY Pg.items h3;subst e1;match items,e2 with
 | [y1,y2],e2=>
   obtain⟨a1,c1,k1,b1,d1,v1,ch1,s1⟩:=y1;obtain⟨a2,c2,k2,b2,d2,v2,ch2,s2⟩:=y2
   have f1:ch1=1:=by
    have:=aY (λl=>(l.map It.child).head?) e2
    simpa[Iv.it] using this
   have f2:ch2=2:=by
    have:=aY (λl=>(l.map It.child)[1]?) e2
    simpa[Iv.it] using this
   subst f1 f2;exact⟨by kernel_rfl,by kernel_rfl⟩
 | [],e2=>simp at e2
 | [_],e2=>simp at e2
 |_::_::_::_,e2=>simp at e2
theorem Wo.first{w w1 w2:World}{b rb pb mb:Nat}{r:Int}{n:Nat}{pc col:Nat->Nat}{D:Rd}(hf:Q.jF (n:Int) r=true)(hV:Vw w1 b (Vs.start (Q.Po.start r (List.replicate n 0))) pb mb pc col)(hb:Below w.heap.size w w1)(hc:∀k,col k≠0->w.heap.size<=k)(hR:Rn w1 w2 rb D)(hD:D.Fresh r n):
 ∃colR,Wo w (w2.alloc (.cells #[.pointer (some ⟨b,0,none⟩),.pointer (some ⟨rb,0,none⟩),.slice none 0 0,.slice none 0 0,.slice none 0 0] 55)) w2.heap.size b rb pb mb (Vs.start (Q.Po.start r (List.replicate n 0))) D [] pc col colR none 0 [] Bkk.nil 4294967296:=by
 have hD2:=hD;obtain⟨eR,eC,eL,eP,eA,eN,ecA,eF,eh⟩:=hD2;obtain⟨⟨h1,h2⟩,h3,h4⟩:=Q.mD.1 hf;obtain⟨q,low⟩:=hR.rq (by rw[eL,eC,be,be]) (by rw[eP,eC,be,be]) (by rw[eC,be];omega)
 obtain⟨colR,hcR⟩:∃c,kJ w1 w2 rb D=c:=⟨_,rfl⟩;rw[hcR] at q low;have b12:Below w1.heap.size w1 w2:=hR.b;have A:=al w2 (.cells #[.pointer (some ⟨b,0,none⟩),.pointer (some ⟨rb,0,none⟩),.slice none 0 0,.slice none 0 0,.slice none 0 0] 55);have X:=aH w2 (.cells #[.pointer (some ⟨b,0,none⟩),.pointer (some ⟨rb,0,none⟩),.slice none 0 0,.slice none 0 0,.slice none 0 0] 55);have V2:=hV.keep b12;have s1:=hb.size;have s2:=b12.size;have ah:Ah w2 D [] colR:=⟨by rw[eA,ecA];exact Q.Gw.nil _ _ _,eN,λx hx=>(by rw[eA] at hx;cases hx),λs hs=>absurd hs (bu)⟩
 have va:Va w w2 b rb pb mb (Vs.start (Q.Po.start r (List.replicate n 0))) D [] pc col colR:=⟨V2,⟨q,ah⟩,λk hk=>by
  by_cases e:colR k=0
  . exact e
  . have e1:=low k e;exact absurd (hV.z e1) hk,hc,λk hk=>aU s1 (low k hk),bt hb b12⟩
 obtain⟨z1,z2⟩:=va.z (ai w2.heap.size);refine⟨colR,va.keep A,⟨X,⟨z1,z2,by omega⟩,Q.Gw.nil _ _ _,Q.Gw.nil _ _ _,λy hy=>(by cases hy),λy hy=>(by cases hy),λy z hy=>(by cases hy),λp hp=>absurd hp (bu),λp hp=>absurd hp (bu),List.Pairwise.nil,λp hp=>absurd hp (bu)⟩,Q.Gw.nil _ _ _,λy hy=>(by cases hy),λk hk=>absurd hk (bu),λk hk=>absurd hk (bu),λk hk=>absurd hk (bu),λp hp=>absurd hp (bu),Tw.start hf hD,rfl,aF _,aF _,λp hp=>absurd hp (bu)⟩
def LBg(w:World)(n r:Int)(e:Ending)(w':World):Prop:=Below w.heap.size w w'/\
 ((Q.jF n r=false/\e=.returned (.tuple #[.pointer none,.bool true]))\/
  (Q.jF n r=true/\∃wb b rb pb mb D pc col colR,e=.returned (.tuple #[.pointer (some ⟨wb,0,none⟩),.bool true])/\Wo w w' wb b rb pb mb (Vs.start (Q.Po.start r (List.replicate n.toNat 0))) D [] pc col colR none 0 [] Bkk.nil 4294967296))
theorem pZ(w:World)(n r:Int):Calls Tryz.prog 9 #[.int .i64 n,.int .i64 r] w λe w'=>LBg w n r e w':=by
 by_cases hf:Q.jF n r=true
 . have hn:∃m:Nat,n=(m:Int):=by
    obtain⟨⟨h1,h2⟩,_⟩:=Q.mD.1 hf;exact⟨n.toNat,by omega⟩
   obtain⟨m,rfl⟩:=hn;have VN:=gZ (Ag w (m:Int) r hf);have RN:=gZ λ(W:World)=>Ap W m r hf
   have HF:=gZ hf;rw[cR] at VN;clear hf;go_enter Tryz.func9,Tryz.ntmps9;go_wp2_with fail
   refine VN.o.mono ?_;rintro _ w1 ⟨b,rfl,pb,mb,pc,col,hV,hb,hc⟩;have V1:=gZ hV;have B1:=gZ hb;have C1:=gZ hc;clear hV hb hc VN;go_wp2_with fail
   refine(RN.o w1).mono ?_;rintro _ w2 ⟨rb,D,rfl,hR,hD⟩;have R2:=gZ hR;have D2:=gZ hD;clear hR hD RN;go_wp2_with fail
   obtain⟨colR,hW⟩:=Wo.first HF.o V1.o B1.o C1.o R2.o D2.o;have HW:=gZ hW;clear hW;go_ret2
   exact⟨HW.o.va.bl,.inr ⟨HF.o,_,b,rb,pb,mb,D,pc,col,colR,rfl,by rw[cR];exact HW.o⟩⟩
 . have hf:Q.jF n r=false:=by simpa using hf
   have VN:=gZ (Cu w n r hf);have RN:=gZ (Dd w n r hf);have HF:=gZ hf;clear hf;go_enter Tryz.func9,Tryz.ntmps9;go_wp2_with fail
   refine VN.o.mono ?_;rintro _ w1 ⟨rfl,hw1⟩;have hw1:=hw1.symm;subst hw1;go_wp2_with fail
   refine RN.o.mono ?_;rintro _ w2 ⟨rfl,hw2⟩;have hw2:=hw2.symm;subst hw2;go_wp2_with fail
   go_ret2
   exact⟨Below.refl _ _,.inl ⟨HF.o,rfl⟩⟩
end Go.Proofs.YtbdkogimlbnlmaaGreat
