import Derived.Test.YtbdkogimlbnlmaaGreatWlB27
set_option linter.all false
set_option maxHeartbeats 64000000
namespace Go.Proofs.YtbdkogimlbnlmaaGreat
open Go.Proofs.Tryz
open Go.RowKit
set_option maxRecDepth 100000 in
theorem vaultLoads_any(U:World)(r:Int)(a:Option Addr)(cap:Nat)(C:List Int)(hC:Q.Ir U a C)(bv:C.length<=1048576)(aL:Option Addr)(cL:Nat)(l:List (Int×Pv))(hl:Nm U aL l)(hs:∀x∈l,Smi x.2)(bD:l.length<=1000000)(aS:Option Addr)(cS:Nat)(L:List Oq)(hO:Oss U aS L)(bw:L.length<=1048576):
 Calls prog 4 #[.int .i64 r,.slice a C.length cap,.slice aL l.length cL,.slice aS L.length cS] U λe w'=>e=.returned (.bool true)/\Below U.heap.size U w':=by
 obtain⟨n,hn⟩:∃n,C.length=n:=⟨_,rfl⟩;obtain⟨af,hm⟩:∃af,l.length=af:=⟨_,rfl⟩;obtain⟨nl,aQ⟩:∃nl,L.length=nl:=⟨_,rfl⟩;have X:=iJ hn;have NM:=iJ hm;have NL:=iJ aQ;have HC:=iJ hC;have HL:=iJ hl;have aF:=iJ hs;have OS:=iJ hO;rw[hn] at bv;rw[hm] at bD;rw[aQ] at bw;rw[hn,hm,aQ];clear hn hm aQ hC hl hs hO;go_enter func4,ntmps4;go_wp2_with fail
 refine(rO U).mono ?_;rintro _ w1 ⟨rfl,bc⟩;have B1:=iJ bc;clear bc;by_cases h3:300<n
 . have aJ:(300:Int)<(n:Int):=by omega
   have d3:decide ((300:Int)<(n:Int))=true:=ax aJ;go_wp2_with fail
   refine(rO w1).mono ?_;rintro _ w2 ⟨rfl,ac⟩;have B2:=iJ (bt B1.o ac);clear ac;go_wp2_with fail
   go_ret;exact⟨rfl,B2.o⟩
 have aJ:¬(300:Int)<(n:Int):=by omega
 have d3:decide ((300:Int)<(n:Int))=false:=au aJ;have SI:=iJ (Q.uf w1 a n cap C (HC.o.keep B1.o) X.o.symm (by have:=X.o;omega))
 rw[X.o] at SI;go_wp2_with fail
 refine SI.o.mono ?_;rintro _ R ⟨rfl,a6,ac⟩;have B2:=iJ (bt B1.o ac);have RW:=iJ a6;have aX:Hid (w1.heap.size<R.heap.size):=a6.lt;have aV:Hid (U.heap.size<=w1.heap.size):=B1.o.size;obtain⟨m,be⟩:∃ae,w1.heap.size=ae:=⟨_,rfl⟩;rw[be] at RW aX aV ⊢;have an:=iJ (HL.o.keep B2.o);clear be a6 ac SI d3 aJ;go_wp2_with fail
 go_loopw [10,11,12] (λvp vw vi G=>∃(i:Nat)(aP:Option Addr)(cP:Nat)(ab:List (Int×Pv))(aN:Option Addr)(cN:Nat)(ar:List (Int×Pv)),i<=af/\vi=.int .i64 (i:Int)/\vp=.slice aP i cP/\vw=.slice aN i cN/\Ld R G l i i aP cP ab aN cN ar) (λ_ _ vi _=>af-(intOf vi).toNat)
 case atStart=>exact⟨0,none,0,[],none,0,[],az _,rfl,rfl,rfl,Ld.nil R l (Below.refl _ _)⟩
 case round=>
  obtain⟨i,aP,cP,ab,aN,cN,ar,hi,rfl,rfl,rfl,hG⟩:=hrel;have s:=iJ hG;clear hG;by_cases bg:i<af
  . have bL:(i:Int)<(af:Int):=by omega
    have bh:i+1<=maxLen:=by unfold maxLen;omega
    obtain⟨y,K⟩:∃y,l[i]?=some y:=⟨_,aR (by rw[NM.o];exact bg)⟩
    have ym:=bB K;obtain⟨d,h,eL,E⟩:=an.o.c i (by rw[NM.o];exact bg)
    have yd:l.getD i nm0=y:=by rw[aq,K];rfl
    rw[yd] at E;have PI:=iJ (an.o.p y ym).1;have aa:=iJ (aF.o y ym)
    have J:Hid (∀W:World,Below R.heap.size R W->W.cell? ⟨d,h+i*6,none⟩=some (.int .i64 y.1)/\W.cell? ⟨d,h+i*6+1,none⟩=some (.int .i64 y.2.kind)/\W.cell? ⟨d,h+i*6+2,none⟩=some (.int .i64 y.2.level)/\W.cell? ⟨d,h+i*6+3,none⟩=some (.slice y.2.aI y.2.items.length y.2.cI)/\W.cell? ⟨d,h+i*6+4,none⟩=some (.slice y.2.aD y.2.data.length y.2.cD)/\W.cell? ⟨d,h+i*6+5,none⟩=some (.int .i64 y.2.next)):=λW hb=>by
     have k:=λ(j:Nat)(u:Value)(v:(nmc y)[j]?=some u)=>(hb.cell (p:=⟨d,h+i*6+j,none⟩) (block_lt_of_cell (E j u v))).trans (E j u v)
     exact⟨k 0 _ rfl,k 1 _ rfl,k 2 _ rfl,k 3 _ rfl,k 4 _ rfl,k 5 _ rfl⟩
    have HY:=iJ K;subst eL;clear E yd ym K;go_upto_region 8 with fail
    have B:=iJ (dr2 wr);have B8:=iJ (bt s.o.b B.o);have I:=iJ (o9 wr.drew y.2 (PI.o.keep B8.o) aa.o.1.1 aa.o.2 aa.o.1.2);unfold Pv.vl at I;simp only[Pv.cs] at I;refine bC (S:=λW=>W.cell? ⟨d,h+i*6,none⟩=some (.int .i64 y.1)/\W.cell? ⟨d,h+i*6+1,none⟩=some (.int .i64 y.2.kind)/\W.cell? ⟨d,h+i*6+2,none⟩=some (.int .i64 y.2.level)/\W.cell? ⟨d,h+i*6+3,none⟩=some (.slice y.2.aI y.2.items.length y.2.cI)/\W.cell? ⟨d,h+i*6+4,none⟩=some (.slice y.2.aD y.2.data.length y.2.cD)/\W.cell? ⟨d,h+i*6+5,none⟩=some (.int .i64 y.2.next)) (by kernel_rfl) (J.o _ B8.o) (λhHeld=>?_)
    refine tkd 0 1 2 3 ?_;refine tkd 4 5 6 7 ?_;refine tkb 8 9 ?_;refine tk 10 ?_;refine tw 11 λKx O=>?_
    go_simp;refine I.o.mono ?_;rintro _ w3 ⟨q,rfl,P⟩;have SQ:=iJ P;have BQ:=iJ P.b;have B3:=iJ (bt B8.o P.b);clear P;clear I;go_wp2_with fail
    refine O.o _ _ (J.o _ B3.o) (λhHeld=>?_)
    refine tk 12 ?_;refine tw 13 λKx O=>?_
    go_simp;have H:=iJ (al w3 (.cells #[.int .i64 y.1,.int .i64 q.kind,.int .i64 q.level,.slice q.aI q.items.length q.cI,.slice q.aD q.data.length q.cD,.int .i64 q.next] 39));have X4:=iJ (aH w3 (.cells #[.int .i64 y.1,.int .i64 q.kind,.int .i64 q.level,.slice q.aI q.items.length q.cI,.slice q.aD q.data.length q.cD,.int .i64 q.next] 39));have B4:=iJ (bt B3.o H.o);refine O.o _ _ (J.o _ B4.o) (λhHeld=>?_)
    generalize w3.alloc (.cells #[.int .i64 y.1,.int .i64 q.kind,.int .i64 q.level,.slice q.aI q.items.length q.cI,.slice q.aD q.data.length q.cD,.int .i64 q.next] 39)=w4 at *;obtain⟨gs,aj⟩:∃gs,w3.heap.size=gs:=⟨_,rfl⟩;rw[aj] at X4;try simp only[aj]
    clear aj;have G4:Hid (Q.Gw 39 6 w4 aP cP i (nms ab)):=(s.o.keep (bt B.o (bt BQ.o H.o))).gp;refine tw 14 λKx O=>?_
    refine kP underlying36 m7 rfl (by decide) rfl _ _ rfl aP i cP (nms ab) (by first|(simp[Act.eval];done)|simp[Act.eval,Act.put]) G4.o ⟨gs,0,none⟩ 1 (nmc (y.1,q)) (by first|(simp[Act.eval];done)|simp[Act.eval,Act.put]) rfl (ny X4.o) nj bh (by omega) ?_
    intro g5 c5 w5 hG hN A;have L5:=iJ (s.o.pushP B.o HY.o SQ.o H.o hG hN A);clear hG hN A X4 H B4 B3 BQ;refine O.o _ _ (J.o _ L5.o.b) (λhHeld=>?_)
    refine tk 15 ?_;refine td ?_;clear hHeld B B8;go_upto_region 9 with fail
    have B:=iJ (dr2 w5);have B8:=iJ (bt L5.o.b B.o);have I:=iJ (jX w5.drew y.2 (PI.o.keep B8.o) aa.o.1.1 aa.o.2 aa.o.1.2);unfold Pv.vl at I;simp only[Pv.cs] at I;refine bC (S:=λW=>W.cell? ⟨d,h+i*6,none⟩=some (.int .i64 y.1)/\W.cell? ⟨d,h+i*6+1,none⟩=some (.int .i64 y.2.kind)/\W.cell? ⟨d,h+i*6+2,none⟩=some (.int .i64 y.2.level)/\W.cell? ⟨d,h+i*6+3,none⟩=some (.slice y.2.aI y.2.items.length y.2.cI)/\W.cell? ⟨d,h+i*6+4,none⟩=some (.slice y.2.aD y.2.data.length y.2.cD)/\W.cell? ⟨d,h+i*6+5,none⟩=some (.int .i64 y.2.next)) (by kernel_rfl) (J.o _ B8.o) (λhHeld=>?_)
    refine tkd 0 1 2 3 ?_;refine tkd 4 5 6 7 ?_;refine tkb 8 9 ?_;refine tk 10 ?_;refine tw 11 λKx O=>?_
    go_simp;refine I.o.mono ?_;rintro _ w3 ⟨q,rfl,P,-,hp,a1⟩;have SQ:=iJ P;have bo:=iJ hp;have BQ:=iJ a1;have B3:=iJ (bt B8.o a1);clear P hp a1;clear I;go_wp2_with fail
    refine O.o _ _ (J.o _ B3.o) (λhHeld=>?_)
    refine tk 12 ?_;refine tw 13 λKx O=>?_
    go_simp;have H:=iJ (al w3 (.cells #[.int .i64 y.1,.int .i64 q.kind,.int .i64 q.level,.slice q.aI q.items.length q.cI,.slice q.aD q.data.length q.cD,.int .i64 q.next] 39));have X4:=iJ (aH w3 (.cells #[.int .i64 y.1,.int .i64 q.kind,.int .i64 q.level,.slice q.aI q.items.length q.cI,.slice q.aD q.data.length q.cD,.int .i64 q.next] 39));have B4:=iJ (bt B3.o H.o);refine O.o _ _ (J.o _ B4.o) (λhHeld=>?_)
    generalize w3.alloc (.cells #[.int .i64 y.1,.int .i64 q.kind,.int .i64 q.level,.slice q.aI q.items.length q.cI,.slice q.aD q.data.length q.cD,.int .i64 q.next] 39)=w4 at *;obtain⟨gs,aj⟩:∃gs,w3.heap.size=gs:=⟨_,rfl⟩;rw[aj] at X4;try simp only[aj]
    clear aj;have G4:Hid (Q.Gw 39 6 w4 aN cN i (nms ar)):=(L5.o.keep (bt B.o (bt BQ.o H.o))).gn;refine tw 14 λKx O=>?_
    refine kP underlying36 m7 rfl (by decide) rfl _ _ rfl aN i cN (nms ar) (by first|(simp[Act.eval];done)|simp[Act.eval,Act.put]) G4.o ⟨gs,0,none⟩ 1 (nmc (y.1,q)) (by first|(simp[Act.eval];done)|simp[Act.eval,Act.put]) rfl (ny X4.o) nj bh (by omega) ?_
    intro g5 c5 w7 hG hN A;have L7:=iJ (L5.o.pushN B.o HY.o SQ.o bo.o BQ.o H.o hG hN A);clear hG hN A X4 H B4 B3 BQ;refine O.o _ _ (J.o _ L7.o.b) (λhHeld=>?_)
    refine tk 15 ?_;refine td ?_;clear hHeld B B8;clear J;go_wp2_with fail
    go_roundw
    case rel=>exact⟨i+1,_,_,_,_,_,_,by omega,by go_num,rfl,rfl,L7.o⟩
    case measure=>simp[intOf];omega
  . obtain rfl:i=af:=by omega
    generalize wr=N at *;have RP:=iJ (Q.ky RW.o s.o.b);have a9:Hid (∀W:World,Below N.heap.size N W->Q.Ir W a C):=λW hb=>HC.o.keep (bt (bt B2.o s.o.b) hb)
    have VL:=iJ (AK N r (some ⟨m,0,none⟩) n (n+64) C (Q.vF RP.o (by have:=X.o;omega)) X.o.symm aP i cP ab (s.o.nmP aF.o an.o) s.o.lp.symm (by omega))
    have SM:=iJ s.o.same;have bM:¬(i:Int)<(i:Int):=by omega
    go_wp2_with fail
    refine VL.o.mono ?_;rintro e bG hv;rcases hv with⟨er,h0,e1,rfl,hb⟩|⟨e0,b,f,rfl,⟨pb,mb,pc,ag,hV,hb,E⟩,hg,aw,aA⟩
    all_goals
     have av:=iJ hb;clear hb VL;have RL:=iJ (Av bG r a n cap C (a9.o _ av.o) X.o.symm aN i cN ar ((s.o.keep av.o).nmN aF.o an.o) s.o.ln.symm (by omega))
     first
     |have VV:=iJ (And.intro hV (And.intro E (And.intro hg (And.intro aw (And.intro aA e0)))))
      clear hV E hg aw aA e0
     |have VV:=iJ (And.intro e1 h0)
      clear e1 h0
     go_wp2_with fail
     refine RL.o.mono ?_;rintro e2 bH hr;rcases hr with⟨er2,k0,k1,rfl,ac⟩|⟨k1,rb,ad,rfl,hR,dR,dC,dL,dP,dp,dA,dN,dcA,dfl,dh⟩
     all_goals
      rw[<-SM.o] at k1;first
      |exact absurd (VV.o.1.symm.trans k1) VV.o.2
      |exact absurd (k1.symm.trans VV.o.2.2.2.2.2) k0
      |skip
     first
     |obtain⟨hV,E,hg,aw,aA,e0⟩:=VV.o
      obtain⟨ak,va⟩:=DY hV av.o E hR (by rw[dL,dC];exact aZ _) (by rw[dP,dC]) (by rw[dC,X.o];omega) ⟨dA,dN,dcA⟩
      rw[<-SM.o] at dp;have TW:Hid (Tw (ldS r C f) ad [] 4294967296):=Tw.load (Ih e0) hg aw aA (λj hj bx=>GD e0 hj bx) ⟨dC,dL,dP,dp⟩ dR dfl dh
      have VA:=iJ va;have aD:=iJ (bt av.o hR.b);clear hV E hg aw aA e0 va hR dR dC dL dP dp dA dN dcA dfl dh k1
     |obtain rfl:er=er2:=VV.o.1.symm.trans k1
      have bS:(((er:Nat):Int) != ((er:Nat):Int))=false:=by simp
      have aD:=iJ (bt av.o ac);clear k0 k1 ac
     clear VV RL;have KI:=iJ (Q.vX bH m (n+64) a n n cap C (Q.ky RP.o aD.o) (a9.o _ aD.o) X.o.symm X.o.symm (by rw[X.o]) (by rw[X.o];omega))
     go_wp2_with fail
     refine KI.o.mono ?_;rintro _ aU ⟨rfl,a5⟩;have BK:=iJ a5;have a7:=iJ (bt aD.o a5);have S0:=iJ ((s.o.keep a7.o).sx N);clear KI a5;go_wp2_with fail
     go_loopw [17] (λvi G=>∃t:Nat,t<=i/\vi=.int .i64 (t:Int)/\Sxl R N aU G l t i aP cP ab) (λvi _=>i-(intOf vi).toNat)
     case atStart=>exact⟨0,az _,rfl,S0.o⟩
     case round=>
      clear S0;obtain⟨t,ht,rfl,P⟩:=hrel;have M:=iJ P;clear P;by_cases a3:t<i
      . have bP:(t:Int)<(i:Int):=by omega
        obtain⟨x,hx⟩:∃x,ab[t]?=some x:=⟨_,aR (by rw[s.o.lp];exact a3)⟩
        obtain⟨y,K,aI,sp⟩:=M.o.pp t x (ai _) hx;have xm:=bB hx;have ym:=bB K;obtain⟨z,q⟩:=x;have aI:z=y.1:=aI;have sp:Sp R wr y.2 q:=sp;have bp:=iJ hx;have ba:Hid (ab.getD t (0,Pv.zero)=(z,q)):=by show _=_;rw[aq,hx];rfl
        have a8:Hid (∀k,Blk q k->¬Q.InA aP k):=λk hk=>(s.o.fp _ xm k hk).1
        have bk:Hid (∀k,Blk q k->R.heap.size<=k/\k<N.heap.size):=λk hk=>s.o.bp xm hk
        have a0:=iJ sp;have aa:=iJ (aF.o y ym);have bb:=iJ (qh aa.o sp.e);obtain⟨d,h,eL,aK⟩:=an.o.c t (by rw[NM.o];omega)
        have yd:l.getD t nm0=y:=by rw[aq,K];rfl
        rw[yd] at aK;obtain⟨g,eP⟩:∃g,aP=some ⟨g,0,none⟩:=M.o.gp.addr (by omega)
        subst eP eL
        have J:Hid (∀W:World,Below wr.heap.size wr W->(W.cell? ⟨g,t*6,none⟩=some (.int .i64 y.1)/\W.cell? ⟨g,t*6+1,none⟩=some (.int .i64 q.kind)/\W.cell? ⟨g,t*6+2,none⟩=some (.int .i64 q.level)/\W.cell? ⟨g,t*6+3,none⟩=some (.slice q.aI q.items.length q.cI)/\W.cell? ⟨g,t*6+4,none⟩=some (.slice q.aD q.data.length q.cD)/\W.cell? ⟨g,t*6+5,none⟩=some (.int .i64 q.next))/\W.cell? ⟨d,h+t*6,none⟩=some (.int .i64 y.1)/\W.cell? ⟨d,h+t*6+1,none⟩=some (.int .i64 y.2.kind)/\W.cell? ⟨d,h+t*6+2,none⟩=some (.int .i64 y.2.level)/\W.cell? ⟨d,h+t*6+3,none⟩=some (.slice y.2.aI y.2.items.length y.2.cI)/\W.cell? ⟨d,h+t*6+4,none⟩=some (.slice y.2.aD y.2.data.length y.2.cD)/\W.cell? ⟨d,h+t*6+5,none⟩=some (.int .i64 y.2.next)):=λW hb=>by
         have ae:=M.o.gp.keep hb;rw[<-s.o.lp] at ae;obtain⟨g',e',k0,k1,T,k3,k4,k5⟩:=sF ae (i:=t) (by rw[s.o.lp];exact a3) ba.o
         cases e';have k:=λ(j:Nat)(u:Value)(v:(nmc y)[j]?=some u)=>((bt M.o.bl hb).cell (p:=⟨d,h+t*6+j,none⟩) (block_lt_of_cell (aK j u v))).trans (aK j u v)
         exact⟨⟨by rw[<-aI];exact k0,k1,T,k3,k4,k5⟩,k 0 _ rfl,k 1 _ rfl,k 2 _ rfl,k 3 _ rfl,k 4 _ rfl,k 5 _ rfl⟩
        have bq:=iJ (an.o.p y ym).1;have bT:(y.1 != y.1)=false:=by simp
        clear hx K xm ym yd sp aI;go_upto_region 17 with fail
        have B:=iJ (dr2 wr);have I:=iJ (pA wr.drew R y.2 q (bq.o.keep (bt M.o.bl B.o)) (a0.o.keep B.o) aa.o.2);unfold Pv.vl at I;simp only[Pv.cs] at I;clear aK;refine wrd J B.o λhHeld=>?_
        refine tkd 0 1 2 3 ?_;refine tkd 4 5 6 7 ?_;refine tkd 8 9 10 11 ?_;refine tkd 12 13 14 15 ?_;refine tkd 16 17 18 19 ?_;refine tkb 20 21 ?_;refine tw 22 λKx O=>?_
        go_simp;refine I.o.mono ?_;rintro _ ap ⟨rfl,bj⟩;have aE:=iJ (bt B.o bj);clear bj I;go_wp2_with fail
        refine O.o _ _ (J.o _ aE.o) (λhHeld=>?_)
        refine tkb 23 24 ?_;refine td ?_;clear hHeld J;have S3:=iJ (M.o.keep aE.o);have aG:=iJ (a0.o.keep aE.o);clear M a0 B aE;obtain⟨Y,eI,ah⟩:=aG.o.chr;have bE:U8r ap q.aD q.data.length:=aG.o.u8d;obtain⟨gD,_,eD,_⟩:=bE;have ED:Hid (q.aD=some ⟨gD,0,none⟩):=eD;have U0:=iJ aG.o.u8d;have C0:=iJ ah;obtain⟨D,aO⟩:∃D,q.items.length=D:=⟨_,rfl⟩;obtain⟨V,aM⟩:∃V,q.data.length=V:=⟨_,rfl⟩;have EI:=iJ eI
        have aY:Hid (∀W:World,But (Blk q) ap W->W.cell? ⟨g,t*6+3,none⟩=some (.slice (some ⟨Y,0,none⟩) D q.cI)/\W.cell? ⟨g,t*6+4,none⟩=some (.slice (some ⟨gD,0,none⟩) V q.cD)):=λW hb=>by
         have ae:=(S3.o.gp.but hb (λy K e=>a8.o _ e ⟨y,K,rfl⟩))
         rw[<-s.o.lp] at ae;obtain⟨g',e',_,_,_,k3,k4,_⟩:=sF ae (i:=t) (by rw[s.o.lp];exact a3) ba.o
         cases e';rw[<-aO,<-aM,<-EI.o,<-ED.o];exact⟨k3,k4⟩
        have bV:D<=1048576:=by rw[<-aO];exact bb.o.2
        have bR:V<=140737488355264:=by rw[<-aM];exact bb.o.1.1
        have bm:Hid (Blk q Y):=.inl ⟨_,EI.o,rfl⟩;have bl:Hid (Blk q gD):=.inr ⟨_,da,_,ED.o,rfl⟩;have bn:Hid (Y≠gD):=aG.o.ned EI.o ED.o;rw[aO] at C0;rw[aM] at U0;clear aO aM eI eD ah;obtain⟨f3,f4⟩:=aY.o _ (But.refl _ _);go_wp2_with fail
        clear f3 f4;go_loopw [18] (λZ G=>∃k:Nat,k<=D/\Z=.int .i64 (k:Int)/\But (Blk q) ap G/\Chr G Y D/\U8r G q.aD V) (λZ _=>D-(intOf Z).toNat)
        case atStart=>exact⟨0,az _,rfl,But.refl _ _,C0.o,U0.o⟩
        case round=>
         clear C0 U0;obtain⟨k,hk,rfl,A,ah,v⟩:=hrel;obtain⟨f3,f4⟩:=aY.o _ A;by_cases ay:k<D
         . have bf:(k:Int)<(D:Int):=by omega
           obtain⟨c,cc,cf⟩:=ah.cell ay;obtain⟨c',bK⟩:∃c',IntKind.i64.wrap (c+100)=c':=⟨_,rfl⟩;have bs:But (λb=>b=Y) wr (wr.setCell ⟨Y,k*4+2,none⟩ (.int .i64 c')):=(But.refl (λb=>b=Y) wr).setCell (p:=⟨Y,k*4+2,none⟩) (λ_=>rfl) _
           have BN:Hid (But (Blk q) ap (wr.setCell ⟨Y,k*4+2,none⟩ (.int .i64 c'))):=A.trans bs (λb _ e=>by rw[e];exact bm.o)
           have CN:=iJ (ah.set (k:=k) c');have UN:Hid (U8r (wr.setCell ⟨Y,k*4+2,none⟩ (.int .i64 c')) q.aD V):=v.off bs (λx hx e=>by rw[ED.o] at hx;cases hx;exact bn.o e.symm)
           clear A ah v bs;go_wp2_with fail
           generalize wr.setCell ⟨Y,k*4+2,none⟩ (.int .i64 c')=wn at *;go_roundw
           case rel=>exact⟨k+1,by omega,by go_num,BN.o,CN.o,UN.o⟩
           case measure=>simp[intOf];omega
         . obtain rfl:k=D:=by omega
           have a2:¬(k:Int)<(k:Int):=by omega
           have B0:=iJ A;have U0:=iJ v;clear A ah v;generalize wr=bW at *;go_wp2_with fail
           clear f3 f4 a2;go_loopw [19] (λZ G=>∃k:Nat,k<=V/\Z=.int .i64 (k:Int)/\But (Blk q) ap G/\U8r G q.aD V) (λZ _=>V-(intOf Z).toNat)
           case atStart=>exact⟨0,az _,rfl,B0.o,U0.o⟩
           case round=>
            clear B0 U0;obtain⟨T,bO,rfl,A,v⟩:=hrel;obtain⟨f3,f4⟩:=aY.o _ A;by_cases ay:T<V
            . have bf:(T:Int)<(V:Int):=by omega
              have uu:=v;rw[ED.o] at uu;obtain⟨y8,a4,cy,fy⟩:=uu.cell ay;obtain⟨z8,hz,bi⟩:∃z:Nat,bits .xor .u8 ((y8:Nat):Int) 1=((z:Nat):Int)/\z<256:=⟨y8 ^^^ 1,u8_xor_nat y8 1 a4 (by decide),g8 (n:=8) a4 (by decide)⟩
              have BN:Hid (But (Blk q) ap (wr.setCell ⟨gD,T,none⟩ (.int .u8 ((z8:Nat):Int)))):=A.setCell (p:=⟨gD,T,none⟩) (λ_=>bl.o) _
              have UN:=iJ (v.set (gk:=gD) (t:=T) bi);clear A v uu a4 bi;go_wp2_with fail
              generalize wr.setCell ⟨gD,T,none⟩ (.int .u8 ((z8:Nat):Int))=wn at *;go_roundw
              case rel=>exact⟨T+1,by omega,by go_num,BN.o,UN.o⟩
              case measure=>simp[intOf];omega
            . obtain rfl:T=V:=by omega
              have a2:¬(T:Int)<(T:Int):=by omega
              have SN:=iJ (S3.o.next bp.o A bk.o a8.o s.o.dp);clear A v;go_wp2_with fail
              go_roundw
              case rel=>exact⟨t+1,by omega,by go_num,SN.o⟩
              case measure=>simp[intOf];omega
      . obtain rfl:t=i:=by omega
        have bQ:¬(t:Int)<(t:Int):=by omega
        have I0:Hid (Inr wr m n):=Inr.row (Q.ky RW.o M.o.bl) (by omega)
        have K0:Hid (But (λk=>(R.heap.size<=k/\k<N.heap.size)\/k=m) aU wr):=M.o.bt.mono (λ_ _ e=>.inl e)
        clear M;go_wp2_with fail
        go_loopw [20] (λZ G=>∃k:Nat,k<=n/\Z=.int .i64 (k:Int)/\But (λk=>(R.heap.size<=k/\k<N.heap.size)\/k=m) aU G/\Inr G m n) (λZ _=>n-(intOf Z).toNat)
        case atStart=>exact⟨0,az _,rfl,K0.o,I0.o⟩
        case round=>
         clear I0 K0;obtain⟨k,hk,rfl,ao,hI⟩:=hrel;by_cases ay:k<n
         . have bf:(k:Int)<(n:Int):=by omega
           obtain⟨⟨u,cu⟩,fu⟩:=hI.cell ay;have KN:Hid (But (λk=>(R.heap.size<=k/\k<N.heap.size)\/k=m) aU (wr.setCell ⟨m,k,none⟩ (.int .i64 5))):=ao.setCell (p:=⟨m,k,none⟩) (λ_=>.inr rfl) _
           have IN:=iJ (hI.set (k:=k) (.int .i64 5));clear hI ao;go_wp2_with fail
           generalize wr.setCell ⟨m,k,none⟩ (.int .i64 5)=wn at *;go_roundw
           case rel=>exact⟨k+1,by omega,by go_num,KN.o,IN.o⟩
           case measure=>simp[intOf];omega
         . obtain rfl:k=n:=by omega
           clear hI;have a2:¬(k:Int)<(k:Int):=by omega
           first
           |have aT:=VA.o
            have bU:Below U.heap.size U N:=bt B2.o s.o.b
            have va:Va U wr b rb pb mb (ldS r C f) ad [] pc ag ak:=((aT.keep BK.o).pre bU).but ao (λk hk=>by
             have z1:ag k=0:=eW λc=>by have:=aT.vn k c;have:=s.o.b.size;have:=aX.o;omega
             have z2:ak k=0:=eW λc=>by have:=aT.rn k c;have:=s.o.b.size;have:=aX.o;omega
             exact⟨z1,z2,by have:=aV.o;have:=B2.o.size;omega⟩)
            have WO:=iJ (va.work TW.o);clear aT bU va VA TW ao;go_wp2_with fail
            generalize wr.alloc (.cells #[.pointer (some ⟨b,0,none⟩),.pointer (some ⟨rb,0,none⟩),.slice none 0 0,.slice none 0 0,.slice none 0 0] 55)=bX at *;generalize wr.heap.size=wb at *;go_loopw [22] (λvi G=>∃(j:Nat)(S:Vs)(ad:Rd)(aB:List Sn)(pc ag ak:Nat->Nat)(aW:Option Addr)(cW:Nat)(W:List Wl)(aC:Bkk)(am:Nat),j<=nl/\vi=.int .i64 (j:Int)/\am<=4294967296+20*j/\Wo U G wb b rb pb mb S ad aB pc ag ak aW cW W aC am) (λvi _=>nl-(intOf vi).toNat)
            case atStart=>exact⟨0,_,_,_,_,_,_,_,_,_,_,_,az _,rfl,ai _,WO.o⟩
            case round=>
             clear WO;obtain⟨j,S,ad,aB,pc,ag,ak,aW,cW,W,aC,am,hj,rfl,hM,hw⟩:=hrel;have H1:=iJ hw;clear hw;by_cases bz:j<nl
             . have bN:(j:Int)<(nl:Int):=by omega
               obtain⟨bA,oA,ea,E⟩:=OS.o.at' j (by rw[NL.o];exact bz)
               obtain⟨o,ho⟩:∃o,L.getD j Oq.zero=o:=⟨_,rfl⟩
               have om:o∈L:=by
                have:=NL.o;rw[<-ho];simp only[aq];rw[aR (by omega)]
                exact eK _
               have oi:=OS.o.i o om;rw[ho] at E;obtain⟨d0,d1,d2,d3,d4,d5,d6,d7⟩:=wR (W:=wr) (b:=bA) (o:=oA+j*8) (q:=o) (λk u v=>(H1.o.va.bl.cell (p:=⟨bA,oA+j*8+k,none⟩) (block_lt_of_cell (E k u v))).trans (E k u v))
               have DO:=iJ (xS U wr wb b rb pb mb S ad aB pc ag ak aW cW W aC am H1.o (by omega) o (Fm H1.o.va oi.1 oi.2))
               have OV:Hid (o.vl=.agg #[.int .i64 o.kind,.int .i64 o.n,.int .i64 o.k,.int .i64 o.p.kind,.int .i64 o.p.level,.slice o.p.aI o.p.items.length o.p.cI,.slice o.p.aD o.p.data.length o.p.cD,.int .i64 o.p.next]):=rfl;rw[OV.o] at DO;subst ea;clear E ho om oi OV;go_wp2_with fail
               refine DO.o.mono ?_;rintro _ w3 ⟨rfl,S',D',H',bF,bI,bJ,br,bu,W',K',hw,_⟩;have H3:=iJ hw;clear hw DO d0 d1 d2 d3 d4 d5 d6 d7;go_wp2_with fail
               go_roundw
               case rel=>exact⟨j+1,S',D',H',bF,bI,bJ,br,bu,W',K',am+20,by omega,by go_num,by omega,H3.o⟩
               case measure=>simp[intOf];omega
             . obtain rfl:j=nl:=by omega
               have AL:=iJ (wC U wr wb b rb pb mb S ad aB pc ag ak aW cW W aC am H1.o (by omega))
               go_wp2_with fail
               refine AL.o.mono ?_;rintro _ w4 ⟨rfl,bd,_⟩;have B4:=iJ bd;clear bd AL;go_wp2_with fail
               go_ret;exact⟨rfl,B4.o⟩
           |have BE:Hid (Below U.heap.size U wr):=((But.ofBelow (S:=λ_=>False) (bt (bt B2.o s.o.b) a7.o)).trans ao (λk hk e=>by have:=aV.o;have:=B2.o.size;omega)).below (λ_ _ e=>e)
            clear ao;go_wp2_with fail
            go_ret;exact⟨rfl,BE.o⟩
end Go.Proofs.YtbdkogimlbnlmaaGreat
namespace Go.Proofs.YtbdkogimlbnlmaaGreat
open Go.Proofs.Tryz
section
open Go.ChangeShapes Go.WideShapes Go.ChangeAt Go.RowKit
variable {H:Type} {enc:TypeId×Value->H} {W:World} {fuel:Nat} {a:Option Addr} {len cap:Nat} {d:DataW H} {p:List MemPlace}
theorem AQ{cs:List Value}(h:DataW.trod enc prog W 0 (λ_=>true) true fuel 39 cs=some (d,p))(l:Rows.uptoBulk d<=1048576):
 ∃x:Int×Pv,cs=nmc x/\3<=Rows.uptoBulk d/\(Pi W x.2/\N64 x.1)/\Smi x.2:=by
 obtain⟨i,b,n,s,m,f,g⟩:=wh underlying39 h;obtain⟨c0,c1,c2,c3,c4,c5,rfl⟩:=Hy (m.trans uy);simp only[py,mz,fa,gW,gY,fR] at f g;obtain⟨v,e,_,t⟩:=DataW.trod_int underlying3 f;obtain rfl:d=.agg [i.1,b.1]:=s;have:=rB i.1;have:=rB b.1;simp only[Rows.uptoBulk,Rows.uptoBulkAll] at l ⊢;obtain⟨q,j,k,r⟩:=sy (d:=b.1) (p:=b.2) g (by omega)
 simp only[fM,eH] at e;subst e;exact⟨(v,q),by rw[j];rfl,by omega,⟨k,n64 t⟩,r⟩
theorem open_numsU(h:DataW.Trod enc prog W 0 (λ_=>true) true 36 (.slice a len cap) d p)(g:Rows.uptoBulk d<=1048576):
 ∃f:List (Int×Pv),len=f.length/\Nm W a f/\(∀x∈f,Smi x.2)/\f.length<=1000000:=by
 obtain⟨fuel,l⟩:=h;obtain⟨s,L,q,e,_,n,_,j,m⟩:=qu nm0 (E:=nmc) 3 underlying36 uy (by decide) (λ_=>rfl) (λ_ _ _ _ h g=>AQ h g) l g
 simp only[Value.cells,fM,eH,bM] at e;obtain⟨rfl,rfl,rfl⟩:=e;refine⟨L,rfl,⟨λr k=>?_,λx i=>(j x i).1⟩,λx i=>(j x i).2,by omega⟩
 rcases m with rfl|⟨b,off,e,h⟩
 . exact absurd k (dQ _)
 exact⟨b,off,e,h r k⟩
theorem open_intsU(h:DataW.Trod enc prog W 0 (λ_=>true) true 35 (.slice a len cap) d p)(f:Rows.uptoBulk d<=1048576):
 ∃C:List Int,len=C.length/\Q.Ir W a C/\C.length<=1048576:=by
 obtain⟨fuel,g⟩:=h
 obtain⟨k,L,q,e,n,_,_,_,j⟩:=qu 0 (E:=λz:Int=>[Value.int .i64 z]) (Y:=λ_=>True) 0 underlying35 mz (by decide) (λ_=>rfl) (λ_ _ _ _ h _=>by
  obtain⟨z,e,_⟩:=DataW.trod_int underlying3 h;exact⟨z,e,az _,trivial⟩) g f
 simp only[Value.cells,fM,eH,bM] at e;obtain⟨rfl,rfl,rfl⟩:=e;exact⟨L,rfl,j.imp id λ⟨b,off,e,h⟩=>⟨b,off,e,λr i=>by simpa using h r i 0 _ rfl⟩,n⟩
end
end Go.Proofs.YtbdkogimlbnlmaaGreat
