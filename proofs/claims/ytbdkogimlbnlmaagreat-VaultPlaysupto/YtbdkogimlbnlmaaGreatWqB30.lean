import Derived.Test.YtbdkogimlbnlmaaGreatWqB27
import Derived.Stop.RegionWithIn
set_option linter.unusedVariables false
set_option linter.unusedSimpArgs false
set_option maxHeartbeats 16000000
set_option maxRecDepth 10000
namespace Go.Proofs.YtbdkogimlbnlmaaGreat
open Go.RowKit Go.Shelf
attribute [local go_sem] Oper.semAt_some
variable {c:Nat}{a:Option Addr}{w:World}
def EnP(W0 W1:World)(x:Int×Pv)(vals:Array Value):Prop:=∃q:Pv,vals=#[.int .i64 x.1,q.vl]/\q.pg=x.2.pg/\Pn W0 W1 q/\q.items.length<=1048576
theorem tkI{F:Fence}{n:Nat}{P:Program}{md:Region.Mode}{ops:Array Oper}{Q:Exit->Act->World->Prop}(i:Nat){oi:Oper}{v:Value}{fuel:Nat}{listed l:Array Bool}{a b:Act}{w:World}(h:wpAnyIn F n P md ops Q fuel l b w)(hro:F.round=none:=by exact rfl)(hi:ops[i]?=some oi:=by exact rfl)
 (hk:(Region.noSelect ops&&(Region.free md ops listed i&&(Region.ready md ops listed).contains i))=true:=by kernel_rfl)
 (hQ:∀c a w,Q (.panic c) (a.put oi.dst v) w->Q (.panic c) a w:=by exact λ_ _ _ h=>h) (hw:Region.wanted oi (yielded ops a.tmps)=true:=by exact rfl)
 (hy:∀w,(execOp a.eval oi).run P w=.ok (.value v) w:=by (intro _;go_simp<;>with_reducible rfl)) (ha:∀w,oi.about P w a.eval=none:=by exact λ_=>rfl)
 (hl:listed.setIfInBounds i true=l:=by ((try simp only[pt]);exact rfl)) (hb:a.put oi.dst v=b:=by ((try simp only[pt]);exact rfl)):wpAnyIn F n P md ops Q (fuel+1) listed a w:=by
 simp only[bO] at hk;exact wpAnyIn_take hro hi hk.1 hk.2.1 hk.2.2 hQ ⟨.inl ⟨hw,hy⟩,ha⟩ (hl▸hb▸h)
theorem vF:∀(L:List (Int×Pv))(i k:Nat),i<L.length->k<6->(nms L)[i*6+k]?=(nmc (L.getD i (0,Pv.zero)))[k]?
 | [],i,k,h,_=>absurd h (dH _)
 |x::L,0,k,h,hk=>by
  have hl:(nmc x).length=6:=rfl;simp only[nms,bz,dC,dR,bG];rw[bm (by omega)]
  rfl
 |x::L,i+1,k,h,hk=>by
  have hl:(nmc x).length=6:=rfl;have ih:=vF L i k (by simpa using h) hk
  simp only[nms,bz,dC] at ih ⊢;rw[bi (by omega),hl,show(i+1)*6+k-6=i*6+k by omega,ih]
  rfl
theorem yP{L:List (Int×Pv)}(h:Q.Gw 39 6 w a c L.length (nms L)){i:Nat}(hi:i<L.length){x:Int×Pv}(hx:L.getD i (0,Pv.zero)=x):∃g,a=some ⟨g,0,none⟩/\w.cell? ⟨g,i*6,none⟩=some (.int .i64 x.1)/\w.cell? ⟨g,i*6+1,none⟩=some (.int .i64 x.2.kind)/\w.cell? ⟨g,i*6+2,none⟩=some (.int .i64 x.2.level)/\w.cell? ⟨g,i*6+3,none⟩=some (.slice x.2.aI x.2.items.length x.2.cI)/\w.cell? ⟨g,i*6+4,none⟩=some (.slice x.2.aD x.2.data.length x.2.cD)/\w.cell? ⟨g,i*6+5,none⟩=some (.int .i64 x.2.next):=by
 obtain⟨g,e⟩:=h.addr (by omega)
 have r:=h;rw[e] at r;have k:=λ(j:Nat)(hj:j<6)=>vF L i j hi hj
 rw[hx] at k;exact⟨g,e,r.cell (by have:=k 0 (by decide);rw[bY] at this;rw[this];rfl),r.cell (by rw[k 1 (by decide)];rfl),r.cell (by rw[k 2 (by decide)];rfl),r.cell (by rw[k 3 (by decide)];rfl),r.cell (by rw[k 4 (by decide)];rfl),r.cell (by rw[k 5 (by decide)];rfl)⟩
theorem yJ{v:World}{col colR:Nat->Nat}{tb:Nat}{L:List (Int×Pv)}(h:Wt v w col colR tb a c L)(hlen:L.length<=9223372036854775807):
 SeqG Tryz.prog 116 #[.pointer (some ⟨tb,0,none⟩)] EnP L w (λk=>k=tb\/Q.InA a k\/col k=6):=by
 intro l J Jx W F0 hW hS aJ sJ hY h0;have hwt:Wt v W col colR tb a c L:=h.but hW (λe=>e (.inl rfl)) (λy hy e=>e (.inr (.inl ⟨y,hy,rfl⟩))) (λk hk e=>e (.inr (.inr hk)))
 have HWT:=gZ hwt;have Y:=gZ hY;have AJ:=gZ aJ;have SJ:=gZ sJ;have FSx:=gZ hS;obtain⟨n,hn⟩:∃n:Nat,n=L.length:=⟨_,rfl⟩;have hn':=gZ hn;have hcW:W.cell? ⟨tb,0,none⟩=some (.slice a n c):=by rw[hn];exact dO hwt.bx
 rw[<-hn] at hlen;clear hn h hwt hY hW hS aJ sJ;refine fU Tryz.func116 rfl trivial ?_ rfl;simp only[Tryz.ntmps116,cU,bf,bg,Nat.reduceAdd,Nat.reduceSub,dr,dt,dB,dv,cF,de];gi_wp2
 gi_loopw [7] (λi wr=>∃k:Nat,∃F:Nat->Prop,k<=n/\i=.int .i64 k/\J F (L.take k) wr/\But F0 W wr/\(∀q,F q->F0 q\/W.heap.size<=q))
  (λi _=>n-(intOf i).toNat)
 case atStart=>exact⟨0,F0,aF _,rfl,h0,But.refl _ _,λq hq=>.inl hq⟩
 case round=>
  obtain⟨k,F,hk,rfl,hJ,hB,hFs⟩:=hrel;by_cases hlt:k<n
  . have hkL:k<L.length:=by rw[<-hn'.o];exact hlt
    obtain⟨x,hx⟩:∃x,L.getD k (0,Pv.zero)=x:=⟨_,rfl⟩;have gx:L[k]=x:=by rw[<-hx];simp[hkL]
    have hmem:x∈L:=by rw[<-gx];exact dX hkL
    have TK:=gZ (show L.take (k+1)=L.take k++[x] by rw[gz,aS hkL,gx];rfl)
    have SPL:=gZ (show L=L.take k++x::L.drop (k+1) by
     have e:L.drop k=x::L.drop (k+1):=by rw[cw hkL,gx]
     rw[<-e,cJ])
    have wtr:Wt v wr col colR tb a c L:=HWT.o.but hB (λe=>FSx.o _ e (.inl rfl)) (λy hy e=>FSx.o _ e (.inr (.inl ⟨y,hy,rfl⟩))) (λj hj e=>FSx.o _ e (.inr (.inr hj)))
    obtain⟨g,ea,d0,d1,d2,d3,d4,d5⟩:=yP wtr.lr hkL hx;have EA:=gZ ea;have A1:=gZ (bt (al wr (.cells #[.int .i64 x.1,.int .i64 x.2.kind,.int .i64 x.2.level,.slice x.2.aI x.2.items.length x.2.cI,.slice x.2.aD x.2.data.length x.2.cD,.int .i64 x.2.next] 39)) (dr2 (wr.alloc (.cells #[.int .i64 x.1,.int .i64 x.2.kind,.int .i64 x.2.level,.slice x.2.aI x.2.items.length x.2.cI,.slice x.2.aD x.2.data.length x.2.cD,.int .i64 x.2.next] 39))));have X1:=gZ (aH wr (.cells #[.int .i64 x.1,.int .i64 x.2.kind,.int .i64 x.2.level,.slice x.2.aI x.2.items.length x.2.cI,.slice x.2.aD x.2.data.length x.2.cD,.int .i64 x.2.next] 39));have PI:=gZ ((wtr.lp x hmem).keep A1.o).pi;have SM:=gZ (wtr.ls x hmem);have CP:=gZ (kj (wr.alloc (.cells #[.int .i64 x.1,.int .i64 x.2.kind,.int .i64 x.2.level,.slice x.2.aI x.2.items.length x.2.cI,.slice x.2.aD x.2.data.length x.2.cD,.int .i64 x.2.next] 39)).drew x.2 PI.o SM.o.1.1 SM.o.1.2);have J1:Hid (J F (L.take k) (wr.alloc (.cells #[.int .i64 x.1,.int .i64 x.2.kind,.int .i64 x.2.level,.slice x.2.aI x.2.items.length x.2.cI,.slice x.2.aD x.2.data.length x.2.cD,.int .i64 x.2.next] 39)).drew):=AJ.o _ _ _ _ hJ (But.ofBelow A1.o);have BA:Hid (But F0 W (wr.alloc (.cells #[.int .i64 x.1,.int .i64 x.2.kind,.int .i64 x.2.level,.slice x.2.aI x.2.items.length x.2.cI,.slice x.2.aD x.2.data.length x.2.cD,.int .i64 x.2.next] 39)).drew):=hB.andBelow A1.o;have hsz:=hB.size;have S1:=gZ A1.o.size;have HFs:=gZ hFs
    have YQ:Hid (∀(q:Pv)(W4:World),Pn (wr.alloc (.cells #[.int .i64 x.1,.int .i64 x.2.kind,.int .i64 x.2.level,.slice x.2.aI x.2.items.length x.2.cI,.slice x.2.aD x.2.data.length x.2.cD,.int .i64 x.2.next] 39)).drew W4 q->q.pg=x.2.pg->Below (wr.alloc (.cells #[.int .i64 x.1,.int .i64 x.2.kind,.int .i64 x.2.level,.slice x.2.aI x.2.items.length x.2.cI,.slice x.2.aD x.2.data.length x.2.cD,.int .i64 x.2.next] 39)).drew.heap.size (wr.alloc (.cells #[.int .i64 x.1,.int .i64 x.2.kind,.int .i64 x.2.level,.slice x.2.aI x.2.items.length x.2.cI,.slice x.2.aD x.2.data.length x.2.cD,.int .i64 x.2.next] 39)).drew W4->YieldAt Fence.wide 0 Tryz.prog l #[.int .i64 x.1,.agg #[.int .i64 q.kind,.int .i64 q.level,.slice q.aI q.items.length q.cI,.slice q.aD q.data.length q.cD,.int .i64 q.next]] W4 (YesG F J Jx (L.take k++[x]) (wr.alloc (.cells #[.int .i64 x.1,.int .i64 x.2.kind,.int .i64 x.2.level,.slice x.2.aI x.2.items.length x.2.cI,.slice x.2.aD x.2.data.length x.2.cD,.int .i64 x.2.next] 39)).drew W4)):=λq W4 hn hg hb=>
     Y.o F (L.take k) x (L.drop (k+1)) _ W4 _ SPL.o J1.o hb ⟨q,rfl,hg,hn,by
      have e:=aY (λg:Pg=>g.items.length) hg
      simp only[Pv.pg,a7] at e;rw[e];exact SM.o.2⟩ (by have:=S1.o;omega) HFs.o
    obtain⟨z0,z1,z2,z3,z4,z5⟩:=oO X1.o;unfold Pv.vl at CP;simp only[Pv.cs] at CP;rw[ea] at hcW;subst ea;clear hJ hFs wtr hx gx hmem hB PI SM;have hkI:(k:Int)<(n:Int):=by omega
    gi_wp2
    refine gY (by kernel_rfl) ?_
    change wpAnyIn _ _ _ _ _ _ _ _ _ (World.drew _);refine tkI 0 ?_;refine tkI 1 ?_;refine tkI 3 ?_;refine fh (rs:=[2,4]) (by kernel_rfl) (by simp) ?_
    refine(AllReadyIn.cons rfl (λKx hK=>?_) (AllReadyIn.cons rfl (λKx hK=>?_) AllReadyIn.nil))
    . go_simp;refine hK _ _ ?_;try simp only[pt]
      refine fh (rs:=[4]) (by kernel_rfl) (by simp) ?_
      refine AllReadyIn.cons rfl (λKx hK=>?_) AllReadyIn.nil
      go_simp;refine hK _ _ ?_;try simp only[pt]
      refine fh (rs:=[5]) (by kernel_rfl) (by simp) ?_
      refine AllReadyIn.cons rfl (λKx hK=>?_) AllReadyIn.nil
      go_simp;refine⟨trivial,rfl,(ew.2 CP.o).mono ?_⟩;rintro _ W4 ⟨q,rfl,hn,hg,hb⟩;have YV:=gZ (YQ.o q W4 hn hg hb);have B4:=gZ hb;have zz0:=(hb.cell (p:=⟨wr.heap.size,0,none⟩) (by show wr.heap.size<_;have:=S1.o;exact(af.1 X1.o).1)).trans z0
      clear hn hg hb;refine hK _ _ ?_;try simp only[pt]
      refine fh (rs:=[6]) (by kernel_rfl) (by simp) ?_
      refine AllReadyIn.cons rfl (λKx hK=>?_) AllReadyIn.nil
      obtain⟨fn,tmps,assign,body,hy,hR⟩:=YV.o;go_simp;refine⟨rfl,hR.mono ?_⟩;rintro e W5 ⟨G,h3,hG,⟨rfl,hJ3⟩|⟨rfl,hJ3⟩⟩
      all_goals
       have J3:=gZ hJ3;have B3:=gZ ((BA.o.andBelow B4.o).trans h3 (λq hq h=>(HFs.o q h).elim id (λh=>by omega)))
       have G3:Hid (∀q,G q->F0 q\/W.heap.size<=q):=λq hq=>(hG q hq).elim (HFs.o q) (λh=>.inr (by have:=S1.o;omega))
       clear hJ3 h3 hG;refine hK _ _ ?_;refine tkI 7 ?_;refine wpAnyIn_done (by kernel_rfl) ?_ _
       gi_wp2
      . go_roundw
        case rel=>exact⟨k+1,G,by omega,by simp,by rw[TK.o];exact J3.o,B3.o,G3.o⟩
        case measure=>simp[intOf];omega
      . refine bQ (d9 rfl _ _ _) rfl ?_;exact⟨G,⟨_,rfl⟩,B3.o,G3.o,.inr ⟨_,L.drop (k+1),by rw[aM];exact SPL.o,J3.o⟩⟩
    go_simp;refine hK _ _ ?_;try simp only[pt]
    refine fh (rs:=[2,5]) (by kernel_rfl) (by simp) ?_
    refine(AllReadyIn.cons rfl (λKx hK=>?_) (AllReadyIn.cons rfl (λKx hK=>?_) AllReadyIn.nil))
    all_goals
     first
     |go_simp
      refine hK _ _ ?_;try simp only[pt]
      refine fh (rs:=[5]) (by kernel_rfl) (by simp) ?_
      refine AllReadyIn.cons rfl (λKx hK=>?_) AllReadyIn.nil
      go_simp;refine⟨trivial,rfl,(ew.2 CP.o).mono ?_⟩;rintro _ W4 ⟨q,rfl,hn,hg,hb⟩;have YV:=gZ (YQ.o q W4 hn hg hb);have B4:=gZ hb;have zz0:=(hb.cell (p:=⟨wr.heap.size,0,none⟩) (by show wr.heap.size<_;have:=S1.o;exact(af.1 X1.o).1)).trans z0
      clear hn hg hb;refine hK _ _ ?_;try simp only[pt]
     |go_simp
      refine⟨trivial,rfl,(ew.2 CP.o).mono ?_⟩;rintro _ W4 ⟨q,rfl,hn,hg,hb⟩;have YV:=gZ (YQ.o q W4 hn hg hb);have B4:=gZ hb;have zz0:=(hb.cell (p:=⟨wr.heap.size,0,none⟩) (by show wr.heap.size<_;have:=S1.o;exact(af.1 X1.o).1)).trans z0
      clear hn hg hb;refine hK _ _ ?_;try simp only[pt]
      refine fh (rs:=[2]) (by kernel_rfl) (by simp) ?_
      refine AllReadyIn.cons rfl (λKx hK=>?_) AllReadyIn.nil
      go_simp;refine hK _ _ ?_;try simp only[pt]
    all_goals
     refine fh (rs:=[6]) (by kernel_rfl) (by simp) ?_
     refine AllReadyIn.cons rfl (λKx hK=>?_) AllReadyIn.nil
     obtain⟨fn,tmps,assign,body,hy,hR⟩:=YV.o;go_simp;refine⟨rfl,hR.mono ?_⟩;rintro e W5 ⟨G,h3,hG,⟨rfl,hJ3⟩|⟨rfl,hJ3⟩⟩
     all_goals
      have J3:=gZ hJ3;have B3:=gZ ((BA.o.andBelow B4.o).trans h3 (λq hq h=>(HFs.o q h).elim id (λh=>by omega)))
      have G3:Hid (∀q,G q->F0 q\/W.heap.size<=q):=λq hq=>(hG q hq).elim (HFs.o q) (λh=>.inr (by have:=S1.o;omega))
      clear hJ3 h3 hG;refine hK _ _ ?_;refine tkI 7 ?_;refine wpAnyIn_done (by kernel_rfl) ?_ _
      gi_wp2
     . go_roundw
       case rel=>exact⟨k+1,G,by omega,by simp,by rw[TK.o];exact J3.o,B3.o,G3.o⟩
       case measure=>simp[intOf];omega
     . refine bQ (d9 rfl _ _ _) rfl ?_;exact⟨G,⟨_,rfl⟩,B3.o,G3.o,.inr ⟨_,L.drop (k+1),by rw[aM];exact SPL.o,J3.o⟩⟩
  . obtain rfl:k=n:=by omega
    have HJ:=gZ hJ;have HFs:=gZ hFs;clear hJ hFs;gi_wp2
    go_end0
    exact⟨F,⟨_,rfl⟩,hB,HFs.o,.inl (by have t:=HJ.o;rw[hn'.o,cM] at t;exact t)⟩
end Go.Proofs.YtbdkogimlbnlmaaGreat
