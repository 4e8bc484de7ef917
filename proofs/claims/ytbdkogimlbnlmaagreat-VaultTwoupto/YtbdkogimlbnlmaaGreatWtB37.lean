import Derived.Test.YtbdkogimlbnlmaaGreatWtB36
set_option linter.unusedVariables false
set_option linter.unusedSimpArgs false
set_option maxHeartbeats 64000000
namespace Go.Proofs.YtbdkogimlbnlmaaGreat
open Go.RowKit
theorem pq{W:World}{b o:Nat}{q:Oq}(h:∀k u,q.cs[k]?=some u->W.cell? ⟨b,o+k,none⟩=some u):W.cell? ⟨b,o,none⟩=some (.int .i64 q.kind)/\W.cell? ⟨b,o+1,none⟩=some (.int .i64 q.n)/\W.cell? ⟨b,o+2,none⟩=some (.int .i64 q.k)/\W.cell? ⟨b,o+3,none⟩=some (.int .i64 q.p.kind)/\W.cell? ⟨b,o+4,none⟩=some (.int .i64 q.p.level)/\W.cell? ⟨b,o+5,none⟩=some (.slice q.p.aI q.p.items.length q.p.cI)/\W.cell? ⟨b,o+6,none⟩=some (.slice q.p.aD q.p.data.length q.p.cD)/\W.cell? ⟨b,o+7,none⟩=some (.int .i64 q.p.next):=
 ⟨h 0 _ rfl,h 1 _ rfl,h 2 _ rfl,h 3 _ rfl,h 4 _ rfl,h 5 _ rfl,h 6 _ rfl,h 7 _ rfl⟩
theorem al4(U:World)(c0 c1 c2 c3:Array Value)(t0 t1 t2 t3:TypeId):∃w4:World,Hid (w4=(((U.alloc (.cells c0 t0)).alloc (.cells c1 t1)).alloc (.cells c2 t2)).alloc (.cells c3 t3))/\Hid (Below U.heap.size U w4)/\Hid (w4.heap.size=U.heap.size+1+1+1+1)/\Hid (w4.heap[U.heap.size]?=some (.cells c0 t0 (0,0)))/\Hid (w4.heap[U.heap.size+1]?=some (.cells c1 t1 (0,0)))/\Hid (w4.heap[U.heap.size+1+1]?=some (.cells c2 t2 (0,0)))/\Hid (w4.heap[U.heap.size+1+1+1]?=some (.cells c3 t3 (0,0))):=by
 have e1:=aH (U.alloc (.cells c0 t0)) (.cells c1 t1);have e2:=aH ((U.alloc (.cells c0 t0)).alloc (.cells c1 t1)) (.cells c2 t2);have e3:=aH (((U.alloc (.cells c0 t0)).alloc (.cells c1 t1)).alloc (.cells c2 t2)) (.cells c3 t3);simp only[size_alloc] at e1 e2 e3;have s4:((((U.alloc (.cells c0 t0)).alloc (.cells c1 t1)).alloc (.cells c2 t2)).alloc (.cells c3 t3)).heap.size=U.heap.size+1+1+1+1:=by simp only[size_alloc]
 exact⟨_,rfl,bt (bt (bt (al U _) (al _ _)) (al _ _)) (al _ _),s4,im (im (im (aH U _) (al _ _)) (al _ _)) (al _ _),im (im e1 (al _ _)) (al _ _),im e2 (al _ _),e3⟩
set_option maxRecDepth 100000 in
theorem vaultTwo_any(U:World)(m0 m1 r0 r1:Int)(a0:Option Addr)(c0:Nat)(L0:List Oq)(h0:Oss U a0 L0)(a1:Option Addr)(c1:Nat)(L1:List Oq)(h1:Oss U a1 L1)(g0:L0.length<=1048576)(g1:L1.length<=1048576)
 (ab:Option Addr) (nt ct:Nat) (T:Nat->Bool) (hT:nt=0\/∃b off,ab=some ⟨b,off,none⟩/\∀j,j<nt->U.cell? ⟨b,off+j,none⟩=some (.bool (T j))) (hnt:nt<=140737488355328):
 Calls Tryz.prog 6 #[.agg #[.int .i64 m0,.int .i64 m1],.agg #[.int .i64 r0,.int .i64 r1],.agg #[.slice a0 L0.length c0,.slice a1 L1.length c1],.slice ab nt ct] U λe w'=>e=.returned (.bool true)/\Below U.heap.size U w':=by
 obtain⟨l0,hl0⟩:∃n,L0.length=n:=⟨_,rfl⟩;obtain⟨l1,hl1⟩:∃n,L1.length=n:=⟨_,rfl⟩;have NL0:=ig hl0;have NL1:=ig hl1;have HS0:=ig h0;have HS1:=ig h1;have HT:=ig hT;rw[hl0] at g0;rw[hl1] at g1;rw[hl0,hl1];clear hl0 hl1 h0 h1 hT;obtain⟨W4,WE,B4,Z4,x0,x1,x2,x3⟩:=al4 U #[.int .i64 m0,.int .i64 m1] #[.int .i64 r0,.int .i64 r1] #[.slice a0 l0 c0,.slice a1 l1 c1] #[.pointer none,.pointer none] 62 62 63 65;go_enter Tryz.func6,Tryz.ntmps6;go_wp2_with fail
 rw[<-WE.o];clear WE;obtain⟨bX,hbX⟩:∃x,U.heap.size+1+1+1=x:=⟨_,rfl⟩;obtain⟨bS,hbS⟩:∃x,U.heap.size+1+1=x:=⟨_,rfl⟩;obtain⟨bR,hbR⟩:∃x,U.heap.size+1=x:=⟨_,rfl⟩;obtain⟨bP,hbP⟩:∃x,U.heap.size=x:=⟨_,rfl⟩;have HH:Hid (U.heap.size=bP/\U.heap.size+1=bR/\U.heap.size+1+1=bS/\U.heap.size+1+1+1=bX/\W4.heap.size=bX+1):=⟨hbP,hbR,hbS,hbX,by rw[Z4.o,hbX]⟩
 rw[hbP] at x0;rw[hbR] at x1;rw[hbS] at x2;rw[hbX] at x3;rw[hbX];rw[hbS];rw[hbR];rw[hbP];clear hbX hbS hbR hbP Z4;go_loopw [10] (λvi wx=>∃j:Nat,vi=.int .i64 (j:Int)/\But (λk=>k=bX) W4 wx/\((j=0/\wx.heap[bX]?=some (.cells #[.pointer none,.pointer none] 65 (0,0)))\/(j=1/\∃(wb0:Nat)(A0:Nat->Prop),wx.heap[bX]?=some (.cells #[.pointer (some ⟨wb0,0,none⟩),.pointer none] 65 (0,0))/\jg U wx wb0 A0 4294967296/\∀k,A0 k->W4.heap.size<=k)\/(j=2/\∃(wb0 wb1:Nat)(A0 A1:Nat->Prop),wx.heap[bX]?=some (.cells #[.pointer (some ⟨wb0,0,none⟩),.pointer (some ⟨wb1,0,none⟩)] 65 (0,0))/\jg U wx wb0 A0 4294967296/\jg U wx wb1 A1 4294967296/\(∀k,A0 k->W4.heap.size<=k)/\(∀k,A1 k->W4.heap.size<=k)/\∀k,A0 k->¬A1 k))) (λvi _=>2-(intOf vi).toNat)
 case atStart=>exact⟨0,rfl,But.refl _ _,.inl ⟨rfl,x3.o⟩⟩
 case round=>
  obtain⟨j,rfl,hG,hcase⟩:=hrel;have HG:=ig hG;clear hG;have BU:Hid (∀W:World,Below wr.heap.size wr W->Below U.heap.size U W):=λW hb=>bt (((But.ofBelow (S:=λ_=>False) B4.o).trans HG.o (λk hk e=>by have:=HH.o;omega)).below (λ_ _ e=>e)) hb
  have SZ:Hid (bX+1<=wr.heap.size):=by have:=HG.o.size;rw[HH.o.2.2.2.2] at this;exact this
  rcases hcase with⟨rfl,hx⟩|⟨rfl,wb0,A0,hx,hw0,hg0⟩|⟨rfl,wb0,wb1,A0,A1,hx,hw0,hw1,hg0,hg1,hd⟩
  . rw[show((0:Nat):Int)=0 from rfl]
    have XX:=ig hx
    have p0:Hid (∀W:World,Below wr.heap.size wr W->W.cell? ⟨bP,0,none⟩=some (.int .i64 m0)/\W.cell? ⟨bR,0,none⟩=some (.int .i64 r0)):=λW hb=>by
     have e0:=im (HG.o.same x0.o (by have:=HH.o;omega)) hb
     have e1:=im (HG.o.same x1.o (by have:=HH.o;omega)) hb
     exact⟨by rw[au _ _ _ _ _ _ e0];rfl,by rw[au _ _ _ _ _ _ e1];rfl⟩
    obtain⟨q0,q1⟩:=p0.o wr (Below.refl _ _);clear hx;by_cases h100:100<m0
    . have d100:decide (100<m0)=true:=ay h100;go_wp2_with fail
      refine(kB wr).mono ?_;rintro _ w1 ⟨rfl,hb1⟩;have B1:=ig (BU.o _ hb1);clear hb1;go_wp2_with fail
      go_ret;exact⟨rfl,B1.o⟩
    have d100:decide (100<m0)=false:=ax h100;go_upto_region 7 with fail
    clear q0 q1;have DR:=ig (dr2 wr);have BG:=ig (yC wr.drew m0 r0);refine bu (S:=λW=>W.cell? ⟨bP,0,none⟩=some (.int .i64 m0)/\W.cell? ⟨bR,0,none⟩=some (.int .i64 r0)) (by kernel_rfl) (p0.o _ DR.o) (λhHeld=>?_)
    refine tkd 0 1 2 3 ?_;refine tkb 4 5 ?_;refine tw 6 λKx hK=>?_
    go_simp;refine BG.o.mono ?_;rintro e w2 ⟨hb2,rfl|⟨wb,A,rfl,hw⟩⟩
    all_goals
     have B2:=ig (bt DR.o hb2);clear hb2 BG;go_wp2_with fail
     refine hK.o _ _ (p0.o _ B2.o) (λhHeld=>?_)
     refine tkd 7 8 9 10 ?_;refine tk 11 ?_;refine td ?_;clear hHeld p0
    . go_wp2_with fail
      refine(kB w2).mono ?_;rintro _ w3 ⟨rfl,hb3⟩;have B3:=ig (BU.o _ (bt B2.o hb3));clear hb3;go_wp2_with fail
      go_ret;exact⟨rfl,B3.o⟩
    . have WK:=ig hw;have X2:=ig (im XX.o B2.o);have xc:w2.cell? ⟨bX,0,none⟩=some (.pointer none):=by rw[au _ _ _ _ _ _ X2.o];rfl
      have xf:w2.frozen? ⟨bX,0,none⟩=false:=bq _ _ _ _ _ X2.o;clear hw;have X3:Hid ((w2.setCell ⟨bX,0,none⟩ (.pointer (some ⟨wb,0,none⟩))).heap[bX]?=some (.cells #[.pointer (some ⟨wb,0,none⟩),.pointer none] 65 (0,0))):=by show _=_;rw[aM _ _ _ _ _ _ X2.o];rfl
      have C3:Hid (But (λk=>k=bX) w2 (w2.setCell ⟨bX,0,none⟩ (.pointer (some ⟨wb,0,none⟩)))):=(But.refl (λk=>k=bX) w2).setCell (p:=⟨bX,0,none⟩) (λ_=>rfl) _
      go_wp2_with fail
      generalize w2.setCell ⟨bX,0,none⟩ (.pointer (some ⟨wb,0,none⟩))=w3 at *;have N3:Hid (∀k,A k->wr.heap.size<=k):=λk hk=>(WK.o.area hk).1
      have W3:Hid (jg U w3 wb A 4294967296):=(WK.o.pre (BU.o _ DR.o)).far C3.o (λk e=>⟨λhk=>by have:=N3.o k hk;have:=SZ.o;omega,by have:=HH.o;omega⟩)
      have G3:Hid (But (λk=>k=bX) W4 w3):=(HG.o.trans (But.ofBelow (S:=λk=>k=bX) B2.o) (λ_ _ e=>e)).trans C3.o (λ_ _ e=>e)
      have A3:Hid (∀k,A k->W4.heap.size<=k):=λk hk=>aO HG.o.size (N3.o k hk)
      go_roundw
      case rel=>exact⟨1,by go_num,G3.o,.inr (.inl ⟨rfl,wb,A,X3.o,W3.o,A3.o⟩)⟩
      case measure=>simp[intOf]
  . rw[show((1:Nat):Int)=1 from rfl]
    have XX:=ig hx;have W0:=ig hw0;have G0:=ig hg0;clear hw0 hg0
    have p0:Hid (∀W:World,Below wr.heap.size wr W->W.cell? ⟨bP,1,none⟩=some (.int .i64 m1)/\W.cell? ⟨bR,1,none⟩=some (.int .i64 r1)):=λW hb=>by
     have e0:=im (HG.o.same x0.o (by have:=HH.o;omega)) hb
     have e1:=im (HG.o.same x1.o (by have:=HH.o;omega)) hb
     exact⟨by rw[au _ _ _ _ _ _ e0];rfl,by rw[au _ _ _ _ _ _ e1];rfl⟩
    obtain⟨q0,q1⟩:=p0.o wr (Below.refl _ _);clear hx;by_cases h100:100<m1
    . have d100:decide (100<m1)=true:=ay h100;go_wp2_with fail
      refine(kB wr).mono ?_;rintro _ w1 ⟨rfl,hb1⟩;have B1:=ig (BU.o _ hb1);clear hb1;go_wp2_with fail
      go_ret;exact⟨rfl,B1.o⟩
    have d100:decide (100<m1)=false:=ax h100;go_upto_region 7 with fail
    clear q0 q1;have DR:=ig (dr2 wr);have BG:=ig (yC wr.drew m1 r1);refine bu (S:=λW=>W.cell? ⟨bP,1,none⟩=some (.int .i64 m1)/\W.cell? ⟨bR,1,none⟩=some (.int .i64 r1)) (by kernel_rfl) (p0.o _ DR.o) (λhHeld=>?_)
    refine tkd 0 1 2 3 ?_;refine tkb 4 5 ?_;refine tw 6 λKx hK=>?_
    go_simp;refine BG.o.mono ?_;rintro e w2 ⟨hb2,rfl|⟨wb,A,rfl,hw⟩⟩
    all_goals
     have B2:=ig (bt DR.o hb2);clear hb2 BG;go_wp2_with fail
     refine hK.o _ _ (p0.o _ B2.o) (λhHeld=>?_)
     refine tkd 7 8 9 10 ?_;refine tk 11 ?_;refine td ?_;clear hHeld p0
    . go_wp2_with fail
      refine(kB w2).mono ?_;rintro _ w3 ⟨rfl,hb3⟩;have B3:=ig (BU.o _ (bt B2.o hb3));clear hb3;go_wp2_with fail
      go_ret;exact⟨rfl,B3.o⟩
    . have WK:=ig hw;have X2:=ig (im XX.o B2.o);have xc:w2.cell? ⟨bX,1,none⟩=some (.pointer none):=by rw[au _ _ _ _ _ _ X2.o];rfl
      have xf:w2.frozen? ⟨bX,1,none⟩=false:=bq _ _ _ _ _ X2.o;clear hw;have X3:Hid ((w2.setCell ⟨bX,1,none⟩ (.pointer (some ⟨wb,0,none⟩))).heap[bX]?=some (.cells #[.pointer (some ⟨wb0,0,none⟩),.pointer (some ⟨wb,0,none⟩)] 65 (0,0))):=by show _=_;rw[aM _ _ _ _ _ _ X2.o];rfl
      have C3:Hid (But (λk=>k=bX) w2 (w2.setCell ⟨bX,1,none⟩ (.pointer (some ⟨wb,0,none⟩)))):=(But.refl (λk=>k=bX) w2).setCell (p:=⟨bX,1,none⟩) (λ_=>rfl) _
      go_wp2_with fail
      generalize w2.setCell ⟨bX,1,none⟩ (.pointer (some ⟨wb,0,none⟩))=w3 at *;have N3:Hid (∀k,A k->wr.heap.size<=k):=λk hk=>(WK.o.area hk).1
      have W3:Hid (jg U w3 wb A 4294967296):=(WK.o.pre (BU.o _ DR.o)).far C3.o (λk e=>⟨λhk=>by have:=N3.o k hk;have:=SZ.o;omega,by have:=HH.o;omega⟩)
      have G3:Hid (But (λk=>k=bX) W4 w3):=(HG.o.trans (But.ofBelow (S:=λk=>k=bX) B2.o) (λ_ _ e=>e)).trans C3.o (λ_ _ e=>e)
      have A3:Hid (∀k,A k->W4.heap.size<=k):=λk hk=>aO HG.o.size (N3.o k hk)
      have V3:Hid (jg U w3 wb0 A0 4294967296):=(W0.o.keep B2.o).far C3.o (λk e=>⟨λhk=>by have:=G0.o k hk;have:=HH.o;omega,by have:=HH.o;omega⟩)
      have D3:Hid (∀k,A0 k->¬A k):=λk hk e=>by have:=(W0.o.area hk).2;have:=N3.o k e;omega
      go_roundw
      case rel=>exact⟨2,by go_num,G3.o,.inr (.inr ⟨rfl,wb0,wb,A0,A,X3.o,V3.o,W3.o,G0.o,A3.o,D3.o⟩)⟩
      case measure=>simp[intOf]
  . rw[show((2:Nat):Int)=2 from rfl]
    have AA:=ig (al wr (.cells #[.int .i64 0,.int .i64 0] 62));have XA:=ig (aH wr (.cells #[.int .i64 0,.int .i64 0] 62))
    have H5:Hid (T2 U (wr.alloc (.cells #[.int .i64 0,.int .i64 0] 62)) bS bX wr.heap.size wb0 wb1 #[.slice a0 l0 c0,.slice a1 l1 c1] A0 A1 0 0 4294967296):=by
     have z:=HH.o;have s:=SZ.o;have b:=(BU.o _ (Below.refl _ _)).size;exact⟨hw0.keep AA.o,hw1.keep AA.o,hd,⟨λe=>by have:=hg0 _ e;omega,λe=>by have:=hg0 _ e;omega,λe=>by have:=(hw0.area e).2;omega⟩,⟨λe=>by have:=hg1 _ e;omega,λe=>by have:=hg1 _ e;omega,λe=>by have:=(hw1.area e).2;omega⟩,⟨by omega,by omega,b⟩,im (HG.o.same x2.o (by omega)) AA.o,im hx AA.o,XA.o⟩
    clear hx hw0 hw1 hg0 hg1 hd AA XA HG BU SZ;go_wp2_with fail
    generalize wr.alloc (.cells #[.int .i64 0,.int .i64 0] 62)=w5 at *;generalize wr.heap.size=bA at *;go_loopw [14] (λvi wx=>∃(j p0 p1:Nat)(A0 A1:Nat->Prop)(M:Nat),j<=nt/\vi=.int .i64 (j:Int)/\p0<=l0/\p1<=l1/\M<=4294967296+20*(p0+p1)/\T2 U wx bS bX bA wb0 wb1 #[.slice a0 l0 c0,.slice a1 l1 c1] A0 A1 p0 p1 M) (λvi _=>nt-(intOf vi).toNat)
    case atStart=>exact⟨0,0,0,A0,A1,4294967296,aF _,rfl,aF _,aF _,by omega,H5.o⟩
    case round=>
     clear H5;obtain⟨j,p0,p1,A0,A1,M,hj,rfl,e0,e1,hM,hG⟩:=hrel;have HG:=ig hG;clear hG;by_cases hlt:j<nt
     . have hi:(j:Int)<(nt:Int):=by omega
       rcases HT.o with h0|⟨tb,tof,rfl,hTc⟩
       . omega
       have tc:=(HG.o.a.bl.cell (p:=⟨tb,tof+j,none⟩) (block_lt_of_cell (hTc j hlt))).trans (hTc j hlt);clear hTc;cases hTj:T j
       . rw[hTj] at tc;have k1:wr.cell? ⟨bA,0,none⟩=some (.int .i64 (p0:Int)):=by rw[au _ _ _ _ _ _ HG.o.t];rfl
         have k2:wr.cell? ⟨bS,0,none⟩=some (.slice a0 l0 c0):=by rw[au _ _ _ _ _ _ HG.o.s];rfl
         by_cases hp:p0<l0
         . have hpi:(p0:Int)<(l0:Int):=by omega
           go_upto_region 20 with fail
           go_quiet (fail)
           go_upto_region 21 with fail
           generalize hwd:wr.drewN nq=wd at *;have hBd:Below wr.heap.size wr wd:=by rw[<-hwd];exact drN _ _
           have HD:=ig (HG.o.keep hBd);clear hwd hBd HG k1 k2 tc;obtain⟨bf,fo,ea,hc⟩:=HS0.o.at' p0 (by rw[NL0.o];exact hp)
           have EA:=ig ea;clear ea;obtain⟨o,ho⟩:∃o,L0.getD p0 Oq.zero=o:=⟨_,rfl⟩
           have om:o∈L0:=by
            have:=NL0.o;rw[<-ho];simp only[aq];rw[aU (by omega)]
            exact dZ _
           have OI:=ig (HS0.o.i o om);rw[ho] at hc;have SS:Hid (∀(W:World)(A:Nat->Prop)(B:Nat->Prop)(N:Nat),T2 U W bS bX bA wb0 wb1 #[.slice a0 l0 c0,.slice a1 l1 c1] A B p0 p1 N->W.cell? ⟨bX,0,none⟩=some (.pointer (some ⟨wb0,0,none⟩))/\W.cell? ⟨bS,0,none⟩=some (.slice (some ⟨bf,fo,none⟩) l0 c0)/\W.cell? ⟨bA,0,none⟩=some (.int .i64 (p0:Int))/\W.cell? ⟨bf,fo+p0*8,none⟩=some (.int .i64 o.kind)/\W.cell? ⟨bf,fo+p0*8+1,none⟩=some (.int .i64 o.n)/\W.cell? ⟨bf,fo+p0*8+2,none⟩=some (.int .i64 o.k)/\W.cell? ⟨bf,fo+p0*8+3,none⟩=some (.int .i64 o.p.kind)/\W.cell? ⟨bf,fo+p0*8+4,none⟩=some (.int .i64 o.p.level)/\W.cell? ⟨bf,fo+p0*8+5,none⟩=some (.slice o.p.aI o.p.items.length o.p.cI)/\W.cell? ⟨bf,fo+p0*8+6,none⟩=some (.slice o.p.aD o.p.data.length o.p.cD)/\W.cell? ⟨bf,fo+p0*8+7,none⟩=some (.int .i64 o.p.next)):=λW A B N h=>⟨by rw[au _ _ _ _ _ _ h.x];rfl,by rw[au _ _ _ _ _ _ h.s,<-EA.o];rfl,by rw[au _ _ _ _ _ _ h.t];rfl,pq (q:=o) (λk u hu=>(h.a.bl.cell (p:=⟨bf,fo+p0*8+k,none⟩) (block_lt_of_cell (hc k u hu))).trans (hc k u hu))⟩
           have DR:=ig (dr2 wd);have DO:=ig ((HD.o.keep DR.o).a.do1 (by omega) o OI.o)
           have OV:Hid (o.vl=.agg #[.int .i64 o.kind,.int .i64 o.n,.int .i64 o.k,.int .i64 o.p.kind,.int .i64 o.p.level,.slice o.p.aI o.p.items.length o.p.cI,.slice o.p.aD o.p.data.length o.p.cD,.int .i64 o.p.next]):=rfl;rw[OV.o] at DO;clear hc ho om OV;refine bu (S:=λW=>W.cell? ⟨bX,0,none⟩=some (.pointer (some ⟨wb0,0,none⟩))/\W.cell? ⟨bS,0,none⟩=some (.slice (some ⟨bf,fo,none⟩) l0 c0)/\W.cell? ⟨bA,0,none⟩=some (.int .i64 (p0:Int))/\W.cell? ⟨bf,fo+p0*8,none⟩=some (.int .i64 o.kind)/\W.cell? ⟨bf,fo+p0*8+1,none⟩=some (.int .i64 o.n)/\W.cell? ⟨bf,fo+p0*8+2,none⟩=some (.int .i64 o.k)/\W.cell? ⟨bf,fo+p0*8+3,none⟩=some (.int .i64 o.p.kind)/\W.cell? ⟨bf,fo+p0*8+4,none⟩=some (.int .i64 o.p.level)/\W.cell? ⟨bf,fo+p0*8+5,none⟩=some (.slice o.p.aI o.p.items.length o.p.cI)/\W.cell? ⟨bf,fo+p0*8+6,none⟩=some (.slice o.p.aD o.p.data.length o.p.cD)/\W.cell? ⟨bf,fo+p0*8+7,none⟩=some (.int .i64 o.p.next)) (by kernel_rfl) (SS.o _ _ _ _ (HD.o.keep DR.o)) (λhHeld=>?_)
           refine tkd 0 1 2 3 ?_;refine tkd 4 5 6 7 ?_;refine tkb 8 9 ?_;refine tk 10 ?_;refine tw 11 λKx hK=>?_
           go_simp;refine DO.o.mono ?_;rintro _ w8 ⟨rfl,A',hw,hfa⟩;have H8:=ig ((HD.o.keep DR.o).step0 hw hfa (by omega))
           clear hw hfa DO;go_wp2_with fail
           refine hK.o _ _ (SS.o _ _ _ _ H8.o) (λhHeld=>?_)
           refine tk 12 ?_;refine td ?_;clear hHeld SS EA;have t0:w8.cell? ⟨bA,0,none⟩=some (.int .i64 (p0:Int)):=by rw[au _ _ _ _ _ _ H8.o.t];rfl
           have tf:w8.frozen? ⟨bA,0,none⟩=false:=bq _ _ _ _ _ H8.o.t;have hadd:IntKind.i64.wrap ((p0:Int)+1)=(p0:Int)+1:=iw (by omega) (by omega)
           have H9:=ig H8.o.set0;rw[show((p0+1:Nat):Int)=(p0:Int)+1 by omega] at H9
           clear H8 HD;go_wp2_with fail
           generalize w8.setCell ⟨bA,0,none⟩ (.int .i64 ((p0:Int)+1))=w9 at *;go_roundw
           case rel=>exact⟨j+1,p0+1,p1,_,_,M+20,by omega,by go_num,by omega,by omega,by omega,H9.o⟩
           case measure=>simp[intOf];omega
         . have hpn:¬(p0:Int)<(l0:Int):=by omega
           have dpn:decide ((p0:Int)<(l0:Int))=false:=ax hpn;go_upto_region 20 with fail
           go_quiet (fail)
           go_wp2_with fail
           go_roundw
           case rel=>exact⟨j+1,p0,p1,A0,A1,M,by omega,by go_num,by omega,by omega,by omega,HG.o.keep (drN _ _)⟩
           case measure=>simp[intOf];omega
       . rw[hTj] at tc;have k1:wr.cell? ⟨bA,1,none⟩=some (.int .i64 (p1:Int)):=by rw[au _ _ _ _ _ _ HG.o.t];rfl
         have k2:wr.cell? ⟨bS,1,none⟩=some (.slice a1 l1 c1):=by rw[au _ _ _ _ _ _ HG.o.s];rfl
         by_cases hp:p1<l1
         . have hpi:(p1:Int)<(l1:Int):=by omega
           go_upto_region 20 with fail
           go_quiet (fail)
           go_upto_region 21 with fail
           generalize hwd:wr.drewN nq=wd at *;have hBd:Below wr.heap.size wr wd:=by rw[<-hwd];exact drN _ _
           have HD:=ig (HG.o.keep hBd);clear hwd hBd HG k1 k2 tc;obtain⟨bf,fo,ea,hc⟩:=HS1.o.at' p1 (by rw[NL1.o];exact hp)
           have EA:=ig ea;clear ea;obtain⟨o,ho⟩:∃o,L1.getD p1 Oq.zero=o:=⟨_,rfl⟩
           have om:o∈L1:=by
            have:=NL1.o;rw[<-ho];simp only[aq];rw[aU (by omega)]
            exact dZ _
           have OI:=ig (HS1.o.i o om);rw[ho] at hc;have SS:Hid (∀(W:World)(A:Nat->Prop)(B:Nat->Prop)(N:Nat),T2 U W bS bX bA wb0 wb1 #[.slice a0 l0 c0,.slice a1 l1 c1] A B p0 p1 N->W.cell? ⟨bX,1,none⟩=some (.pointer (some ⟨wb1,0,none⟩))/\W.cell? ⟨bS,1,none⟩=some (.slice (some ⟨bf,fo,none⟩) l1 c1)/\W.cell? ⟨bA,1,none⟩=some (.int .i64 (p1:Int))/\W.cell? ⟨bf,fo+p1*8,none⟩=some (.int .i64 o.kind)/\W.cell? ⟨bf,fo+p1*8+1,none⟩=some (.int .i64 o.n)/\W.cell? ⟨bf,fo+p1*8+2,none⟩=some (.int .i64 o.k)/\W.cell? ⟨bf,fo+p1*8+3,none⟩=some (.int .i64 o.p.kind)/\W.cell? ⟨bf,fo+p1*8+4,none⟩=some (.int .i64 o.p.level)/\W.cell? ⟨bf,fo+p1*8+5,none⟩=some (.slice o.p.aI o.p.items.length o.p.cI)/\W.cell? ⟨bf,fo+p1*8+6,none⟩=some (.slice o.p.aD o.p.data.length o.p.cD)/\W.cell? ⟨bf,fo+p1*8+7,none⟩=some (.int .i64 o.p.next)):=λW A B N h=>⟨by rw[au _ _ _ _ _ _ h.x];rfl,by rw[au _ _ _ _ _ _ h.s,<-EA.o];rfl,by rw[au _ _ _ _ _ _ h.t];rfl,pq (q:=o) (λk u hu=>(h.a.bl.cell (p:=⟨bf,fo+p1*8+k,none⟩) (block_lt_of_cell (hc k u hu))).trans (hc k u hu))⟩
           have DR:=ig (dr2 wd);have DO:=ig ((HD.o.keep DR.o).b.do1 (by omega) o OI.o)
           have OV:Hid (o.vl=.agg #[.int .i64 o.kind,.int .i64 o.n,.int .i64 o.k,.int .i64 o.p.kind,.int .i64 o.p.level,.slice o.p.aI o.p.items.length o.p.cI,.slice o.p.aD o.p.data.length o.p.cD,.int .i64 o.p.next]):=rfl;rw[OV.o] at DO;clear hc ho om OV;refine bu (S:=λW=>W.cell? ⟨bX,1,none⟩=some (.pointer (some ⟨wb1,0,none⟩))/\W.cell? ⟨bS,1,none⟩=some (.slice (some ⟨bf,fo,none⟩) l1 c1)/\W.cell? ⟨bA,1,none⟩=some (.int .i64 (p1:Int))/\W.cell? ⟨bf,fo+p1*8,none⟩=some (.int .i64 o.kind)/\W.cell? ⟨bf,fo+p1*8+1,none⟩=some (.int .i64 o.n)/\W.cell? ⟨bf,fo+p1*8+2,none⟩=some (.int .i64 o.k)/\W.cell? ⟨bf,fo+p1*8+3,none⟩=some (.int .i64 o.p.kind)/\W.cell? ⟨bf,fo+p1*8+4,none⟩=some (.int .i64 o.p.level)/\W.cell? ⟨bf,fo+p1*8+5,none⟩=some (.slice o.p.aI o.p.items.length o.p.cI)/\W.cell? ⟨bf,fo+p1*8+6,none⟩=some (.slice o.p.aD o.p.data.length o.p.cD)/\W.cell? ⟨bf,fo+p1*8+7,none⟩=some (.int .i64 o.p.next)) (by kernel_rfl) (SS.o _ _ _ _ (HD.o.keep DR.o)) (λhHeld=>?_)
           refine tkd 0 1 2 3 ?_;refine tkd 4 5 6 7 ?_;refine tkb 8 9 ?_;refine tk 10 ?_;refine tw 11 λKx hK=>?_
           go_simp;refine DO.o.mono ?_;rintro _ w8 ⟨rfl,A',hw,hfa⟩;have H8:=ig ((HD.o.keep DR.o).step1 hw hfa (by omega))
           clear hw hfa DO;go_wp2_with fail
           refine hK.o _ _ (SS.o _ _ _ _ H8.o) (λhHeld=>?_)
           refine tk 12 ?_;refine td ?_;clear hHeld SS EA;have t0:w8.cell? ⟨bA,1,none⟩=some (.int .i64 (p1:Int)):=by rw[au _ _ _ _ _ _ H8.o.t];rfl
           have tf:w8.frozen? ⟨bA,1,none⟩=false:=bq _ _ _ _ _ H8.o.t;have hadd:IntKind.i64.wrap ((p1:Int)+1)=(p1:Int)+1:=iw (by omega) (by omega)
           have H9:=ig H8.o.set1;rw[show((p1+1:Nat):Int)=(p1:Int)+1 by omega] at H9
           clear H8 HD;go_wp2_with fail
           generalize w8.setCell ⟨bA,1,none⟩ (.int .i64 ((p1:Int)+1))=w9 at *;go_roundw
           case rel=>exact⟨j+1,p0,p1+1,_,_,M+20,by omega,by go_num,by omega,by omega,by omega,H9.o⟩
           case measure=>simp[intOf];omega
         . have hpn:¬(p1:Int)<(l1:Int):=by omega
           have dpn:decide ((p1:Int)<(l1:Int))=false:=ax hpn;go_upto_region 20 with fail
           go_quiet (fail)
           go_wp2_with fail
           go_roundw
           case rel=>exact⟨j+1,p0,p1,A0,A1,M,by omega,by go_num,by omega,by omega,by omega,HG.o.keep (drN _ _)⟩
           case measure=>simp[intOf];omega
     . obtain rfl:j=nt:=by omega
       have hji:¬(j:Int)<(j:Int):=by omega
       have y0:wr.cell? ⟨bX,0,none⟩=some (.pointer (some ⟨wb0,0,none⟩)):=by rw[au _ _ _ _ _ _ HG.o.x];rfl
       have AL:=ig (HG.o.a.all1 (by omega))
       go_wp2_with fail
       refine AL.o.mono ?_;rintro _ w6 ⟨rfl,hb6⟩;have b6:=HG.o.b.far hb6 (λk hk=>⟨HG.o.d k hk,(HG.o.a.area hk).1⟩)
       have y1:w6.cell? ⟨bX,1,none⟩=some (.pointer (some ⟨wb1,0,none⟩)):=by rw[au _ _ _ _ _ _ (hb6.same HG.o.x HG.o.n0.2.1)];rfl
       have AM:=ig (b6.all1 (by omega))
       have BB:=ig b6;clear hb6 b6 AL;go_wp2_with fail
       refine AM.o.mono ?_;rintro _ w7 ⟨rfl,hb7⟩;have B7:Hid (Below U.heap.size U w7):=((But.ofBelow (S:=λ_=>False) BB.o.bl).trans hb7 (λk hk e=>by have:=(BB.o.area e).1;omega)).below (λ_ _ e=>e)
       clear hb7 AM;go_wp2_with fail
       refine(kB w7).mono ?_;rintro _ w8 ⟨rfl,hb8⟩;have B8:=ig (bt B7.o hb8);clear hb8;go_wp2_with fail
       go_ret;exact⟨rfl,B8.o⟩
end Go.Proofs.YtbdkogimlbnlmaaGreat
namespace Go.Proofs.YtbdkogimlbnlmaaGreat
section
open Go.ChangeShapes Go.WideShapes Go.ChangeAt Go.RowKit
set_option maxRecDepth 100000
theorem cellsTwoInt:Tryz.prog.cellsOf 62=2:=by kernel_rfl
theorem cellsTwoOps:Tryz.prog.cellsOf 63=2:=by kernel_rfl
theorem wI:Tryz.prog.cellsOf 22=1:=by kernel_rfl
theorem yx:Tryz.prog.cellsOf 3=1:=by kernel_rfl
theorem za:Tryz.prog.cellsOf 4=1:=by kernel_rfl
theorem okWide_two{t e:TypeId}{W:World}{r:Reach}{base:Nat}{v:Value}(ht:Tryz.prog.underlying t=some (.array 2 e))(hc:Tryz.prog.cellsOf t=2)(h:Value.okWide Tryz.prog W r base t v):∃c0 c1,v=.agg #[c0,c1]:=by
 simp only[Value.okWide,ht] at h;obtain⟨cs,rfl,h2,_⟩:=h;obtain⟨l⟩:=cs;match l,(h2.trans hc:l.length=2) with
 | [c0,c1],_=>exact⟨c0,c1,rfl⟩
theorem uE{H:Type}{enc:TypeId×Value->H}{W:World}{t e:TypeId}{c0 c1:Value}{d:DataW H}{p:List MemPlace}(ht:Tryz.prog.underlying t=some (.array 2 e))(hc:Tryz.prog.cellsOf e=1)
 (h:DataW.Trod enc Tryz.prog W 0 (λ_=>true) true t (.agg #[c0,c1]) d p):
 ∃y0 y1 n,d=.agg [y0.1,y1.1]/\DataW.trod enc Tryz.prog W 0 (λ_=>true) true n e [c0]=some y0/\DataW.trod enc Tryz.prog W 0 (λ_=>true) true n e [c1]=some y1:=by
 obtain⟨fuel,hf⟩:=h;obtain⟨xs,n,_,hx,hl,hlen,hi⟩:=DataW.trod_array ht hf;have i0:=hi 0 (by decide)
 have i1:=hi 1 (by decide)
 rw[hc] at i0 i1;match xs,hlen with
 | [y0,y1],_=>
   simp only[fs] at hx;exact⟨y0,y1,n,by simpa using hx.1,by simpa[Value.cells] using i0,by simpa[Value.cells] using i1⟩
theorem open_two{H:Type}{enc:TypeId×Value->H}{W:World}{c0 c1:Value}{d:DataW H}{p:List MemPlace}
 (h:DataW.Trod enc Tryz.prog W 0 (λ_=>true) true 62 (.agg #[c0,c1]) d p):∃m0 m1:Int,c0=.int .i64 m0/\c1=.int .i64 m1:=by
 obtain⟨y0,y1,n,_,h0,h1⟩:=uE Tryz.underlying62 yx h;obtain⟨m0,e0,_,_⟩:=DataW.trod_int Tryz.underlying3 h0;obtain⟨m1,e1,_,_⟩:=DataW.trod_int Tryz.underlying3 h1;simp only[ed,dL] at e0 e1;exact⟨m0,m1,e0,e1⟩
theorem vJ{H:Type}{enc:TypeId×Value->H}{W:World}{n:Nat}{c:Value}{y:DataW H×List MemPlace}(h:DataW.trod enc Tryz.prog W 0 (λ_=>true) true n 22 [c]=some y)(hd:Rows.uptoBulk y.1<=1048576):∃a L q,c=.slice a (L:List Oq).length q/\Oss W a L/\L.length<=1048576:=by
 obtain⟨a,L,q,e,_⟩:=qG (d:=y.1) (p:=y.2) h hd;simp only[ed,dL] at e;subst e;obtain⟨L2,e2,h2,h3⟩:=sH (W:=W) (a:=a) (len:=L.length) (cap:=q) (d:=y.1) (p:=y.2) ⟨n,h⟩ hd;exact⟨a,L2,q,by rw[e2],h2,h3⟩
theorem open_scripts{H:Type}{enc:TypeId×Value->H}{W:World}{c0 c1:Value}{d:DataW H}{p:List MemPlace}
 (h:DataW.Trod enc Tryz.prog W 0 (λ_=>true) true 63 (.agg #[c0,c1]) d p) (hd:Rows.uptoBulk d<=1048576):
 ∃a0 L0 q0 a1 L1 q1,c0=.slice a0 (L0:List Oq).length q0/\c1=.slice a1 (L1:List Oq).length q1/\Oss W a0 L0/\L0.length<=1048576/\Oss W a1 L1/\L1.length<=1048576:=by
 obtain⟨y0,y1,n,rfl,h0,h1⟩:=uE Tryz.underlying63 wI h;simp only[Rows.uptoBulk,Rows.uptoBulkAll] at hd;obtain⟨a0,L0,q0,e0,s0,l0⟩:=vJ h0 (by omega)
 obtain⟨a1,L1,q1,e1,s1,l1⟩:=vJ h1 (by omega)
 exact⟨a0,L0,q0,a1,L1,q1,e0,e1,s0,l0,s1,l1⟩
theorem open_turns{H:Type}{enc:TypeId×Value->H}{W:World}{a:Option Addr}{len cap:Nat}{d:DataW H}{p:List MemPlace}
 (h:DataW.Trod enc Tryz.prog W 0 (λ_=>true) true 64 (.slice a len cap) d p) (hd:Rows.uptoBulk d<=1048576):
 ∃T:Nat->Bool,(len=0\/∃b off,a=some ⟨b,off,none⟩/\∀j,j<len->W.cell? ⟨b,off+j,none⟩=some (.bool (T j)))/\len<=140737488355328:=by
 obtain⟨fuel,hf⟩:=h;rcases Deep.open_slice1 Tryz.underlying64 za hf with⟨hcs,_⟩|⟨x,l,c,m,n,V,D,Pl,hcs,_,hl,hm,hmm,hx,hrows⟩
 . simp[Value.cells] at hcs;obtain⟨rfl,rfl,rfl⟩:=hcs;exact⟨λ_=>false,.inl rfl,by decide⟩
 . simp[Value.cells] at hcs;obtain⟨rfl,rfl,rfl⟩:=hcs;simp only[if_true] at hmm;subst hmm;simp only[fs] at hx
   have hlen:len<=140737488355328:=by
    rw[hx.1] at hd;simp only[Rows.uptoBulk] at hd;have h1:=jX ((List.range len).map D);rw[a7,eJ] at h1;omega
   by_cases h0:len=0
   . exact⟨λ_=>false,.inl h0,hlen⟩
   . have each:∀i,i<len->∃b:Bool,W.cell? (x.add i)=some (.bool b):=λi hi=>by
      obtain⟨hc,ht⟩:=hrows i (by omega)
      obtain⟨b,hb,_⟩:=DataW.trod_bool Tryz.underlying4 ht;simp only[ed,dL] at hb;exact⟨b,by rw[hc,hb]⟩
     obtain⟨T,hT⟩:=Deep.choose_lt each;obtain⟨b,off,spot⟩:=x;have hspot:spot=none:=by simpa[Addr.add] using gN (hT 0 (by omega))
     subst hspot
     exact⟨T,.inr ⟨b,off,rfl,λj hj=>by
      have e:=hT j hj;by_cases h:j=0
      . subst h;simpa[Addr.add] using e
      . simpa[Addr.add,h] using e⟩,hlen⟩
end
end Go.Proofs.YtbdkogimlbnlmaaGreat
