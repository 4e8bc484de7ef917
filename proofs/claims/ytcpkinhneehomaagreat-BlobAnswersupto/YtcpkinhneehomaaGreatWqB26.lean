import Derived.Test.YtcpkinhneehomaaGreatWqB25
set_option linter.unusedVariables false
set_option linter.unusedSimpArgs false
set_option maxHeartbeats 32000000
set_option maxRecDepth 16000
namespace Go.Proofs.YtcpkinhneehomaaGreat
open Go.RowKit
variable {r:Int}{C:List Int}{b mb pb:Nat}{col pc:Nat->Nat}{S:Vs}{w:World}
def RLoaded(w w':World)(e:Ending)(r:Int)(C:List Int)(NL:List (Int×Pv)):Prop:=
 (∃er:Nat,er≠0/\(ldAll r C (nmg NL)).1=er/\e=.returned (.tuple #[.pointer none,.int .i64 ((er:Nat):Int)])/\Below w.heap.size w w')\/
 ((ldAll r C (nmg NL)).1=0/\∃(rb:Nat)(D:Rd),e=.returned (.tuple #[.pointer (some ⟨rb,0,none⟩),.int .i64 0])/\Rn w w' rb D/\D.R=r/\D.C=C/\(D.L=C.map fun c=>decide (0<c))/\D.P.length=C.length/\(∀i,i<C.length->(D.P.getD i Pv.zero).pg=((ldAll r C (nmg NL)).2 ((i:Int)+1)).getD Pv.zero.pg)/\D.aA=none/\D.nA=0/\D.cA=0/\D.fl=0/\D.hush=false)
theorem ldAll_fits{l:List (Int×Pg)}(h:Q.fits C.length r=false):(ldAll r C l).1=1:=by unfold ldAll;rw[if_pos h]
theorem ldAll_bad{l:List (Int×Pg)}(h:Q.fits C.length r=true)(hb:badC r C=true):(ldAll r C l).1=13:=by unfold ldAll;rw[if_neg (by rw[h];decide),if_pos hb]
theorem ldAll_err{l:List (Int×Pg)}(h:Q.fits C.length r=true)(hb:badC r C=false)(he:(ldG (cntOf C) (fun _=>none) l).1≠0):(ldAll r C l).1=(ldG (cntOf C) (fun _=>none) l).1:=by unfold ldAll;rw[if_neg (by rw[h];decide),if_neg (by rw[hb];decide),if_pos he]
theorem ldAll_lacks{l:List (Int×Pg)}(h:Q.fits C.length r=true)(hb:badC r C=false)(he:(ldG (cntOf C) (fun _=>none) l).1=0)(hl:lacks C (ldG (cntOf C) (fun _=>none) l).2=true):(ldAll r C l).1=9:=by unfold ldAll;rw[if_neg (by rw[h];decide),if_neg (by rw[hb];decide),if_neg (by rw[he];simp),if_pos hl]
theorem ldAll_ok{l:List (Int×Pg)}(h:Q.fits C.length r=true)(hb:badC r C=false)(he:(ldG (cntOf C) (fun _=>none) l).1=0)(hl:lacks C (ldG (cntOf C) (fun _=>none) l).2=false):ldAll r C l=(0,(ldG (cntOf C) (fun _=>none) l).2):=by unfold ldAll;rw[if_neg (by rw[h];decide),if_neg (by rw[hb];decide),if_neg (by rw[he];simp),if_neg (by rw[hl];decide)]
theorem ldG_cons(cnt:Int->Int)(f:Int->Option Pg)(n:Int)(p:Pg)(T:List (Int×Pg)):ldG cnt f ((n,p)::T)=if ¬0<cnt n then (15,f) else if (f n).isSome=true then (10,f) else if p.check≠0 then (p.check,f) else ldG cnt (fun k=>if k=n then some p else f k) T:=rfl
theorem rLoad_any(w:World)(r:Int)(a:Option Addr)(n cap:Nat)(C:List Int)(hC:Q.Ir w a C)(hn:n=C.length)(aN:Option Addr)(m capN:Nat)(NL:List (Int×Pv))(hN:Nm w aN NL)(hm:m=NL.length)(hmb:m<=1000000):
 Calls Tryz.prog 16 #[.int .i64 r,.slice a n cap,.slice aN m capN] w fun e w'=>RLoaded w w' e r C NL:=by
 by_cases hf:Q.fits n r=false
 · have NN:=hide (rNew_no w (n:Int) r hf);have E1:Hid ((ldAll r C (nmg NL)).1=1):=ldAll_fits (by rw[<-hn];exact hf)
   clear hC hn hN hm hf;go_enter Tryz.func16,Tryz.ntmps16;go_wp2_with fail
   refine NN.out.mono ?_;rintro _ wq ⟨rfl,hwq⟩;rw[hwq];clear hwq;go_wp2_with fail
   go_ret2
   exact .inl ⟨1,by decide,E1.out,rfl,Below.refl _ _⟩
 have hf1:Q.fits n r=true:=by simpa using hf
 have h6:n<=65536/\1<=n:=by unfold Q.fits at hf1;simp only[Bool.and_eq_true,decide_eq_true_eq] at hf1;omega
 have hrb:2<=r/\r<65536:=by unfold Q.fits at hf1;simp only[Bool.and_eq_true,decide_eq_true_eq] at hf1;omega
 have NY:=hide (rNew_yes w n r hf1);have FT:Hid (Q.fits C.length r=true):=by show _=_;rw[<-hn];exact hf1
 have HC:=hide hC;have HN:=hide hn;have HNM:=hide hN;have HM:=hide hm;clear hf hf1 hC hn hN hm;go_enter Tryz.func16,Tryz.ntmps16;go_wp2_with fail
 refine NY.out.mono ?_;rintro _ w1 ⟨rb,D0,rfl,hR0,hF0⟩
 have L0:Hid (La w w1 w1.heap.size rb r C n 0 0 0 D0 none 0):=by
  obtain⟨q1,q2,q3,q4,q5,q6,q7,q8,q9⟩:=hF0;exact⟨hR0,q1,by rw[q2];simp,by rw[q3];simp,q4,⟨q5,q6,q7,q8,q9⟩,fun x hx=>hR0.lr.lt hx,Q.Gw.nil _ _ _,fun x hx=>(by cases hx),fun j hj=>absurd hj (Nat.not_lt_zero _),⟨hR0.b.size,Nat.le_refl _⟩⟩
 clear hR0 hF0 NY;generalize w1.heap.size=w1s at L0;go_wp2_with fail
 go_loopw [10,11] (fun vb vi wx=>∃(i:Nat)(D:Rd)(aB:Option Addr)(cB:Nat),i<=n/\vb=.slice aB i cB/\vi=.int .i64 (i:Int)/\La w wx w1s rb r C n i i i D aB cB) (fun _ vi _=>n-(intOf vi).toNat)
 case atStart=>exact⟨0,D0,none,0,Nat.zero_le _,rfl,rfl,L0.out⟩
 case round=>
  clear L0;obtain⟨i,D,aB,cB,hi,rfl,rfl,hL⟩:=hrel;have LL:=hide hL;clear hL;by_cases hlt:i<n
  · have hii:(i:Int)<(n:Int):=by omega
    have hiC:i<C.length:=by rw[<-HN.out];exact hlt
    obtain⟨bc,oc,rfl,cA⟩:=(HC.out.keep LL.out.q.b).at hiC;obtain⟨x,hx⟩:∃x,C.getD i 0=x:=⟨_,rfl⟩;have HX:=hide hx;rw[hx] at cA;clear hx;by_cases hx0:x<0
    · have dx:decide (x<0)=true:=decide_eq_true hx0;have E1:Hid ((ldAll r C (nmg NL)).1=13):=ldAll_bad FT.out (badC_at hiC (.inl (by rw[HX.out];exact hx0)))
      go_wp2_with fail
      go_ret2
      exact .inl ⟨13,by decide,E1.out,rfl,LL.out.q.b⟩
    have dx:decide (x<0)=false:=decide_eq_false hx0;by_cases hx1:r<x
    · have dx1:decide (r<x)=true:=decide_eq_true hx1;have E1:Hid ((ldAll r C (nmg NL)).1=13):=ldAll_bad FT.out (badC_at hiC (.inr (by rw[HX.out];exact hx1)))
      go_wp2_with fail
      go_ret2
      exact .inl ⟨13,by decide,E1.out,rfl,LL.out.q.b⟩
    have dx1:decide (r<x)=false:=decide_eq_false hx1;obtain⟨l1,l2,l3⟩:=LL.out.lens HN.out.symm hi hi;obtain⟨gC,hgC⟩:∃g,D.aC=some ⟨g,0,none⟩:=LL.out.q.cr.addr (by omega)
    obtain⟨gL,hgL⟩:∃g,D.aL=some ⟨g,0,none⟩:=LL.out.q.lr.addr (by omega)
    obtain⟨x0,x1,x2,x3,f1,f2,f3⟩:=LL.out.q.cells;rw[hgC,l1] at x1;rw[hgL,l2] at x2;have gbc:bc<wr.heap.size:=block_lt_of_cell cA;have DR:=hide (dr2 wr);have L1:=hide ((LL.out.keep DR.out).c1 HN.out.symm hlt hgC HX.out);have S1:Hid (wr.drew.cell? ⟨rb,1,none⟩=some (.slice (some ⟨gC,0,none⟩) n D.cC)/\wr.drew.cell? ⟨bc,oc+i,none⟩=some (.int .i64 x)):=⟨x1,cA⟩
    have cC0:Hid (wr.drew.cell? ⟨gC,i,none⟩=some (.int .i64 (D.C.getD i 0))/\wr.drew.frozen? ⟨gC,i,none⟩=false):=by
     have hr:=(LL.out.keep DR.out).q.cr;rw[hgC,l1] at hr;exact⟨hr.cell (by simp[Q.vi,show i<D.C.length by omega]),hr.free i⟩
    obtain⟨D1,hD1⟩:∃X,({D with C:=D.C.set i x}:Rd)=X:=⟨_,rfl⟩;rw[hD1] at L1;have gL1:D1.aL=some ⟨gL,0,none⟩:=by rw[<-hD1];exact hgL
    have K1:Hid (D1.aC=some ⟨gC,0,none⟩/\D1.C.length=n/\D1.cC=D.cC/\D1.cL=D.cL/\D1.L.length=n):=by
     rw[<-hD1];exact⟨hgC,by show(D.C.set i x).length=n;rw[List.length_set,l1],rfl,rfl,l2⟩
    clear hD1 x0 x3 f1 f2 f3 x1 x2;go_upto_region 10 with fail
    refine wp_region_held_drew (S:=fun W=>W.cell? ⟨rb,1,none⟩=some (.slice (some ⟨gC,0,none⟩) n D.cC)/\W.cell? ⟨bc,oc+i,none⟩=some (.int .i64 x)) (by kernel_rfl) (S1.out) (fun hHeld=>?_)
    refine tk 0 ?_;refine tk 1 ?_;refine tk 2 ?_;refine tk 3 ?_;refine tk 4 ?_;refine tk 5 ?_;refine tk 6 ?_;refine tk 7 ?_;refine tk 8 ?_;refine tk 9 ?_;refine tw 10 fun K hK=>?_
    obtain⟨k0,k1⟩:=cC0.out;go_simp
    have S2:Hid ((wr.drew.setCell ⟨gC,i,none⟩ (.int .i64 x)).cell? ⟨rb,1,none⟩=some (.slice (some ⟨gC,0,none⟩) n D.cC)/\(wr.drew.setCell ⟨gC,i,none⟩ (.int .i64 x)).cell? ⟨bc,oc+i,none⟩=some (.int .i64 x)):=by
     obtain⟨y0,y1,y2,y3,_⟩:=L1.out.q.cells;obtain⟨b1,o1,e1,c1⟩:=(HC.out.keep L1.out.q.b).at hiC;cases e1;rw[HX.out] at c1;rw[K1.out.1,K1.out.2.1,K1.out.2.2.1] at y1;exact⟨y1,c1⟩
    refine hK.out _ _ S2.out (fun hHeld=>?_)
    clear hK K k0 k1;try simp only[pt]
    refine td ?_;clear S1 cC0 hHeld DR;have DSW:wr.drew.setCell ⟨gC,i,none⟩ (.int .i64 x)=(wr.setCell ⟨gC,i,none⟩ (.int .i64 x)).drew:=rfl;rw[DSW] at L1 S2;clear DSW;generalize hw2:(wr.setCell ⟨gC,i,none⟩ (.int .i64 x)).drew=w2 at *;clear hw2;obtain⟨y0,y1,y2,y3,_⟩:=L1.out.q.cells;rw[gL1,K1.out.2.2.2.2,K1.out.2.2.2.1] at y2;have cA2:=S2.out.2;have DR2:=hide (dr2 w2);have L2:=hide ((L1.out.keep DR2.out).c2 HN.out.symm hlt gL1 HX.out);have S3:Hid (w2.drew.cell? ⟨rb,2,none⟩=some (.slice (some ⟨gL,0,none⟩) n D.cL)/\w2.drew.cell? ⟨bc,oc+i,none⟩=some (.int .i64 x)):=⟨y2,cA2⟩
    have cL0:Hid (w2.drew.cell? ⟨gL,i,none⟩=some (.bool (D1.L.getD i false))/\w2.drew.frozen? ⟨gL,i,none⟩=false):=by
     have hr:=(L1.out.keep DR2.out).q.lr;rw[gL1] at hr;exact⟨hr.cell (by simp[vbl,show i<D1.L.length by rw[K1.out.2.2.2.2];exact hlt]),hr.free i⟩
    obtain⟨D2,hD2⟩:∃X,({D1 with L:=D1.L.set i (decide (0<x))}:Rd)=X:=⟨_,rfl⟩;rw[hD2] at L2
    have K2:Hid (D2.aL=some ⟨gL,0,none⟩/\D2.L.length=n/\D2.cL=D.cL):=by
     rw[<-hD2];exact⟨gL1,by show(D1.L.set i _).length=n;rw[List.length_set,K1.out.2.2.2.2],K1.out.2.2.2.1⟩
    clear hD2 y0 y1 y3 y2 S2 gL1;go_upto_region 11 with fail
    refine wp_region_held_drew (S:=fun W=>W.cell? ⟨rb,2,none⟩=some (.slice (some ⟨gL,0,none⟩) n D.cL)/\W.cell? ⟨bc,oc+i,none⟩=some (.int .i64 x)) (by kernel_rfl) (S3.out) (fun hHeld=>?_)
    refine tk 0 ?_;refine tk 1 ?_;refine tk 2 ?_;refine tk 3 ?_;refine tk 4 ?_;refine tk 5 ?_;refine tk 6 ?_;refine tk 7 ?_;refine tk 8 ?_;refine tk 9 ?_;refine tk 10 ?_;refine tw 11 fun K hK=>?_
    obtain⟨k0,k1⟩:=cL0.out;go_simp
    have S4:Hid ((w2.drew.setCell ⟨gL,i,none⟩ (.bool (decide (0<x)))).cell? ⟨rb,2,none⟩=some (.slice (some ⟨gL,0,none⟩) n D.cL)/\(w2.drew.setCell ⟨gL,i,none⟩ (.bool (decide (0<x)))).cell? ⟨bc,oc+i,none⟩=some (.int .i64 x)):=by
     obtain⟨y0,y1,y2,y3,_⟩:=L2.out.q.cells;obtain⟨b1,o1,e1,c1⟩:=(HC.out.keep L2.out.q.b).at hiC;cases e1;rw[HX.out] at c1;rw[K2.out.1,K2.out.2.1,K2.out.2.2] at y2;exact⟨y2,c1⟩
    refine hK.out _ _ S4.out (fun hHeld=>?_)
    clear hK K k0 k1;try simp only[pt]
    refine td ?_;clear S3 cL0 hHeld S4 L1 DR2;have DSW:w2.drew.setCell ⟨gL,i,none⟩ (.bool (decide (0<x)))=(w2.setCell ⟨gL,i,none⟩ (.bool (decide (0<x)))).drew:=rfl;rw[DSW] at L2;clear DSW;generalize hw3:(w2.setCell ⟨gL,i,none⟩ (.bool (decide (0<x)))).drew=w3 at *;clear hw3;have A0:=hide (al w3 (.cells #[.bool false] 4));have X0:=hide (heap_alloc_new w3 (.cells #[.bool false] 4));have L3:=hide (L2.out.keep A0.out);have G3:=hide L3.out.hb;have hml:i+1<=maxLen:=by unfold maxLen;omega
    go_wp2_with (at_builtin;refine wpList_apG Tryz.underlying64 infoBool rfl (by decide) rfl _ _ rfl aB i cB (vbl (List.replicate i false)) rfl G3.out ⟨w3.heap.size,0,none⟩ 1 [.bool false] rfl rfl (one_add X0.out) (fun u hu=>by rw[List.mem_singleton.1 hu];rfl) hml (by omega) ?_)
    intro gB cB2 w5 hG hNw hB;have L5:=hide (L3.out.c3 (by rw[HX.out];omega) hG hNw hB)
    clear hG hNw hB L3 G3 X0 A0 L2;go_wp2_with fail
    go_roundw
    case rel=>exact⟨i+1,D2,some ⟨gB,0,none⟩,cB2,by omega,rfl,by go_num,L5.out⟩
    case measure=>simp[intOf];omega
  · obtain rfl:i=n:=by omega
    have LB0:=hide (LL.out.lb HN.out.symm);have BC:Hid (badC r C=false):=badC_no (fun j hj=>LL.out.ok j (by rw[HN.out];exact hj))
    clear LL;go_wp2_with fail
    go_loopw [12] (fun vj wx=>∃(j:Nat)(D:Rd)(B:List Bool)(g:Int->Option Pg),j<=m/\vj=.int .i64 (j:Int)/\Lb w wx w1s rb r C i D aB cB B g/\ldG (cntOf C) g (nmg (NL.drop j))=ldG (cntOf C) (fun _=>none) (nmg NL)) (fun vj _=>m-(intOf vj).toNat)
    case atStart=>exact⟨0,D,_,_,Nat.zero_le _,rfl,LB0.out,by rw[List.drop_zero]⟩
    case round=>
     clear LB0;obtain⟨j,D,B,g,hj,rfl,hL,hE⟩:=hrel;have LL:=hide hL;have EE:=hide hE;clear hL hE;by_cases hlt:j<m
     · have hji:(j:Int)<(m:Int):=by omega
       have hjN:j<NL.length:=by rw[<-HM.out];exact hlt
       obtain⟨g1,off,rfl,cNw⟩:=HNM.out.c j hjN;have CNA:=hide fun(W:World)(hb:Below w.heap.size w W)(k:Nat)(u:Value)(hu:(nmc (NL.getD j nm0))[k]?=some u)=>(hb.cell (p:=⟨g1,off+j*6+k,none⟩) (block_lt_of_cell (cNw k u hu))).trans (cNw k u hu)
       have cN:=CNA.out wr LL.out.q.b;clear cNw;have MX:Hid (NL.getD j nm0∈NL):=by show _∈_;simp[hjN]
       have ED:=hide (nmg_drop hjN);have PX:=hide fun(W:World)(hb:Below w.heap.size w W)=>(HNM.out.keep hb).p _ MX.out
       obtain⟨x,hx⟩:∃x,NL.getD j nm0=x:=⟨_,rfl⟩;simp only[hx] at cN ED PX CNA;clear hx MX;obtain⟨z,p⟩:=x;have TH:=hide (rThere_any wr rb D _ (LL.out.rq HN.out.symm h6.1).1 z);rw[LL.out.cnt z] at TH;have hE:=EE.out;rw[ED.out] at hE;have n0:=cN 0 _ rfl;rw[Nat.add_zero] at n0;have CNW:Hid (∀W:World,Below w.heap.size w W->∀(k:Nat)(u:Value),p.cs.toList[k]?=some u->W.cell? ⟨g1,off+j*6+(k+1),none⟩=some u):=fun W hb k u hu=>CNA.out W hb (k+1) u hu
       have CNP:Hid (∀k u,p.cs.toList[k]?=some u->wr.cell? ⟨g1,off+j*6+(k+1),none⟩=some u):=fun k u hu=>cN (k+1) u hu
       have gl1:g1<wr.heap.size:=block_lt_of_cell n0;clear cN;by_cases hz:0<cntOf C z
       · rw[decide_eq_true hz] at TH
         have hzr:1<=z/\z<=i:=by
          unfold cntOf at hz;split at hz
          · rename_i h;rw[<-HN.out] at h;exact h
          · omega
         obtain⟨k,hk⟩:∃k:Nat,z=(k:Int)+1:=⟨(z-1).toNat,by omega⟩
         subst hk;have hki:k<i:=by omega
         obtain⟨gB,hgB⟩:∃gg,aB=some ⟨gg,0,none⟩:=LL.out.hb.addr (by omega)
         subst hgB;have cB0:wr.cell? ⟨gB,k,none⟩=some (.bool (B.getD k false)):=LL.out.hb.cell (by simp[vbl,LL.out.hB,hki])
         have fB0:wr.frozen? ⟨gB,k,none⟩=false:=LL.out.hb.free k;rw[LL.out.hs k hki] at cB0;have hs1:(k:Int)+1-1=(k:Int):=by omega
         have hkin:(k:Int)<(i:Int):=by omega
         have glB:gB<wr.heap.size:=block_lt_of_cell cB0;rw[ldG_cons] at hE;rw[if_neg (fun h=>h hz)] at hE
         by_cases hg:(g ((k:Int)+1)).isSome=true
         · rw[if_pos hg] at hE;rw[hg] at cB0;have E1:Hid ((ldAll r C (nmg NL)).1=10):=by show _=_;rw[ldAll_err FT.out BC.out (by rw[<-hE];simp),<-hE]
           have BB:=hide LL.out.q.b;clear hE hz LL EE;go_wp2_with fail
           refine TH.out.mono ?_;rintro _ wq ⟨rfl,hwq⟩;rw[hwq];clear hwq;go_wp2_with fail
           go_ret2
           exact .inl ⟨10,by decide,E1.out,rfl,BB.out⟩
         · rw[if_neg hg] at hE;have hg2:(g ((k:Int)+1)).isSome=false:=by simpa using hg
           rw[hg2] at cB0;have CK:=hide (iCheck_any wr p (PX.out wr LL.out.q.b).1);have q0:=CNP.out 0 _ rfl;have q1:=CNP.out 1 _ rfl;have q2:=CNP.out 2 _ rfl;have q3:=CNP.out 3 _ rfl;have q4:=CNP.out 4 _ rfl;have PV:Hid (p.vl=.agg #[.int .i64 p.kind,.int .i64 p.level,.slice p.aI p.items.length p.cI,.slice p.aD p.data.length p.cD,.int .i64 p.next]):=rfl;rw[PV.out] at CK;by_cases hck:p.pg.check≠0
           · rw[if_pos hck] at hE;have E1:Hid ((ldAll r C (nmg NL)).1=p.pg.check):=by show _=_;rw[ldAll_err FT.out BC.out (by rw[<-hE];exact hck),<-hE]
             have BB:=hide LL.out.q.b;have HCK:=hide hck;obtain⟨ck0,hck0⟩:∃c,p.pg.check=c:=⟨_,rfl⟩;rw[hck0] at CK HCK E1;have cn0:((ck0:Int) != 0)=true:=by have:=HCK.out;simpa using this
             clear hE hz LL EE hck hck0;go_wp2_with fail
             refine TH.out.mono ?_;rintro _ wq ⟨rfl,hwq⟩;rw[hwq];clear hwq;go_wp2_with fail
             refine CK.out.mono ?_;rintro _ w3 ⟨rfl,hb3⟩;have B3:=hide (bt BB.out hb3);clear hb3;go_wp2_with fail
             go_ret2
             exact .inl ⟨ck0,HCK.out,E1.out,rfl,B3.out⟩
           · rw[if_neg hck] at hE;have hck1:p.pg.check=0:=by simpa using hck
             have E2:=hide hE;have HCK:=hide hck1;rw[hck1] at CK;clear hE hz EE hck hck1;go_wp2_with fail
             refine TH.out.mono ?_;rintro _ wq ⟨rfl,hwq⟩;rw[hwq];clear hwq;go_wp2_with fail
             refine CK.out.mono ?_;rintro _ w3 ⟨rfl,hb3⟩;have L3:=hide (LL.out.keep hb3);have cB3:=(hb3.cell (p:=⟨gB,k,none⟩) glB).trans cB0;have fB3:w3.frozen? ⟨gB,k,none⟩=false:=L3.out.hb.free k;have n3:=(hb3.cell (p:=⟨g1,off+j*6,none⟩) gl1).trans n0;have CN3:Hid (∀q u,p.cs.toList[q]?=some u->w3.cell? ⟨g1,off+j*6+(q+1),none⟩=some u):=fun q u hu=>(hb3.cell (p:=⟨g1,off+j*6+(q+1),none⟩) gl1).trans (CNP.out q u hu)
             clear hb3 TH CK cB0 fB0 n0 CNP LL q0 q1 q2 q3 q4 glB gl1;go_upto_region 25 with fail
             have R2:=hide (L3.out.mid (i:=k));obtain⟨gP,hgP⟩:∃gg,D.aP=some ⟨gg,0,none⟩:=L3.out.q.pr.addr (by rw[L3.out.hP];omega)
             obtain⟨y0,y1,y2,y3,_⟩:=R2.out.cells;rw[hgP,L3.out.hP] at y3;generalize hw4:w3.setCell ⟨gB,k,none⟩ (.bool true)=w4 at *;have HW4:=hide hw4;clear hw4 cB3 fB3 n3 CN3 y0 y1 y2;have DR:=hide (dr2 w4)
             have SS:Hid (∀W:World,Below w4.heap.size w4 W->W.cell? ⟨rb,3,none⟩=some (.slice (some ⟨gP,0,none⟩) i D.cP)/\W.cell? ⟨g1,off+j*6+1,none⟩=some (.int .i64 p.kind)/\W.cell? ⟨g1,off+j*6+2,none⟩=some (.int .i64 p.level)/\W.cell? ⟨g1,off+j*6+3,none⟩=some (.slice p.aI p.items.length p.cI)/\W.cell? ⟨g1,off+j*6+4,none⟩=some (.slice p.aD p.data.length p.cD)/\W.cell? ⟨g1,off+j*6+5,none⟩=some (.int .i64 p.next)):=fun W hb=>by
              have hw:=bt R2.out.b hb;exact⟨(hb.cell (p:=⟨rb,3,none⟩) (block_lt_of_cell y3)).trans y3,CNW.out W hw 0 _ rfl,CNW.out W hw 1 _ rfl,CNW.out W hw 2 _ rfl,CNW.out W hw 3 _ rfl,CNW.out W hw 4 _ rfl⟩
             have PXX:=hide (PX.out w4.drew (bt R2.out.b DR.out)).1;obtain⟨sm,si⟩:=sml_ps (p:=p) (.inl HCK.out);have CP:=hide (CopyPage_pn w4.drew p PXX.out sm.1 si sm.2);rw[PV.out] at CP;have hkD:k<D.P.length:=by rw[L3.out.hP];exact hki
             have WKK:Hid (IntKind.i64.wrap ((k:Nat):Int)=(k:Int)):=wrapI (by omega) (by omega)
             clear y3 sm si PXX;refine wp_region_held_drew (S:=fun W=>W.cell? ⟨rb,3,none⟩=some (.slice (some ⟨gP,0,none⟩) i D.cP)/\W.cell? ⟨g1,off+j*6+1,none⟩=some (.int .i64 p.kind)/\W.cell? ⟨g1,off+j*6+2,none⟩=some (.int .i64 p.level)/\W.cell? ⟨g1,off+j*6+3,none⟩=some (.slice p.aI p.items.length p.cI)/\W.cell? ⟨g1,off+j*6+4,none⟩=some (.slice p.aD p.data.length p.cD)/\W.cell? ⟨g1,off+j*6+5,none⟩=some (.int .i64 p.next)) (by kernel_rfl) (SS.out _ DR.out) (fun hHeld=>?_)
             refine tk 0 ?_;refine tk 1 ?_;refine tk 2 ?_;refine tk 3 ?_;refine tk 4 ?_;refine tk 5 ?_;refine tk 6 ?_;refine tk 7 ?_;refine tk 8 ?_;refine tk 9 ?_;refine tk 10 ?_;rw[WKK.out];refine tw 11 fun K hK=>?_
             go_simp;refine CP.out.mono ?_;rintro _ w5 ⟨qq,rfl,hP5,hl5,hg5,hb5⟩;have N5:=hide (hP5.pre (v':=w4) (Nat.le_refl _));have G5:=hide hg5;have B5:=hide (bt DR.out hb5);clear hP5 hl5 hg5 hb5;go_wp2_with fail
             refine hK.out _ _ (SS.out _ B5.out) (fun hHeld=>?_)
             clear hK K;try simp only[pt]
             refine tk 12 ?_;obtain⟨D5,hL5⟩:=L3.out.lay hki hgP qq HW4.out.symm B5.out N5.out (by rw[G5.out];exact HCK.out)
             have L5:=hide hL5;clear hL5
             have TH5:Hid (w5.there gP (k*5) 5):=by
              have hr:=(R2.out.keep B5.out).pr;rw[hgP] at hr;exact hr.there5 hkD
             refine tw 13 fun K hK=>?_
             rw[if_pos (by rfl)]
             refine wp_store_mid (P:=Tryz.prog) 31 _ _ rfl gP (k*5) qq.cs ?hxs ?hys TH5.out sizePage (by simp[Pv.cs,Value.oneCell']) ?_
             case hxs=>simp[Act.eval]
             case hys=>rfl
             have SE:Hid ((w5.setCells gP (k*5) qq.cs.toList).cell? ⟨rb,3,none⟩=some (.slice (some ⟨gP,0,none⟩) i D.cP)):=by
              obtain⟨cur,hc⟩:=(R2.out.keep B5.out).pr.blk hgP;have bx:=(R2.out.keep B5.out).box;have b6:=(but_setCells gP qq.cs.toList w5 (k*5)).same bx (fun e=>blk_ty bx hc (by decide) e)
              show _=_;rw[cell_of_row _ _ _ _ _ _ b6];show some (Value.slice D.aP D.P.length D.cP)=_;rw[hgP,L3.out.hP]
             have hw6:=L5.out.q.b;refine hK.out _ _ ⟨SE.out,CNW.out _ hw6 0 _ rfl,CNW.out _ hw6 1 _ rfl,CNW.out _ hw6 2 _ rfl,CNW.out _ hw6 3 _ rfl,CNW.out _ hw6 4 _ rfl⟩ (fun hHeld=>?_)
             clear hK K hw6 SE;try simp only[pt]
             refine td ?_;clear hHeld SS TH5 R2 L3 B5 N5 DR CP HW4;generalize w5.setCells gP (k*5) qq.cs.toList=w6 at *;go_wp2_with fail
             go_roundw
             case rel=>exact⟨j+1,D5,_,_,by omega,by go_num,L5.out,by rw[G5.out];exact E2.out⟩
             case measure=>simp[intOf];omega
       · rw[decide_eq_false hz] at TH;rw[ldG_cons] at hE;rw[if_pos hz] at hE;have E1:Hid ((ldAll r C (nmg NL)).1=15):=by show _=_;rw[ldAll_err FT.out BC.out (by rw[<-hE];simp),<-hE]
         have BB:=hide LL.out.q.b;clear hE hz LL EE;go_wp2_with fail
         refine TH.out.mono ?_;rintro _ wq ⟨rfl,hwq⟩;rw[hwq];clear hwq;go_wp2_with fail
         go_ret2
         exact .inl ⟨15,by decide,E1.out,rfl,BB.out⟩
     · obtain rfl:j=m:=by omega
       have E0:Hid (ldG (cntOf C) (fun _=>none) (nmg NL)=(0,g)):=by
        show _=_;rw[<-EE.out,List.drop_eq_nil_of_le (by rw[<-HM.out];exact Nat.le_refl _)]
        rfl
       clear EE;go_wp2_with fail
       go_loopw [15] (fun vq wx=>∃q:Nat,q<=i/\vq=.int .i64 (q:Int)/\wx=wr/\∀t,t<q->0<C.getD t 0->(g ((t:Int)+1)).isSome=true) (fun vq _=>i-(intOf vq).toNat)
       case atStart=>exact⟨0,Nat.zero_le _,rfl,rfl,fun t ht=>absurd ht (Nat.not_lt_zero _)⟩
       case round=>
        obtain⟨q,hq,rfl,rfl,hQ⟩:=hrel;have HQ:=hide hQ;clear hQ;by_cases hlt:q<i
        · have hqi:(q:Int)<(i:Int):=by omega
          have hqC:q<C.length:=by rw[<-HN.out];exact hlt
          obtain⟨bc,oc,rfl,cA⟩:=(HC.out.keep LL.out.q.b).at hqC;obtain⟨x,hx⟩:∃x,C.getD q 0=x:=⟨_,rfl⟩;have HX:=hide hx;rw[hx] at cA;clear hx;obtain⟨gB,hgB⟩:∃gg,aB=some ⟨gg,0,none⟩:=LL.out.hb.addr (by omega)
          subst hgB;have cB0:wr.cell? ⟨gB,q,none⟩=some (.bool (B.getD q false)):=LL.out.hb.cell (by simp[vbl,LL.out.hB,hlt])
          rw[LL.out.hs q hlt] at cB0;obtain⟨bo,hbo⟩:∃bo,(g ((q:Int)+1)).isSome=bo:=⟨_,rfl⟩;have HBO:=hide hbo;rw[hbo] at cB0;clear hbo;by_cases hx0:0<x
          · have dx:decide (0<x)=true:=decide_eq_true hx0;cases bo with
            |false=>
             have E1:Hid ((ldAll r C (nmg NL)).1=9):=ldAll_lacks FT.out BC.out (by rw[E0.out]) (by rw[E0.out];exact lacks_at hqC (by rw[HX.out];exact hx0) HBO.out)
             go_wp2_with fail
             go_ret2
             exact .inl ⟨9,by decide,E1.out,rfl,LL.out.q.b⟩
            |true=>
             go_wp2_with fail
             go_roundw
             case rel=>exact⟨q+1,by omega,by go_num,by first|rfl|trivial,fun t ht h0=>by
              by_cases e:t=q
              · rw[e];exact HBO.out
              · exact HQ.out t (by omega) h0⟩
             case measure=>simp[intOf];omega
          · have dx:decide (0<x)=false:=decide_eq_false hx0;go_wp2_with fail
            go_roundw
            case rel=>exact⟨q+1,by omega,by go_num,by first|rfl|trivial,fun t ht h0=>by
             by_cases e:t=q
             · rw[e,HX.out] at h0;exact absurd h0 hx0
             · exact HQ.out t (by omega) h0⟩
            case measure=>simp[intOf];omega
        · obtain rfl:q=i:=by omega
          have E1:Hid (ldAll r C (nmg NL)=(0,g)):=by
           have k:=ldAll_ok (l:=nmg NL) FT.out BC.out (by rw[E0.out]) (by rw[E0.out];exact lacks_no (fun t ht h0=>HQ.out t (by rw[HN.out];exact ht) h0))
           rw[E0.out] at k;exact k
          go_wp2_with fail
          go_ret2
          refine .inr ⟨by rw[E1.out],rb,D,rfl,LL.out.q,LL.out.hR,LL.out.hC,LL.out.hL,by rw[LL.out.hP,HN.out],fun t ht=>?_,LL.out.ha.1,LL.out.ha.2.1,LL.out.ha.2.2.1,LL.out.ha.2.2.2.1,LL.out.ha.2.2.2.2⟩
          rw[E1.out];exact LL.out.hg t (by rw[HN.out];exact ht)
def nlv(z:Int)(p:Pv):Value:=.agg #[.int .i64 z,.int .i64 p.kind,.int .i64 p.level,.slice p.aI p.items.length p.cI,.slice p.aD p.data.length p.cD,.int .i64 p.next]
def flay(f:Int->Option Pv)(z:Int)(q:Pv):Int->Option Pv:=fun k=>if k=z then some q else f k
theorem six_cells{W:World}{g:Nat}{v0 v1 v2 v3 v4 v5:Value}{t:TypeId}(h:W.heap[g]?=some (.cells #[v0,v1,v2,v3,v4,v5] t (0,0))):W.cell? ⟨g,0,none⟩=some v0/\W.cell? ⟨g,1,none⟩=some v1/\W.cell? ⟨g,2,none⟩=some v2/\W.cell? ⟨g,3,none⟩=some v3/\W.cell? ⟨g,4,none⟩=some v4/\W.cell? ⟨g,5,none⟩=some v5:=by
 refine⟨?_,?_,?_,?_,?_,?_⟩<;>(rw[cell_of_row _ _ _ _ _ _ h];rfl)
theorem Vw.look2(h:Vw w b S pb mb pc col)(z:Int):(Instr.lookup 81 (.map (some mb)) (.int .i64 z) true).run Tryz.prog w=.ok (.tuple #[(S.X.on z).vl,.bool (S.X.f z).isSome]) w:=by
 obtain⟨ac,cc,aa,ca,h⟩:=h;have k:=h.mp.look undMapp undInt Pv.zero.vl (Tryz.zeroValue31 w) z true;rw[k];simp only[if_true];unfold Vm.on;cases S.X.f z<;>rfl
theorem Vw.c1(h:Vw w b S pb mb pc col):w.cell? ⟨b,1,none⟩=some (.map (some mb)):=by
 obtain⟨ac,cc,aa,ca,h⟩:=h;exact h.cells.2.1
theorem Vw.laid{w5:World}(h:Vw w b S pb mb pc col)(z:Int)(q:Pv)(hb:Below w.heap.size w w5)(hq:Pn w w5 q)(hl:q.items.length<=2199023255489):
 ∃w6,(Instr.mapUpdate 81 (.map (some mb)) (.int .i64 z) q.vl).run Tryz.prog w5=.ok () w6/\(∃col',Vw w6 b ⟨⟨S.X.P,flay S.X.f z q,S.X.ch⟩,S.al,S.fl⟩ pb mb pc col'/\Vf w col w6 col')/\But (fun k=>k=mb) w5 w6/\w6.heap.size=w5.heap.size:=by
 obtain⟨aa,ca,hx⟩:=h.vx;obtain⟨p1,f1⟩:=hx.page hb;obtain⟨ac,cc,v1⟩:=p1;obtain⟨w6,hr,hm,hB,hs⟩:=v1.mp.store undMapp undInt z q.vl;refine⟨w6,hr,⟨paint col w w5 6,⟨ac,cc,aa,ca,?_⟩,f1.trans ⟨?_,fun _ _=>rfl⟩⟩,hB,hs⟩
 · have e:(fun k=>(flay S.X.f z q k).map Pv.vl)=mput (fun k=>(S.X.f k).map Pv.vl) z q.vl:=by
    funext k
    unfold flay mput;split<;>rfl
   refine v1.mapped (f':=flay S.X.f z q) (by rw[e];exact hm) hB (fun k p hp=>?_)
   unfold flay at hp;split at hp
   · cases hp;exact hq.pz hl
   · exact v1.fz k p hp
 · exact hB.mono (fun k hk e=>by
    have e:k=mb:=e;rw[e];have:=v1.cm;show 1<=_/\_<=5;rw[show paint col w w5 6 mb=2 from this]
    decide)
def VLd(w w':World)(e:Ending)(b:Nat)(S:Vs)(pb mb:Nat)(pc col:Nat->Nat)(z:Int)(p:Pv):Prop:=
     (∃er:Nat,er≠0/\e=.returned (.int .i64 ((er:Nat):Int))/\(if ¬0<S.X.P.count z then 15 else if (S.X.f z).isSome=true then 10 else p.pg.check)=er/\Below w.heap.size w w')\/
     (0<S.X.P.count z/\(S.X.f z).isSome=false/\p.pg.check=0/\e=.returned (.int .i64 0)/\∃(q:Pv)(col':Nat->Nat),q.pg=p.pg/\Vw w' b ⟨⟨S.X.P,flay S.X.f z q,S.X.ch⟩,S.al,S.fl⟩ pb mb pc col'/\Vf w col w' col')
theorem vload_any(w:World)(b:Nat)(S:Vs)(pb mb:Nat)(pc col:Nat->Nat)(h:Vw w b S pb mb pc col)(z:Int)(p:Pv)(hP:Pi w p):
 Calls Tryz.prog 66 #[.pointer (some ⟨b,0,none⟩),nlv z p] w fun e w'=>VLd w w' e b S pb mb pc col z p:=by
 have A0:=hide (al w (.cells #[.int .i64 z,.int .i64 p.kind,.int .i64 p.level,.slice p.aI p.items.length p.cI,.slice p.aD p.data.length p.cD,.int .i64 p.next] 39));have X0:=hide (heap_alloc_new w (.cells #[.int .i64 z,.int .i64 p.kind,.int .i64 p.level,.slice p.aI p.items.length p.cI,.slice p.aD p.data.length p.cD,.int .i64 p.next] 39));unfold nlv;have HV:=hide h;have HP:=hide hP;clear h hP;have V0:=hide (HV.out.keep A0.out);have TH:=hide (there_st _ b S pb mb pc col V0.out z);by_cases hc:0<S.X.P.count z
 · rw[decide_eq_true hc] at TH;have HC:=hide hc;clear hc;go_enter Tryz.func66,Tryz.ntmps66;go_wp2_with fail
   refine TH.out.mono ?_;rintro _ wq ⟨rfl,hwq⟩;rw[hwq];clear hwq TH;go_upto_region 3 with fail
   generalize hw1:(w.alloc (.cells #[.int .i64 z,.int .i64 p.kind,.int .i64 p.level,.slice p.aI p.items.length p.cI,.slice p.aD p.data.length p.cD,.int .i64 p.next] 39))=w1 at *;clear hw1;have lx:w.heap.size<w1.heap.size:=(Array.getElem?_eq_some_iff.1 X0.out).1;generalize w.heap.size=xb at X0 lx ⊢;have SS:Hid (∀W:World,Below w1.heap.size w1 W->W.cell? ⟨b,1,none⟩=some (.map (some mb))/\W.cell? ⟨xb,0,none⟩=some (.int .i64 z)/\(Instr.lookup 81 (.map (some mb)) (.int .i64 z) true).run Tryz.prog W=.ok (.tuple #[(S.X.on z).vl,.bool (S.X.f z).isSome]) W):=fun W hb=>⟨(V0.out.keep hb).c1,(six_cells (blk13 X0.out hb)).1,(V0.out.keep hb).look2 z⟩
   have DR:=hide (dr2 w1);obtain⟨bo,hbo⟩:∃bo,(S.X.f z).isSome=bo:=⟨_,rfl⟩;simp only[hbo] at SS;have HBO:=hide hbo;clear hbo;have OV:Hid ((S.X.on z).vl=.agg (S.X.on z).cs):=rfl;simp only[OV.out] at SS;refine wp_region_held_drew (S:=fun W=>W.cell? ⟨b,1,none⟩=some (.map (some mb))/\W.cell? ⟨xb,0,none⟩=some (.int .i64 z)/\(Instr.lookup 81 (.map (some mb)) (.int .i64 z) true).run Tryz.prog W=.ok (.tuple #[.agg (S.X.on z).cs,.bool bo]) W) (by kernel_rfl) (SS.out _ DR.out) (fun hHeld=>?_)
   refine tk 0 ?_;refine tk 1 ?_;refine tk 2 ?_;refine tk 3 ?_;refine tk 4 ?_;refine tk 5 ?_;refine tk 6 ?_;refine tk 7 ?_;refine tk 8 ?_;refine tk 9 ?_;have A1:=hide (bt DR.out (al w1.drew (.cells #[.int .i64 0,.int .i64 0,.slice none 0 0,.slice none 0 0,.int .i64 0] 31)));have X1:=hide (heap_alloc_new w1.drew (.cells #[.int .i64 0,.int .i64 0,.slice none 0 0,.slice none 0 0,.int .i64 0] 31));refine tw 10 fun K hK=>?_
   go_simp;refine hK.out _ _ (SS.out _ A1.out) (fun hHeld=>?_)
   clear hK K;try simp only[pt]
   have DSW:(w1.drew.alloc (.cells #[.int .i64 0,.int .i64 0,.slice none 0 0,.slice none 0 0,.int .i64 0] 31))=(w1.alloc (.cells #[.int .i64 0,.int .i64 0,.slice none 0 0,.slice none 0 0,.int .i64 0] 31)).drew:=rfl;rw[DSW] at A1 X1;clear DSW;generalize hw2:(w1.alloc (.cells #[.int .i64 0,.int .i64 0,.slice none 0 0,.slice none 0 0,.int .i64 0] 31)).drew=w2 at *;clear hw2;have A2:=hide (below_row (S.X.on z).cs A1.out (Nat.le_refl _));refine tw 11 fun K hK=>?_
   rw[if_pos (by rfl)]
   refine wp_store_row 31 _ _ rfl w1.heap.size _ rfl rfl 31 _ X1.out sizePage rfl (by simp[Pv.cs,Value.oneCell']) ?_
   refine hK.out _ _ (SS.out _ A2.out) (fun hHeld=>?_)
   clear hK K;try simp only[pt]
   refine tk 12 ?_;refine td ?_;clear hHeld DR;have X2:=hide (blk13 X0.out A2.out);have V2:=hide (V0.out.keep A2.out);have B2:=hide (bt A0.out A2.out);generalize hw3:w2.setRow w1.heap.size (S.X.on z).cs=w3 at *;have P2:=hide (HP.out.keep B2.out);clear hw3 A2 SS V0 X0 X1 A1;cases bo with
   |true=>
    go_wp2_with fail
    go_ret;exact .inl ⟨10,by decide,rfl,by rw[if_neg (fun e=>e HC.out),if_pos HBO.out],B2.out⟩
   |false=>
    obtain⟨y0,y1,y2,y3,y4,y5⟩:=six_cells X2.out;have CK:=hide (Check_any w3 p P2.out);have PV:Hid (p.vl=.agg #[.int .i64 p.kind,.int .i64 p.level,.slice p.aI p.items.length p.cI,.slice p.aD p.data.length p.cD,.int .i64 p.next]):=rfl;rw[PV.out] at CK;obtain⟨ck,hck⟩:∃c,p.pg.check=c:=⟨_,rfl⟩;have HCK:=hide hck;rw[hck] at CK;clear hck;by_cases hc0:ck=0
    · subst hc0;go_wp2_with fail
      refine CK.out.mono ?_;rintro _ w4 ⟨rfl,hb4⟩;have X4:=hide (blk13 X2.out hb4);have V4:=hide (V2.out.keep hb4);have B4:=hide (bt B2.out hb4);have P4:=hide (P2.out.keep hb4);clear hb4 CK X2 V2 y0 y1 y2 y3 y4 y5 B2 P2;have DR:=hide (dr2 w4);have SS:Hid (∀W:World,Below w4.heap.size w4 W->W.cell? ⟨b,1,none⟩=some (.map (some mb))/\W.cell? ⟨xb,0,none⟩=some (.int .i64 z)/\W.cell? ⟨xb,1,none⟩=some (.int .i64 p.kind)/\W.cell? ⟨xb,2,none⟩=some (.int .i64 p.level)/\W.cell? ⟨xb,3,none⟩=some (.slice p.aI p.items.length p.cI)/\W.cell? ⟨xb,4,none⟩=some (.slice p.aD p.data.length p.cD)/\W.cell? ⟨xb,5,none⟩=some (.int .i64 p.next)):=fun W hb=>⟨(V4.out.keep hb).c1,six_cells (blk13 X4.out hb)⟩
      obtain⟨sm,si⟩:=sml_ps (p:=p) (.inl HCK.out);have CP:=hide (copyOf_any w4.drew p (P4.out.keep DR.out) sm.1 sm.2);rw[PV.out] at CP;have SI:=hide si;clear sm si;go_upto_region 9 with fail
      refine wp_region_held_drew (S:=fun W=>W.cell? ⟨b,1,none⟩=some (.map (some mb))/\W.cell? ⟨xb,0,none⟩=some (.int .i64 z)/\W.cell? ⟨xb,1,none⟩=some (.int .i64 p.kind)/\W.cell? ⟨xb,2,none⟩=some (.int .i64 p.level)/\W.cell? ⟨xb,3,none⟩=some (.slice p.aI p.items.length p.cI)/\W.cell? ⟨xb,4,none⟩=some (.slice p.aD p.data.length p.cD)/\W.cell? ⟨xb,5,none⟩=some (.int .i64 p.next)) (by kernel_rfl) (SS.out _ DR.out) (fun hHeld=>?_)
      refine tk 0 ?_;refine tk 1 ?_;refine tk 2 ?_;refine tk 3 ?_;refine tk 4 ?_;refine tk 5 ?_;refine tk 6 ?_;refine tk 7 ?_;refine tw 8 fun K hK=>?_
      go_simp;refine CP.out.mono ?_;rintro _ w5 ⟨q,rfl,hP5,hg5,hb5⟩;have N5:=hide (hP5.pre (v':=w4) (Nat.le_refl _));have G5:=hide hg5;have B5:=hide (bt DR.out hb5);clear hP5 hg5 hb5;go_wp2_with fail
      refine hK.out _ _ (SS.out _ B5.out) (fun hHeld=>?_)
      clear hK K;try simp only[pt]
      have LQ:Hid (q.items.length<=2199023255489):=by
       have e:=congrArg (fun g:Pg=>g.items.length) G5.out
       simp only[Pv.pg,List.length_map] at e;show _<=_;rw[e];exact Nat.le_trans SI.out (by decide)
      obtain⟨w6,hr6,⟨col6,hv6,hf6⟩,hB6,hs6⟩:=V4.out.laid z q B5.out N5.out LQ.out;have V6:=hide hv6;have F6:=hide ((Vf.keep B4.out).trans hf6)
      have S6:Hid (w6.cell? ⟨b,1,none⟩=some (.map (some mb))/\w6.heap[xb]?=some (.cells #[.int .i64 z,.int .i64 p.kind,.int .i64 p.level,.slice p.aI p.items.length p.cI,.slice p.aD p.data.length p.cD,.int .i64 p.next] 39 (0,0))):=⟨hv6.c1,hB6.same (blk13 X4.out B5.out) (fun e=>by
       have e:xb=mb:=e;obtain⟨ac,cc,aa,ca,hq⟩:=V4.out.keep B5.out;obtain⟨es,cl,hm,_⟩:=hq.mp;have:=blk13 X4.out B5.out;rw[e] at this;rw[show(w5.heap[mb]?=some (.map es cl)) from hm] at this
       cases this)⟩
      have VL:Hid (q.vl=.agg q.cs):=rfl;rw[VL.out] at hr6;try rw[VL.out]
      clear hv6 hf6 hB6 hs6;refine tw 9 fun K hK=>?_
      go_simp;refine hK.out _ _ ⟨S6.out.1,six_cells S6.out.2⟩ (fun hHeld=>?_)
      clear hK K;try simp only[pt]
      refine td ?_;clear hHeld DR SS CP hr6;go_wp2_with fail
      go_ret;exact .inr ⟨HC.out,HBO.out,HCK.out,rfl,q,col6,G5.out,V6.out,F6.out⟩
    · have c0:((ck:Int) != 0)=true:=by simpa using hc0
      go_wp2_with fail
      refine CK.out.mono ?_;rintro _ w4 ⟨rfl,hb4⟩;have B4:=hide (bt B2.out hb4);clear hb4 CK y0 y1 y2 y3 y4 y5;go_wp2_with fail
      go_ret;exact .inl ⟨ck,hc0,rfl,by rw[if_neg (fun e=>e HC.out),if_neg (by rw[HBO.out];decide)];exact HCK.out,B4.out⟩
 · rw[decide_eq_false hc] at TH;have HC:=hide hc;clear hc;go_enter Tryz.func66,Tryz.ntmps66;go_wp2_with fail
   refine TH.out.mono ?_;rintro _ wq ⟨rfl,hwq⟩;rw[hwq];clear hwq TH;go_wp2_with fail
   go_ret;exact .inl ⟨15,by decide,rfl,by rw[if_pos (show ¬0<S.X.P.count z from by have:=HC.out;omega)],A0.out⟩
end Go.Proofs.YtcpkinhneehomaaGreat
