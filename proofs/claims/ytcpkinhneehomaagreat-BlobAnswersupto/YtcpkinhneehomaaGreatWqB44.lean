import Derived.Test.YtcpkinhneehomaaGreatWqB36
set_option linter.unusedVariables false
set_option linter.unusedSimpArgs false
set_option maxHeartbeats 32000000
set_option maxRecDepth 16000
namespace Go.Proofs.YtcpkinhneehomaaGreat
open Go.RowKit
theorem alike3_any(w:World)(wb b rb:Nat)(v2 v3 v4 v5:Value)(hW:w.heap[wb]?=some (.cells #[.pointer (some ⟨b,0,none⟩),.pointer (some ⟨rb,0,none⟩),v2,v3,v4,v5] 78 (0,0)))(S:Vs)(pb mb:Nat)(pc col:Nat->Nat)(hV:Vw w b S pb mb pc col)(hs:∀z,Sml (S.X.on z))(D:Rd)(colR:Nat->Nat)(hR:Rq w rb D colR)(hC:S.X.P.counts=D.C)(hS:∀z,S.X.P.state z=D.state z)(rd:Int->Option Pg)(h1:rdV S=rd)(h2:rdR D=rd):
 Calls Tryz.prog 31 #[.pointer (some ⟨wb,0,none⟩)] w fun e w'=>e=.returned (.bool true)/\Below w.heap.size w w':=by
 have RV:Hid (ReadsAs 44 (.pointer (some ⟨b,0,none⟩)) rd w):=by rw[<-h1];exact hV.reads hs
 have RR:Hid (ReadsAs 45 (.pointer (some ⟨rb,0,none⟩)) rd w):=by rw[<-h2];exact hR.reads
 have PL:Hid (∀z,((rd z).getD Pv.zero.pg).items.length<=1048576):=fun z=>by
  rw[<-h2];unfold rdR;by_cases hc:0<D.count z
  · rw[if_pos hc]
    have hh:D.has z=true:=by
     unfold Rd.count at hc;split at hc
     · assumption
     · omega
    have:=(sml_ps (hR.ps _ (Rd.on_mem hR hh))).2;show((D.on z).items.map Iv.it).length<=_;rw[List.length_map];exact this
  · rw[if_neg hc];exact Nat.zero_le _
 have hpl:S.X.P.pg.length=D.C.length:=by
  rw[<-hC];unfold Q.Po.counts;rw[List.length_map]
 have LN:=hide fun(W:World)(hb:Below w.heap.size w W)=>(show Calls Tryz.prog 59 #[.pointer (some ⟨pb,0,none⟩)] W fun e w'=>e=.returned (.int .i64 ((D.C.length:Nat):Int))/\w'=W from by
  obtain⟨ac,cc,aa,ca,hq⟩:=hV.keep hb;have k:=Q.Len_pl W pb _ _ hq.pool;rw[hpl] at k;exact k)
 have LR:=hide fun(W:World)(hb:Below w.heap.size w W)=>rLen_any W rb D colR (hR.keep hb)
 have CN:=hide fun(W:World)(hb:Below w.heap.size w W)=>(show Calls Tryz.prog 26 #[.pointer (some ⟨pb,0,none⟩)] W fun e w'=>∃a c,e=.returned (.slice a D.C.length c)/\Q.IOwn W w' a c D.C from by
  obtain⟨ac,cc,aa,ca,hq⟩:=hV.keep hb;have k:=Q.Counts_any W pb _ _ hq.pool;rw[hC] at k;exact k)
 have CR:=hide fun(W:World)(hb:Below w.heap.size w W)=>rCounts_any W rb D colR (hR.keep hb)
 have SV:=hide fun(W:World)(hb:Below w.heap.size w W)(z:Int)=>(show Calls Tryz.prog 47 #[.pointer (some ⟨pb,0,none⟩),.int .i64 z] W fun e w'=>e=.returned (.int .i64 ((D.state z:Nat):Int))/\Below W.heap.size W w' from by
  obtain⟨ac,cc,aa,ca,hq⟩:=hV.keep hb;have k:=Q.State_pl W pb _ _ hq.pool z;rw[hS z] at k;exact k)
 have SR:=hide fun(W:World)(hb:Below w.heap.size w W)(z:Int)=>rState_any W rb D colR (hR.keep hb) z
 have SS:Hid (∀W:World,Below w.heap.size w W->W.cell? ⟨wb,0,none⟩=some (.pointer (some ⟨b,0,none⟩))/\W.cell? ⟨wb,1,none⟩=some (.pointer (some ⟨rb,0,none⟩))/\W.cell? ⟨b,0,none⟩=some (.pointer (some ⟨pb,0,none⟩))):=fun W hb=>⟨(six_cells (blk13 hW hb)).1,(six_cells (blk13 hW hb)).2.1,(hV.keep hb).c0⟩
 have h6:=hR.n6;clear hW hV hR hC hS h1 h2 hs hpl;obtain⟨n,hn⟩:∃n,D.C.length=n:=⟨_,rfl⟩;have HN:=hide hn;simp only[hn] at LN LR CN CR h6;clear hn;have DR:=hide (dr2 w);have dn:((n:Int) != (n:Int))=false:=by simp
 go_enter Tryz.func31,Tryz.ntmps31;go_upto_region 1 with fail
 refine wp_region_held_drew (S:=fun W=>W.cell? ⟨wb,0,none⟩=some (.pointer (some ⟨b,0,none⟩))/\W.cell? ⟨wb,1,none⟩=some (.pointer (some ⟨rb,0,none⟩))/\W.cell? ⟨b,0,none⟩=some (.pointer (some ⟨pb,0,none⟩))) (by kernel_rfl) (SS.out _ DR.out) (fun hHeld=>?_)
 refine tk 0 ?_;refine tk 1 ?_;refine tk 2 ?_;refine tk 3 ?_;refine tk 4 ?_;refine tk 5 ?_;refine tk 6 ?_;refine tk 8 ?_;refine tk 9 ?_;refine tk 10 ?_;refine tk 11 ?_;refine tw 7 fun K hK=>?_
 go_simp;refine(LN.out _ DR.out).mono ?_;rintro _ w1 ⟨rfl,hw1⟩;rw[hw1];clear hw1;go_wp2_with fail
 refine hK.out _ _ (SS.out _ DR.out) (fun hHeld=>?_)
 clear hK K;try simp only[pt]
 refine tw 12 fun K hK=>?_
 go_simp;refine(LR.out _ DR.out).mono ?_;rintro _ wq ⟨rfl,hwq⟩;rw[hwq];clear hwq;go_wp2_with fail
 refine hK.out _ _ (SS.out _ DR.out) (fun hHeld=>?_)
 clear hK K;try simp only[pt]
 refine tk 13 ?_;refine tk 14 ?_;refine tk 15 ?_;refine tk 16 ?_;refine tk 17 ?_;refine tk 18 ?_;refine tk 19 ?_;refine tk 20 ?_;refine tk 21 ?_;refine tk 23 ?_;refine tk 24 ?_;refine tk 25 ?_;refine tk 26 ?_;refine tw 22 fun K hK=>?_
 go_simp;refine(CN.out _ DR.out).mono ?_;rintro _ w2 ⟨a2,c2,rfl,hO⟩;have O2:=hide hO;have B2:=hide (bt DR.out hO.b);clear hO;go_wp2_with fail
 refine hK.out _ _ (SS.out _ B2.out) (fun hHeld=>?_)
 clear hK K;try simp only[pt]
 refine tw 27 fun K hK=>?_
 go_simp;refine(CR.out _ B2.out).mono ?_;rintro _ w3 ⟨a3,c3,rfl,hO⟩;have O3:=hide hO;have B3:=hide (bt B2.out hO.b);clear hO;go_wp2_with fail
 refine hK.out _ _ (SS.out _ B3.out) (fun hHeld=>?_)
 clear hK K;try simp only[pt]
 refine tw 28 fun K hK=>?_
 go_simp;refine(Q.EqInts_same _ a2 a3 n n c2 c3 D.C (O2.out.r.ir.keep O3.out.b) O3.out.r.ir HN.out.symm HN.out.symm (by have:=HN.out;omega)).mono ?_
 rintro _ w4 ⟨rfl,hb4⟩;have B4:=hide (bt B3.out hb4);clear hb4;go_wp2_with fail
 refine hK.out _ _ (SS.out _ B4.out) (fun hHeld=>?_)
 clear hK K;try simp only[pt]
 refine tk 29 ?_;refine tk 30 ?_;refine td ?_;clear hHeld DR O2 O3 B2 B3;go_wp2_with fail
 go_loopw [3] (fun vk wx=>∃k:Nat,1<=k/\k<=n+1/\vk=.int .i64 (k:Int)/\Below w.heap.size w wx) (fun vk _=>n+1-(intOf vk).toNat)
 case atStart=>exact⟨1,Nat.le_refl _,Nat.succ_le_succ (Nat.zero_le _),rfl,B4.out⟩
 case round=>
  clear B4;obtain⟨k,hk1,hk2,rfl,hb⟩:=hrel;have BB:=hide hb;clear hb;obtain⟨x0,x1,x2⟩:=SS.out wr BB.out;by_cases hlt:k<=n
  · have hki:(k:Int)<=(n:Int):=by omega
    have dki:decide ((k:Int)<=(n:Int))=true:=decide_eq_true hki;go_wp2_with fail
    refine(LR.out _ BB.out).mono ?_;rintro _ wq ⟨rfl,hwq⟩;rw[hwq];clear hwq;go_wp2_with fail
    refine(RV.out _ BB.out _).mono ?_;rintro _ w2 ⟨p,rfl,hp,hpg,hb2⟩;obtain⟨er,her⟩:∃er:Int,(if (rd (k:Int)).isSome=true then (0:Int) else 15)=er:=⟨_,rfl⟩
    rw[her];have PP2:=hide hp;have PG:=hide hpg;have B2:=hide (bt BB.out hb2);clear hp hpg hb2 x0 x1 x2;have PV:Hid (p.vl=.agg #[.int .i64 p.kind,.int .i64 p.level,.slice p.aI p.items.length p.cI,.slice p.aD p.data.length p.cD,.int .i64 p.next]):=rfl;rw[PV.out];have A3:=hide (al w2 (.cells #[.int .i64 p.kind,.int .i64 p.level,.slice p.aI p.items.length p.cI,.slice p.aD p.data.length p.cD,.int .i64 p.next] 31));have X3:=hide (heap_alloc_new w2 (.cells #[.int .i64 p.kind,.int .i64 p.level,.slice p.aI p.items.length p.cI,.slice p.aD p.data.length p.cD,.int .i64 p.next] 31));go_upto_region 7 with fail
    have B3:=hide (bt B2.out A3.out);have P3:=hide (PP2.out.keep A3.out);generalize hw3:w2.alloc (.cells #[.int .i64 p.kind,.int .i64 p.level,.slice p.aI p.items.length p.cI,.slice p.aD p.data.length p.cD,.int .i64 p.next] 31)=w3 at *;clear hw3 A3 PP2 B2;obtain⟨gp,hgp⟩:∃gp,w2.heap.size=gp:=⟨_,rfl⟩;simp only[hgp] at X3 ⊢;clear hgp;obtain⟨x0,x1,x2⟩:=SS.out w3 B3.out;go_wp2_with fail
    refine(RR.out _ B3.out _).mono ?_;rintro _ w4 ⟨q,rfl,hq,hqg,hb4⟩;rw[her];clear her;have Q4:=hide hq;have QG:=hide hqg;have B4:=hide (bt B3.out hb4);have P4:=hide (P3.out.keep hb4);have X4:=hide (blk13 X3.out hb4);clear hq hqg hb4 x0 x1 x2 P3 X3 B3;have QV:Hid (q.vl=.agg #[.int .i64 q.kind,.int .i64 q.level,.slice q.aI q.items.length q.cI,.slice q.aD q.data.length q.cD,.int .i64 q.next]):=rfl;rw[QV.out];have A5:=hide (al w4 (.cells #[.int .i64 q.kind,.int .i64 q.level,.slice q.aI q.items.length q.cI,.slice q.aD q.data.length q.cD,.int .i64 q.next] 31));have Y5:=hide (heap_alloc_new w4 (.cells #[.int .i64 q.kind,.int .i64 q.level,.slice q.aI q.items.length q.cI,.slice q.aD q.data.length q.cD,.int .i64 q.next] 31));go_upto_region 8 with fail
    have B5:=hide (bt B4.out A5.out);have P5:=hide (P4.out.keep A5.out);have Q5:=hide (Q4.out.keep A5.out);have X5:=hide (blk13 X4.out A5.out);generalize hw5:w4.alloc (.cells #[.int .i64 q.kind,.int .i64 q.level,.slice q.aI q.items.length q.cI,.slice q.aD q.data.length q.cD,.int .i64 q.next] 31)=w5 at *;clear hw5 A5 P4 Q4 X4 B4;obtain⟨gq,hgq⟩:∃gq,w4.heap.size=gq:=⟨_,rfl⟩;simp only[hgq] at Y5 ⊢;clear hgq
    have LQ:Hid (p.pg=q.pg/\p.items.length<=2199023255489/\q.items.length<=2199023255489):=by
     have e1:=PG.out;have e2:=QG.out;have l1:=PL.out (k:Int);refine⟨by rw[e1,e2],?_,?_⟩
     · have e:=congrArg (fun g:Pg=>g.items.length) e1
       simp only[Pv.pg,List.length_map] at e;rw[e];exact Nat.le_trans l1 (by decide)
     · have e:=congrArg (fun g:Pg=>g.items.length) e2
       simp only[Pv.pg,List.length_map] at e;rw[e];exact Nat.le_trans l1 (by decide)
    have EQ:=hide fun(W:World)(hb:Below w5.heap.size w5 W)=>EqPage_same W p q ((P5.out.keep hb).pi LQ.out.2.1) ((Q5.out.keep hb).pi LQ.out.2.2) LQ.out.1
    rw[PV.out,QV.out] at EQ;have S5:Hid (∀W:World,Below w5.heap.size w5 W->(W.cell? ⟨wb,0,none⟩=some (.pointer (some ⟨b,0,none⟩))/\W.cell? ⟨wb,1,none⟩=some (.pointer (some ⟨rb,0,none⟩))/\W.cell? ⟨b,0,none⟩=some (.pointer (some ⟨pb,0,none⟩)))/\(W.cell? ⟨gp,0,none⟩=some (.int .i64 p.kind)/\W.cell? ⟨gp,1,none⟩=some (.int .i64 p.level)/\W.cell? ⟨gp,2,none⟩=some (.slice p.aI p.items.length p.cI)/\W.cell? ⟨gp,3,none⟩=some (.slice p.aD p.data.length p.cD)/\W.cell? ⟨gp,4,none⟩=some (.int .i64 p.next))/\(W.cell? ⟨gq,0,none⟩=some (.int .i64 q.kind)/\W.cell? ⟨gq,1,none⟩=some (.int .i64 q.level)/\W.cell? ⟨gq,2,none⟩=some (.slice q.aI q.items.length q.cI)/\W.cell? ⟨gq,3,none⟩=some (.slice q.aD q.data.length q.cD)/\W.cell? ⟨gq,4,none⟩=some (.int .i64 q.next))):=fun W hb=>⟨SS.out W (bt B5.out hb),five_cells (blk13 X5.out hb),five_cells (blk13 Y5.out hb)⟩
    have DR:=hide (dr2 w5);obtain⟨st,hst⟩:∃st,D.state (k:Int)=st:=⟨_,rfl⟩;have SVk:=hide fun(W:World)(hb:Below w.heap.size w W)=>SV.out W hb (k:Int)
    have SRk:=hide fun(W:World)(hb:Below w.heap.size w W)=>SR.out W hb (k:Int)
    simp only[hst] at SVk SRk;clear hst;have ds:((st:Int) != (st:Int))=false:=by simp
    have de:(er != er)=false:=by simp
    refine wp_region_held_drew (S:=fun W=>(W.cell? ⟨wb,0,none⟩=some (.pointer (some ⟨b,0,none⟩))/\W.cell? ⟨wb,1,none⟩=some (.pointer (some ⟨rb,0,none⟩))/\W.cell? ⟨b,0,none⟩=some (.pointer (some ⟨pb,0,none⟩)))/\(W.cell? ⟨gp,0,none⟩=some (.int .i64 p.kind)/\W.cell? ⟨gp,1,none⟩=some (.int .i64 p.level)/\W.cell? ⟨gp,2,none⟩=some (.slice p.aI p.items.length p.cI)/\W.cell? ⟨gp,3,none⟩=some (.slice p.aD p.data.length p.cD)/\W.cell? ⟨gp,4,none⟩=some (.int .i64 p.next))/\(W.cell? ⟨gq,0,none⟩=some (.int .i64 q.kind)/\W.cell? ⟨gq,1,none⟩=some (.int .i64 q.level)/\W.cell? ⟨gq,2,none⟩=some (.slice q.aI q.items.length q.cI)/\W.cell? ⟨gq,3,none⟩=some (.slice q.aD q.data.length q.cD)/\W.cell? ⟨gq,4,none⟩=some (.int .i64 q.next))) (by kernel_rfl) (S5.out _ DR.out) (fun hHeld=>?_)
    refine tk 0 ?_;refine tk 1 ?_;refine tk 2 ?_;refine tk 3 ?_;refine tk 4 ?_;refine tk 5 ?_;refine tk 6 ?_;refine tk 7 ?_;refine tk 9 ?_;refine tk 10 ?_;refine tk 11 ?_;refine tk 12 ?_;refine tk 13 ?_;refine tw 8 fun K hK=>?_
    go_simp;refine(SVk.out _ (bt B5.out DR.out)).mono ?_;rintro _ w6 ⟨rfl,hb6⟩;have B6:=hide (bt DR.out hb6);clear hb6;go_wp2_with fail
    refine hK.out _ _ (S5.out _ B6.out) (fun hHeld=>?_)
    clear hK K;try simp only[pt]
    refine tw 14 fun K hK=>?_
    go_simp;refine(SRk.out _ (bt B5.out B6.out)).mono ?_;rintro _ wq ⟨rfl,hwq⟩;rw[hwq];clear hwq;go_wp2_with fail
    refine hK.out _ _ (S5.out _ B6.out) (fun hHeld=>?_)
    clear hK K;try simp only[pt]
    refine tk 15 ?_;refine tk 16 ?_;refine tk 17 ?_;refine tk 18 ?_;refine tk 19 ?_;refine tk 20 ?_;refine tk 21 ?_;refine tk 22 ?_;refine tk 23 ?_;refine tw 24 fun K hK=>?_
    go_simp;refine(EQ.out _ B6.out).mono ?_;rintro _ w7 ⟨rfl,hb7⟩;have B7:=hide (bt B6.out hb7);clear hb7;go_wp2_with fail
    refine hK.out _ _ (S5.out _ B7.out) (fun hHeld=>?_)
    clear hK K;try simp only[pt]
    refine tk 25 ?_;refine tk 26 ?_;refine td ?_;have BE:=hide (bt B5.out B7.out);clear hHeld DR S5 EQ SVk SRk P5 Q5 X5 Y5 B5 B6 B7;go_wp2_with fail
    go_roundw
    case rel=>exact⟨k+1,by omega,by omega,by go_num,BE.out⟩
    case measure=>simp[intOf];omega
  · have hki:¬((k:Int)<=(n:Int)):=by omega
    have dki:decide ((k:Int)<=(n:Int))=false:=decide_eq_false hki;go_wp2_with fail
    refine(LR.out _ BB.out).mono ?_;rintro _ wq ⟨rfl,hwq⟩;rw[hwq];clear hwq;go_wp2_with fail
    go_ret;exact⟨rfl,BB.out⟩
end Go.Proofs.YtcpkinhneehomaaGreat
