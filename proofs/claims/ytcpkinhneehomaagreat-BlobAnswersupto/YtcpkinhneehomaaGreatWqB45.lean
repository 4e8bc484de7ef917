import Derived.Test.YtcpkinhneehomaaGreatWqB43
import Derived.Test.YtcpkinhneehomaaGreatWqB44
set_option linter.unusedVariables false
set_option linter.unusedSimpArgs false
set_option maxHeartbeats 64000000
set_option maxRecDepth 16000
namespace Go.Proofs.YtcpkinhneehomaaGreat
open Go.RowKit
structure Wrk(v:World)(wb b rb pb mb M:Nat)(S:Vs)(D:Rd)(pc col colR:Nat->Nat)(K:Bks)(w:World):Prop where
 s:St v w wb b rb pb mb S D pc col colR K
 r:Rel S.X D
 b:Bnd S M
 k:Kb K M
theorem Nxt.wrk{v:World}{wb b rb pb mb M:Nat}{e:Ending}{w':World}(h:Nxt v wb b rb pb mb M e w'):e=.returned (.bool true)/\∃S D pc col colR K,Wrk v wb b rb pb mb (M+20) S D pc col colR K w':=by
 obtain⟨h1,S,D,pc,col,colR,K,a,c,d,f⟩:=h;exact⟨h1,S,D,pc,col,colR,K,a,c,d,f⟩
theorem Os.eight{w W:World}{a:Option Addr}{L:List Ov}(h:Os w a L){j:Nat}(hj:j<L.length){o:Ov}(ho:L.getD j Ov.zero=o):∃g off,a=some ⟨g,off,none⟩/\∀W,Below w.heap.size w W->W.cell? ⟨g,off+j*8,none⟩=some (.int .i64 o.kind)/\W.cell? ⟨g,off+j*8+1,none⟩=some (.int .i64 o.n)/\W.cell? ⟨g,off+j*8+2,none⟩=some (.slice o.aK o.key.length o.cK)/\W.cell? ⟨g,off+j*8+3,none⟩=some (.slice o.aV o.val.length o.cV)/\W.cell? ⟨g,off+j*8+4,none⟩=some (.slice o.i.aK o.i.key.length o.i.cK)/\W.cell? ⟨g,off+j*8+5,none⟩=some (.slice o.i.aV o.i.val.length o.i.cV)/\W.cell? ⟨g,off+j*8+6,none⟩=some (.int .i64 o.i.child)/\W.cell? ⟨g,off+j*8+7,none⟩=some (.int .i64 o.i.size):=by
 obtain⟨g,off,e,hc⟩:=h.c j hj;rw[ho] at hc;refine⟨g,off,e,fun W hb=>?_⟩
 have k:=fun i u hu=>(hb.cell (p:=⟨g,off+j*8+i,none⟩) (block_lt_of_cell (hc i u hu))).trans (hc i u hu)
 exact⟨k 0 _ rfl,k 1 _ rfl,k 2 _ rfl,k 3 _ rfl,k 4 _ rfl,k 5 _ rfl,k 6 _ rfl,k 7 _ rfl⟩
theorem blobAnswers_any(w:World)(p r:Int)(aC:Option Addr)(nC cC:Nat)(C:List Int)(hC:Q.Ir w aC C)(hn:nC=C.length)(aN:Option Addr)(m cN:Nat)(NL:List (Int×Pv))(hN:Nm w aN NL)(hm:m=NL.length)(aS:Option Addr)(cS:Nat)(L:List Ov)(hS:Os w aS L)(hL:L.length<=1048576):
 Calls Tryz.prog 7 #[.agg #[.int .i64 p,.int .i64 r,.slice aC nC cC,.slice aN m cN],.slice aS L.length cS] w fun e w'=>e=.returned (.bool true)/\Below w.heap.size w w':=by
 have FX:=hide fixed13_any;have BG:=hide fun(W:World)(hb:Below w.heap.size w W)=>begun2_any W p r aC nC cC C (hC.keep hb) hn aN m cN NL (hN.keep hb) hm
 have A0:=hide (al w (.cells #[.int .i64 p,.int .i64 r,.slice aC nC cC,.slice aN m cN] 68));have X0:=hide (heap_alloc_new w (.cells #[.int .i64 p,.int .i64 r,.slice aC nC cC,.slice aN m cN] 68));have OS:=hide hS;obtain⟨n,hln⟩:∃n,L.length=n:=⟨_,rfl⟩;have HN:=hide hln;rw[hln] at hL ⊢;clear hC hn hN hm hS hln;go_enter Tryz.func7,Tryz.ntmps7;go_wp2_with fail
 refine(FX.out _).mono ?_;rintro _ w2 ⟨rfl,hb2⟩;have B2:=hide (bt A0.out hb2);have M0:=hide (blk13 X0.out hb2);have OS2:=hide (OS.out.keep B2.out);clear hb2 X0 A0 OS;obtain⟨x0,x1,x2,x3⟩:=four13 M0.out;go_wp2_with fail
 refine(BG.out _ B2.out).mono ?_;rintro _ w3 (⟨rfl,hb3⟩|⟨wb,b,rb,S,pb,mb,pc,col,D,colR,rfl,hG,hX⟩)
 · have B3:=hide (bt B2.out hb3);clear hb3 x0 x1 x2 x3;go_wp2_with fail
   go_ret;exact⟨rfl,B3.out⟩
 have W0:Hid (Wrk w2 wb b rb pb mb 4294967296 S D pc col colR Bks.nil w3):=⟨St.first hG hX,hX.rel,Bnd.first hX,⟨⟨Nat.zero_le _,fun t ht=>absurd ht (List.not_mem_nil)⟩,Nat.zero_le _⟩⟩
 clear hG hX x0 x1 x2 x3 BG M0 FX;go_wp2_with fail
 go_loopw [7] (fun v7 wx=>∃(i:Nat)(S:Vs)(D:Rd)(pc col colR:Nat->Nat)(K:Bks),i<=n/\v7=.int .i64 (i:Int)/\Wrk w2 wb b rb pb mb (4294967296+i*20) S D pc col colR K wx) (fun v7 _=>n-(intOf v7).toNat)
 case atStart=>exact⟨0,S,D,pc,col,colR,Bks.nil,Nat.zero_le _,rfl,W0.out⟩
 case round=>
  obtain⟨i,S,D,pc,col,colR,K0,hi,rfl,hW⟩:=hrel;have WK:=hide hW;clear hW W0;by_cases hlt:i<n
  · have hii:(i:Int)<(n:Int):=by omega
    obtain⟨o,ho⟩:∃o,L.getD i Ov.zero=o:=⟨_,rfl⟩;have hiL:i<L.length:=by rw[HN.out];exact hlt
    have OI:Hid (Oi w2 o):=OS2.out.o o (by rw[<-ho];simp[hiL])
    obtain⟨g,off,rfl,hE⟩:=OS2.out.eight (W:=w2) hiL ho;have E8:=hide hE;have DO:=hide fun(W:World)(hb:Below wr.heap.size wr W)=>ldo_any w2 W wb b rb pb mb S D pc col colR K0 (WK.out.s.keep hb) WK.out.r (4294967296+i*20) WK.out.b WK.out.k (by omega) o (OI.out.fo (WK.out.s.keep hb))
    have OV:Hid (o.vl=.agg #[.int .i64 o.kind,.int .i64 o.n,.slice o.aK o.key.length o.cK,.slice o.aV o.val.length o.cV,.slice o.i.aK o.i.key.length o.i.cK,.slice o.i.aV o.i.val.length o.i.cV,.int .i64 o.i.child,.int .i64 o.i.size]):=rfl;rw[OV.out] at DO;clear hE ho hiL;have DR:=hide (dr2 wr)
    have SS:Hid (∀(W:World)(S:Vs)(D:Rd)(pc col colR:Nat->Nat)(K:Bks),St w2 W wb b rb pb mb S D pc col colR K->W.cell? ⟨g,off+i*8,none⟩=some (.int .i64 o.kind)/\W.cell? ⟨g,off+i*8+1,none⟩=some (.int .i64 o.n)/\W.cell? ⟨g,off+i*8+2,none⟩=some (.slice o.aK o.key.length o.cK)/\W.cell? ⟨g,off+i*8+3,none⟩=some (.slice o.aV o.val.length o.cV)/\W.cell? ⟨g,off+i*8+4,none⟩=some (.slice o.i.aK o.i.key.length o.i.cK)/\W.cell? ⟨g,off+i*8+5,none⟩=some (.slice o.i.aV o.i.val.length o.i.cV)/\W.cell? ⟨g,off+i*8+6,none⟩=some (.int .i64 o.i.child)/\W.cell? ⟨g,off+i*8+7,none⟩=some (.int .i64 o.i.size)/\W.cell? ⟨wb,0,none⟩=some (.pointer (some ⟨b,0,none⟩))/\W.cell? ⟨wb,1,none⟩=some (.pointer (some ⟨rb,0,none⟩))/\W.cell? ⟨b,0,none⟩=some (.pointer (some ⟨pb,0,none⟩))):=fun W S D pc col colR K h=>by
     obtain⟨k0,k1,k2,k3,k4,k5,k6,k7⟩:=E8.out W h.bl;exact⟨k0,k1,k2,k3,k4,k5,k6,k7,h.cells.1,h.cells.2.1,h.V.c0⟩
    go_upto_region 9 with fail
    refine wp_region_held_drew (S:=fun W=>W.cell? ⟨g,off+i*8,none⟩=some (.int .i64 o.kind)/\W.cell? ⟨g,off+i*8+1,none⟩=some (.int .i64 o.n)/\W.cell? ⟨g,off+i*8+2,none⟩=some (.slice o.aK o.key.length o.cK)/\W.cell? ⟨g,off+i*8+3,none⟩=some (.slice o.aV o.val.length o.cV)/\W.cell? ⟨g,off+i*8+4,none⟩=some (.slice o.i.aK o.i.key.length o.i.cK)/\W.cell? ⟨g,off+i*8+5,none⟩=some (.slice o.i.aV o.i.val.length o.i.cV)/\W.cell? ⟨g,off+i*8+6,none⟩=some (.int .i64 o.i.child)/\W.cell? ⟨g,off+i*8+7,none⟩=some (.int .i64 o.i.size)/\W.cell? ⟨wb,0,none⟩=some (.pointer (some ⟨b,0,none⟩))/\W.cell? ⟨wb,1,none⟩=some (.pointer (some ⟨rb,0,none⟩))/\W.cell? ⟨b,0,none⟩=some (.pointer (some ⟨pb,0,none⟩))) (by kernel_rfl) (SS.out _ _ _ _ _ _ _ (WK.out.s.keep DR.out)) (fun hHeld=>?_)
    refine tk 0 ?_;refine tk 1 ?_;refine tk 2 ?_;refine tk 3 ?_;refine tk 4 ?_;refine tw 5 fun K hK=>?_
    go_simp;refine(DO.out _ DR.out).mono ?_;intro _ w4 hN4;obtain⟨rfl,S4,D4,pc4,col4,colR4,K4,hW4⟩:=hN4.wrk;have W4:=hide hW4
    have CN:=hide fun(W:World)(hb:Below w4.heap.size w4 W)=>(show Calls Tryz.prog 26 #[.pointer (some ⟨pb,0,none⟩)] W fun e w'=>∃a c,e=.returned (.slice a D4.C.length c)/\Q.IOwn W w' a c D4.C from by
     obtain⟨ac,cc,aa,ca,hq⟩:=W4.out.s.V.keep hb;have k:=Q.Counts_any W pb _ _ hq.pool;rw[W4.out.r.cnts] at k;exact k)
    have CR:=hide fun(W:World)(hb:Below w4.heap.size w4 W)=>rCounts_any W rb D4 colR4 (W4.out.s.R.keep hb)
    have h6:D4.C.length<=65536:=W4.out.s.R.n6;clear hN4 hW4 DO;obtain⟨cn,hcn⟩:∃cn,D4.C.length=cn:=⟨_,rfl⟩;have HCN:=hide hcn;simp only[hcn] at CN CR h6;clear hcn;go_wp2_with fail
    refine hK.out _ _ (SS.out _ _ _ _ _ _ _ W4.out.s) (fun hHeld=>?_)
    clear hK K;try simp only[pt]
    refine tk 6 ?_;refine tk 7 ?_;refine tk 8 ?_;refine tk 9 ?_;refine tk 10 ?_;refine tk 11 ?_;refine tk 12 ?_;refine tk 13 ?_;refine tk 14 ?_;refine tk 16 ?_;refine tk 17 ?_;refine tk 18 ?_;refine tk 19 ?_;refine tw 15 fun K hK=>?_
    go_simp;refine(CN.out _ (Below.refl _ _)).mono ?_;rintro _ w5 ⟨a5,c5,rfl,hO⟩;have O5:=hide hO;have B5:=hide hO.b;clear hO CN;go_wp2_with fail
    refine hK.out _ _ (SS.out _ _ _ _ _ _ _ (W4.out.s.keep B5.out)) (fun hHeld=>?_)
    clear hK K;try simp only[pt]
    refine tw 20 fun K hK=>?_
    go_simp;refine(CR.out _ B5.out).mono ?_;rintro _ w6 ⟨a6,c6,rfl,hO⟩;have O6:=hide hO;have B6:=hide (bt B5.out hO.b);clear hO CR;go_wp2_with fail
    refine hK.out _ _ (SS.out _ _ _ _ _ _ _ (W4.out.s.keep B6.out)) (fun hHeld=>?_)
    clear hK K;try simp only[pt]
    refine tw 21 fun K hK=>?_
    go_simp;refine(Q.EqInts_same _ a5 a6 cn cn c5 c6 D4.C (O5.out.r.ir.keep O6.out.b) O6.out.r.ir HCN.out.symm HCN.out.symm (by have:=HCN.out;omega)).mono ?_
    rintro _ w7 ⟨rfl,hb7⟩;have B7:=hide (bt B6.out hb7);clear hb7;go_wp2_with fail
    refine hK.out _ _ (SS.out _ _ _ _ _ _ _ (W4.out.s.keep B7.out)) (fun hHeld=>?_)
    clear hK K;try simp only[pt]
    refine tk 22 ?_;refine tk 23 ?_;refine td ?_;clear hHeld SS DR;have W7:Hid (Wrk w2 wb b rb pb mb (4294967296+(i+1)*20) S4 D4 pc4 col4 colR4 K4 w7):=⟨W4.out.s.keep B7.out,W4.out.r,W4.out.b.le (by omega),W4.out.k.le (by omega)⟩
    go_wp2_with fail
    go_roundw
    case rel=>exact⟨i+1,S4,D4,pc4,col4,colR4,K4,by omega,by go_num,W7.out⟩
    case measure=>simp[intOf];omega
  · obtain rfl:i=n:=by omega
    generalize hwr:wr=w8 at *;clear hwr;obtain⟨nb,hnb⟩:∃nb,K0.B.length=nb:=⟨_,rfl⟩;obtain⟨nn,hnn⟩:∃nn,K0.N.length=nn:=⟨_,rfl⟩;obtain⟨nt,hnt⟩:∃nt,K0.T.length=nt:=⟨_,rfl⟩;obtain⟨nx,hnx⟩:∃nx,K0.X.length=nx:=⟨_,rfl⟩;have HB:=hide hnb;have HNN:=hide hnn;have HT:=hide hnt;have HX:=hide hnx
    have NE:Hid (nn=nb/\nx=nt):=by
     have e1:=congrArg List.length WK.out.s.e1;have e2:=congrArg List.length WK.out.s.e2;simp only[List.length_map] at e1 e2;exact⟨by omega,by omega⟩
    have CS:Hid (∀W:World,Below w8.heap.size w8 W->W.cell? ⟨wb,2,none⟩=some (.slice K0.aB nb K0.cB)/\W.cell? ⟨wb,3,none⟩=some (.slice K0.aN nn K0.cN)/\W.cell? ⟨wb,4,none⟩=some (.slice K0.aT nt K0.cT)/\W.cell? ⟨wb,5,none⟩=some (.slice K0.aX nx K0.cX)):=fun W hb=>by
     obtain⟨_,_,q2,q3,q4,q5⟩:=(WK.out.s.keep hb).cells;rw[List.length_map] at q4 q5;rw[hnb] at q2;rw[hnn] at q3;rw[hnt] at q4;rw[hnx] at q5;exact⟨q2,q3,q4,q5⟩
    clear hnb hnn hnt hnx;have hb9:nb<=1000000000000:=by rw[<-HB.out];have:=WK.out.k.b;omega
    have ht9:nt<=30:=by rw[<-HT.out];exact WK.out.k.t.1
    go_wp2_with fail
    go_loopw [8] (fun v8 wx=>∃j:Nat,j<=nb/\v8=.int .i64 (j:Int)/\Below w8.heap.size w8 wx) (fun v8 _=>nb-(intOf v8).toNat)
    case atStart=>exact⟨0,Nat.zero_le _,rfl,Below.refl _ _⟩
    case round=>
     obtain⟨j,hj,rfl,hbx⟩:=hrel;have BX:=hide hbx;clear hbx;obtain⟨q2,q3,q4,q5⟩:=CS.out _ BX.out;by_cases hjl:j<nb
     · have hji:(j:Int)<(nb:Int):=by omega
       have hjn:(j:Int)<(nn:Int):=by have:=NE.out;omega
       have hjn2:j<nn:=by have:=NE.out;omega
       have jB:j<K0.B.length:=by rw[HB.out];exact hjl
       have jN:j<K0.N.length:=by rw[HNN.out];exact hjn2
       obtain⟨gB,hgB⟩:∃g,K0.aB=some ⟨g,0,none⟩:=by
        rcases WK.out.s.jb.cases with⟨_,_,h0⟩|⟨g,cur,h0,_⟩
        · rw[h0] at jB;exact absurd jB (Nat.not_lt_zero _)
        · exact⟨g,h0⟩
       obtain⟨gN,hgN⟩:∃g,K0.aN=some ⟨g,0,none⟩:=by
        rcases WK.out.s.jn.cases with⟨_,_,h0⟩|⟨g,cur,h0,_⟩
        · rw[h0] at jN;exact absurd jN (Nat.not_lt_zero _)
        · exact⟨g,h0⟩
       obtain⟨x,hx⟩:∃x,K0.B.getD j Iv.zero=x:=⟨_,rfl⟩;obtain⟨y,hy⟩:∃y,K0.N.getD j Iv.zero=y:=⟨_,rfl⟩;have EI:=hide fun(W:World)(hb:Below w8.heap.size w8 W)=>EqItem_same W x y (by rw[<-hx];exact(WK.out.s.keep hb).iiB jB) (by rw[<-hy];exact(WK.out.s.keep hb).iiN jN) (by rw[<-hx,<-hy];exact WK.out.s.itE j)
       rw[show x.vl=.agg #[.slice x.aK x.key.length x.cK,.slice x.aV x.val.length x.cV,.int .i64 x.child,.int .i64 x.size] from rfl,show y.vl=.agg #[.slice y.aK y.key.length y.cK,.slice y.aV y.val.length y.cV,.int .i64 y.child,.int .i64 y.size] from rfl] at EI
       have SS:Hid (∀W:World,Below w8.heap.size w8 W->W.cell? ⟨wb,2,none⟩=some (.slice (some ⟨gB,0,none⟩) nb K0.cB)/\W.cell? ⟨wb,3,none⟩=some (.slice (some ⟨gN,0,none⟩) nn K0.cN)/\W.cell? ⟨gB,j*4,none⟩=some (.slice x.aK x.key.length x.cK)/\W.cell? ⟨gB,j*4+1,none⟩=some (.slice x.aV x.val.length x.cV)/\W.cell? ⟨gB,j*4+2,none⟩=some (.int .i64 x.child)/\W.cell? ⟨gB,j*4+3,none⟩=some (.int .i64 x.size)/\W.cell? ⟨gN,j*4,none⟩=some (.slice y.aK y.key.length y.cK)/\W.cell? ⟨gN,j*4+1,none⟩=some (.slice y.aV y.val.length y.cV)/\W.cell? ⟨gN,j*4+2,none⟩=some (.int .i64 y.child)/\W.cell? ⟨gN,j*4+3,none⟩=some (.int .i64 y.size)):=fun W hb=>by
        obtain⟨c2,c3,c4,c5⟩:=CS.out W hb;have j1:=(WK.out.s.keep hb).jb;have j2:=(WK.out.s.keep hb).jn;rw[hgB] at j1 c2;rw[hgN] at j2 c3;obtain⟨⟨y0,y1,y2,y3⟩,_⟩:=j1.item4 jB;obtain⟨⟨z0,z1,z2,z3⟩,_⟩:=j2.item4 jN;rw[hx] at y0 y1 y2 y3;rw[hy] at z0 z1 z2 z3;exact⟨c2,c3,y0,y1,y2,y3,z0,z1,z2,z3⟩
       have DR:=hide (bt BX.out (dr2 wr));clear hx hy hgB hgN jB jN;go_upto_region 14 with fail
       clear q2 q3 q4 q5;refine wp_region_held_drew (S:=fun W=>W.cell? ⟨wb,2,none⟩=some (.slice (some ⟨gB,0,none⟩) nb K0.cB)/\W.cell? ⟨wb,3,none⟩=some (.slice (some ⟨gN,0,none⟩) nn K0.cN)/\W.cell? ⟨gB,j*4,none⟩=some (.slice x.aK x.key.length x.cK)/\W.cell? ⟨gB,j*4+1,none⟩=some (.slice x.aV x.val.length x.cV)/\W.cell? ⟨gB,j*4+2,none⟩=some (.int .i64 x.child)/\W.cell? ⟨gB,j*4+3,none⟩=some (.int .i64 x.size)/\W.cell? ⟨gN,j*4,none⟩=some (.slice y.aK y.key.length y.cK)/\W.cell? ⟨gN,j*4+1,none⟩=some (.slice y.aV y.val.length y.cV)/\W.cell? ⟨gN,j*4+2,none⟩=some (.int .i64 y.child)/\W.cell? ⟨gN,j*4+3,none⟩=some (.int .i64 y.size)) (by kernel_rfl) (SS.out _ DR.out) (fun hHeld=>?_)
       refine tk 0 ?_;refine tk 1 ?_;refine tk 2 ?_;refine tk 3 ?_;refine tk 4 ?_;refine tk 5 ?_;refine tk 6 ?_;refine tk 7 ?_;refine tk 8 ?_;refine tk 9 ?_;refine tk 10 ?_;refine tk 11 ?_;refine tk 12 ?_;refine tk 13 ?_;refine tw 14 fun K hK=>?_
       go_simp;refine(EI.out _ DR.out).mono ?_;rintro _ w9 ⟨rfl,hb9'⟩;have B9:=hide (bt DR.out hb9');clear hb9';go_wp2_with fail
       refine hK.out _ _ (SS.out _ B9.out) (fun hHeld=>?_)
       clear hK K;try simp only[pt]
       refine tk 15 ?_;refine td ?_;clear hHeld SS DR EI;go_wp2_with fail
       go_roundw
       case rel=>exact⟨j+1,by omega,by go_num,B9.out⟩
       case measure=>simp[intOf];omega
     · obtain rfl:j=nb:=by omega
       clear q2 q3 q4 q5;generalize hwr:wr=w10 at *;clear hwr;have CSc:=hide (CS.out w10 BX.out);obtain⟨q2,q3,q4,q5⟩:=CSc.out;go_wp2_with fail
       go_loopw [9] (fun v9 wx=>∃k:Nat,k<=nt/\v9=.int .i64 (k:Int)/\Below w8.heap.size w8 wx) (fun v9 _=>nt-(intOf v9).toNat)
       case atStart=>exact⟨0,Nat.zero_le _,rfl,BX.out⟩
       case round=>
        clear q2 q3 q4 q5;obtain⟨k,hk,rfl,hbx⟩:=hrel;have BY:=hide hbx;clear hbx;obtain⟨q2,q3,q4,q5⟩:=CS.out _ BY.out;by_cases hkl:k<nt
        · have hki:(k:Int)<(nt:Int):=by omega
          have hkn:(k:Int)<(nx:Int):=by have:=NE.out;omega
          have hkn2:k<nx:=by have:=NE.out;omega
          have jT:k<K0.T.length:=by rw[HT.out];exact hkl
          have jX:k<K0.X.length:=by rw[HX.out];exact hkn2
          obtain⟨gT,hgT,_⟩:=WK.out.s.tt.cell (i:=k) (v:=bv (K0.T.getD k Br1)) (by simp[jT])
          obtain⟨gX,hgX,_⟩:=WK.out.s.tx.cell (i:=k) (v:=bv (K0.X.getD k Br1)) (by simp[jX])
          obtain⟨t,ht⟩:∃t,K0.T.getD k Br1=t:=⟨_,rfl⟩;obtain⟨u,hu⟩:∃u,K0.X.getD k Br1=u:=⟨_,rfl⟩;have EL:Hid (t.l=u.l):=by show _=_;rw[<-ht,<-hu];exact WK.out.s.lE k
          have EI:=hide fun(W:World)(hb:Below w8.heap.size w8 W)=>EqBytes_same W t.a u.a t.l.length u.l.length t.c u.c t.l (by rw[<-ht];exact(WK.out.s.keep hb).tBs jT) (by rw[EL.out,<-hu];exact(WK.out.s.keep hb).xBs jX) rfl (by rw[EL.out])
          have SS:Hid (∀W:World,Below w8.heap.size w8 W->W.cell? ⟨wb,4,none⟩=some (.slice (some ⟨gT,0,none⟩) nt K0.cT)/\W.cell? ⟨wb,5,none⟩=some (.slice (some ⟨gX,0,none⟩) nx K0.cX)/\W.cell? ⟨gT,k,none⟩=some (.slice t.a t.l.length t.c)/\W.cell? ⟨gX,k,none⟩=some (.slice u.a u.l.length u.c)):=fun W hb=>by
           obtain⟨c2,c3,c4,c5⟩:=CS.out W hb;obtain⟨g1,h1,y0⟩:=(WK.out.s.keep hb).tt.cell (i:=k) (v:=bv (K0.T.getD k Br1)) (by simp[jT])
           obtain⟨g2,h2,z0⟩:=(WK.out.s.keep hb).tx.cell (i:=k) (v:=bv (K0.X.getD k Br1)) (by simp[jX])
           rw[hgT] at h1 c4;rw[hgX] at h2 c5;cases h1;cases h2;rw[ht] at y0;rw[hu] at z0;exact⟨c4,c5,y0,z0⟩
          have DR:=hide (bt BY.out (dr2 wr));clear ht hu hgT hgX jT jX;go_upto_region 19 with fail
          clear q2 q3 q4 q5;refine wp_region_held_drew (S:=fun W=>W.cell? ⟨wb,4,none⟩=some (.slice (some ⟨gT,0,none⟩) nt K0.cT)/\W.cell? ⟨wb,5,none⟩=some (.slice (some ⟨gX,0,none⟩) nx K0.cX)/\W.cell? ⟨gT,k,none⟩=some (.slice t.a t.l.length t.c)/\W.cell? ⟨gX,k,none⟩=some (.slice u.a u.l.length u.c)) (by kernel_rfl) (SS.out _ DR.out) (fun hHeld=>?_)
          refine tk 0 ?_;refine tk 1 ?_;refine tk 2 ?_;refine tk 3 ?_;refine tk 4 ?_;refine tk 5 ?_;refine tk 6 ?_;refine tk 7 ?_;refine tk 8 ?_;refine tk 9 ?_;refine tk 10 ?_;refine tk 11 ?_;refine tk 12 ?_;refine tk 13 ?_;refine tw 14 fun K hK=>?_
          go_simp;refine(EI.out _ DR.out).mono ?_;rintro _ w9 ⟨rfl,hb9'⟩;have B9:=hide (bt DR.out hb9');clear hb9';go_wp2_with fail
          refine hK.out _ _ (SS.out _ B9.out) (fun hHeld=>?_)
          clear hK K;try simp only[pt]
          refine tk 15 ?_;refine td ?_;clear hHeld SS DR EI;go_wp2_with fail
          go_roundw
          case rel=>exact⟨k+1,by omega,by go_num,B9.out⟩
          case measure=>simp[intOf];omega
        · obtain rfl:k=nt:=by omega
          clear q2 q3 q4 q5;generalize hwr:wr=w11 at *;clear hwr;have H11:=hide (WK.out.s.keep BY.out);have CS4:=hide (CS.out w11 BY.out);obtain⟨q2,q3,q4,q5⟩:=CS4.out
          have HLT:Hid (∀l,l<=j->k+2*l=((K0.T++rowsOf (K0.B.take l)).map bv).length):=fun l hl=>by
           rw[List.length_map,List.length_append,rowsOf_len2,HT.out,List.length_take,HB.out];omega
          go_wp2_with fail
          go_loopw [10,11] (fun v10 v11 wx=>∃(l:Nat)(aL:Option Addr)(cL:Nat),l<=j/\v11=.int .i64 (l:Int)/\v10=.slice aL (k+2*l) cL/\Lq w11 wx K0 l aL cL) (fun _ v11 _=>j-(intOf v11).toNat)
          case atStart=>exact⟨0,K0.aT,K0.cT,Nat.zero_le _,rfl,rfl,Lq.start H11.out⟩
          case round=>
           clear q2 q3 q4 q5;obtain⟨l,aL,cL,hl,rfl,rfl,hQ⟩:=hrel;have LQ:=hide hQ;have OF:=hide (H11.out.offT hQ.b);clear hQ;have BOX:Hid (wr.heap[wb]?=_):=OF.out.1.trans H11.out.box;obtain⟨q0,q1,q2,q3,q4,q5⟩:=six_cells BOX.out;rw[HB.out] at q2;clear q0 q1 q3 q4 q5;by_cases hll:l<j
           · have hli:(l:Int)<(j:Int):=by omega
             have jB:l<K0.B.length:=by rw[HB.out];exact hll
             obtain⟨gB,hgB⟩:∃g,K0.aB=some ⟨g,0,none⟩:=by
              rcases H11.out.jb.cases with⟨_,_,h0⟩|⟨g,cur,h0,_⟩
              · rw[h0] at jB;exact absurd jB (Nat.not_lt_zero _)
              · exact⟨g,h0⟩
             have j1:=OF.out.2.1;rw[hgB] at j1 q2;obtain⟨⟨y0,y1,y2,y3⟩,_⟩:=j1.item4 jB;have JB:=hide jB;have ST:=hide fun(wB w5:World)(hA:Below wr.heap.size wr wB)(g c5:Nat)=>LQ.out.step JB.out hA (g:=g) (c5:=c5) (w5:=w5)
             obtain⟨x,hx⟩:∃x,K0.B.getD l Iv.zero=x:=⟨_,rfl⟩;rw[hx] at y0 y1 y2 y3;simp only[hx] at ST;have A12:=hide (bt (al wr (.cells #[.slice x.aK x.key.length x.cK,.slice x.aV x.val.length x.cV] 29)) (dr2 (wr.alloc (.cells #[.slice x.aK x.key.length x.cK,.slice x.aV x.val.length x.cV] 29))))
             have HSZ:Hid ((((K0.T++rowsOf (K0.B.take l)).map bv).length+[bv ⟨x.aK,x.cK,x.key⟩,bv ⟨x.aV,x.cV,x.val⟩].length)*24<=140737488355328):=by
              show _<=_;rw[<-HLT.out l hl];show(k+2*l+2)*24<=_;omega
             have HLN:=hide (HLT.out l hl);clear hx hgB jB j1 y2 y3;go_upto_region 25 with fail
             go_region_law
              (refine step_apArL rfl _ _ rfl aL (k+2*l) cL ((K0.T++rowsOf (K0.B.take l)).map bv) (by first|(simp[Act.eval];done)|simp[Act.eval,Act.put]) HLN.out (LQ.out.r.keep A12.out) ⟨wr.heap.size,0,none⟩ 2 2 [bv ⟨x.aK,x.cK,x.key⟩,bv ⟨x.aV,x.cV,x.val⟩] (by first|(simp[Act.eval];done)|simp[Act.eval,Act.put]) rfl (lists_bs wr _ _) (lists_one _ _) (Nat.succ_pos 1) HSZ.out ?_
               intro g5 c5 w5 hR hN hg;have R6:=hide (ST.out _ w5 A12.out g5 c5 hR hN hg);clear hR hN hg)
             all_goals
              clear ST y0 y1 q2;go_wp2_with fail
              go_roundw
              case rel=>exact⟨l+1,some ⟨g5,0,none⟩,c5,by omega,by go_num,by rw[show k+2*(l+1)=k+2*l+2 by omega],R6.out⟩
              case measure=>simp[intOf];omega
           · obtain rfl:l=j:=by omega
             have ET:Hid (K0.B.take l=K0.B):=List.take_of_length_le (by rw[HB.out];exact Nat.le_refl _)
             have LR:=hide LQ.out.r;have HLN:=hide (HLT.out l (Nat.le_refl _));rw[ET.out] at LR HLN;rw[List.length_map] at HLN
             have AP:=hide (apart_rows wr aL cL (K0.T++rowsOf K0.B) LR.out OF.out.2.2.1 H11.out.ap (by rw[<-HLN.out];omega) (fun t ht=>by
              rcases List.mem_append.1 ht with ht|ht
              · exact WK.out.k.t.2 t ht
              · unfold rowsOf at ht;obtain⟨rs,hrs,ht⟩:=List.mem_flatten.1 ht;obtain⟨q,hq,rfl⟩:=List.mem_map.1 hrs;obtain⟨_,_,n3,n4⟩:=H11.out.ns q (List.mem_append_left _ hq);simp only[Iv.rows,List.mem_cons,List.not_mem_nil,or_false] at ht;rcases ht with rfl|rfl
                · exact Nat.le_trans n3 (by decide)
                · exact Nat.le_trans n4 (by decide)))
             rw[<-HLN.out] at AP;go_wp2_with fail
             refine AP.out.mono ?_;rintro _ w12 ⟨rfl,hb12⟩;have BB:=hide hb12;clear hb12 AP q2;have B12:Hid (w12.heap[wb]?=_):=BB.out.same BOX.out (fun⟨t,ht,z,hz,e⟩=>(OF.out.2.2.1 t ht).nty13 (t:=78) BOX.out (by decide) hz e)
             have V12:Hid (Vw w12 b S pb mb pc col):=OF.out.2.2.2.1.but13 BB.out (fun q hq ⟨t,ht,z,hz,e⟩=>hq (by rw[<-e];exact((H11.out.r1 t ht).2.2 z hz).1))
             have R12:Hid (Rq w12 rb D colR):=OF.out.2.2.2.2.1.but BB.out (fun q hq ⟨t,ht,z,hz,e⟩=>hq (by rw[<-e];exact((H11.out.r1 t ht).2.2 z hz).2))
             have BL12:Hid (Below w2.heap.size w2 w12):=((But.ofBelow (S:=fun _=>False) OF.out.2.2.2.2.2).trans BB.out (fun q hq ⟨t,ht,z,hz,e⟩=>by have:=H11.out.nt t ht z hz;omega)).below (fun _ _ e=>e)
             have AK:=hide (alike3_any w12 wb b rb _ _ _ _ B12.out S pb mb pc col V12.out H11.out.sm D colR R12.out WK.out.r.cnts WK.out.r.stt (rdV S) rfl WK.out.r.rd2);go_wp2_with fail
             refine AK.out.mono ?_;rintro _ w13 ⟨rfl,hb13⟩;have B13:=hide (bt B2.out (bt BL12.out hb13));clear hb13 AK;go_wp2_with fail
             go_ret;exact⟨rfl,B13.out⟩
end Go.Proofs.YtcpkinhneehomaaGreat
