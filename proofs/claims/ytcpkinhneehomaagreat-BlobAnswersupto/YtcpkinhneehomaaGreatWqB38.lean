import Derived.Test.YtcpkinhneehomaaGreatWqB37
set_option linter.unusedVariables false
set_option linter.unusedSimpArgs false
set_option maxHeartbeats 16000000
set_option maxRecDepth 8000
namespace Go.Proofs.YtcpkinhneehomaaGreat
open Go.RowKit
variable {er:Int}{i x:Iv}{M N:Nat}{col colR colR':Nat->Nat}{D:Rd}{X:Vm}{S S':Vs}{w w':World}
def SmX(X:Vm):Prop:=∀z,Sml (X.on z)
theorem sml_zero:Sml Pv.zero:=⟨Nat.zero_le _,fun x hx=>absurd hx (List.not_mem_nil)⟩
theorem SmX.less(h:SmX X)(z:Int):SmX (X.less z):=fun y=>by
 unfold Vm.less;split
 · unfold Vm.on;simp only[fput];split
   · exact sml_zero
   · exact h y
 · exact h y
theorem SmX.dropL{F:Vm->Int->Int×Vm}(hF:∀X z,SmX X->SmX (F X z).2):∀(L:List Int)(X:Vm),SmX X->SmX (dropL F X L).2
 | [],X,h=>h
 |z::L,X,h=>by
  unfold Go.Proofs.YtcpkinhneehomaaGreat.dropL;split
  · exact SmX.dropL hF L _ (hF X z h)
  · exact hF X z h
theorem SmX.dropM:∀(t:Nat)(X:Vm)(z:Int),SmX X->SmX (dropM t X z).2
 |0,X,z,h=>h
 |t+1,X,z,h=>by
  unfold Go.Proofs.YtcpkinhneehomaaGreat.dropM;split
  · exact h.less z
  · exact SmX.dropL (SmX.dropM t) _ _ (h.less z)
structure Bnd(S:Vs)(M:Nat):Prop where
 m:S.X.P.mark+tot S.X.P<=M
 c:S.X.ch.length+tot S.X.P<=M
 a:S.fl+S.al.length<=M
theorem Bnd.le(h:Bnd S M)(hn:M<=N):Bnd S N:=⟨Nat.le_trans h.m hn,Nat.le_trans h.c hn,Nat.le_trans h.a hn⟩
theorem dropS_same:∀(t:Nat)(D:Rd)(L:List Int)(D2:Rd),Rd.dropS t D L=some D2->D2={D with C:=D2.C}
 |0,D,L,D2,h=>by cases h
 |t+1,D,[],D2,h=>by cases h;rfl
 |t+1,D,x::L,D2,h=>by
  have h1:(if 0<D.count x then Rd.dropS t (D.put x (D.count x-1)) (if D.count x-1=0 then (D.on x).pg.kids++L else L) else none)=some D2:=h
  split at h1
  · have k:=dropS_same t _ _ D2 h1;exact k
  · cases h1
def RelP(S:Vs)(x:Iv)(er:Int)(S':Vs):Prop:=(x.size<=32/\er=0/\S'=S)\/(32<x.size/\er=(dropM (tot S.X.P+1) S.X x.child).1/\S'=S.done (dropM (tot S.X.P+1) S.X x.child).1 (dropM (tot S.X.P+1) S.X x.child).2)
def RelD(D:Rd)(x:Iv)(er:Int)(D':Rd):Prop:=(x.size<=32/\er=0/\D'=D)\/(32<x.size/\((er=0/\Rd.dropS (D.tot+1) D [x.child]=some D')\/(er=15/\Rd.dropS (D.tot+1) D [x.child]=none/\D.Same D')))
theorem drop_fin(h:Rel S.X D)(hf:Fine S.X.f)(z:Int):((dropM (tot S.X.P+1) S.X z).1=0/\∃D',Rel (S.done (dropM (tot S.X.P+1) S.X z).1 (dropM (tot S.X.P+1) S.X z).2).X D'/\Rd.dropS (D.tot+1) D [z]=some D'/\Dp S.X (dropM (tot S.X.P+1) S.X z).2)\/((dropM (tot S.X.P+1) S.X z).1=15/\Rd.dropS (D.tot+1) D [z]=none/\S.done (dropM (tot S.X.P+1) S.X z).1 (dropM (tot S.X.P+1) S.X z).2=S):=by
 rcases drop_as (tot S.X.P+1) S.X D z [] h (Nat.lt_succ_self _) with⟨a1,D',a2,a3,a4,a5⟩|⟨a1,a2⟩
 · refine .inl ⟨a1,D',?_,a4,a5⟩;unfold Vs.done;rw[if_pos a1];exact a2
 · exact .inr ⟨a1,a2,Vs.done_no (by rw[a1];decide) (Ve.dropM _ _ _) hf⟩
theorem Rel.rel{D':Rd}{y:Iv}{er':Int}(h:Rel S.X D)(hf:Fine S.X.f)(hx:x.it=y.it)(hp:RelP S x er S')(hd:RelD D y er' D'):er=er'/\Rel S'.X D':=by
 have e1:x.size=y.size:=congrArg It.size hx;have e2:x.child=y.child:=congrArg It.child hx;rcases hp with⟨p1,p2,p3⟩|⟨p1,p2,p3⟩
 · rcases hd with⟨d1,d2,d3⟩|⟨d1,_⟩
   · rw[p2,d2,p3,d3];exact⟨rfl,h⟩
   · omega
 · rcases hd with⟨d1,d2,d3⟩|⟨d1,d2⟩
   · omega
   · rw[e2] at p2 p3;rcases drop_fin h hf y.child with⟨a1,D1,a2,a3,a4⟩|⟨a1,a2,a3⟩
     · rcases d2 with⟨b1,b2⟩|⟨b1,b2,b3⟩
       · rw[a3] at b2;cases b2;rw[p2,a1,b1,p3];exact⟨rfl,a2⟩
       · rw[a3] at b2;cases b2
     · rcases d2 with⟨b1,b2⟩|⟨b1,b2,b3⟩
       · rw[a2] at b2;cases b2
       · rw[p2,a1,b1,p3,a3];exact⟨rfl,h.same b3⟩
theorem Bnd.rel(hb:Bnd S M)(h:Rel S.X D)(hf:Fine S.X.f)(hs:SmX S.X)(hp:RelP S x er S'):Bnd S' (M+1)/\Fine S'.X.f/\SmX S'.X:=by
 rcases hp with⟨p1,p2,p3⟩|⟨p1,p2,p3⟩
 · rw[p3];exact⟨hb.le (Nat.le_succ _),hf,hs⟩
 · rcases drop_fin h hf x.child with⟨a1,D1,a2,a3,a4⟩|⟨a1,a2,a3⟩
   · have e:S'=⟨(dropM (tot S.X.P+1) S.X x.child).2,S.al++[(S.X.P.mark,S.X.ch.length)],S.fl⟩:=by
      rw[p3];unfold Vs.done;rw[if_pos a1]
     rw[e];refine⟨⟨?_,?_,?_⟩,(Ve.dropM _ _ _).fine hf,SmX.dropM _ _ _ hs⟩
     · have:=a4.m;have:=hb.m;show(dropM (tot S.X.P+1) S.X x.child).2.P.mark+tot (dropM (tot S.X.P+1) S.X x.child).2.P<=_;omega
     · have:=a4.c;have:=hb.c;show(dropM (tot S.X.P+1) S.X x.child).2.ch.length+tot (dropM (tot S.X.P+1) S.X x.child).2.P<=_;omega
     · have:=hb.a;show S.fl+(S.al++[_]).length<=_;rw[List.length_append];show S.fl+(S.al.length+1)<=_;omega
   · rw[p3,a3];exact⟨hb.le (Nat.le_succ _),hf,hs⟩
def PRl(v w:World)(wb b rb pb mb:Nat)(S:Vs)(D:Rd)(col colR:Nat->Nat)(K:Bks)(x:Iv)(M:Nat)(e:Ending)(w':World):Prop:=∃er S' pc' col',e=.returned (.int .i64 er)/\St v w' wb b rb pb mb S' D pc' col' colR K/\RelP S x er S'/\Bnd S' (M+1)/\Vf w col w' col'
theorem pRelease(v w:World)(wb b rb pb mb:Nat)(S:Vs)(D:Rd)(pc col colR:Nat->Nat)(K:Bks)(h:St v w wb b rb pb mb S D pc col colR K)(hr:Rel S.X D)(M:Nat)(hB:Bnd S M)(hM:M<=1000000000000)(x:Iv):Calls Tryz.prog 139 #[.pointer (some ⟨b,0,none⟩),x.vl] w fun e w'=>PRl v w wb b rb pb mb S D col colR K x M e w':=by
 by_cases hx:x.size<=32
 · refine(Release_short w _ x hx).mono ?_;rintro _ w' ⟨rfl,hb⟩;exact⟨0,S,pc,col,rfl,h.keep hb,.inl ⟨hx,rfl,rfl⟩,hB.le (Nat.le_succ _),Vf.keep hb⟩
 · have h1:=hB.m;have h2:=hB.c;have h3:=hB.a;refine(Release_long w b S pb mb pc col h.V x (by omega) (tot S.X.P+1) (Nat.lt_succ_self _) (by omega) (by omega) (by omega)).mono ?_
   rintro _ w' ⟨rfl,pc',col',hV,hf⟩;have hp:RelP S x (dropM (tot S.X.P+1) S.X x.child).1 (S.done (dropM (tot S.X.P+1) S.X x.child).1 (dropM (tot S.X.P+1) S.X x.child).2):=.inr ⟨by omega,rfl,rfl⟩
   obtain⟨b1,b2,b3⟩:=hB.rel hr h.fi h.sm hp;exact⟨_,_,pc',col',rfl,h.prog hV hf b2 b3,hp,b1,hf⟩
def DRl(v w:World)(wb b rb pb mb:Nat)(S:Vs)(D:Rd)(pc col colR:Nat->Nat)(K:Bks)(x:Iv)(e:Ending)(w':World):Prop:=∃er D' colR',e=.returned (.int .i64 er)/\St v w' wb b rb pb mb S D' pc col colR' K/\RelD D x er D'/\Vf w colR w' colR'
theorem dRelease(v w:World)(wb b rb pb mb:Nat)(S:Vs)(D:Rd)(pc col colR:Nat->Nat)(K:Bks)(h:St v w wb b rb pb mb S D pc col colR K)(hn:0<D.C.length)(hcs:∀c∈D.C,c<=65536)(x:Iv):Calls Tryz.prog 140 #[.pointer (some ⟨rb,0,none⟩),x.vl] w fun e w'=>DRl v w wb b rb pb mb S D pc col colR K x e w':=by
 have A0:=hide (al w (.cells x.cs 51));have X0:=hide (heap_alloc_new w (.cells x.cs 51));have H0:=hide (h.keep A0.out);have DP:=hide (rDrop_any _ rb D colR H0.out.R h.hu hn hcs x.child);obtain⟨y0,y1,y2,y3⟩:=four13 X0.out
 have FIN:Hid (∀(e:Ending)(w':World),32<x.size->RDr (w.alloc (.cells x.cs 51)) rb D colR x.child e w'->DRl v w wb b rb pb mb S D pc col colR K x e w'):=fun e w' hx ⟨D2,c2,q1,q2,q3⟩=>by
  rcases q3 with⟨e1,e2⟩|⟨e1,e2,e3⟩
  · have es:=dropS_same _ _ _ _ e2;refine⟨0,D2,c2,e1,H0.out.doc q1 q2 ?_,.inr ⟨hx,.inl ⟨rfl,e2⟩⟩,(Vf.keep A0.out).trans q2⟩;rw[es];exact H0.out.hu
  · exact⟨15,D2,c2,e1,H0.out.doc q1 q2 e3.a,.inr ⟨hx,.inr ⟨rfl,e2,e3⟩⟩,(Vf.keep A0.out).trans q2⟩
 unfold Iv.vl;simp only[Iv.cs] at A0 X0 H0 DP FIN y0 y1 y2 y3 ⊢;clear h hn hcs;by_cases hx:x.size<=32
 · clear DP FIN;go_enter Tryz.func140,Tryz.ntmps140;go_wp2_with fail
   go_ret;exact⟨0,D,colR,rfl,H0.out,.inl ⟨hx,rfl,rfl⟩,Vf.keep A0.out⟩
 · have hx2:¬x.size<=32:=hx;go_enter Tryz.func140,Tryz.ntmps140;go_wp2_with fail
   refine DP.out.mono ?_;intro e w' hd;have HD:=hide (FIN.out e w' (by omega) hd)
   have ee:∃z:Int,e=.returned (.int .i64 z):=by
    obtain⟨D2,c2,_,_,q3⟩:=hd;rcases q3 with⟨e1,_⟩|⟨e1,_⟩
    · exact⟨_,e1⟩
    · exact⟨_,e1⟩
   obtain⟨zz,rfl⟩:=ee;clear hd DP FIN;go_wp2_with fail
   go_ret;exact HD.out
def Ktd(T:List Br):Prop:=T.length<=30/\∀t∈T,t.l.length<=3840
structure Kb(K:Bks)(M:Nat):Prop where
 t:Ktd K.T
 b:K.B.length<=M
theorem Kb.le{K:Bks}(h:Kb K M)(hn:M<=N):Kb K N:=⟨h.t,Nat.le_trans h.b hn⟩
def Nxt(v:World)(wb b rb pb mb:Nat)(M:Nat)(e:Ending)(w':World):Prop:=e=.returned (.bool true)/\∃S' D' pc' col' colR' K',St v w' wb b rb pb mb S' D' pc' col' colR' K'/\Rel S'.X D'/\Bnd S' (M+20)/\Kb K' (M+20)
def NxtR(w:World)(col colR:Nat->Nat)(v:World)(wb b rb pb mb:Nat)(K:Bks)(M:Nat)(e:Ending)(w':World):Prop:=e=.returned (.bool true)/\∃S' D' pc' col' colR',St v w' wb b rb pb mb S' D' pc' col' colR' K/\Rel S'.X D'/\Bnd S' (M+20)/\∀g o,w.heap[g]?=some o->col g=0->colR g=0->w'.heap[g]?=some o
theorem Rel.facts(h:Rel X D):0<D.C.length/\∀c∈D.C,c<=65536:=by
 refine⟨by rw[<-h.len];exact h.ok.l1,fun c hc=>?_⟩
 rw[<-h.counts] at hc;obtain⟨x,hx,rfl⟩:=List.mem_map.1 hc;have h1:=h.ok.cs x hx;have h2:=h.ok.r2;omega
structure Fi(w:World)(col colR:Nat->Nat)(i:Iv):Prop where
 ii:Ii w i
 k:∀y,i.aK=some y->i.key≠[]->col y.block=0/\colR y.block=0
 v:∀y,i.aV=some y->i.val≠[]->col y.block=0/\colR y.block=0
theorem Bs.ltA{a:Option Addr}{l:List Nat}(h:Bs w a l){x:Addr}(hx:a=some x)(h0:l≠[]):x.block<w.heap.size:=by
 obtain⟨_,_,h|⟨bk,off,e,hc⟩⟩:=h
 · exact absurd h h0
 · rw[e] at hx;cases hx;have h1:=hc 0 (List.length_pos_iff.2 h0);exact block_lt_of_cell h1
theorem Fi.vf{col':Nat->Nat}(h:Fi w col colR i)(hf:Vf w col w' col')(hr:∀k,k<w.heap.size->colR' k=colR k)(hl:True):Fi w' col' colR' i:=by
 refine⟨⟨hf.bs h.ii.bk (fun x hx h0=>(h.k x hx h0).1),h.ii.ck,hf.bs h.ii.bv (fun x hx h0=>(h.v x hx h0).1),h.ii.cv,h.ii.nc,h.ii.ns⟩,fun y hy h0=>?_,fun y hy h0=>?_⟩
 · rw[hf.c _ (h.ii.bk.ltA hy h0),hr _ (h.ii.bk.ltA hy h0)];exact h.k y hy h0
 · rw[hf.c _ (h.ii.bv.ltA hy h0),hr _ (h.ii.bv.ltA hy h0)];exact h.v y hy h0
theorem Fi.vf2(h:Fi w col colR i)(hf:Vf w colR w' colR'):Ii w' i:=
 ⟨hf.bs h.ii.bk (fun x hx h0=>(h.k x hx h0).2),h.ii.ck,hf.bs h.ii.bv (fun x hx h0=>(h.v x hx h0).2),h.ii.cv,h.ii.nc,h.ii.ns⟩
theorem Fi.keep(h:Fi w col colR i)(hb:Below w.heap.size w w'):Fi w' col colR i:=⟨h.ii.keep hb,h.k,h.v⟩
theorem lrelease_any(v w:World)(wb b rb pb mb:Nat)(S:Vs)(D:Rd)(pc col colR:Nat->Nat)(K0:Bks)(h:St v w wb b rb pb mb S D pc col colR K0)(hr:Rel S.X D)(M:Nat)(hB:Bnd S M)(hM:M<=1000000000000)(i:Iv)(hi:Fi w col colR i)(hk:i.key.length+64<=140737488355328)(hv:i.val.length+64<=140737488355328):
 Calls Tryz.prog 85 #[.pointer (some ⟨wb,0,none⟩),i.vl] w fun e w'=>NxtR w col colR v wb b rb pb mb K0 M e w':=by
 have A0:=hide (al w (.cells i.cs 51));have X0:=hide (heap_alloc_new w (.cells i.cs 51));have HST:=hide h;have HR:=hide hr;have HFI:=hide h.fi;have RF:=hide hr.facts;have HI:=hide hi;have HLK:=hide hk;have HLV:=hide hv;have SP:=hide (spared_any (w.alloc (.cells i.cs 51)) i (hi.ii.keep A0.out) (by omega) (by omega))
 have ZC:Hid (∀k,w.heap.size<=k->col k=0/\colR k=0):=fun k hk=>⟨h.V.z hk,by
  by_cases e:colR k=0
  · exact e
  · have:=h.R.lt k e;omega⟩
 have PRR:=hide fun(W:World)(hb:Below w.heap.size w W)(x:Iv)=>pRelease v W wb b rb pb mb S D pc col colR K0 (h.keep hb) hr M hB hM x
 clear h hr hi hk hv hB;have IV:Hid (i.vl=.agg i.cs):=rfl;rw[IV.out] at SP ⊢;have IC:Hid (i.cs=#[.slice i.aK i.key.length i.cK,.slice i.aV i.val.length i.cV,.int .i64 i.child,.int .i64 i.size]):=rfl;rw[IC.out] at SP A0 X0 ⊢;go_enter Tryz.func85,Tryz.ntmps85;go_wp2_with fail
 refine SP.out.mono ?_;rintro _ w2 ⟨gK,gV,rfl,hS⟩;have B2:=hide (bt A0.out hS.b);have X2:=hide (blk13 X0.out hS.b);obtain⟨x,hx⟩:∃x,spi i gK gV=x:=⟨_,rfl⟩;have HX:=hide hx;have HIT:Hid (x.it=i.it):=by show _=_;rw[<-hx];rfl
 rw[hx];have XV:Hid (x.vl=.agg #[.slice x.aK x.key.length x.cK,.slice x.aV x.val.length x.cV,.int .i64 x.child,.int .i64 x.size]):=rfl;rw[XV.out];have A3:=hide (al w2 (.cells #[.slice x.aK x.key.length x.cK,.slice x.aV x.val.length x.cV,.int .i64 x.child,.int .i64 x.size] 51));have X3:=hide (heap_alloc_new w2 (.cells #[.slice x.aK x.key.length x.cK,.slice x.aV x.val.length x.cV,.int .i64 x.child,.int .i64 x.size] 51));have KR:=hide (rowIs_below hS.k A3.out);have VR:=hide (rowIs_below hS.v A3.out);have B3:=hide (bt B2.out A3.out);have I3:=hide (blk13 X2.out A3.out);have ZK:=hide (ZC.out gK (Nat.le_trans A0.out.size hS.nk)).1;have ZV:=hide (ZC.out gV (Nat.le_trans A0.out.size hS.nv)).1;have ZX:=hide (ZC.out w2.heap.size B2.out.size).1;have ZI:=hide (ZC.out w.heap.size (Nat.le_refl _)).1;have CR:Hid (colR w2.heap.size=0/\colR w.heap.size=0/\colR gK=0/\colR gV=0):=⟨(ZC.out w2.heap.size B2.out.size).2,(ZC.out w.heap.size (Nat.le_refl _)).2,(ZC.out gK (Nat.le_trans A0.out.size hS.nk)).2,(ZC.out gV (Nat.le_trans A0.out.size hS.nv)).2⟩;have H3:=hide (HST.out.keep B3.out);have FI3:=hide (HI.out.keep B3.out);have LI3:Hid True:=trivial;clear hS SP hx X2 X0;go_upto_region 2 with fail
 generalize w2.alloc (.cells #[.slice x.aK x.key.length x.cK,.slice x.aV x.val.length x.cV,.int .i64 x.child,.int .i64 x.size] 51)=w3 at *;have PR:=hide fun(W:World)(hb:Below w3.heap.size w3 W)=>PRR.out W (bt B3.out hb) x
 unfold Iv.vl at PR;simp only[Iv.cs] at PR;obtain⟨gx,hgx⟩:∃gx,w2.heap.size=gx:=⟨_,rfl⟩;obtain⟨gi,hgi⟩:∃gi,w.heap.size=gi:=⟨_,rfl⟩;simp only[hgx] at X3 ZX CR ⊢;simp only[hgi] at I3 ZI CR ⊢;clear hgx hgi;have DR:=hide (dr2 w3);have SS:Hid (∀W:World,Below w3.heap.size w3 W->W.cell? ⟨wb,0,none⟩=some (.pointer (some ⟨b,0,none⟩))/\W.cell? ⟨gx,0,none⟩=some (.slice x.aK x.key.length x.cK)/\W.cell? ⟨gx,1,none⟩=some (.slice x.aV x.val.length x.cV)/\W.cell? ⟨gx,2,none⟩=some (.int .i64 x.child)/\W.cell? ⟨gx,3,none⟩=some (.int .i64 x.size)):=fun W hb=>⟨((H3.out.keep hb).cells).1,four13 (blk13 X3.out hb)⟩
 refine wp_region_held_drew (S:=fun W=>W.cell? ⟨wb,0,none⟩=some (.pointer (some ⟨b,0,none⟩))/\W.cell? ⟨gx,0,none⟩=some (.slice x.aK x.key.length x.cK)/\W.cell? ⟨gx,1,none⟩=some (.slice x.aV x.val.length x.cV)/\W.cell? ⟨gx,2,none⟩=some (.int .i64 x.child)/\W.cell? ⟨gx,3,none⟩=some (.int .i64 x.size)) (by kernel_rfl) (SS.out _ DR.out) (fun hHeld=>?_)
 refine tk 0 ?_;refine tk 1 ?_;refine tk 2 ?_;refine tk 3 ?_;refine tk 4 ?_;refine tw 5 fun K hK=>?_
 go_simp;refine(PR.out _ DR.out).mono ?_;rintro _ w4 ⟨er,S4,pc4,col4,rfl,hS4,hP4,hB4,hF4⟩;have H4:=hide hS4;have P4:=hide hP4;have BN4:=hide hB4;have F4:=hide ((Vf.keep DR.out).trans hF4);have X4:=hide (F4.out.box X3.out ZX.out);have I4:=hide (F4.out.box I3.out ZI.out);have c4:=F4.out.c;have KR4:=hide (rowIs_but KR.out F4.out.b (fun e=>by have:=ZK.out;omega))
 have VR4:=hide (rowIs_but VR.out F4.out.b (fun e=>by have:=ZV.out;omega))
 have FI4:Hid (Fi w4 col4 colR i):=FI3.out.vf F4.out (fun k hk=>rfl) LI3.out
 have C4:Hid (colR gx=0/\colR gi=0/\colR gK=0/\colR gV=0):=CR.out;clear hS4 hP4 hB4 hF4 c4;go_wp2_with fail
 refine hK.out _ _ ⟨(H4.out.cells).1,four13 X4.out⟩ (fun hHeld=>?_)
 clear hK K;try simp only[pt]
 refine tk 6 ?_;refine td ?_;clear hHeld SS DR;go_upto_region 3 with fail
 have DR:=hide (dr2 w4);have SS:Hid (∀W:World,Below w4.heap.size w4 W->W.cell? ⟨wb,1,none⟩=some (.pointer (some ⟨rb,0,none⟩))/\W.cell? ⟨gi,0,none⟩=some (.slice i.aK i.key.length i.cK)/\W.cell? ⟨gi,1,none⟩=some (.slice i.aV i.val.length i.cV)/\W.cell? ⟨gi,2,none⟩=some (.int .i64 i.child)/\W.cell? ⟨gi,3,none⟩=some (.int .i64 i.size)):=fun W hb=>⟨((H4.out.keep hb).cells).2.1,four13 (blk13 I4.out hb)⟩
 refine wp_region_held_drew (S:=fun W=>W.cell? ⟨wb,1,none⟩=some (.pointer (some ⟨rb,0,none⟩))/\W.cell? ⟨gi,0,none⟩=some (.slice i.aK i.key.length i.cK)/\W.cell? ⟨gi,1,none⟩=some (.slice i.aV i.val.length i.cV)/\W.cell? ⟨gi,2,none⟩=some (.int .i64 i.child)/\W.cell? ⟨gi,3,none⟩=some (.int .i64 i.size)) (by kernel_rfl) (SS.out _ DR.out) (fun hHeld=>?_)
 refine tk 0 ?_;refine tk 1 ?_;refine tk 2 ?_;refine tk 3 ?_;refine tk 4 ?_;have DD:=hide (dRelease v w4.drew wb b rb pb mb S4 D pc4 col4 colR K0 (H4.out.keep DR.out) RF.out.1 RF.out.2 i);unfold Iv.vl at DD;simp only[Iv.cs] at DD;refine tw 5 fun K hK=>?_
 go_simp;refine DD.out.mono ?_;rintro _ w5 ⟨er5,D5,colR5,rfl,hS5,hD5,hF5⟩;have H5:=hide hS5;obtain⟨ee,hrel5⟩:=HR.out.rel HFI.out HIT.out P4.out hD5;have R5:=hide hrel5;have F5:=hide ((Vf.keep DR.out).trans hF5);have X5:=hide (F5.out.box X4.out C4.out.1);have I5:=hide (F5.out.box I4.out C4.out.2.1);have KR5:=hide (rowIs_but KR4.out F5.out.b (fun e=>by have:=C4.out;omega))
 have VR5:=hide (rowIs_but VR4.out F5.out.b (fun e=>by have:=C4.out;omega))
 have II5:=hide (FI4.out.vf2 F5.out);subst ee;clear hS5 hD5 hF5 hrel5;go_wp2_with fail
 refine hK.out _ _ ⟨(H5.out.cells).2.1,four13 I5.out⟩ (fun hHeld=>?_)
 clear hK K;try simp only[pt]
 refine tk 6 ?_;refine td ?_;clear hHeld SS DR DD;have KP:=hide (kept_any w5 i II5.out (by have:=HLK.out;omega) (by have:=HLV.out;omega) gK gV KR5.out VR5.out)
 rw[HX.out] at KP;unfold Iv.vl at KP;simp only[Iv.cs] at KP;obtain⟨y0,y1,y2,y3⟩:=four13 X5.out;obtain⟨z0,z1,z2,z3⟩:=four13 I5.out;have eq1:((er:Int)==(er:Int))=true:=by simp
 go_wp2_with fail
 refine KP.out.mono ?_;rintro _ w6 ⟨rfl,hb6⟩;have H6:=hide (H5.out.keep hb6)
 have KEEP:Hid (∀g o,w.heap[g]?=some o->col g=0->colR g=0->w6.heap[g]?=some o):=fun g o hg h1 h2=>by
  have k1:=(B3.out.block g (Array.getElem?_eq_some_iff.1 hg).1).trans hg;have k3:=F5.out.box (F4.out.box k1 h1) h2;exact(hb6.block g (Array.getElem?_eq_some_iff.1 k3).1).trans k3
 clear hb6 KP y0 y1 y2 y3 z0 z1 z2 z3;go_wp2_with fail
 go_ret;exact⟨rfl,S4,D5,pc4,col4,colR5,H6.out,R5.out,BN4.out.le (by omega),KEEP.out⟩
theorem Rel.rd(h:Rel S.X D):rdV S=rdR D:=by
 funext z
 unfold rdV rdR;rw[h.count];split
 · rename_i hz;rw[h.on z (by rw[h.count];omega)]
 · rfl
def ownB(w:World)(wb:Nat)(K:Bks)(k:Nat):Prop:=k=wb\/Q.InA K.aT k\/Q.InA K.aX k\/w.heap.size<=k
theorem ar_bxs{a:Option Addr}{cap:Nat}{vs:List Value}(h:Ar w a cap vs){x:Addr}(hx:a=some x):∃cs,w.heap[x.block]?=some (.cells cs 29 (0,0)):=by
 rcases h.cases with⟨rfl,_⟩|⟨g,cur,rfl,hg,_⟩
 · cases hx
 · cases hx;exact⟨cur,hg⟩
section
variable {v w w':World} {wb b rb pb mb:Nat} {S S':Vs} {D D':Rd} {pc pc' col col' colR colR':Nat->Nat} {K:Bks}
theorem St.wk(h:St v w wb b rb pb mb S D pc col colR K):Wk2 w wb b rb (ownB w wb K) (.slice K.aB K.B.length K.cB) (.slice K.aN K.N.length K.cN) K.aT K.cT (K.T.map bv) K.aX K.cX (K.X.map bv):=
 ⟨h.box,h.tt,h.tx,.inl rfl,fun y hy=>.inr (.inl ⟨y,hy,rfl⟩),fun y hy=>.inr (.inr (.inl ⟨y,hy,rfl⟩)),h.nTX⟩
theorem St.jw_off(h:St v w wb b rb pb mb S D pc col colR K){a:Option Addr}{c:Nat}{L:List Iv}(hj:Jw w a c L){y:Addr}(hy:a=some y):¬ownB w wb K y.block:=by
 have hl:=hj.lt hy;rintro(e|⟨z,hz,e⟩|⟨z,hz,e⟩|e)
 · exact hj.nty13 (t:=78) h.box (by decide) hy e
 · obtain⟨cs,hc⟩:=ar_bxs h.tt hz;exact hj.nty13 hc (by decide) hy e.symm
 · obtain⟨cs,hc⟩:=ar_bxs h.tx hz;exact hj.nty13 hc (by decide) hy e.symm
 · omega
theorem St.rw_off(h:St v w wb b rb pb mb S D pc col colR K){a:Option Addr}{c:Nat}{l:List Nat}(hj:Rw w a c l){y:Addr}(hy:a=some y):¬ownB w wb K y.block:=by
 have hl:=hj.lt hy;rintro(e|⟨z,hz,e⟩|⟨z,hz,e⟩|e)
 · exact hj.nty13 (t:=78) h.box (by decide) hy e
 · exact h.tt.ne hj hz hy e
 · exact h.tx.ne hj hz hy e
 · omega
theorem St.col_off(h:St v w wb b rb pb mb S D pc col colR K){k:Nat}(hk:col k≠0\/colR k≠0):¬ownB w wb K k:=by
 rintro(rfl|⟨z,hz,rfl⟩|⟨z,hz,rfl⟩|e)
 · rcases hk with hk|hk
   · exact hk h.wc.1
   · exact hk h.wc.2.1
 · have:=h.oT z hz;omega
 · have:=h.oX z hz;omega
 · rcases hk with hk|hk
   · exact hk (h.V.z e)
   · have:=h.R.lt k hk;omega
theorem St.own_out(h:St v w wb b rb pb mb S D pc col colR K){k:Nat}(hk:ownB w wb K k):col k=0/\colR k=0/\v.heap.size<=k:=by
 have hs:=h.bl.size;refine⟨?_,?_,?_⟩
 · by_cases e:col k=0
   · exact e
   · exact absurd hk (h.col_off (.inl e))
 · by_cases e:colR k=0
   · exact e
   · exact absurd hk (h.col_off (.inr e))
 · rcases hk with rfl|⟨z,hz,rfl⟩|⟨z,hz,rfl⟩|e
   · exact h.wc.2.2
   · exact(h.oT z hz).2.2
   · exact(h.oX z hz).2.2
   · omega
theorem St.loaded(h:St v w wb b rb pb mb S D pc col colR K){aT':Option Addr}{cT':Nat}{vs':List Value}{aX':Option Addr}{cX':Nat}{us':List Value}(hW:Wk2 w' wb b rb (ownB w wb K) (.slice K.aB K.B.length K.cB) (.slice K.aN K.N.length K.cN) aT' cT' vs' aX' cX' us')(hb:But (ownB w wb K) w w')(hq:LdQ w w' (K.T.map bv) vs' (K.X.map bv) us'):
 ∃T' X',St v w' wb b rb pb mb S D pc col colR {K with aT:=aT',cT:=cT',T:=T',aX:=aX',cX:=cX',X:=X'}/\(Ktd K.T->Ktd T'):=by
 have mk:∀(T' X':List Br),vs'=T'.map bv->us'=X'.map bv->Rws w' col colR (T'++rowsOf K.B)->Rws w' col colR (X'++rowsOf K.N)->(T'++rowsOf K.B).Pairwise brApart->(∀t∈T'++rowsOf K.B,∀y,t.a=some y->v.heap.size<=y.block)->T'.map Br.l=X'.map Br.l->St v w' wb b rb pb mb S D pc col colR {K with aT:=aT',cT:=cT',T:=T',aX:=aX',cX:=cX',X:=X'}:=by
  intro T' X' e1 e2 r1 r2 ap nt ee;subst e1 e2;have oT:Out v col colR aT':=fun y hy=>h.own_out (hW.ot y hy)
  have oX:Out v col colR aX':=fun y hy=>h.own_out (hW.ox y hy)
  exact⟨hW.box,h.V.but13 hb (fun k hk=>h.col_off (.inl hk)),h.R.but hb (fun k hk=>h.col_off (.inr hk)),h.dj,h.vn,h.rn,h.wc,h.jb.but hb (fun y hy=>h.jw_off h.jb hy),h.jn.but hb (fun y hy=>h.jw_off h.jn hy),hW.t,hW.x,h.oB,h.oN,oT,oX,h.nBN,hW.ne,r1,r2,ap,nt,((But.ofBelow (S:=fun _=>False) h.bl).trans hb (fun k hk e=>by have:=(h.own_out e).2.2;omega)).below (fun _ _ e=>e),ee,h.e2,h.ns,h.hu,h.fi,h.sm⟩
 have o1:Rws w' col colR (K.T++rowsOf K.B):=h.r1.but hb (fun t ht y hy=>h.rw_off (h.r1 t ht).1 hy) (fun _ _=>rfl) (fun _ _=>rfl)
 have o2:Rws w' col colR (K.X++rowsOf K.N):=h.r2.but hb (fun t ht y hy=>h.rw_off (h.r2 t ht).1 hy) (fun _ _=>rfl) (fun _ _=>rfl)
 rcases hq with⟨e1,e2⟩|⟨t,x,e1,e2,e3,b8,rt,rx,nt,nx,n30,n38⟩
 · exact⟨K.T,K.X,mk K.T K.X e1 e2 o1 o2 h.ap h.nt h.e1,id⟩
 · have zt:∀{a:Option Addr},(∀y,a=some y->w.heap.size<=y.block)->∀y,a=some y->col y.block=0/\colR y.block=0:=fun hn y hy=>⟨(h.own_out (.inr (.inr (.inr (hn y hy))))).1,(h.own_out (.inr (.inr (.inr (hn y hy))))).2.1⟩
   have pm:∀(A R:List Br)(q:Br),(A++[q]++R).Perm (q::(A++R)):=fun A R q=>by
    rw[List.append_assoc];exact List.perm_middle
   refine⟨K.T++[t],K.X++[x],mk _ _ ?_ ?_ ?_ ?_ ?_ ?_ ?_,fun hk=>⟨by rw[List.length_map] at n30;rw[List.length_append];exact n30,fun q hq=>by
    rcases List.mem_append.1 hq with hq|hq
    · exact hk.2 q hq
    · rw[List.mem_singleton.1 hq];exact n38⟩⟩
   · rw[e1,List.map_append];rfl
   · rw[e2,List.map_append];rfl
   · intro q hq;rcases List.mem_cons.1 ((pm _ _ _).subset hq) with rfl|hq
     · exact⟨rt,b8,zt nt⟩
     · exact o1 q hq
   · intro q hq;rcases List.mem_cons.1 ((pm _ _ _).subset hq) with rfl|hq
     · exact⟨rx,by rw[<-e3];exact b8,zt nx⟩
     · exact o2 q hq
   · refine((pm _ _ _).pairwise_iff (fun h=>brApart.symm h)).2 (List.pairwise_cons.2 ⟨fun q hq y z hy hz e=>?_,h.ap⟩)
     have h1:=nt y hy;have h2:=(h.r1 q hq).1.lt hz;omega
   · intro q hq y hy;rcases List.mem_cons.1 ((pm _ _ _).subset hq) with rfl|hq
     · have:=nt y hy;have:=h.bl.size;omega
     · exact h.nt q hq y hy
   · rw[List.map_append,List.map_append,h.e1];show K.X.map Br.l++[t.l]=K.X.map Br.l++[x.l];rw[e3]
def NxtL(w v:World)(wb b rb pb mb:Nat)(S:Vs)(D:Rd)(pc col colR:Nat->Nat)(K:Bks)(e:Ending)(w':World):Prop:=e=.returned (.bool true)/\∃aT' cT' T' aX' cX' X',St v w' wb b rb pb mb S D pc col colR {K with aT:=aT',cT:=cT',T:=T',aX:=aX',cX:=cX',X:=X'}/\Ktd T'/\∀(g:Nat)(cs:Array Value),w.heap[g]?=some (.cells cs 75 (0,0))->w'.heap[g]?=some (.cells cs 75 (0,0))
theorem lload_st(h:St v w wb b rb pb mb S D pc col colR K)(hr:Rel S.X D)(i:Iv)(hi:Ii w i)(hk:i.key.length+64<=140737488355328)(hv:i.val.length+64<=140737488355328)(hT:Ktd K.T):
 Calls Tryz.prog 83 #[.pointer (some ⟨wb,0,none⟩),i.vl] w fun e w'=>NxtL w v wb b rb pb mb S D pc col colR K e w':=by
 have hl:K.X.length=K.T.length:=by have:=congrArg List.length h.e1;simpa using this.symm
 refine(lload2_any w wb b rb (ownB w wb K) _ _ K.aT K.cT (K.T.map bv) K.aX K.cX (K.X.map bv) h.wk (fun k hk=>.inr (.inr (.inr hk))) (rdV S) (h.V.reads h.sm) (by rw[hr.rd];exact h.R.reads) i hi hk hv (by rw[List.length_map];have:=hT.1;omega) (by rw[List.length_map,List.length_map];exact hl)).mono ?_
 rintro e w' ⟨rfl,aT',cT',vs',aX',cX',us',hW,hb,hq⟩;obtain⟨T',X',hS,hl⟩:=h.loaded hW hb hq;refine⟨rfl,aT',cT',T',aX',cX',X',hS,hl hT,fun g cs hg=>hb.same hg (fun e=>?_)⟩
 rcases e with e|⟨z,hz,e⟩|⟨z,hz,e⟩|e
 · exact blk_ty hg h.box (by decide) e
 · obtain⟨cs2,hc⟩:=ar_bxs h.tt hz;exact blk_ty hg hc (by decide) e.symm
 · obtain⟨cs2,hc⟩:=ar_bxs h.tx hz;exact blk_ty hg hc (by decide) e.symm
 · have:=(Array.getElem?_eq_some_iff.1 hg).1;omega
end
theorem Store_short2(w:World)(v:Value)(ak av:Option Addr)(ck cv:Nat)(key val:List Nat)(hK:Bs w ak key)(hV:Bs w av val)(h1:1<=key.length)(h2:key.length<=24)(h3:val.length<=32):
 Calls Tryz.prog 78 #[v,.slice ak key.length ck,.slice av val.length cv] w fun e w'=>∃x:Iv,e=.returned (.tuple #[x.vl,.int .i64 0])/\x.it=⟨key,val,0,(val.length:Int)⟩/\Own w w' x.aK x.cK key/\Own w w' x.aV x.cV val/\Below w.heap.size w w'/\(∀y z,x.aK=some y->x.aV=some z->y.block≠z.block):=by
 have A0:=hide (al w (.cells #[.slice none 0 0,.slice none 0 0,.int .i64 0,.int .i64 0] 51));have X0:=hide (heap_alloc_new w (.cells #[.slice none 0 0,.slice none 0 0,.int .i64 0,.int .i64 0] 51));have CK:=hide (Clone_own (w.alloc (.cells #[.slice none 0 0,.slice none 0 0,.int .i64 0,.int .i64 0] 51)) ak ck key (hK.keep A0.out) (by omega))
 have CV:=hide fun(W:World)(hb:Below w.heap.size w W)=>Clone_own W av cv val (hV.keep hb) (by omega)
 clear hK hV;obtain⟨n,hn⟩:∃n,key.length=n:=⟨_,rfl⟩;obtain⟨s,hs⟩:∃s,val.length=s:=⟨_,rfl⟩;have HN:=hide hn;have HS:=hide hs;rw[hn] at h1 h2 CK ⊢;rw[hs] at h3 ⊢;simp only[hs] at CV;clear hn hs;have d1:((n:Int)==0)=false:=by simp;omega
 have d2:decide ((24:Int)<(n:Int))=false:=decide_eq_false (by omega)
 have d3:decide ((3840:Int)<(s:Int))=false:=decide_eq_false (by omega)
 have d4:decide ((s:Int)<=32)=true:=decide_eq_true (by omega)
 go_enter Tryz.func78,Tryz.ntmps78;go_wp2_with fail
 refine CK.out.mono ?_;rintro _ w3 ⟨a3,c3,rfl,hO⟩;have O3:=hide hO;have X3:=hide (blk13 X0.out hO.b);have B3:=hide (bt A0.out hO.b);clear hO CK X0;go_wp2_with fail
 refine(CV.out _ B3.out).mono ?_;rintro _ w4 ⟨a4,c4,rfl,hO⟩;have O4:=hide hO;have X4:=hide (blk13 X3.out hO.b);have B4:=hide (bt B3.out hO.b);clear hO CV X3;go_wp2_with (first|(refine wpList_store_row rfl 51 _ _ rfl w.heap.size _ rfl rfl 51 _ X4.out sizeItem rfl (by simp[Value.oneCell']) ?_)|fail)
 refine bodyPost_ret (v:=.tuple #[.agg _,_]) (results_cell_one Tryz.results78 _ _ w.heap.size 51 _ (0,0) _ rfl (setRow_heap _ _ _ _ _ _ X4.out) Tryz.underlying51 rfl sizeItem) rfl ?_;have nb:=setRow_butv w4 w.heap.size #[.slice a3 n c3,.slice a4 s c4,.int .i64 0,.int .i64 (s:Int)];have bw:=below_row #[.slice a3 n c3,.slice a4 s c4,.int .i64 0,.int .i64 (s:Int)] B4.out (Nat.le_refl _);have r3:=(O3.out.r.keep O4.out.b).but nb (fun x hx e=>(O3.out.r.keep O4.out.b).nty13 (t:=51) X4.out (by decide) hx e)
 have r4:=O4.out.r.but nb (fun x hx e=>O4.out.r.nty13 (t:=51) X4.out (by decide) hx e)
 exact⟨⟨a3,c3,key,a4,c4,val,0,(s:Int)⟩,by unfold Iv.vl;simp only[Iv.cs,HN.out,HS.out];rfl,rfl,⟨r3,O3.out.n.mono A0.out.size,bw⟩,⟨r4,O4.out.n.mono B3.out.size,bw⟩,bw,fun y z hy hz e=>by
  have q1:=O3.out.r.lt hy;have q2:=vnew_at O4.out.n hz;omega⟩
theorem Store_long2(w:World)(b:Nat)(S:Vs)(pb mb:Nat)(pc col:Nat->Nat)(h:Vw w b S pb mb pc col)(ak:Option Addr)(ck:Nat)(key:List Nat)(hK:Bs w ak key)(hkc:∀x,ak=some x->col x.block=0)(k1:1<=key.length)(k2:key.length<=24)(g off c:Nat)(l:List Nat)(hB:Bs w (some ⟨g,off,none⟩) l)(hg:col g=0)(hgl:g<w.heap.size)(hc:l.length<=c)(h1:32<l.length)(h2:l.length<=3840)(k:Nat)(hk:k=(l.length-1)/480+1)(hfn:Fine S.X.f)(hm1:S.fl+S.al.length+9<=9223372036854775807)(hm2:S.al.length+9<=8796093022208)(hm3:S.X.P.mark+9<=17592186044416)(hm4:S.X.ch.length+9<=1759218604441):
 Calls Tryz.prog 78 #[.pointer (some ⟨b,0,none⟩),.slice ak key.length ck,.slice (some ⟨g,off,none⟩) l.length c] w fun e w'=>
  (∃(S':Vs)(x:Iv),e=.returned (.tuple #[x.vl,.int .i64 0])/\x.key=key/\x.val=[]/\x.size=(l.length:Int)/\Spo l k S k S' x.child/\∃pc' col',Vw w' b S' pb mb pc' col'/\Vf w col w' col'/\Rw w' x.aK x.cK key/\(∀y,x.aK=some y->col' y.block=0/\w.heap.size<=y.block)/\x.aV=none/\x.cV=0)\/
  (∃(m:Nat)(S1:Vs)(n1 er:Int),e=.returned (.tuple #[Iv.zero.vl,.int .i64 er])/\er≠0/\m<k/\Spo l k S m S1 n1/\(S1.makeR (mkp l (k-1-m) n1)).2=er/\∃pc' col',Vw w' b S pb mb pc' col'/\Vf w col w' col'):=by
 have A0:=hide (al w (.cells #[.slice none 0 0,.slice none 0 0,.int .i64 0,.int .i64 0] 51));have X0:=hide (heap_alloc_new w (.cells #[.slice none 0 0,.slice none 0 0,.int .i64 0,.int .i64 0] 51));have hgl1:g<(w.alloc (.cells #[.slice none 0 0,.slice none 0 0,.int .i64 0,.int .i64 0] 51)).heap.size:=Nat.lt_of_lt_of_le hgl A0.out.size;have SP:=hide (spread_any (w.alloc (.cells #[.slice none 0 0,.slice none 0 0,.int .i64 0,.int .i64 0] 51)) b S pb mb pc col (h.keep A0.out) g off c l (hB.keep A0.out) hg hgl1 hc h1 h2 k hk hfn hm1 hm2 hm3 hm4);have Z0:Hid (col w.heap.size=0):=h.z (Nat.le_refl _);have CL:=hide fun(W:World)(col':Nat->Nat)(hf:Vf (w.alloc (.cells #[.slice none 0 0,.slice none 0 0,.int .i64 0,.int .i64 0] 51)) col W col')=>Clone_own W ak ck key (bs_vf (hK.keep A0.out) hf hkc) (by omega)
 clear h hK hkc hB hg hgl hc hk hgl1 hfn hm1 hm2 hm3 hm4;generalize hn:key.length=n at *;have HN:=hide hn;obtain⟨s,hs⟩:∃s,l.length=s:=⟨_,rfl⟩;rw[hs] at h1 h2 SP ⊢;clear hn hs;have d1:((n:Int)==0)=false:=by simp;omega
 have d2:decide ((24:Int)<(n:Int))=false:=decide_eq_false (by omega)
 have d3:decide ((3840:Int)<(s:Int))=false:=decide_eq_false (by omega)
 have d4:decide ((s:Int)<=32)=false:=decide_eq_false (by omega)
 go_enter Tryz.func78,Tryz.ntmps78;go_wp2_with fail
 refine SP.out.mono ?_;rintro _ w3 (⟨S',nx,rfl,hS,pc',col',hV,hF⟩|⟨m,S1,n1,er,rfl,hne,hmk,hS,hr,pc',col',hV,hF⟩)
 · have SS:=hide hS;have VV:=hide hV;have FF:=hide hF;have X3:=hide (hF.b.same X0.out (fun e=>by rw[Z0.out] at e;omega))
   have Z3:Hid (col' w.heap.size=0):=(hF.c _ (Array.getElem?_eq_some_iff.1 X0.out).1).trans Z0.out;have CC:=hide (CL.out _ _ hF);have ZZ:=hide fun(k:Nat)(hk:w3.heap.size<=k)=>hV.z hk
   have L3:Hid (w.heap.size<=w3.heap.size):=Nat.le_trans A0.out.size hF.b.size;clear hS hV hF SP CL X0;go_wp2_with fail
   refine CC.out.mono ?_;rintro _ w4 ⟨a4,c4,rfl,hO⟩;have O4:=hide hO;have V4:=hide (VV.out.keep hO.b);have F4:=hide ((Vf.keep A0.out).trans (FF.out.trans (Vf.keep hO.b)));have X4:=hide (blk13 X3.out hO.b);clear hO CC VV FF X3;go_wp2_with (first|(refine wpList_store_row rfl 51 _ _ rfl w.heap.size _ rfl rfl 51 _ X4.out sizeItem rfl (by simp[Value.oneCell']) ?_)|fail)
   refine bodyPost_ret (v:=.tuple #[.agg _,_]) (results_cell_one Tryz.results78 _ _ w.heap.size 51 _ (0,0) _ rfl (setRow_heap _ _ _ _ _ _ X4.out) Tryz.underlying51 rfl sizeItem) rfl ?_;have nb:=setRow_butv w4 w.heap.size #[.slice a4 n c4,.slice none 0 0,.int .i64 nx,.int .i64 (s:Int)]
   exact .inl ⟨S',⟨a4,c4,key,none,0,[],nx,(s:Int)⟩,by unfold Iv.vl;simp only[Iv.cs,HN.out];rfl,rfl,rfl,rfl,SS.out,pc',col',V4.out.but13 nb (fun k hk e=>hk (by rw[e];exact Z3.out)),⟨F4.out.b.trans nb (fun x hx e=>by omega),F4.out.c⟩,O4.out.r.but nb (fun x hx e=>O4.out.r.nty13 (t:=51) X4.out (by decide) hx e),fun y hy=>by
    rcases O4.out.n y hy with⟨_,h0,_⟩|h1
    · cases h0
    · exact⟨ZZ.out _ h1,Nat.le_trans L3.out h1⟩,rfl,rfl⟩
 · have SS:=hide hS;have VV:=hide hV;have FF:=hide hF;have HR:=hide hr;have HNE:=hide hne;have X3:=hide (hF.b.same X0.out (fun e=>by rw[Z0.out] at e;omega))
   have Z3:Hid (col' w.heap.size=0):=(hF.c _ (Array.getElem?_eq_some_iff.1 X0.out).1).trans Z0.out;have hnb:(er != 0)=true:=by simpa using hne
   clear hS hV hF SP CL X0 hr hne;go_wp2_with (first|(refine wpList_store_row rfl 51 _ _ rfl w.heap.size _ rfl rfl 51 _ X3.out sizeItem rfl (by simp[Value.oneCell']) ?_)|fail)
   refine bodyPost_ret (v:=.tuple #[.agg _,_]) (results_cell_one Tryz.results78 _ _ w.heap.size 51 _ (0,0) _ rfl (setRow_heap _ _ _ _ _ _ X3.out) Tryz.underlying51 rfl sizeItem) rfl ?_;have nb:=setRow_butv w3 w.heap.size #[.slice none 0 0,.slice none 0 0,.int .i64 0,.int .i64 0];have F4:=(Vf.keep (c:=col) A0.out).trans FF.out;exact .inr ⟨m,S1,n1,er,rfl,HNE.out,hmk,SS.out,HR.out,pc',col',VV.out.but13 nb (fun k hk e=>hk (by rw[e];exact Z3.out)),⟨F4.b.trans nb (fun x hx e=>by omega),F4.c⟩⟩
end Go.Proofs.YtcpkinhneehomaaGreat
