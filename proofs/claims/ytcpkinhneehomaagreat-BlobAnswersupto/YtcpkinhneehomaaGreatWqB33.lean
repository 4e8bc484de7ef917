import Derived.Test.YtcpkinhneehomaaGreatWqB32
import Derived.Stop.BytesEq
import Derived.Laws.StructEq
set_option linter.unusedVariables false
set_option linter.unusedSimpArgs false
set_option maxHeartbeats 32000000
set_option maxRecDepth 8000
namespace Go.Proofs.YtcpkinhneehomaaGreat
open Go.RowKit
variable {l:List Nat}{c g:Nat}{col col':Nat->Nat}{a:Option Addr}{D:Rd}{w w':World}
theorem rbStore_short(w:World)(v:Value)(ak av:Option Addr)(ck cv:Nat)(key val:List Nat)(hK:Bs w ak key)(hV:Bs w av val)(h1:1<=key.length)(h2:key.length<=24)(h3:val.length<=32):
 Calls Tryz.prog 135 #[v,.slice ak key.length ck,.slice av val.length cv] w fun e w'=>∃x:Iv,e=.returned (.tuple #[x.vl,.int .i64 0])/\x.it=⟨key,val,0,(val.length:Int)⟩/\Own w w' x.aK x.cK key/\Own w w' x.aV x.cV val/\Below w.heap.size w w':=by
 have A0:=hide (al w (.cells #[.slice none 0 0,.slice none 0 0,.int .i64 0,.int .i64 0] 51));have X0:=hide (heap_alloc_new w (.cells #[.slice none 0 0,.slice none 0 0,.int .i64 0,.int .i64 0] 51));have CK:=hide (CopyBytes_at (w.alloc (.cells #[.slice none 0 0,.slice none 0 0,.int .i64 0,.int .i64 0] 51)) ak key.length ck key (hK.keep A0.out) rfl (by omega))
 have CV:=hide fun(W:World)(hb:Below w.heap.size w W)=>CopyBytes_at W av val.length cv val (hV.keep hb) rfl (by omega)
 have PG:=hide fun(W:World)=>rbPages_any W (val.length:Int) (by unfold N64;omega)
 have b0:bpn (val.length:Int)=0:=by unfold bpn;rw[if_pos (by omega)]
 rw[b0] at PG;clear hK hV b0;obtain⟨n,hn⟩:∃n,key.length=n:=⟨_,rfl⟩;obtain⟨s,hs⟩:∃s,val.length=s:=⟨_,rfl⟩;have HN:=hide hn;have HS:=hide hs;rw[hn] at h1 h2 CK ⊢;rw[hs] at h3 PG ⊢;simp only[hs] at CV;clear hn hs;have d1:decide ((n:Int)<1)=false:=decide_eq_false (by omega)
 have d2:decide ((24:Int)<(n:Int))=false:=decide_eq_false (by omega)
 have d3:decide ((3840:Int)<(s:Int))=false:=decide_eq_false (by omega)
 go_enter Tryz.func135,Tryz.ntmps135;go_wp2_with fail
 refine CK.out.mono ?_;rintro _ w1 ⟨a1,c1,rfl,hO⟩;have O1:=hide hO;have X1:=hide (blk13 X0.out hO.b);have B1:=hide (bt A0.out hO.b)
 have L0:Hid (w.heap.size+1<=w1.heap.size):=by
  have h:=(Array.getElem?_eq_some_iff.1 X1.out).1;exact h
 have Y0:=hide (heap_alloc_new w1 (.cells #[.slice none 0 0,.slice none 0 0,.int .i64 0,.int .i64 0] 51));have Z0:=hide (al w1 (.cells #[.slice none 0 0,.slice none 0 0,.int .i64 0,.int .i64 0] 51));clear hO CK X0;go_wp2_with (first|(refine wpList_store_row rfl 51 _ _ rfl w1.heap.size _ rfl rfl 51 _ Y0.out sizeItem rfl (by simp[Value.oneCell']) ?_)|fail)
 have NB:=hide (setRow_butv (w1.alloc (.cells #[.slice none 0 0,.slice none 0 0,.int .i64 0,.int .i64 0] 51)) w1.heap.size #[.slice a1 n c1,.slice none 0 0,.int .i64 0,.int .i64 (s:Int)]);have Y2:Hid (((w1.alloc (.cells #[.slice none 0 0,.slice none 0 0,.int .i64 0,.int .i64 0] 51)).setRow w1.heap.size #[.slice a1 n c1,.slice none 0 0,.int .i64 0,.int .i64 (s:Int)]).heap[w1.heap.size]?=some (.cells #[.slice a1 n c1,.slice none 0 0,.int .i64 0,.int .i64 (s:Int)] 51 (0,0))):=setRow_heap _ _ _ _ _ _ Y0.out;have X2:=hide (NB.out.same (blk13 X1.out Z0.out) (fun e=>by have:=L0.out;omega))
 have B2:=hide (below_row #[.slice a1 n c1,.slice none 0 0,.int .i64 0,.int .i64 (s:Int)] (bt B1.out Z0.out) (g:=w1.heap.size) B1.out.size);have K2:=hide (below_row #[.slice a1 n c1,.slice none 0 0,.int .i64 0,.int .i64 (s:Int)] Z0.out (g:=w1.heap.size) (Nat.le_refl _));generalize (w1.alloc (.cells #[.slice none 0 0,.slice none 0 0,.int .i64 0,.int .i64 0] 51)).setRow w1.heap.size #[.slice a1 n c1,.slice none 0 0,.int .i64 0,.int .i64 (s:Int)]=w2 at *;clear NB Y0 Z0 X1;refine(PG.out _).mono ?_;rintro _ wq ⟨rfl,hwq⟩;rw[hwq];clear hwq;go_wp2_with fail
 refine(CV.out _ B2.out).mono ?_;rintro _ w3 ⟨a3,c3,rfl,hO⟩;have O3:=hide hO;have X3:=hide (blk13 X2.out hO.b);have Y3:=hide (blk13 Y2.out hO.b);have B3:=hide (bt B2.out hO.b);have K3:=hide (bt K2.out hO.b);clear hO CV X2 Y2;obtain⟨y0,y1,y2,y3⟩:=four13 Y3.out;have f1:w3.frozen? ⟨w1.heap.size,1,none⟩=false:=frozen_of_row _ _ _ _ _ Y3.out;have NB:=hide (Jb.but (W:=w3) w1.heap.size 1 (.slice a3 s c3))
 have Y4:Hid ((w3.setCell ⟨w1.heap.size,1,none⟩ (.slice a3 s c3)).heap[w1.heap.size]?=some (.cells #[.slice a1 n c1,.slice a3 s c3,.int .i64 0,.int .i64 (s:Int)] 51 (0,0))):=by
  show _=_;rw[heap_setCell_same _ _ _ _ _ _ Y3.out];rfl
 have X4:=hide (NB.out.same X3.out (fun e=>by have:=L0.out;omega))
 have B4:=hide (((But.ofBelow (S:=fun k=>k=w1.heap.size) B3.out).trans NB.out (fun _ _ e=>e)).below (fun k hk e=>by have:=B1.out.size;omega))
 have R1:=hide (((O1.out.r.keep K3.out).but NB.out (fun x hx e=>(O1.out.r.keep K3.out).nty13 (t:=51) Y3.out (by decide) hx e)))
 have R3:=hide (O3.out.r.but NB.out (fun x hx e=>O3.out.r.nty13 (t:=51) Y3.out (by decide) hx e))
 have N1:=hide (O1.out.n.mono A0.out.size);have N3:=hide (O3.out.n.mono B2.out.size);go_upto_region 9 with fail
 generalize w3.setCell ⟨w1.heap.size,1,none⟩ (.slice a3 s c3)=w4 at *;clear y0 y1 y2 y3 f1 NB X3 Y3 B3 K3 O1 O3;obtain⟨y0,y1,y2,y3⟩:=four13 Y4.out;go_wp2_with (first|(refine wpList_store_row rfl 51 _ _ rfl w.heap.size _ rfl rfl 51 _ X4.out sizeItem rfl (by simp[Value.oneCell']) ?_)|fail)
 refine bodyPost_ret (v:=.tuple #[.agg _,_]) (results_cell_one Tryz.results135 _ _ w.heap.size 51 _ (0,0) _ rfl (setRow_heap _ _ _ _ _ _ X4.out) Tryz.underlying51 rfl sizeItem) rfl ?_;have nb:=setRow_butv w4 w.heap.size #[.slice a1 n c1,.slice a3 s c3,.int .i64 0,.int .i64 (s:Int)];have bw:=below_row #[.slice a1 n c1,.slice a3 s c3,.int .i64 0,.int .i64 (s:Int)] B4.out (Nat.le_refl _);have r1:=R1.out.but nb (fun x hx e=>R1.out.nty13 (t:=51) X4.out (by decide) hx e)
 have r3:=R3.out.but nb (fun x hx e=>R3.out.nty13 (t:=51) X4.out (by decide) hx e)
 exact⟨⟨a1,c1,key,a3,c3,val,0,(s:Int)⟩,by unfold Iv.vl;simp only[Iv.cs,HN.out,HS.out];rfl,rfl,⟨r1,N1.out,bw⟩,⟨r3,N3.out,bw⟩,bw⟩
theorem rbStore_space(w:World)(rb:Nat)(D:Rd)(col:Nat->Nat)(h:Rq w rb D col)(ak av:Option Addr)(ck cv:Nat)(key val:List Nat)(hK:Bs w ak key)(hV:Bs w av val)(h1:1<=key.length)(h2:key.length<=24)(h3:32<val.length)(h4:val.length<=3840)(hl:((Q.pagesOf D.pg 1).length:Int)<bpn (val.length:Int)):
 Calls Tryz.prog 135 #[.pointer (some ⟨rb,0,none⟩),.slice ak key.length ck,.slice av val.length cv] w fun e w'=>e=.returned (.tuple #[Iv.zero.vl,.int .i64 12])/\Below w.heap.size w w':=by
 have A0:=hide (al w (.cells #[.slice none 0 0,.slice none 0 0,.int .i64 0,.int .i64 0] 51));have X0:=hide (heap_alloc_new w (.cells #[.slice none 0 0,.slice none 0 0,.int .i64 0,.int .i64 0] 51));have CK:=hide (CopyBytes_at (w.alloc (.cells #[.slice none 0 0,.slice none 0 0,.int .i64 0,.int .i64 0] 51)) ak key.length ck key (hK.keep A0.out) rfl (by omega))
 have CV:=hide fun(W:World)(hb:Below w.heap.size w W)=>CopyBytes_at W av val.length cv val (hV.keep hb) rfl (by omega)
 have PG:=hide fun(W:World)=>rbPages_any W (val.length:Int) (by unfold N64;omega)
 have TA:=hide fun(W:World)(hb:Below w.heap.size w W)=>rTally_any W rb D col (h.keep hb) 1
 have k1:1<=bpn (val.length:Int):=by unfold bpn;rw[if_neg (by omega)];omega
 clear hK hV h CV;generalize (Q.pagesOf D.pg 1).length=t at *;generalize bpn (val.length:Int)=k at *;obtain⟨n,hn⟩:∃n,key.length=n:=⟨_,rfl⟩;obtain⟨s,hs⟩:∃s,val.length=s:=⟨_,rfl⟩;have HN:=hide hn;have HS:=hide hs;rw[hn] at h1 h2 CK ⊢;rw[hs] at h3 h4 PG ⊢;clear hn hs;have d1:decide ((n:Int)<1)=false:=decide_eq_false (by omega)
 have d2:decide ((24:Int)<(n:Int))=false:=decide_eq_false (by omega)
 have d5:(k==0)=false:=by simp;omega
 have d6:decide ((t:Int)<k)=true:=decide_eq_true hl;have d3:decide ((3840:Int)<(s:Int))=false:=decide_eq_false (by omega)
 go_enter Tryz.func135,Tryz.ntmps135;go_wp2_with fail
 refine CK.out.mono ?_;rintro _ w1 ⟨a1,c1,rfl,hO⟩;have O1:=hide hO;have X1:=hide (blk13 X0.out hO.b);have B1:=hide (bt A0.out hO.b)
 have L0:Hid (w.heap.size+1<=w1.heap.size):=by
  have h:=(Array.getElem?_eq_some_iff.1 X1.out).1;exact h
 have Y0:=hide (heap_alloc_new w1 (.cells #[.slice none 0 0,.slice none 0 0,.int .i64 0,.int .i64 0] 51));have Z0:=hide (al w1 (.cells #[.slice none 0 0,.slice none 0 0,.int .i64 0,.int .i64 0] 51));clear hO CK X0;go_wp2_with (first|(refine wpList_store_row rfl 51 _ _ rfl w1.heap.size _ rfl rfl 51 _ Y0.out sizeItem rfl (by simp[Value.oneCell']) ?_)|fail)
 have NB:=hide (setRow_butv (w1.alloc (.cells #[.slice none 0 0,.slice none 0 0,.int .i64 0,.int .i64 0] 51)) w1.heap.size #[.slice a1 n c1,.slice none 0 0,.int .i64 0,.int .i64 (s:Int)]);have Y2:Hid (((w1.alloc (.cells #[.slice none 0 0,.slice none 0 0,.int .i64 0,.int .i64 0] 51)).setRow w1.heap.size #[.slice a1 n c1,.slice none 0 0,.int .i64 0,.int .i64 (s:Int)]).heap[w1.heap.size]?=some (.cells #[.slice a1 n c1,.slice none 0 0,.int .i64 0,.int .i64 (s:Int)] 51 (0,0))):=setRow_heap _ _ _ _ _ _ Y0.out;have X2:=hide (NB.out.same (blk13 X1.out Z0.out) (fun e=>by have:=L0.out;omega))
 have B2:=hide (below_row #[.slice a1 n c1,.slice none 0 0,.int .i64 0,.int .i64 (s:Int)] (bt B1.out Z0.out) (g:=w1.heap.size) B1.out.size);have K2:=hide (below_row #[.slice a1 n c1,.slice none 0 0,.int .i64 0,.int .i64 (s:Int)] Z0.out (g:=w1.heap.size) (Nat.le_refl _));generalize (w1.alloc (.cells #[.slice none 0 0,.slice none 0 0,.int .i64 0,.int .i64 0] 51)).setRow w1.heap.size #[.slice a1 n c1,.slice none 0 0,.int .i64 0,.int .i64 (s:Int)]=w2 at *;clear NB Y0 Z0 X1;refine(PG.out _).mono ?_;rintro _ wq ⟨rfl,hwq⟩;rw[hwq];clear hwq;go_wp2_with fail
 refine(TA.out _ B2.out).mono ?_;rintro _ wq ⟨rfl,hwq⟩;rw[hwq];clear hwq;go_wp2_with (first|(refine wpList_store_row rfl 51 _ _ rfl w.heap.size _ rfl rfl 51 _ X2.out sizeItem rfl (by simp[Value.oneCell']) ?_)|fail)
 refine bodyPost_ret (v:=.tuple #[.agg _,_]) (results_cell_one Tryz.results135 _ _ w.heap.size 51 _ (0,0) _ rfl (setRow_heap _ _ _ _ _ _ X2.out) Tryz.underlying51 rfl sizeItem) rfl ?_;exact⟨rfl,below_row _ B2.out (Nat.le_refl _)⟩
def Sprd(l:List Nat)(k:Nat)(D0:Rd):Nat->Rd->Int->Prop
 |0,D,nx=>D=D0/\nx=0
 |m+1,D,nx=>∃(D1:Rd)(n1:Int)(q:Pv),Sprd l k D0 m D1 n1/\q.pg=mkp l (k-1-m) n1/\nx=(D1.makeR (mkp l (k-1-m) n1)).1/\D=D1.makeD (mkp l (k-1-m) n1) q
theorem low_le(hL:D.L.length=D.C.length)(h6:D.C.length<=65536):0<=lowOf D.pg/\lowOf D.pg<=65536:=by
 by_cases h:lowOf D.pg=0
 · rw[h];omega
 · obtain⟨i,h1,h2,_⟩:=low_at h;rw[Rd.pg_len hL] at h1;rw[h2];omega
theorem makeR_le(hL:D.L.length=D.C.length)(h6:D.C.length<=65536)(p:Pg):0<=(D.makeR p).1/\(D.makeR p).1<=65536:=by
 have h:=low_le hL h6;unfold Rd.makeR;split
 · split
   · exact⟨Int.le_refl _,by show(0:Int)<=65536;decide⟩
   · exact h
 · exact⟨Int.le_refl _,by show(0:Int)<=65536;decide⟩
theorem makeD_hush(D:Rd)(p:Pg)(q:Pv):(D.makeD p q).hush=D.hush:=by unfold Rd.makeD;split<;>rfl
theorem Vf.box(h:Vf w col w' col'){o:Obj}(hg:w.heap[g]?=some o)(hc:col g=0):w'.heap[g]?=some o:=(h.b.block g (Array.getElem?_eq_some_iff.1 hg).1 (fun e=>by omega)).trans hg
theorem Vf.bs(h:Vf w col w' col')(hB:Bs w a l)(hc:∀x,a=some x->l≠[]->col x.block=0):Bs w' a l:=hB.but h.b (fun x hx hl e=>by have:=hc x hx hl;omega)
theorem Vf.rw(h:Vf w col w' col')(hB:Rw w a c l)(hc:∀x,a=some x->col x.block=0):Rw w' a c l:=hB.but h.b (fun x hx e=>by have:=hc x hx;omega)
theorem pf_own{wr W:World}{rb:Nat}(hq:Rq wr rb D col){aa:Option Addr}{cc:Nat}(hO:Own wr W aa cc l)(h8:B8 l)(hp:0<l.length){nx:Int}(hn:N64 nx):Pf col W ⟨3,0,none,0,[],aa,cc,l,nx⟩:=by
 obtain⟨g,e,h1,_⟩:=hO.r.addr2 hp;subst e;refine pf_blob (hO.bs h8) ?_ h1 hn;by_cases e:col g=0
 · exact e
 · have h2:=hq.lt g e;have h3:=vnew_at hO.n (x:=⟨g,0,none⟩) rfl;dsimp only at h3;omega
def RSt(w:World)(rb:Nat)(D:Rd)(col:Nat->Nat)(key val:List Nat)(k:Nat)(e:Ending)(w':World):Prop:=∃(x:Iv)(D':Rd)(col':Nat->Nat),e=.returned (.tuple #[x.vl,.int .i64 0])/\x.key=key/\x.val=[]/\x.size=(val.length:Int)/\N64 x.child/\Sprd val k D k D' x.child/\Rq w' rb D' col'/\Vf w col w' col'/\Rw w' x.aK x.cK key/\x.aV=none/\x.cV=0/\(∀y,x.aK=some y->col' y.block=0/\w.heap.size<=y.block)
theorem rbStore_room(w:World)(rb:Nat)(D:Rd)(col:Nat->Nat)(h:Rq w rb D col)(hh:D.hush=true)(ak:Option Addr)(gv ov:Nat)(ck cv:Nat)(key val:List Nat)(hK:Bs w ak key)(hV:Bs w (some ⟨gv,ov,none⟩) val)(hgv:col gv=0)(hcv:val.length<=cv)(h1:1<=key.length)(h2:key.length<=24)(h3:32<val.length)(h4:val.length<=3840)(k:Nat)(hk:k=(val.length-1)/480+1)(hl:k<=(Q.pagesOf D.pg 1).length):
 Calls Tryz.prog 135 #[.pointer (some ⟨rb,0,none⟩),.slice ak key.length ck,.slice (some ⟨gv,ov,none⟩) val.length cv] w fun e w'=>RSt w rb D col key val k e w':=by
 have A0:=hide (al w (.cells #[.slice none 0 0,.slice none 0 0,.int .i64 0,.int .i64 0] 51));have X0:=hide (heap_alloc_new w (.cells #[.slice none 0 0,.slice none 0 0,.int .i64 0,.int .i64 0] 51));have CK:=hide (CopyBytes_at (w.alloc (.cells #[.slice none 0 0,.slice none 0 0,.int .i64 0,.int .i64 0] 51)) ak key.length ck key (hK.keep A0.out) rfl (by omega))
 have PG:=hide fun(W:World)=>rbPages_any W (val.length:Int) (by unfold N64;omega)
 have TA:=hide fun(W:World)(hb:Below w.heap.size w W)=>rTally_any W rb D col (h.keep hb) 1
 have kb:bpn (val.length:Int)=(k:Int):=by unfold bpn;rw[if_neg (by omega)];omega
 rw[kb] at PG;have HQ:=hide h;have HH:=hide hh;have HV:=hide hV
 have NC:Hid (∀j,w.heap.size<=j->col j=0):=fun j hj=>by
  by_cases e:col j=0
  · exact e
  · have:=h.lt j e;omega
 have HGV:=hide hgv;clear hK hV h hh hgv;generalize (Q.pagesOf D.pg 1).length=t at *;obtain⟨n,hn⟩:∃n,key.length=n:=⟨_,rfl⟩;obtain⟨s,hs⟩:∃s,val.length=s:=⟨_,rfl⟩;have HN:=hide hn;have HS:=hide hs;rw[hn] at h1 h2 CK ⊢;rw[hs] at h3 h4 PG kb hk hcv ⊢;clear hn hs kb;have hk1:1<=k:=by omega
 have hk8:k<=8:=by omega
 have HK:=hide hk;have d1:decide ((n:Int)<1)=false:=decide_eq_false (by omega)
 have d2:decide ((24:Int)<(n:Int))=false:=decide_eq_false (by omega)
 have d5:(((k:Nat):Int)==0)=false:=by simp;omega
 have d6:decide ((t:Int)<((k:Nat):Int))=false:=decide_eq_false (by omega)
 have d7:decide (t<k)=false:=decide_eq_false (by omega)
 have d3:decide ((3840:Int)<(s:Int))=false:=decide_eq_false (by omega)
 clear hk;go_enter Tryz.func135,Tryz.ntmps135;go_wp2_with fail
 refine CK.out.mono ?_;rintro _ w1 ⟨a1,c1,rfl,hO⟩;have O1:=hide hO;have X1:=hide (blk13 X0.out hO.b);have B1:=hide (bt A0.out hO.b)
 have L0:Hid (w.heap.size+1<=w1.heap.size):=by
  have h:=(Array.getElem?_eq_some_iff.1 X1.out).1;exact h
 have Y0:=hide (heap_alloc_new w1 (.cells #[.slice none 0 0,.slice none 0 0,.int .i64 0,.int .i64 0] 51));have Z0:=hide (al w1 (.cells #[.slice none 0 0,.slice none 0 0,.int .i64 0,.int .i64 0] 51));clear hO CK X0;go_wp2_with (first|(refine wpList_store_row rfl 51 _ _ rfl w1.heap.size _ rfl rfl 51 _ Y0.out sizeItem rfl (by simp[Value.oneCell']) ?_)|fail)
 have NB:=hide (setRow_butv (w1.alloc (.cells #[.slice none 0 0,.slice none 0 0,.int .i64 0,.int .i64 0] 51)) w1.heap.size #[.slice a1 n c1,.slice none 0 0,.int .i64 0,.int .i64 (s:Int)]);have Y2:Hid (((w1.alloc (.cells #[.slice none 0 0,.slice none 0 0,.int .i64 0,.int .i64 0] 51)).setRow w1.heap.size #[.slice a1 n c1,.slice none 0 0,.int .i64 0,.int .i64 (s:Int)]).heap[w1.heap.size]?=some (.cells #[.slice a1 n c1,.slice none 0 0,.int .i64 0,.int .i64 (s:Int)] 51 (0,0))):=setRow_heap _ _ _ _ _ _ Y0.out;have X2:=hide (NB.out.same (blk13 X1.out Z0.out) (fun e=>by have:=L0.out;omega))
 have B2:=hide (below_row #[.slice a1 n c1,.slice none 0 0,.int .i64 0,.int .i64 (s:Int)] (bt B1.out Z0.out) (g:=w1.heap.size) B1.out.size);have K2:=hide (below_row #[.slice a1 n c1,.slice none 0 0,.int .i64 0,.int .i64 (s:Int)] Z0.out (g:=w1.heap.size) (Nat.le_refl _));generalize (w1.alloc (.cells #[.slice none 0 0,.slice none 0 0,.int .i64 0,.int .i64 0] 51)).setRow w1.heap.size #[.slice a1 n c1,.slice none 0 0,.int .i64 0,.int .i64 (s:Int)]=w2 at *;clear NB Y0 Z0 X1;refine(PG.out _).mono ?_;rintro _ wq ⟨rfl,hwq⟩;rw[hwq];clear hwq;go_wp2_with fail
 refine(TA.out _ B2.out).mono ?_;rintro _ wq ⟨rfl,hwq⟩;rw[hwq];clear hwq TA PG;have RW1:Hid (Rw w2 a1 c1 key):=(O1.out.r.keep K2.out)
 have RN1:Hid (∀y,a1=some y->w.heap.size<=y.block):=fun y hy=>by
  have:=vnew_at O1.out.n hy;have:=A0.out.size;omega
 have V2:=hide (HV.out.keep B2.out);have Q2:=hide (HQ.out.keep B2.out);go_wp2_with fail
 go_loopw [10,11,12,13] (fun v10 v11 _ _ wx=>∃(m:Nat)(D':Rd)(nx:Int)(col':Nat->Nat),m<=k/\v11=.int .i64 ((k:Int)-1-(m:Int))/\v10=.int .i64 nx/\Sprd val k D m D' nx/\D'.hush=true/\Rq wx rb D' col'/\Vf w2 col wx col'/\0<=nx/\nx<=65536) (fun _ v11 _ _ _=>(intOf v11+1).toNat)
 case atStart=>exact⟨0,D,0,col,Nat.zero_le _,by simp,rfl,⟨rfl,rfl⟩,HH.out,Q2.out,Vf.refl _ _,Int.le_refl _,by decide⟩
 case round=>
  obtain⟨m,D',nx,col',hm,rfl,rfl,hSp,hhu,hRq,hVf,hn0,hn6⟩:=hrel;have SP:=hide hSp;have HU:=hide hhu;have RQ:=hide hRq;have VF:=hide hVf;clear hSp hhu hRq hVf;by_cases hlt:m<k
  · obtain⟨j,hj⟩:∃j:Nat,k=j+1+m:=⟨k-1-m,by omega⟩
    have ej:(k:Int)-1-(m:Int)=(j:Int):=by omega
    have jm:Hid (k-1-m=j):=by show _=_;omega
    have hjs:480*j<s:=by have:=HK.out;omega
    have hj0:(0:Int)<=(j:Int):=by omega
    have VB:Hid (Bs wr (some ⟨gv,ov,none⟩) val):=VF.out.bs V2.out (fun x hx _=>by cases hx;exact HGV.out)
    have CB:Hid (Bs wr (some ⟨gv,ov+480*j,none⟩) (cnk val j)):=(VB.out.dropA (480*j)).takeA 480;have C8:Hid (B8 (cnk val j)):=CB.out.1
    have CL:Hid ((cnk val j).length=min 480 (s-480*j)):=by
     show _=_;rw[<-HS.out];exact cnk_len (by rw[HS.out];exact hjs)
    have CP:Hid (0<(cnk val j).length):=by show 0<_;rw[CL.out];omega
    have MK:=hide fun(W:World)(aa:Option Addr)(cc:Nat)(hO:Own wr W aa cc (cnk val j))=>rMake_any W rb D' col' (RQ.out.keep hO.b) HU.out ⟨3,0,none,0,[],aa,cc,cnk val j,nx⟩ (pf_own RQ.out hO C8.out CP.out (by unfold N64;omega))
    have NXT:Hid (∀(q:Pv),q.pg=mkp val j nx->Sprd val k D (m+1) (D'.makeD (mkp val j nx) q) (D'.makeR (mkp val j nx)).1):=fun q hq=>by
     refine⟨D',nx,q,SP.out,?_,?_,?_⟩
     · rw[jm.out];exact hq
     · rw[jm.out]
     · rw[jm.out]
    have MB:=hide (makeR_le RQ.out.nL RQ.out.n6 (mkp val j nx));unfold Pv.vl at MK;simp only[Pv.cs,List.length_nil] at MK;obtain⟨ln,hln⟩:∃ln,(cnk val j).length=ln:=⟨_,rfl⟩;have CC:=hide fun(o x y:Nat)(ho:o=ov+480*j)(hx:x=ln)=>CopyBytes_at wr (some ⟨gv,o,none⟩) x y (cnk val j) (by rw[ho];exact CB.out) (by rw[hx];exact hln.symm) (by rw[CL.out];omega)
    rw[hln] at CL MK;simp only[hln] at CC;have hml:min 480 (s-480*j)=ln:=CL.out.symm;have hpg:Hid ((⟨3,0,none,0,[],none,0,cnk val j,nx⟩:Pv).pg=mkp val j nx):=rfl;rw[ej];clear hln CL;obtain⟨mr,hmr⟩:∃mr,D'.makeR (mkp val j nx)=mr:=⟨_,rfl⟩;have MK2:Hid (∀(W:World)(aa:Option Addr)(cc:Nat),Own wr W aa cc (cnk val j)->Calls Tryz.prog 92 #[.pointer (some ⟨rb,0,none⟩),.agg #[.int .i64 3,.int .i64 0,.slice none 0 0,.slice aa ln cc,.int .i64 nx]] W fun e w'=>∃(q:Pv)(c2:Nat->Nat),q.pg=mkp val j nx/\e=.returned (.tuple #[.int .i64 mr.1,.int .i64 mr.2])/\Rq w' rb (D'.makeD (mkp val j nx) q) c2/\Vf W col' w' c2):=fun W aa cc hO=>(MK.out W aa cc hO).mono (fun e w' ⟨q,c2,e1,e2,e3,e4⟩=>⟨q,c2,e1,by rw[<-hmr];exact e2,e3,e4⟩)
    rw[hmr] at NXT MB;clear MK hmr;have i1:(0:Int)<=(j:Int)*480:=by omega
    have i2:(j:Int)*480+480<=9223372036854775807:=by omega
    have i3:(0:Int)<=((j:Int)+1)*480:=by omega
    have i4:((j:Int)+1)*480<=9223372036854775807:=by omega
    have e0:1<=ln:=by omega
    have jc:480*j+ln<=s:=by omega
    have jcv:480*j+ln<=cv:=by omega
    have HML:=hide hml;have HJ:=hide hj;clear hml hj ej;by_cases hto:s<480*j+480
    · have dto:decide ((s:Int)<((j:Int)+1)*480)=true:=decide_eq_true (by omega)
      have HLS:Hid (s=480*j+ln):=by show _=_;have:=HML.out;omega
      have sj:(j:Int)*480<=(s:Int):=by omega
      have sc:(s:Int)<=(cv:Int):=by omega
      go_wp2_with fail
      refine(CC.out _ _ _ (by omega) (by have:=HLS.out;omega)).mono ?_
      rintro _ w3 ⟨a3,c3,rfl,hO3⟩;have O3:=hide hO3;clear hO3 CC;go_wp2_with fail
      refine(MK2.out _ _ _ O3.out).mono ?_;rintro _ w4 ⟨q,c4,hq,rfl,hR4,hF4⟩;have R4:=hide hR4;have F4:=hide (VF.out.trans ((Vf.keep O3.out.b).trans hF4));have S4:=hide (NXT.out q hq);have H4:Hid ((D'.makeD (mkp val j nx) q).hush=true):=by show _=_;rw[makeD_hush];exact HU.out
      clear hR4 hF4 hq MK2;go_wp2_with fail
      go_roundw
      case rel=>exact⟨m+1,_,mr.1,c4,by omega,by rw[show(k:Int)-1-((m+1:Nat):Int)=(j:Int)-1 by have:=HJ.out;omega],rfl,S4.out,H4.out,R4.out,F4.out,MB.out.1,MB.out.2⟩
      case measure=>simp[intOf]
    · have dto:decide ((s:Int)<((j:Int)+1)*480)=false:=decide_eq_false (by omega)
      have HLS:Hid (ln=480):=by show _=_;have:=HML.out;omega
      have sj:(j:Int)*480<=((j:Int)+1)*480:=by omega
      have sc:((j:Int)+1)*480<=(cv:Int):=by omega
      go_wp2_with fail
      refine(CC.out _ _ _ (by omega) (by have:=HLS.out;omega)).mono ?_
      rintro _ w3 ⟨a3,c3,rfl,hO3⟩;have O3:=hide hO3;clear hO3 CC;go_wp2_with fail
      refine(MK2.out _ _ _ O3.out).mono ?_;rintro _ w4 ⟨q,c4,hq,rfl,hR4,hF4⟩;have R4:=hide hR4;have F4:=hide (VF.out.trans ((Vf.keep O3.out.b).trans hF4));have S4:=hide (NXT.out q hq);have H4:Hid ((D'.makeD (mkp val j nx) q).hush=true):=by show _=_;rw[makeD_hush];exact HU.out
      clear hR4 hF4 hq MK2;go_wp2_with fail
      go_roundw
      case rel=>exact⟨m+1,_,mr.1,c4,by omega,by rw[show(k:Int)-1-((m+1:Nat):Int)=(j:Int)-1 by have:=HJ.out;omega],rfl,S4.out,H4.out,R4.out,F4.out,MB.out.1,MB.out.2⟩
      case measure=>simp[intOf]
  · obtain rfl:m=k:=by omega
    have hge:¬(0:Int)<=(m:Int)-1-(m:Int):=by omega
    have hgs:(m:Int)-1-(m:Int)= -1:=by omega
    have YC:=hide (NC.out w1.heap.size B1.out.size);have Y9:=hide (VF.out.box Y2.out YC.out);have X9:=hide (VF.out.box X2.out (NC.out w.heap.size (Nat.le_refl _)));have R9:Hid (Rw wr a1 c1 key):=VF.out.rw RW1.out (fun x hx=>NC.out _ (RN1.out x hx))
    have V9:=hide ((Vf.keep (c:=col) B2.out).trans VF.out)
    have C9:Hid (∀y,a1=some y->col' y.block=0):=fun y hy=>by
     have h1:=RW1.out.lt hy;rw[VF.out.c _ h1];exact NC.out _ (RN1.out y hy)
    have YC2:Hid (col' w1.heap.size=0):=by
     show _=_;rw[VF.out.c _ (Array.getElem?_eq_some_iff.1 Y2.out).1];exact YC.out
    have XC2:Hid (col' w.heap.size=0):=by
     show _=_;rw[VF.out.c _ (Array.getElem?_eq_some_iff.1 X2.out).1];exact NC.out w.heap.size (Nat.le_refl _)
    obtain⟨y0,y1,y2,y3⟩:=four13 Y9.out;have f2:wr.frozen? ⟨w1.heap.size,2,none⟩=false:=frozen_of_row _ _ _ _ _ Y9.out;have NB:=hide (Jb.but (W:=wr) w1.heap.size 2 (.int .i64 nx))
    have Y4:Hid ((wr.setCell ⟨w1.heap.size,2,none⟩ (.int .i64 nx)).heap[w1.heap.size]?=some (.cells #[.slice a1 n c1,.slice none 0 0,.int .i64 nx,.int .i64 (s:Int)] 51 (0,0))):=by
     show _=_;rw[heap_setCell_same _ _ _ _ _ _ Y9.out];rfl
    have X4:=hide (NB.out.same X9.out (fun e=>by have:=L0.out;omega))
    have R4:=hide (R9.out.but NB.out (fun x hx e=>R9.out.nty13 (t:=51) Y9.out (by decide) hx e))
    have Q4:=hide (RQ.out.but NB.out (fun k hk e=>hk (by rw[e];exact YC2.out)))
    have V4:Hid (Vf w col (wr.setCell ⟨w1.heap.size,2,none⟩ (.int .i64 nx)) col'):=⟨V9.out.b.trans NB.out (fun k hk e=>by have:=B1.out.size;omega),V9.out.c⟩
    go_upto_region 21 with fail
    generalize wr.setCell ⟨w1.heap.size,2,none⟩ (.int .i64 nx)=w4 at *;clear y0 y1 y2 y3 f2 NB X9 Y9 R9 V9 RQ VF;obtain⟨y0,y1,y2,y3⟩:=four13 Y4.out;go_wp2_with (first|(refine wpList_store_row rfl 51 _ _ rfl w.heap.size _ rfl rfl 51 _ X4.out sizeItem rfl (by simp[Value.oneCell']) ?_)|fail)
    refine bodyPost_ret (v:=.tuple #[.agg _,_]) (results_cell_one Tryz.results135 _ _ w.heap.size 51 _ (0,0) _ rfl (setRow_heap _ _ _ _ _ _ X4.out) Tryz.underlying51 rfl sizeItem) rfl ?_;have nb:=setRow_butv w4 w.heap.size #[.slice a1 n c1,.slice none 0 0,.int .i64 nx,.int .i64 (s:Int)];have r1:=R4.out.but nb (fun x hx e=>R4.out.nty13 (t:=51) X4.out (by decide) hx e)
    have q1:=Q4.out.but nb (fun k hk e=>hk (by rw[e];exact XC2.out))
    have v1:Vf w col (w4.setRow w.heap.size #[.slice a1 n c1,.slice none 0 0,.int .i64 nx,.int .i64 (s:Int)]) col':=⟨V4.out.b.trans nb (fun k hk e=>by omega),V4.out.c⟩
    exact⟨⟨a1,c1,key,none,0,[],nx,(s:Int)⟩,D',col',by unfold Iv.vl;simp only[Iv.cs,HN.out];rfl,rfl,rfl,by dsimp only;rw[HS.out],by unfold N64;dsimp only;omega,SP.out,q1,v1,r1,rfl,rfl,fun y hy=>⟨C9.out y hy,RN1.out y hy⟩⟩
theorem Jw.nty13{L:List Iv}(h:Jw w a c L){t:TypeId}{cs:Array Value}(hg:w.heap[g]?=some (.cells cs t (0,0)))(ht:t≠51){x:Addr}(hx:a=some x):x.block≠g:=by
 rcases h.cases with⟨rfl,_⟩|⟨g',cur,rfl,hg',_⟩
 · cases hx
 · cases hx;intro e;have e:g'=g:=e;subst e;rw[hg'] at hg;simp only[Option.some.injEq,Obj.cells.injEq] at hg;exact ht hg.2.1.symm
theorem tot_lt{P:Q.Po}(h:P.Ok):tot P<=4294967296:=by
 have h1:=tot_le h;have h2:=h.l2;have h3:=h.r2;have h4:P.rf.toNat<=65536:=by omega
 have:=Nat.mul_le_mul h2 h4;omega
end Go.Proofs.YtcpkinhneehomaaGreat
