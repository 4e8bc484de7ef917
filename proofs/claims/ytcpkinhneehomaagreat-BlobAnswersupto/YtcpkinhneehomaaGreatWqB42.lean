import Derived.Test.YtcpkinhneehomaaGreatWqB40
import Derived.Test.YtcpkinhneehomaaGreatWqB41
set_option linter.unusedVariables false
set_option linter.unusedSimpArgs false
set_option maxHeartbeats 16000000
set_option maxRecDepth 8000
namespace Go.Proofs.YtcpkinhneehomaaGreat
open Go.RowKit
variable {K:Bks}{e:Ending}{M b mb pb rb wb:Nat}{col colR pc:Nat->Nat}{D:Rd}{S:Vs}{v w w':World}
theorem St.item(h:St v w wb b rb pb mb S D pc col colR K)(n:Int):Fi w col colR (itm K.N n)/\(itm K.N n).key.length<=24/\(itm K.N n).val.length<=32:=by
 unfold itm;split
 · rename_i hn;have hm:K.N.getD n.toNat Iv.zero∈K.N:=getD_memR (by omega)
   generalize K.N.getD n.toNat Iv.zero=r at *;obtain⟨n1,n2,n3,n4⟩:=h.ns r (List.mem_append_right _ hm)
   have mr:∀t∈r.rows,t∈K.X++rowsOf K.N:=fun t ht=>List.mem_append_right _ (by
    unfold rowsOf;exact List.mem_flatten.2 ⟨r.rows,List.mem_map.2 ⟨r,hm,rfl⟩,ht⟩)
   have k:=h.r2 ⟨r.aK,r.cK,r.key⟩ (mr _ (by simp[Iv.rows]))
   have q:=h.r2 ⟨r.aV,r.cV,r.val⟩ (mr _ (by simp[Iv.rows]))
   exact⟨⟨⟨k.1.bs k.2.1 k.1.len_le,k.1.cap,q.1.bs q.2.1 q.1.len_le,q.1.cap,n1,n2⟩,fun y hy _=>k.2.2 y hy,fun y hy _=>q.2.2 y hy⟩,n3,n4⟩
 · exact⟨⟨⟨(Rw.nil w).bs b8_nil (Rw.nil w).len_le,Nat.le_refl _,(Rw.nil w).bs b8_nil (Rw.nil w).len_le,Nat.le_refl _,by show N64 0;unfold N64;omega,by show N64 0;unfold N64;omega⟩,fun y hy=>(by cases hy),fun y hy=>(by cases hy)⟩,Nat.zero_le _,Nat.zero_le _⟩
theorem NxtR.nxt(h:NxtR w col colR v wb b rb pb mb K M e w')(hk:Kb K M):Nxt v wb b rb pb mb M e w':=by
 obtain⟨e1,S',D',pc',col',colR',h1,h2,h3,_⟩:=h;exact⟨e1,S',D',pc',col',colR',K,h1,h2,h3,hk.le (by omega)⟩
theorem NxtL.nxt(h:NxtL w v wb b rb pb mb S D pc col colR K e w')(hk:Kb K M)(hr:Rel S.X D)(hB:Bnd S M):Nxt v wb b rb pb mb M e w':=by
 obtain⟨e1,aT',cT',T',aX',cX',X',h1,h2,_⟩:=h;exact⟨e1,S,D,pc,col,colR,_,h1,hr,hB.le (by omega),h2,Nat.le_trans hk.b (by omega)⟩
theorem ldo_0(v w:World)(wb b rb pb mb:Nat)(S:Vs)(D:Rd)(pc col colR:Nat->Nat)(K0:Bks)(h:St v w wb b rb pb mb S D pc col colR K0)(hr:Rel S.X D)(M:Nat)(hB:Bnd S M)(hKb:Kb K0 M)(hM:M<=1000000000000)(o:Ov)(ho:Fo w col colR o)(hk:o.kind=0):
 Calls Tryz.prog 24 #[.pointer (some ⟨wb,0,none⟩),o.vl] w fun e w'=>Nxt v wb b rb pb mb M e w':=by
 have OC:Hid (o.cs=#[.int .i64 0,.int .i64 o.n,.slice o.aK o.key.length o.cK,.slice o.aV o.val.length o.cV,.slice o.i.aK o.i.key.length o.i.cK,.slice o.i.aV o.i.val.length o.i.cV,.int .i64 o.i.child,.int .i64 o.i.size]):=by show _=_;unfold Ov.cs;rw[hk]
 have OV:Hid (o.vl=.agg o.cs):=rfl;rw[OV.out,OC.out];have A0:=hide (al w (.cells #[.int .i64 0,.int .i64 o.n,.slice o.aK o.key.length o.cK,.slice o.aV o.val.length o.cV,.slice o.i.aK o.i.key.length o.i.cK,.slice o.i.aV o.i.val.length o.i.cV,.int .i64 o.i.child,.int .i64 o.i.size] 75));have X0:=hide (heap_alloc_new w (.cells #[.int .i64 0,.int .i64 o.n,.slice o.aK o.key.length o.cK,.slice o.aV o.val.length o.cV,.slice o.i.aK o.i.key.length o.i.cK,.slice o.i.aV o.i.val.length o.i.cV,.int .i64 o.i.child,.int .i64 o.i.size] 75));have Z0:=hide (h.z2 (Nat.le_refl w.heap.size));have H1:=hide (h.keep A0.out);have HO:=hide (ho.keep A0.out);have HR:=hide hr;have HKB:=hide hKb;have HB:=hide hB;clear h ho hr hKb hB hk;go_enter Tryz.func24,Tryz.ntmps24;obtain⟨c0,c1,c2,c3,c4,c5,c6,c7⟩:=eight13 X0.out;go_upto_region 3 with fail
 generalize hw1:w.alloc (.cells #[.int .i64 0,.int .i64 o.n,.slice o.aK o.key.length o.cK,.slice o.aV o.val.length o.cV,.slice o.i.aK o.i.key.length o.i.cK,.slice o.i.aV o.i.val.length o.i.cV,.int .i64 o.i.child,.int .i64 o.i.size] 75)=w1 at *;clear hw1;obtain⟨gi,hgi⟩:∃gi,w.heap.size=gi:=⟨_,rfl⟩;simp only[hgi] at X0 Z0 c0 c1 c2 c3 c4 c5 c6 c7 ⊢;clear hgi;have LS:=hide (lstore_any v w1 wb b rb pb mb S D pc col colR K0 H1.out HR.out M HB.out HKB.out hM o HO.out);rw[OV.out,OC.out] at LS;go_wp2_with fail
 refine LS.out.mono ?_;rintro _ w2 ⟨rfl,hN⟩;have N2:=hide hN;clear hN LS;go_wp2_with fail
 go_ret;exact⟨rfl,N2.out⟩
theorem ldo_1(v w:World)(wb b rb pb mb:Nat)(S:Vs)(D:Rd)(pc col colR:Nat->Nat)(K0:Bks)(h:St v w wb b rb pb mb S D pc col colR K0)(hr:Rel S.X D)(M:Nat)(hB:Bnd S M)(hKb:Kb K0 M)(hM:M<=1000000000000)(o:Ov)(ho:Fo w col colR o)(hk:o.kind=1):
 Calls Tryz.prog 24 #[.pointer (some ⟨wb,0,none⟩),o.vl] w fun e w'=>Nxt v wb b rb pb mb M e w':=by
 have OC:Hid (o.cs=#[.int .i64 1,.int .i64 o.n,.slice o.aK o.key.length o.cK,.slice o.aV o.val.length o.cV,.slice o.i.aK o.i.key.length o.i.cK,.slice o.i.aV o.i.val.length o.i.cV,.int .i64 o.i.child,.int .i64 o.i.size]):=by show _=_;unfold Ov.cs;rw[hk]
 have OV:Hid (o.vl=.agg o.cs):=rfl;rw[OV.out,OC.out];have A0:=hide (al w (.cells #[.int .i64 1,.int .i64 o.n,.slice o.aK o.key.length o.cK,.slice o.aV o.val.length o.cV,.slice o.i.aK o.i.key.length o.i.cK,.slice o.i.aV o.i.val.length o.i.cV,.int .i64 o.i.child,.int .i64 o.i.size] 75));have X0:=hide (heap_alloc_new w (.cells #[.int .i64 1,.int .i64 o.n,.slice o.aK o.key.length o.cK,.slice o.aV o.val.length o.cV,.slice o.i.aK o.i.key.length o.i.cK,.slice o.i.aV o.i.val.length o.i.cV,.int .i64 o.i.child,.int .i64 o.i.size] 75));have Z0:=hide (h.z2 (Nat.le_refl w.heap.size));have H1:=hide (h.keep A0.out);have HO:=hide (ho.keep A0.out);have HR:=hide hr;have HKB:=hide hKb;have HB:=hide hB;clear h ho hr hKb hB hk;go_enter Tryz.func24,Tryz.ntmps24;obtain⟨c0,c1,c2,c3,c4,c5,c6,c7⟩:=eight13 X0.out;go_upto_region 5 with fail
 generalize hw1:w.alloc (.cells #[.int .i64 1,.int .i64 o.n,.slice o.aK o.key.length o.cK,.slice o.aV o.val.length o.cV,.slice o.i.aK o.i.key.length o.i.cK,.slice o.i.aV o.i.val.length o.i.cV,.int .i64 o.i.child,.int .i64 o.i.size] 75)=w1 at *;clear hw1;obtain⟨gi,hgi⟩:∃gi,w.heap.size=gi:=⟨_,rfl⟩;simp only[hgi] at X0 Z0 c0 c1 c2 c3 c4 c5 c6 c7 ⊢;clear hgi;have DR:=hide (dr2 w1);have SS:Hid (∀W:World,Below w1.heap.size w1 W->W.cell? ⟨wb,3,none⟩=some (.slice K0.aN K0.N.length K0.cN)/\W.cell? ⟨gi,1,none⟩=some (.int .i64 o.n)):=fun W hb=>⟨((H1.out.keep hb).cells).2.2.2.1,(eight13 (blk13 X0.out hb)).2.1⟩
 have LI:=hide (litem_any w1.drew K0.aN K0.cN K0.N (H1.out.keep DR.out).jn o.n);have QI:=hide (H1.out.item o.n);obtain⟨q,hq⟩:∃q,itm K0.N o.n=q:=⟨_,rfl⟩;rw[hq] at LI QI;clear hq c0 c1 c2 c3 c4 c5 c6 c7;have QV:Hid (q.vl=.agg #[.slice q.aK q.key.length q.cK,.slice q.aV q.val.length q.cV,.int .i64 q.child,.int .i64 q.size]):=rfl;rw[QV.out] at LI;refine wp_region_held_drew (S:=fun W=>W.cell? ⟨wb,3,none⟩=some (.slice K0.aN K0.N.length K0.cN)/\W.cell? ⟨gi,1,none⟩=some (.int .i64 o.n)) (by kernel_rfl) (SS.out _ DR.out) (fun hHeld=>?_)
 refine tk 0 ?_;refine tk 1 ?_;refine tk 2 ?_;refine tk 3 ?_;refine tk 4 ?_;refine tk 5 ?_;refine tk 6 ?_;refine tw 7 fun K hK=>?_
 go_simp;refine LI.out.mono ?_;rintro _ w2 ⟨rfl,hb2⟩;have B2:=hide (bt DR.out hb2);clear hb2 LI;go_wp2_with fail
 refine hK.out _ _ (SS.out _ B2.out) (fun hHeld=>?_)
 clear hK K;try simp only[pt]
 refine tw 8 fun K hK=>?_
 go_simp;have LS:=hide (lload_st (H1.out.keep B2.out) HR.out q (QI.out.1.keep B2.out).ii (by have:=QI.out.2.1;omega) (by have:=QI.out.2.2;omega) HKB.out.t)
 rw[QV.out] at LS;refine LS.out.mono ?_;intro _ w3 hN;have N2:=hide (hN.nxt HKB.out HR.out HB.out);obtain⟨rfl,aT',cT',T',aX',cX',X',hS3,hT3,hK3⟩:=hN;have G3:=hide (hK3 gi _ (blk13 X0.out B2.out));have H3:=hide hS3;clear hS3 hT3 hK3 LS;go_wp2_with fail
 refine hK.out _ _ (⟨(H3.out.cells).2.2.2.1,(eight13 G3.out).2.1⟩) (fun hHeld=>?_)
 clear hK K;try simp only[pt]
 refine tk 9 ?_;refine td ?_;clear hHeld;go_wp2_with fail
 go_ret;exact N2.out
theorem ldo_2(v w:World)(wb b rb pb mb:Nat)(S:Vs)(D:Rd)(pc col colR:Nat->Nat)(K0:Bks)(h:St v w wb b rb pb mb S D pc col colR K0)(hr:Rel S.X D)(M:Nat)(hB:Bnd S M)(hKb:Kb K0 M)(hM:M<=1000000000000)(o:Ov)(ho:Fo w col colR o)(hk:o.kind=2):
 Calls Tryz.prog 24 #[.pointer (some ⟨wb,0,none⟩),o.vl] w fun e w'=>Nxt v wb b rb pb mb M e w':=by
 have OC:Hid (o.cs=#[.int .i64 2,.int .i64 o.n,.slice o.aK o.key.length o.cK,.slice o.aV o.val.length o.cV,.slice o.i.aK o.i.key.length o.i.cK,.slice o.i.aV o.i.val.length o.i.cV,.int .i64 o.i.child,.int .i64 o.i.size]):=by show _=_;unfold Ov.cs;rw[hk]
 have OV:Hid (o.vl=.agg o.cs):=rfl;rw[OV.out,OC.out];have A0:=hide (al w (.cells #[.int .i64 2,.int .i64 o.n,.slice o.aK o.key.length o.cK,.slice o.aV o.val.length o.cV,.slice o.i.aK o.i.key.length o.i.cK,.slice o.i.aV o.i.val.length o.i.cV,.int .i64 o.i.child,.int .i64 o.i.size] 75));have X0:=hide (heap_alloc_new w (.cells #[.int .i64 2,.int .i64 o.n,.slice o.aK o.key.length o.cK,.slice o.aV o.val.length o.cV,.slice o.i.aK o.i.key.length o.i.cK,.slice o.i.aV o.i.val.length o.i.cV,.int .i64 o.i.child,.int .i64 o.i.size] 75));have Z0:=hide (h.z2 (Nat.le_refl w.heap.size));have H1:=hide (h.keep A0.out);have HO:=hide (ho.keep A0.out);have HR:=hide hr;have HKB:=hide hKb;have HB:=hide hB;clear h ho hr hKb hB hk;go_enter Tryz.func24,Tryz.ntmps24;obtain⟨c0,c1,c2,c3,c4,c5,c6,c7⟩:=eight13 X0.out;go_upto_region 7 with fail
 generalize hw1:w.alloc (.cells #[.int .i64 2,.int .i64 o.n,.slice o.aK o.key.length o.cK,.slice o.aV o.val.length o.cV,.slice o.i.aK o.i.key.length o.i.cK,.slice o.i.aV o.i.val.length o.i.cV,.int .i64 o.i.child,.int .i64 o.i.size] 75)=w1 at *;clear hw1;obtain⟨gi,hgi⟩:∃gi,w.heap.size=gi:=⟨_,rfl⟩;simp only[hgi] at X0 Z0 c0 c1 c2 c3 c4 c5 c6 c7 ⊢;clear hgi;have DR:=hide (dr2 w1);have SS:Hid (∀W:World,Below w1.heap.size w1 W->W.cell? ⟨wb,3,none⟩=some (.slice K0.aN K0.N.length K0.cN)/\W.cell? ⟨gi,1,none⟩=some (.int .i64 o.n)):=fun W hb=>⟨((H1.out.keep hb).cells).2.2.2.1,(eight13 (blk13 X0.out hb)).2.1⟩
 have LI:=hide (litem_any w1.drew K0.aN K0.cN K0.N (H1.out.keep DR.out).jn o.n);have QI:=hide (H1.out.item o.n);obtain⟨q,hq⟩:∃q,itm K0.N o.n=q:=⟨_,rfl⟩;rw[hq] at LI QI;clear hq c0 c1 c2 c3 c4 c5 c6 c7;have QV:Hid (q.vl=.agg #[.slice q.aK q.key.length q.cK,.slice q.aV q.val.length q.cV,.int .i64 q.child,.int .i64 q.size]):=rfl;rw[QV.out] at LI;refine wp_region_held_drew (S:=fun W=>W.cell? ⟨wb,3,none⟩=some (.slice K0.aN K0.N.length K0.cN)/\W.cell? ⟨gi,1,none⟩=some (.int .i64 o.n)) (by kernel_rfl) (SS.out _ DR.out) (fun hHeld=>?_)
 refine tk 0 ?_;refine tk 1 ?_;refine tk 2 ?_;refine tk 3 ?_;refine tk 4 ?_;refine tk 5 ?_;refine tk 6 ?_;refine tw 7 fun K hK=>?_
 go_simp;refine LI.out.mono ?_;rintro _ w2 ⟨rfl,hb2⟩;have B2:=hide (bt DR.out hb2);clear hb2 LI;go_wp2_with fail
 refine hK.out _ _ (SS.out _ B2.out) (fun hHeld=>?_)
 clear hK K;try simp only[pt]
 refine tw 8 fun K hK=>?_
 go_simp;have LS:=hide (lrelease_any v w2 wb b rb pb mb S D pc col colR K0 (H1.out.keep B2.out) HR.out M HB.out hM q (QI.out.1.keep B2.out) (by have:=QI.out.2.1;omega) (by have:=QI.out.2.2;omega))
 rw[QV.out] at LS;refine LS.out.mono ?_;intro _ w3 hN;have N2:=hide (hN.nxt HKB.out);obtain⟨rfl,S3,D3,pc3,col3,colR3,hS3,hr3,hb3,hK3⟩:=hN;have G3:=hide (hK3 gi _ (blk13 X0.out B2.out) Z0.out.1 Z0.out.2);have H3:=hide hS3;clear hS3 hr3 hb3 hK3 LS;go_wp2_with fail
 refine hK.out _ _ (⟨(H3.out.cells).2.2.2.1,(eight13 G3.out).2.1⟩) (fun hHeld=>?_)
 clear hK K;try simp only[pt]
 refine tk 9 ?_;refine td ?_;clear hHeld;go_wp2_with fail
 go_ret;exact N2.out
theorem ldo_3(v w:World)(wb b rb pb mb:Nat)(S:Vs)(D:Rd)(pc col colR:Nat->Nat)(K0:Bks)(h:St v w wb b rb pb mb S D pc col colR K0)(hr:Rel S.X D)(M:Nat)(hB:Bnd S M)(hKb:Kb K0 M)(hM:M<=1000000000000)(o:Ov)(ho:Fo w col colR o)(hk:o.kind=3):
 Calls Tryz.prog 24 #[.pointer (some ⟨wb,0,none⟩),o.vl] w fun e w'=>Nxt v wb b rb pb mb M e w':=by
 have OC:Hid (o.cs=#[.int .i64 3,.int .i64 o.n,.slice o.aK o.key.length o.cK,.slice o.aV o.val.length o.cV,.slice o.i.aK o.i.key.length o.i.cK,.slice o.i.aV o.i.val.length o.i.cV,.int .i64 o.i.child,.int .i64 o.i.size]):=by show _=_;unfold Ov.cs;rw[hk]
 have OV:Hid (o.vl=.agg o.cs):=rfl;rw[OV.out,OC.out];have A0:=hide (al w (.cells #[.int .i64 3,.int .i64 o.n,.slice o.aK o.key.length o.cK,.slice o.aV o.val.length o.cV,.slice o.i.aK o.i.key.length o.i.cK,.slice o.i.aV o.i.val.length o.i.cV,.int .i64 o.i.child,.int .i64 o.i.size] 75));have X0:=hide (heap_alloc_new w (.cells #[.int .i64 3,.int .i64 o.n,.slice o.aK o.key.length o.cK,.slice o.aV o.val.length o.cV,.slice o.i.aK o.i.key.length o.i.cK,.slice o.i.aV o.i.val.length o.i.cV,.int .i64 o.i.child,.int .i64 o.i.size] 75));have Z0:=hide (h.z2 (Nat.le_refl w.heap.size));have H1:=hide (h.keep A0.out);have HO:=hide (ho.keep A0.out);have HR:=hide hr;have HKB:=hide hKb;have HB:=hide hB;clear h ho hr hKb hB hk;go_enter Tryz.func24,Tryz.ntmps24;obtain⟨c0,c1,c2,c3,c4,c5,c6,c7⟩:=eight13 X0.out;go_upto_region 9 with fail
 generalize hw1:w.alloc (.cells #[.int .i64 3,.int .i64 o.n,.slice o.aK o.key.length o.cK,.slice o.aV o.val.length o.cV,.slice o.i.aK o.i.key.length o.i.cK,.slice o.i.aV o.i.val.length o.i.cV,.int .i64 o.i.child,.int .i64 o.i.size] 75)=w1 at *;clear hw1;obtain⟨gi,hgi⟩:∃gi,w.heap.size=gi:=⟨_,rfl⟩;simp only[hgi] at X0 Z0 c0 c1 c2 c3 c4 c5 c6 c7 ⊢;clear hgi;have LS:=hide (lload_st H1.out HR.out o.i HO.out.i.ii HO.out.ik HO.out.iv HKB.out.t);unfold Iv.vl at LS;simp only[Iv.cs] at LS;go_wp2_with fail
 refine LS.out.mono ?_;intro _ w2 hN;have N2:=hide (hN.nxt HKB.out HR.out HB.out);obtain⟨rfl,hN2⟩:=hN;clear hN2 LS;go_wp2_with fail
 go_ret;exact N2.out
theorem ldo_4(v w:World)(wb b rb pb mb:Nat)(S:Vs)(D:Rd)(pc col colR:Nat->Nat)(K0:Bks)(h:St v w wb b rb pb mb S D pc col colR K0)(hr:Rel S.X D)(M:Nat)(hB:Bnd S M)(hKb:Kb K0 M)(hM:M<=1000000000000)(o:Ov)(ho:Fo w col colR o)(hk:o.kind=4):
 Calls Tryz.prog 24 #[.pointer (some ⟨wb,0,none⟩),o.vl] w fun e w'=>Nxt v wb b rb pb mb M e w':=by
 have OC:Hid (o.cs=#[.int .i64 4,.int .i64 o.n,.slice o.aK o.key.length o.cK,.slice o.aV o.val.length o.cV,.slice o.i.aK o.i.key.length o.i.cK,.slice o.i.aV o.i.val.length o.i.cV,.int .i64 o.i.child,.int .i64 o.i.size]):=by show _=_;unfold Ov.cs;rw[hk]
 have OV:Hid (o.vl=.agg o.cs):=rfl;rw[OV.out,OC.out];have A0:=hide (al w (.cells #[.int .i64 4,.int .i64 o.n,.slice o.aK o.key.length o.cK,.slice o.aV o.val.length o.cV,.slice o.i.aK o.i.key.length o.i.cK,.slice o.i.aV o.i.val.length o.i.cV,.int .i64 o.i.child,.int .i64 o.i.size] 75));have X0:=hide (heap_alloc_new w (.cells #[.int .i64 4,.int .i64 o.n,.slice o.aK o.key.length o.cK,.slice o.aV o.val.length o.cV,.slice o.i.aK o.i.key.length o.i.cK,.slice o.i.aV o.i.val.length o.i.cV,.int .i64 o.i.child,.int .i64 o.i.size] 75));have Z0:=hide (h.z2 (Nat.le_refl w.heap.size));have H1:=hide (h.keep A0.out);have HO:=hide (ho.keep A0.out);have HR:=hide hr;have HKB:=hide hKb;have HB:=hide hB;clear h ho hr hKb hB hk;go_enter Tryz.func24,Tryz.ntmps24;obtain⟨c0,c1,c2,c3,c4,c5,c6,c7⟩:=eight13 X0.out;go_upto_region 11 with fail
 generalize hw1:w.alloc (.cells #[.int .i64 4,.int .i64 o.n,.slice o.aK o.key.length o.cK,.slice o.aV o.val.length o.cV,.slice o.i.aK o.i.key.length o.i.cK,.slice o.i.aV o.i.val.length o.i.cV,.int .i64 o.i.child,.int .i64 o.i.size] 75)=w1 at *;clear hw1;obtain⟨gi,hgi⟩:∃gi,w.heap.size=gi:=⟨_,rfl⟩;simp only[hgi] at X0 Z0 c0 c1 c2 c3 c4 c5 c6 c7 ⊢;clear hgi;have LS:=hide (lrelease_any v w1 wb b rb pb mb S D pc col colR K0 H1.out HR.out M HB.out hM o.i HO.out.i HO.out.ik HO.out.iv);unfold Iv.vl at LS;simp only[Iv.cs] at LS;go_wp2_with fail
 refine LS.out.mono ?_;intro _ w2 hN;have N2:=hide (hN.nxt HKB.out);obtain⟨rfl,hN2⟩:=hN;clear hN2 LS;go_wp2_with fail
 go_ret;exact N2.out
theorem ldo_5(v w:World)(wb b rb pb mb:Nat)(S:Vs)(D:Rd)(pc col colR:Nat->Nat)(K0:Bks)(h:St v w wb b rb pb mb S D pc col colR K0)(hr:Rel S.X D)(M:Nat)(hB:Bnd S M)(hKb:Kb K0 M)(hM:M<=1000000000000)(o:Ov)(ho:Fo w col colR o)(hk:o.kind=5):
 Calls Tryz.prog 24 #[.pointer (some ⟨wb,0,none⟩),o.vl] w fun e w'=>Nxt v wb b rb pb mb M e w':=by
 have OC:Hid (o.cs=#[.int .i64 5,.int .i64 o.n,.slice o.aK o.key.length o.cK,.slice o.aV o.val.length o.cV,.slice o.i.aK o.i.key.length o.i.cK,.slice o.i.aV o.i.val.length o.i.cV,.int .i64 o.i.child,.int .i64 o.i.size]):=by show _=_;unfold Ov.cs;rw[hk]
 have OV:Hid (o.vl=.agg o.cs):=rfl;rw[OV.out,OC.out];have A0:=hide (al w (.cells #[.int .i64 5,.int .i64 o.n,.slice o.aK o.key.length o.cK,.slice o.aV o.val.length o.cV,.slice o.i.aK o.i.key.length o.i.cK,.slice o.i.aV o.i.val.length o.i.cV,.int .i64 o.i.child,.int .i64 o.i.size] 75));have X0:=hide (heap_alloc_new w (.cells #[.int .i64 5,.int .i64 o.n,.slice o.aK o.key.length o.cK,.slice o.aV o.val.length o.cV,.slice o.i.aK o.i.key.length o.i.cK,.slice o.i.aV o.i.val.length o.i.cV,.int .i64 o.i.child,.int .i64 o.i.size] 75));have Z0:=hide (h.z2 (Nat.le_refl w.heap.size));have H1:=hide (h.keep A0.out);have HO:=hide (ho.keep A0.out);have HR:=hide hr;have HKB:=hide hKb;have HB:=hide hB;clear h ho hr hKb hB hk;go_enter Tryz.func24,Tryz.ntmps24;obtain⟨c0,c1,c2,c3,c4,c5,c6,c7⟩:=eight13 X0.out;go_upto_region 13 with fail
 generalize hw1:w.alloc (.cells #[.int .i64 5,.int .i64 o.n,.slice o.aK o.key.length o.cK,.slice o.aV o.val.length o.cV,.slice o.i.aK o.i.key.length o.i.cK,.slice o.i.aV o.i.val.length o.i.cV,.int .i64 o.i.child,.int .i64 o.i.size] 75)=w1 at *;clear hw1;obtain⟨gi,hgi⟩:∃gi,w.heap.size=gi:=⟨_,rfl⟩;simp only[hgi] at X0 Z0 c0 c1 c2 c3 c4 c5 c6 c7 ⊢;clear hgi;have DR:=hide (dr2 w1);have SS:Hid (∀W:World,Below w1.heap.size w1 W->W.cell? ⟨gi,1,none⟩=some (.int .i64 o.n)):=fun W hb=>(eight13 (blk13 X0.out hb)).2.1
 clear c0 c1 c2 c3 c4 c5 c6 c7;have eqb:(bpn o.n==bpn o.n)=true:=by simp
 refine wp_region_held_drew (S:=fun W=>W.cell? ⟨gi,1,none⟩=some (.int .i64 o.n)) (by kernel_rfl) (SS.out _ DR.out) (fun hHeld=>?_)
 refine tk 0 ?_;refine tk 1 ?_;refine tk 3 ?_;refine tk 4 ?_;refine tw 2 fun K hK=>?_
 go_simp;refine(bPages_any _ o.n HO.out.nn).mono ?_;rintro _ w2 ⟨rfl,hw2⟩;rw[hw2];clear hw2;go_wp2_with fail
 refine hK.out _ _ (SS.out _ DR.out) (fun hHeld=>?_)
 clear hK K;try simp only[pt]
 refine tw 5 fun K hK=>?_
 go_simp;refine(rbPages_any _ o.n HO.out.nn).mono ?_;rintro _ w2 ⟨rfl,hw2⟩;rw[hw2];clear hw2;go_wp2_with fail
 refine hK.out _ _ (SS.out _ DR.out) (fun hHeld=>?_)
 clear hK K;try simp only[pt]
 refine tk 6 ?_;refine tk 7 ?_;refine td ?_;clear hHeld;have H2:=hide (H1.out.keep DR.out);go_wp2_with fail
 go_ret;exact⟨rfl,S,D,pc,col,colR,K0,H2.out,HR.out,HB.out.le (by omega),HKB.out.le (by omega)⟩
theorem ldo_6(v w:World)(wb b rb pb mb:Nat)(S:Vs)(D:Rd)(pc col colR:Nat->Nat)(K0:Bks)(h:St v w wb b rb pb mb S D pc col colR K0)(hr:Rel S.X D)(M:Nat)(hB:Bnd S M)(hKb:Kb K0 M)(hM:M<=1000000000000)(o:Ov)(ho:Fo w col colR o)(hk:o.kind=6):
 Calls Tryz.prog 24 #[.pointer (some ⟨wb,0,none⟩),o.vl] w fun e w'=>Nxt v wb b rb pb mb M e w':=by
 have OC:Hid (o.cs=#[.int .i64 6,.int .i64 o.n,.slice o.aK o.key.length o.cK,.slice o.aV o.val.length o.cV,.slice o.i.aK o.i.key.length o.i.cK,.slice o.i.aV o.i.val.length o.i.cV,.int .i64 o.i.child,.int .i64 o.i.size]):=by show _=_;unfold Ov.cs;rw[hk]
 have OV:Hid (o.vl=.agg o.cs):=rfl;rw[OV.out,OC.out];have A0:=hide (al w (.cells #[.int .i64 6,.int .i64 o.n,.slice o.aK o.key.length o.cK,.slice o.aV o.val.length o.cV,.slice o.i.aK o.i.key.length o.i.cK,.slice o.i.aV o.i.val.length o.i.cV,.int .i64 o.i.child,.int .i64 o.i.size] 75));have X0:=hide (heap_alloc_new w (.cells #[.int .i64 6,.int .i64 o.n,.slice o.aK o.key.length o.cK,.slice o.aV o.val.length o.cV,.slice o.i.aK o.i.key.length o.i.cK,.slice o.i.aV o.i.val.length o.i.cV,.int .i64 o.i.child,.int .i64 o.i.size] 75));have Z0:=hide (h.z2 (Nat.le_refl w.heap.size));have H1:=hide (h.keep A0.out);have HO:=hide (ho.keep A0.out);have HR:=hide hr;have HKB:=hide hKb;have HB:=hide hB;clear h ho hr hKb hB hk;go_enter Tryz.func24,Tryz.ntmps24;obtain⟨c0,c1,c2,c3,c4,c5,c6,c7⟩:=eight13 X0.out;go_upto_region 15 with fail
 generalize hw1:w.alloc (.cells #[.int .i64 6,.int .i64 o.n,.slice o.aK o.key.length o.cK,.slice o.aV o.val.length o.cV,.slice o.i.aK o.i.key.length o.i.cK,.slice o.i.aV o.i.val.length o.i.cV,.int .i64 o.i.child,.int .i64 o.i.size] 75)=w1 at *;clear hw1;obtain⟨gi,hgi⟩:∃gi,w.heap.size=gi:=⟨_,rfl⟩;simp only[hgi] at X0 Z0 c0 c1 c2 c3 c4 c5 c6 c7 ⊢;clear hgi;have DR:=hide (dr2 w1);have SS:Hid (∀W:World,Below w1.heap.size w1 W->W.cell? ⟨wb,0,none⟩=some (.pointer (some ⟨b,0,none⟩))/\W.cell? ⟨gi,1,none⟩=some (.int .i64 o.n)):=fun W hb=>⟨((H1.out.keep hb).cells).1,(eight13 (blk13 X0.out hb)).2.1⟩
 clear c0 c1 c2 c3 c4 c5 c6 c7;refine wp_region_held_drew (S:=fun W=>W.cell? ⟨wb,0,none⟩=some (.pointer (some ⟨b,0,none⟩))/\W.cell? ⟨gi,1,none⟩=some (.int .i64 o.n)) (by kernel_rfl) (SS.out _ DR.out) (fun hHeld=>?_)
 refine tk 0 ?_;refine tk 1 ?_;refine tk 2 ?_;refine tk 3 ?_;refine tk 4 ?_;refine tk 5 ?_;refine tw 6 fun K hK=>?_
 go_simp;refine(pKeep v w1.drew wb b rb pb mb S D pc col colR K0 (H1.out.keep DR.out) HR.out M HB.out hM o.n).mono ?_;rintro _ w2 ⟨pc2,col2,rfl,hS2,hF2⟩;have H2:=hide hS2;have F2:=hide ((Vf.keep DR.out).trans hF2);have X2:=hide (F2.out.box X0.out Z0.out.1);clear hS2 hF2;go_wp2_with fail
 refine hK.out _ _ (⟨(H2.out.cells).1,(eight13 X2.out).2.1⟩) (fun hHeld=>?_)
 clear hK K;try simp only[pt]
 refine tk 7 ?_;refine td ?_;clear hHeld SS DR;go_upto_region 16 with fail
 have DR:=hide (dr2 w2);have SS:Hid (∀W:World,Below w2.heap.size w2 W->W.cell? ⟨wb,1,none⟩=some (.pointer (some ⟨rb,0,none⟩))/\W.cell? ⟨gi,1,none⟩=some (.int .i64 o.n)):=fun W hb=>⟨((H2.out.keep hb).cells).2.1,(eight13 (blk13 X2.out hb)).2.1⟩
 refine wp_region_held_drew (S:=fun W=>W.cell? ⟨wb,1,none⟩=some (.pointer (some ⟨rb,0,none⟩))/\W.cell? ⟨gi,1,none⟩=some (.int .i64 o.n)) (by kernel_rfl) (SS.out _ DR.out) (fun hHeld=>?_)
 refine tk 0 ?_;refine tk 1 ?_;refine tk 2 ?_;refine tk 3 ?_;refine tk 4 ?_;refine tk 5 ?_;refine tk 6 ?_;refine tw 7 fun K hK=>?_
 go_simp;refine(dKeep v w2.drew wb b rb pb mb (S.kept o.n) D pc2 col2 colR K0 (H2.out.keep DR.out) (by rw[<-HR.out.rf];have:=HR.out.ok.r2;omega) o.n).mono ?_
 rintro _ w3 ⟨rfl,hS3,hF3⟩;obtain⟨ee,hrel⟩:=HR.out.keep H1.out.fi o.n;have R3:=hide hrel;rw[<-ee];have eqb:((S.X.P.inc o.n).1==(S.X.P.inc o.n).1)=true:=by simp
 have H3:=hide hS3;have F3:=hide ((Vf.keep DR.out).trans hF3);have X3:=hide (F3.out.box X2.out Z0.out.2);clear hS3 hF3 hrel ee;go_wp2_with fail
 refine hK.out _ _ (⟨(H3.out.cells).2.1,(eight13 X3.out).2.1⟩) (fun hHeld=>?_)
 clear hK K;try simp only[pt]
 refine tk 8 ?_;refine tk 9 ?_;refine td ?_;clear hHeld;go_wp2_with fail
 go_ret;exact⟨rfl,S.kept o.n,(D.inc o.n).2,pc2,col2,colR,K0,H3.out,R3.out,(HB.out.keep HR.out.ok H1.out.fi H1.out.sm o.n).1.le (by omega),HKB.out.le (by omega)⟩
theorem ldo_7(v w:World)(wb b rb pb mb:Nat)(S:Vs)(D:Rd)(pc col colR:Nat->Nat)(K0:Bks)(h:St v w wb b rb pb mb S D pc col colR K0)(hr:Rel S.X D)(M:Nat)(hB:Bnd S M)(hKb:Kb K0 M)(hM:M<=1000000000000)(o:Ov)(ho:Fo w col colR o)(hk:o.kind=7):
 Calls Tryz.prog 24 #[.pointer (some ⟨wb,0,none⟩),o.vl] w fun e w'=>Nxt v wb b rb pb mb M e w':=by
 have OC:Hid (o.cs=#[.int .i64 7,.int .i64 o.n,.slice o.aK o.key.length o.cK,.slice o.aV o.val.length o.cV,.slice o.i.aK o.i.key.length o.i.cK,.slice o.i.aV o.i.val.length o.i.cV,.int .i64 o.i.child,.int .i64 o.i.size]):=by show _=_;unfold Ov.cs;rw[hk]
 have OV:Hid (o.vl=.agg o.cs):=rfl;rw[OV.out,OC.out];have A0:=hide (al w (.cells #[.int .i64 7,.int .i64 o.n,.slice o.aK o.key.length o.cK,.slice o.aV o.val.length o.cV,.slice o.i.aK o.i.key.length o.i.cK,.slice o.i.aV o.i.val.length o.i.cV,.int .i64 o.i.child,.int .i64 o.i.size] 75));have X0:=hide (heap_alloc_new w (.cells #[.int .i64 7,.int .i64 o.n,.slice o.aK o.key.length o.cK,.slice o.aV o.val.length o.cV,.slice o.i.aK o.i.key.length o.i.cK,.slice o.i.aV o.i.val.length o.i.cV,.int .i64 o.i.child,.int .i64 o.i.size] 75));have Z0:=hide (h.z2 (Nat.le_refl w.heap.size));have H1:=hide (h.keep A0.out);have HO:=hide (ho.keep A0.out);have HR:=hide hr;have HKB:=hide hKb;have HB:=hide hB;clear h ho hr hKb hB hk;go_enter Tryz.func24,Tryz.ntmps24;obtain⟨c0,c1,c2,c3,c4,c5,c6,c7⟩:=eight13 X0.out;go_upto_region 18 with fail
 generalize hw1:w.alloc (.cells #[.int .i64 7,.int .i64 o.n,.slice o.aK o.key.length o.cK,.slice o.aV o.val.length o.cV,.slice o.i.aK o.i.key.length o.i.cK,.slice o.i.aV o.i.val.length o.i.cV,.int .i64 o.i.child,.int .i64 o.i.size] 75)=w1 at *;clear hw1;obtain⟨gi,hgi⟩:∃gi,w.heap.size=gi:=⟨_,rfl⟩;simp only[hgi] at X0 Z0 c0 c1 c2 c3 c4 c5 c6 c7 ⊢;clear hgi;have DR:=hide (dr2 w1);have SS:Hid (∀W:World,Below w1.heap.size w1 W->W.cell? ⟨wb,0,none⟩=some (.pointer (some ⟨b,0,none⟩))/\W.cell? ⟨gi,1,none⟩=some (.int .i64 o.n)):=fun W hb=>⟨((H1.out.keep hb).cells).1,(eight13 (blk13 X0.out hb)).2.1⟩
 clear c0 c1 c2 c3 c4 c5 c6 c7;refine wp_region_held_drew (S:=fun W=>W.cell? ⟨wb,0,none⟩=some (.pointer (some ⟨b,0,none⟩))/\W.cell? ⟨gi,1,none⟩=some (.int .i64 o.n)) (by kernel_rfl) (SS.out _ DR.out) (fun hHeld=>?_)
 refine tk 0 ?_;refine tk 1 ?_;refine tk 2 ?_;refine tk 3 ?_;refine tk 4 ?_;refine tk 5 ?_;refine tw 6 fun K hK=>?_
 go_simp;refine(pDrop v w1.drew wb b rb pb mb S D pc col colR K0 (H1.out.keep DR.out) HR.out M HB.out hM o.n).mono ?_;rintro _ w2 ⟨er,S2,pc2,col2,rfl,hS2,hP2,hB2,hF2⟩;have P2:=hide hP2;have BN:=hide (hB2.le (show M+1<=M+20 by omega))
 have H2:=hide hS2;have F2:=hide ((Vf.keep DR.out).trans hF2);have X2:=hide (F2.out.box X0.out Z0.out.1);clear hS2 hF2 hP2 hB2;go_wp2_with fail
 refine hK.out _ _ (⟨(H2.out.cells).1,(eight13 X2.out).2.1⟩) (fun hHeld=>?_)
 clear hK K;try simp only[pt]
 refine tk 7 ?_;refine td ?_;clear hHeld SS DR;go_upto_region 19 with fail
 have DR:=hide (dr2 w2);have SS:Hid (∀W:World,Below w2.heap.size w2 W->W.cell? ⟨wb,1,none⟩=some (.pointer (some ⟨rb,0,none⟩))/\W.cell? ⟨gi,1,none⟩=some (.int .i64 o.n)):=fun W hb=>⟨((H2.out.keep hb).cells).2.1,(eight13 (blk13 X2.out hb)).2.1⟩
 refine wp_region_held_drew (S:=fun W=>W.cell? ⟨wb,1,none⟩=some (.pointer (some ⟨rb,0,none⟩))/\W.cell? ⟨gi,1,none⟩=some (.int .i64 o.n)) (by kernel_rfl) (SS.out _ DR.out) (fun hHeld=>?_)
 refine tk 0 ?_;refine tk 1 ?_;refine tk 2 ?_;refine tk 3 ?_;refine tk 4 ?_;refine tk 5 ?_;refine tk 6 ?_;refine tw 7 fun K hK=>?_
 go_simp;refine(dDrop v w2.drew wb b rb pb mb S2 D pc2 col2 colR K0 (H2.out.keep DR.out) HR.out.facts.1 HR.out.facts.2 o.n).mono ?_;rintro _ w3 ⟨er3,D3,colR3,rfl,hS3,hD3,hF3⟩;obtain⟨ee,hrel⟩:=HR.out.rel H1.out.fi (y:=z33 o.n) rfl P2.out hD3;have R3:=hide hrel;subst ee;have eqb:((er:Int)==(er:Int))=true:=by simp
 have H3:=hide hS3;have F3:=hide ((Vf.keep DR.out).trans hF3);have X3:=hide (F3.out.box X2.out Z0.out.2);clear hS3 hF3 hrel hD3;go_wp2_with fail
 refine hK.out _ _ (⟨(H3.out.cells).2.1,(eight13 X3.out).2.1⟩) (fun hHeld=>?_)
 clear hK K;try simp only[pt]
 refine tk 8 ?_;refine tk 9 ?_;refine td ?_;clear hHeld;go_wp2_with fail
 go_ret;exact⟨rfl,S2,D3,pc2,col2,colR3,K0,H3.out,R3.out,BN.out,HKB.out.le (by omega)⟩
theorem ldo_8(v w:World)(wb b rb pb mb:Nat)(S:Vs)(D:Rd)(pc col colR:Nat->Nat)(K0:Bks)(h:St v w wb b rb pb mb S D pc col colR K0)(hr:Rel S.X D)(M:Nat)(hB:Bnd S M)(hKb:Kb K0 M)(hM:M<=1000000000000)(o:Ov)(ho:Fo w col colR o)(hk:¬(o.kind=0\/o.kind=1\/o.kind=2\/o.kind=3\/o.kind=4\/o.kind=5\/o.kind=6\/o.kind=7)):
 Calls Tryz.prog 24 #[.pointer (some ⟨wb,0,none⟩),o.vl] w fun e w'=>Nxt v wb b rb pb mb M e w':=by
 have OC:Hid (o.cs=#[.int .i64 o.kind,.int .i64 o.n,.slice o.aK o.key.length o.cK,.slice o.aV o.val.length o.cV,.slice o.i.aK o.i.key.length o.i.cK,.slice o.i.aV o.i.val.length o.i.cV,.int .i64 o.i.child,.int .i64 o.i.size]):=by exact rfl
 have OV:Hid (o.vl=.agg o.cs):=rfl;rw[OV.out,OC.out];have A0:=hide (al w (.cells #[.int .i64 o.kind,.int .i64 o.n,.slice o.aK o.key.length o.cK,.slice o.aV o.val.length o.cV,.slice o.i.aK o.i.key.length o.i.cK,.slice o.i.aV o.i.val.length o.i.cV,.int .i64 o.i.child,.int .i64 o.i.size] 75));have X0:=hide (heap_alloc_new w (.cells #[.int .i64 o.kind,.int .i64 o.n,.slice o.aK o.key.length o.cK,.slice o.aV o.val.length o.cV,.slice o.i.aK o.i.key.length o.i.cK,.slice o.i.aV o.i.val.length o.i.cV,.int .i64 o.i.child,.int .i64 o.i.size] 75));have Z0:=hide (h.z2 (Nat.le_refl w.heap.size));have H1:=hide (h.keep A0.out);have HO:=hide (ho.keep A0.out);have HR:=hide hr;have HKB:=hide hKb;have HB:=hide hB;have k0:(o.kind==0)=false:=by simp;omega
 have k1:(o.kind==1)=false:=by simp;omega
 have k2:(o.kind==2)=false:=by simp;omega
 have k3:(o.kind==3)=false:=by simp;omega
 have k4:(o.kind==4)=false:=by simp;omega
 have k5:(o.kind==5)=false:=by simp;omega
 have k6:(o.kind==6)=false:=by simp;omega
 have k7:(o.kind==7)=false:=by simp;omega
 clear h ho hr hKb hB hk;go_enter Tryz.func24,Tryz.ntmps24;obtain⟨c0,c1,c2,c3,c4,c5,c6,c7⟩:=eight13 X0.out;go_upto_region 20 with fail
 generalize hw1:w.alloc (.cells #[.int .i64 o.kind,.int .i64 o.n,.slice o.aK o.key.length o.cK,.slice o.aV o.val.length o.cV,.slice o.i.aK o.i.key.length o.i.cK,.slice o.i.aV o.i.val.length o.i.cV,.int .i64 o.i.child,.int .i64 o.i.size] 75)=w1 at *;clear hw1;obtain⟨gi,hgi⟩:∃gi,w.heap.size=gi:=⟨_,rfl⟩;simp only[hgi] at X0 Z0 c0 c1 c2 c3 c4 c5 c6 c7 ⊢;clear hgi;obtain⟨q0,q1,q2,q3,q4,q5⟩:=H1.out.cells;clear c0 c1 c2 c3 c4 c5 c6 c7;go_wp2_with fail
 refine(pSettle v w1 wb b rb pb mb S D pc col colR K0 H1.out M HB.out hM).mono ?_;rintro _ w2 ⟨pc2,col2,rfl,hS2,hF2⟩;have H2:=hide hS2;clear hS2 hF2 q0 q1 q2 q3 q4 q5;obtain⟨q0,q1,q2,q3,q4,q5⟩:=H2.out.cells;go_wp2_with fail
 refine(dSettle v w2 wb b rb pb mb S.settle D pc2 col2 colR K0 H2.out).mono ?_;rintro _ w3 ⟨D3,rfl,hS3,hs3,hF3⟩;have H3:=hide hS3;have R3:=hide (HR.out.settle hs3);clear hS3 hs3 hF3 q0 q1 q2 q3 q4 q5;go_wp2_with fail
 go_ret;exact⟨rfl,S.settle,D3,pc2,col2,colR,K0,H3.out,R3.out,(HB.out.settle H1.out.fi H1.out.sm).1.le (by omega),HKB.out.le (by omega)⟩
theorem ldo_any(v w:World)(wb b rb pb mb:Nat)(S:Vs)(D:Rd)(pc col colR:Nat->Nat)(K0:Bks)(h:St v w wb b rb pb mb S D pc col colR K0)(hr:Rel S.X D)(M:Nat)(hB:Bnd S M)(hKb:Kb K0 M)(hM:M<=1000000000000)(o:Ov)(ho:Fo w col colR o):
 Calls Tryz.prog 24 #[.pointer (some ⟨wb,0,none⟩),o.vl] w fun e w'=>Nxt v wb b rb pb mb M e w':=by
 by_cases k0:o.kind=0
 · exact ldo_0 v w wb b rb pb mb S D pc col colR K0 h hr M hB hKb hM o ho k0
 by_cases k1:o.kind=1
 · exact ldo_1 v w wb b rb pb mb S D pc col colR K0 h hr M hB hKb hM o ho k1
 by_cases k2:o.kind=2
 · exact ldo_2 v w wb b rb pb mb S D pc col colR K0 h hr M hB hKb hM o ho k2
 by_cases k3:o.kind=3
 · exact ldo_3 v w wb b rb pb mb S D pc col colR K0 h hr M hB hKb hM o ho k3
 by_cases k4:o.kind=4
 · exact ldo_4 v w wb b rb pb mb S D pc col colR K0 h hr M hB hKb hM o ho k4
 by_cases k5:o.kind=5
 · exact ldo_5 v w wb b rb pb mb S D pc col colR K0 h hr M hB hKb hM o ho k5
 by_cases k6:o.kind=6
 · exact ldo_6 v w wb b rb pb mb S D pc col colR K0 h hr M hB hKb hM o ho k6
 by_cases k7:o.kind=7
 · exact ldo_7 v w wb b rb pb mb S D pc col colR K0 h hr M hB hKb hM o ho k7
 exact ldo_8 v w wb b rb pb mb S D pc col colR K0 h hr M hB hKb hM o ho (by omega)
end Go.Proofs.YtcpkinhneehomaaGreat
