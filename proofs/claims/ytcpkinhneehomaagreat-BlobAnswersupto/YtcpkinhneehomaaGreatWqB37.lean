import Derived.Test.YtcpkinhneehomaaGreatWqB36
set_option linter.unusedVariables false
set_option linter.unusedSimpArgs false
set_option maxHeartbeats 32000000
set_option maxRecDepth 16000
namespace Go.Proofs.YtcpkinhneehomaaGreat
open Go.RowKit
theorem gatF_len{rd:Int->Option Pg}{s:Nat}:∀(t:Nat)(acc:List Nat)(n:Int),acc.length<=s->(gatF rd s t acc n).2.length<=s
 |0,acc,n,h=>h
 |t+1,acc,n,h=>by
  unfold gatF;split
  · split
    · exact Nat.zero_le _
    · rename_i p _;split
      · exact Nat.zero_le _
      · split
        · exact Nat.zero_le _
        · split
          · exact Nat.zero_le _
          · rename_i h1 h2 h3;refine gatF_len t _ _ ?_;rw[List.length_append];omega
  · exact h
theorem ldv_len2(rd:Int->Option Pg)(x:Iv):(if (ldv rd x).1=0 then (ldv rd x).2 else []).length<=3840:=by
 have k:(ldv rd x).2.length<=3840:=by
  unfold ldv;split
  · exact Nat.zero_le _
  · split
    · exact Nat.le_trans (gatF_len _ _ _ (Nat.zero_le _)) (by omega)
    · split
      · exact Nat.zero_le _
      · show x.val.length<=3840;omega
 split
 · exact k
 · exact Nat.zero_le _
def LdQ(w w':World)(vs vs' us us':List Value):Prop:=(vs'=vs/\us'=us)\/∃t x:Br,vs'=vs++[bv t]/\us'=us++[bv x]/\t.l=x.l/\B8 t.l/\Rw w' t.a t.c t.l/\Rw w' x.a x.c x.l/\(∀y,t.a=some y->w.heap.size<=y.block)/\(∀y,x.a=some y->w.heap.size<=y.block)/\vs.length<30/\t.l.length<=3840
def Ld2(w:World)(wb b rb:Nat)(own:Nat->Prop)(v2 v3:Value)(vs us:List Value)(e:Ending)(w':World):Prop:=e=.returned (.bool true)/\∃aT' cT' vs' aX' cX' us',Wk2 w' wb b rb own v2 v3 aT' cT' vs' aX' cX' us'/\But own w w'/\LdQ w w' vs vs' us us'
theorem lload2_any(w:World)(wb b rb:Nat)(own:Nat->Prop)(v2 v3:Value)(aT:Option Addr)(cT:Nat)(vs:List Value)(aX:Option Addr)(cX:Nat)(us:List Value)(hW:Wk2 w wb b rb own v2 v3 aT cT vs aX cX us)(hw:∀k,w.heap.size<=k->own k)(rd:Int->Option Pg)(hV:ReadsAs 44 (.pointer (some ⟨b,0,none⟩)) rd w)(hR:ReadsAs 45 (.pointer (some ⟨rb,0,none⟩)) rd w)(i:Iv)(hi:Ii w i)(hk:i.key.length+64<=140737488355328)(hv:i.val.length+64<=140737488355328)(hvs:vs.length<=1000)(hus:us.length=vs.length):
 Calls Tryz.prog 83 #[.pointer (some ⟨wb,0,none⟩),i.vl] w fun e w'=>Ld2 w wb b rb own v2 v3 vs us e w':=by
 have A0:=hide (al w (.cells i.cs 51));have X0:=hide (heap_alloc_new w (.cells i.cs 51));have WW:=hide hW;have RV:=hide hV;have RR:=hide hR;have HI:=hide hi;have OW:=hide hw;have HLK:=hide hk;have HLV:=hide hv;have HUS:=hide hus;have SP:=hide (spared_any (w.alloc (.cells i.cs 51)) i (hi.keep A0.out) (by omega) (by omega))
 clear hW hV hR hi hw hk hv hus;have IV:Hid (i.vl=.agg i.cs):=rfl;rw[IV.out] at SP ⊢;have IC:Hid (i.cs=#[.slice i.aK i.key.length i.cK,.slice i.aV i.val.length i.cV,.int .i64 i.child,.int .i64 i.size]):=rfl;rw[IC.out] at SP A0 X0 ⊢;go_enter Tryz.func83,Tryz.ntmps83;go_wp2_with fail
 refine SP.out.mono ?_;rintro _ w2 ⟨gK,gV,rfl,hS⟩;have X2:=hide (blk13 X0.out hS.b);have B2:=hide (bt A0.out hS.b);have KR:=hide hS.k;have VR:=hide hS.v
 have NKV:Hid (w.heap.size<=gK/\w.heap.size<=gV/\gK≠gV/\gV≠w.heap.size/\gV<w2.heap.size):=⟨Nat.le_trans A0.out.size hS.nk,Nat.le_trans A0.out.size hS.nv,hS.ne,by
  have h1:=hS.nv;have h2:=(Array.getElem?_eq_some_iff.1 X0.out).1;omega,hS.v.lt⟩
 clear hS SP A0 X0;obtain⟨x,hx⟩:∃x,spi i gK gV=x:=⟨_,rfl⟩;have HX:=hide hx;rw[hx];clear hx;have XV:Hid (x.vl=.agg #[.slice x.aK x.key.length x.cK,.slice x.aV x.val.length x.cV,.int .i64 x.child,.int .i64 x.size]):=rfl;rw[XV.out];have A3:=hide (al w2 (.cells #[.slice x.aK x.key.length x.cK,.slice x.aV x.val.length x.cV,.int .i64 x.child,.int .i64 x.size] 51));have X3:=hide (heap_alloc_new w2 (.cells #[.slice x.aK x.key.length x.cK,.slice x.aV x.val.length x.cV,.int .i64 x.child,.int .i64 x.size] 51));go_upto_region 2 with fail
 have I3:=hide (blk13 X2.out A3.out);have B3:=hide (bt B2.out A3.out);have K3:=hide (rowIs_below KR.out A3.out);have V3:=hide (rowIs_below VR.out A3.out);generalize hw3:w2.alloc (.cells #[.slice x.aK x.key.length x.cK,.slice x.aV x.val.length x.cV,.int .i64 x.child,.int .i64 x.size] 51)=w3 at *;clear hw3 A3 X2 KR VR B2;obtain⟨gx,hgx⟩:∃gx,w2.heap.size=gx:=⟨_,rfl⟩;obtain⟨gi,hgi⟩:∃gi,w.heap.size=gi:=⟨_,rfl⟩;have GX:Hid (gi<=gK/\gi<=gV/\gK≠gV/\gV≠gi/\gV<gx):=by rw[<-hgx,<-hgi];exact NKV.out
 have HGI:=hide hgi;simp only[hgx] at X3 ⊢;simp only[hgi] at I3 ⊢;clear hgx hgi NKV
 have XI:Hid (Ii w3 x):=by
  have h1:=HI.out;rw[<-HX.out];exact⟨spare_bs K3.out (Nat.le_add_right _ _) h1.bk.1 h1.bk.2.1,by show i.key.length<=i.key.length+64;omega,spare_bs V3.out (Nat.le_add_right _ _) h1.bv.1 h1.bv.2.1,by show i.val.length<=i.val.length+64;omega,h1.nc,h1.ns⟩
 have DR:=hide (dr2 w3);have LB:=hide (bLoad_any w3.drew (.pointer (some ⟨b,0,none⟩)) rd (RV.out.keep (bt B3.out DR.out)) x (XI.out.keep DR.out));rw[XV.out] at LB;have LX:Hid (ldv rd x=ldv rd i):=ldv_it (by rw[<-HX.out];rfl)
 rw[LX.out] at LB;have SS:Hid (∀W:World,Below w3.heap.size w3 W->W.cell? ⟨wb,0,none⟩=some (.pointer (some ⟨b,0,none⟩))/\W.cell? ⟨gx,0,none⟩=some (.slice x.aK x.key.length x.cK)/\W.cell? ⟨gx,1,none⟩=some (.slice x.aV x.val.length x.cV)/\W.cell? ⟨gx,2,none⟩=some (.int .i64 x.child)/\W.cell? ⟨gx,3,none⟩=some (.int .i64 x.size)):=fun W hb=>⟨(WW.out.keep (bt B3.out hb)).cells.1,four13 (blk13 X3.out hb)⟩
 obtain⟨er,her⟩:∃er,(ldv rd i).1=er:=⟨_,rfl⟩;obtain⟨bl,hbl⟩:∃bl,(if (ldv rd i).1=0 then (ldv rd i).2 else [])=bl:=⟨_,rfl⟩
 have HER:=hide her;have HBL:=hide hbl;clear her hbl;refine wp_region_held_drew (S:=fun W=>W.cell? ⟨wb,0,none⟩=some (.pointer (some ⟨b,0,none⟩))/\W.cell? ⟨gx,0,none⟩=some (.slice x.aK x.key.length x.cK)/\W.cell? ⟨gx,1,none⟩=some (.slice x.aV x.val.length x.cV)/\W.cell? ⟨gx,2,none⟩=some (.int .i64 x.child)/\W.cell? ⟨gx,3,none⟩=some (.int .i64 x.size)) (by kernel_rfl) (SS.out _ DR.out) (fun hHeld=>?_)
 refine tk 0 ?_;refine tk 1 ?_;refine tk 2 ?_;refine tk 3 ?_;refine tk 4 ?_;refine tw 5 fun K hK=>?_
 go_simp;refine LB.out.mono ?_;intro _ w4 hG4;obtain⟨ab,cb,rfl,hO,hb8⟩:=hG4.uni;rw[HBL.out,HER.out];rw[HBL.out] at hO hb8;have O4:=hide hO;have H8:=hide hb8;have B4:=hide (bt DR.out hO.b);clear hO hb8 hG4;go_wp2_with fail
 refine hK.out _ _ (SS.out _ B4.out) (fun hHeld=>?_)
 clear hK K;try simp only[pt]
 refine tk 6 ?_;refine tk 7 ?_;refine tk 8 ?_;refine tk 9 ?_;refine tk 10 ?_;refine td ?_;clear hHeld SS DR LB;have X4:=hide (blk13 X3.out B4.out);have I4:=hide (blk13 I3.out B4.out);have K4:=hide (rowIs_below K3.out B4.out);have V4:=hide (rowIs_below V3.out B4.out);have W4:=hide (bt B3.out B4.out)
 have NB:Hid (∀y,ab=some y->gx<y.block):=fun y hy=>by
  have h1:=vnew_at O4.out.n hy;have h2:gx<w3.heap.size:=(Array.getElem?_eq_some_iff.1 X3.out).1;exact Nat.lt_of_lt_of_le h2 h1
 have RB:=hide O4.out.r;clear X3 I3 K3 V3 B3 B4 O4;have DR:=hide (dr2 w4);have LR:=hide (rbLoad_any w4.drew (.pointer (some ⟨rb,0,none⟩)) rd (RR.out.keep (bt W4.out DR.out)) i (HI.out.keep (bt W4.out DR.out)));rw[IV.out,IC.out] at LR;have SS:Hid (∀W:World,Below w4.heap.size w4 W->W.cell? ⟨wb,1,none⟩=some (.pointer (some ⟨rb,0,none⟩))/\W.cell? ⟨gi,0,none⟩=some (.slice i.aK i.key.length i.cK)/\W.cell? ⟨gi,1,none⟩=some (.slice i.aV i.val.length i.cV)/\W.cell? ⟨gi,2,none⟩=some (.int .i64 i.child)/\W.cell? ⟨gi,3,none⟩=some (.int .i64 i.size)):=fun W hb=>⟨(WW.out.keep (bt W4.out hb)).cells.2.1,four13 (blk13 I4.out hb)⟩
 go_upto_region 3 with fail
 refine wp_region_held_drew (S:=fun W=>W.cell? ⟨wb,1,none⟩=some (.pointer (some ⟨rb,0,none⟩))/\W.cell? ⟨gi,0,none⟩=some (.slice i.aK i.key.length i.cK)/\W.cell? ⟨gi,1,none⟩=some (.slice i.aV i.val.length i.cV)/\W.cell? ⟨gi,2,none⟩=some (.int .i64 i.child)/\W.cell? ⟨gi,3,none⟩=some (.int .i64 i.size)) (by kernel_rfl) (SS.out _ DR.out) (fun hHeld=>?_)
 refine tk 0 ?_;refine tk 1 ?_;refine tk 2 ?_;refine tk 3 ?_;refine tk 4 ?_;refine tw 5 fun K hK=>?_
 go_simp;refine LR.out.mono ?_;intro _ w5 hG5;obtain⟨ac,cc,rfl,hO,_⟩:=hG5.uni;rw[HBL.out,HER.out];rw[HBL.out] at hO;have O5:=hide hO;have B5:=hide (bt DR.out hO.b);clear hO hG5;go_wp2_with fail
 refine hK.out _ _ (SS.out _ B5.out) (fun hHeld=>?_)
 clear hK K;try simp only[pt]
 refine tk 6 ?_;refine tk 7 ?_;refine tk 8 ?_;refine tk 9 ?_;refine tk 10 ?_;refine td ?_;clear hHeld SS DR LR;have X5:=hide (blk13 X4.out B5.out);have I5:=hide (blk13 I4.out B5.out);have K5:=hide (rowIs_below K4.out B5.out);have V5:=hide (rowIs_below V4.out B5.out);have W5:=hide (bt W4.out B5.out);have RB5:=hide (RB.out.keep B5.out)
 have NC:Hid (∀y,ac=some y->gx<y.block):=fun y hy=>by
  have h1:=vnew_at O5.out.n hy;have h2:gx<w4.heap.size:=(Array.getElem?_eq_some_iff.1 X4.out).1;exact Nat.lt_of_lt_of_le h2 h1
 have RC5:=hide O5.out.r;clear X4 I4 K4 V4 W4 B5 O5 RB;have EQ:=hide (EqBytes_same w5 ab ac bl.length bl.length cb cc bl (RB5.out.bs H8.out RB5.out.len_le) (RC5.out.bs H8.out RC5.out.len_le) rfl rfl);have dEr:((er:Int) != (er:Int))=false:=by simp
 go_wp2_with fail
 refine EQ.out.mono ?_;rintro _ w6 ⟨rfl,hb6⟩;have X6:=hide (blk13 X5.out hb6);have I6:=hide (blk13 I5.out hb6);have K6:=hide (rowIs_below K5.out hb6);have V6:=hide (rowIs_below V5.out hb6);have W6:=hide (bt W5.out hb6);have RB6:=hide (RB5.out.keep hb6);have RC6:=hide (RC5.out.keep hb6);clear hb6 X5 I5 K5 V5 W5 RB5 RC5 EQ;have KP:=hide (kept_any w6 i (HI.out.keep W6.out) (by have:=HLK.out;omega) (by have:=HLV.out;omega) gK gV K6.out V6.out)
 rw[HX.out,XV.out,IV.out,IC.out] at KP;obtain⟨y0,y1,y2,y3⟩:=four13 I6.out;obtain⟨z0,z1,z2,z3⟩:=four13 X6.out;go_wp2_with fail
 refine KP.out.mono ?_;rintro _ w7 ⟨rfl,hb7⟩;have X7:=hide (blk13 X6.out hb7);have V7:=hide (rowIs_below V6.out hb7);have K7:=hide (rowIs_below K6.out hb7);have W7:=hide (bt W6.out hb7);have RB7:=hide (RB6.out.keep hb7);have RC7:=hide (RC6.out.keep hb7);clear hb7 X6 I6 K6 V6 W6 RB6 RC6 KP y0 y1 y2 y3 z0 z1 z2 z3;have XF:Hid (x.aV=some ⟨gV,0,none⟩/\x.val.length=i.val.length/\x.cV=i.val.length+64):=by rw[<-HX.out];exact⟨rfl,rfl,rfl⟩
 obtain⟨n,hn⟩:∃n,i.val.length=n:=⟨_,rfl⟩;have HN:=hide hn;rw[hn] at V7 XF;rw[XF.out.1,XF.out.2.1,XF.out.2.2] at X7;have hnb:n+64<=140737488355328:=by have:=HLV.out;rw[hn] at this;exact this
 clear hn;have I8:Hid (B8 i.val):=HI.out.bv.1;go_wp2_with fail
 go_loopw [10] (fun vj wx=>∃(j:Nat)(l:List Nat),j<=n/\vj=.int .i64 (j:Int)/\l.length=n/\B8 l/\wx.rowIs gV 5 (n+64) (spF l)/\But (fun k=>k=gV) w7 wx) (fun vj _=>n-(intOf vj).toNat)
 case atStart=>exact⟨0,i.val,Nat.zero_le _,rfl,HN.out,I8.out,V7.out,But.refl _ _⟩
 case round=>
  obtain⟨j,l,hj,rfl,hll,hl8,hRow,hBt⟩:=hrel;have LL:=hide hll;have L8:=hide hl8;have RW:=hide hRow;have BT:=hide hBt;clear hll hl8 hRow hBt;have XW:=hide (BT.out.same X7.out (fun e=>by have:=GX.out;omega))
  obtain⟨z0,z1,z2,z3⟩:=four13 XW.out;by_cases hlt:j<n
  · have hji:(j:Int)<(n:Int):=by omega
    have hjl:j<l.length:=by rw[LL.out];exact hlt
    have cV:=RW.out.cell (i:=j) (by omega)
    have fV:=RW.out.frozen j;have hsp:spF l j=.int .u8 ((l.getD j 0:Nat):Int):=if_pos hjl;rw[hsp] at cV;have h8:l.getD j 0<256:=L8.out _ (by simp[hjl])
    obtain⟨q,hq⟩:∃q,l.getD j 0=q:=⟨_,rfl⟩;rw[hq] at cV h8;clear hsp hq;obtain⟨z,hz,hz8⟩:∃z:Nat,bits .xor .u8 ((q:Nat):Int) 17=((z:Nat):Int)/\z<256:=⟨q ^^^ 17,u8_xor_nat q 17 h8 (by decide),Nat.xor_lt_two_pow (n:=8) h8 (by decide)⟩
    have R2:Hid ((wr.setCell ⟨gV,j,none⟩ (.int .u8 ((z:Nat):Int))).rowIs gV 5 (n+64) (spF (l.set j z))):=(RW.out.set j (.int .u8 ((z:Nat):Int))).congr (fun t _=>spF_set hjl t)
    have B2:Hid (But (fun k=>k=gV) w7 (wr.setCell ⟨gV,j,none⟩ (.int .u8 ((z:Nat):Int)))):=BT.out.setCell (p:=⟨gV,j,none⟩) (fun _=>rfl) _
    have HZ:=hide hz8;go_wp2_with fail
    go_region
    all_goals
     clear cV fV z0 z1 z2 z3;generalize hw9:wr.setCell ⟨gV,j,none⟩ (.int .u8 ((z:Nat):Int))=w9 at *;clear hw9;go_wp2_with fail
     go_roundw
     case rel=>exact⟨j+1,l.set j z,by omega,by go_num,by rw[List.length_set];exact LL.out,(fun t ht=>by
      rcases List.mem_or_eq_of_mem_set ht with ht|rfl
      · exact L8.out t ht
      · exact HZ.out),R2.out,by first|exact B2.out|exact B2.out.trans (But.ofBelow (S:=fun _=>False) (dr2 _)) (fun _ _ h=>h.elim)⟩
     case measure=>simp[intOf];omega
  · obtain rfl:j=n:=by omega
    have W8:Hid (Below w.heap.size w wr):=((But.ofBelow (S:=fun k=>k=gV) W7.out).trans BT.out (fun _ _ e=>e)).below (fun k hk e=>by have:=GX.out;have:=HGI.out;omega)
    have K8:=hide (rowIs_but K7.out BT.out (fun e=>GX.out.2.2.1 e))
    have RB8:=hide (RB7.out.but BT.out (fun y hy e=>by have:=NB.out y hy;have:=GX.out;omega))
    have RC8:=hide (RC7.out.but BT.out (fun y hy e=>by have:=NC.out y hy;have:=GX.out;omega))
    clear BT W7 X7 V7 K7 RB7 RC7 z0 z1 z2 z3;generalize hwr:wr=w8 at *;clear hwr;obtain⟨x',hx'⟩:∃x':Iv,({x with val:=l}:Iv)=x':=⟨_,rfl⟩
    have XF':Hid (x'.vl=.agg #[.slice x.aK x.key.length x.cK,.slice (some ⟨gV,0,none⟩) j (j+64),.int .i64 x.child,.int .i64 x.size]/\Ii w8 x'/\x'.key.length<=140737488355264/\x'.val.length<=140737488355264):=by
     have h1:=HI.out;have e1:x.key=i.key/\x.aK=some ⟨gK,0,none⟩/\x.cK=i.key.length+64/\x.child=i.child/\x.size=i.size:=by rw[<-HX.out];exact⟨rfl,rfl,rfl,rfl,rfl⟩
     rw[<-hx'];refine⟨?_,⟨?_,?_,?_,?_,?_,?_⟩,?_,?_⟩
     · show Value.agg #[.slice x.aK x.key.length x.cK,.slice x.aV l.length x.cV,.int .i64 x.child,.int .i64 x.size]=_;rw[LL.out,XF.out.1,XF.out.2.2]
     · show Bs w8 x.aK x.key;rw[e1.1,e1.2.1];exact spare_bs K8.out (Nat.le_add_right _ _) h1.bk.1 h1.bk.2.1
     · show x.key.length<=x.cK;rw[e1.1,e1.2.2.1];exact Nat.le_add_right _ _
     · show Bs w8 x.aV l;rw[XF.out.1];exact spare_bs RW.out (by rw[LL.out];exact Nat.le_add_right _ _) L8.out (by rw[LL.out];omega)
     · show l.length<=x.cV;rw[LL.out,XF.out.2.2];exact Nat.le_add_right _ _
     · show N64 x.child;rw[e1.2.2.2.1];exact h1.nc
     · show N64 x.size;rw[e1.2.2.2.2];exact h1.ns
     · show x.key.length<=_;rw[e1.1];have:=HLK.out;omega
     · show l.length<=_;rw[LL.out];omega
    clear hx' RW K8;have CI:=hide (CopyItem_any w8 x' XF'.out.2.1 XF'.out.2.2.1 XF'.out.2.2.2);rw[XF'.out.1] at CI;obtain⟨z0,z1,z2,z3⟩:=four13 XW.out;go_wp2_with fail
    refine CI.out.mono ?_;rintro _ w9 ⟨q,rfl,hQ,hqi⟩;have QQ:=hide hQ;have QI:=hide hqi;have QV:Hid (q.vl=.agg #[.slice q.aK q.key.length q.cK,.slice q.aV q.val.length q.cV,.int .i64 q.child,.int .i64 q.size]):=rfl;rw[QV.out];have A10:=hide (al w9 (.cells #[.slice q.aK q.key.length q.cK,.slice q.aV q.val.length q.cV,.int .i64 q.child,.int .i64 q.size] 51));have N10:=hide (heap_alloc_new w9 (.cells #[.slice q.aK q.key.length q.cK,.slice q.aV q.val.length q.cV,.int .i64 q.child,.int .i64 q.size] 51));clear hQ hqi CI z0 z1 z2 z3;go_upto_region 11 with fail
    have B10:=hide (bt QQ.out.k.b A10.out);generalize hw10:w9.alloc (.cells #[.slice q.aK q.key.length q.cK,.slice q.aV q.val.length q.cV,.int .i64 q.child,.int .i64 q.size] 51)=w10 at *;clear hw10;have QI10:Hid (Ii w10 q):=(QQ.out.keep A10.out).ii (by have e:q.child=x'.child:=congrArg It.child QI.out;rw[e];exact XF'.out.2.1.nc) (by have e:q.size=x'.size:=congrArg It.size QI.out;rw[e];exact XF'.out.2.1.ns)
    obtain⟨gn,hgn⟩:∃gn,w9.heap.size=gn:=⟨_,rfl⟩;simp only[hgn] at N10 ⊢;clear hgn A10;have X10:=hide (blk13 XW.out B10.out);have RB10:=hide (RB8.out.keep B10.out);have RC10:=hide (RC8.out.keep B10.out);have W10:=hide (bt W8.out B10.out);have XI10:=hide (XF'.out.2.1.keep B10.out);clear XW RB8 RC8 W8 B10;have DR:=hide (dr2 w10);have LB:=hide (bLoad_any w10.drew (.pointer (some ⟨b,0,none⟩)) rd (RV.out.keep (bt W10.out DR.out)) x' (XI10.out.keep DR.out));rw[XF'.out.1] at LB;have SS:Hid (∀W:World,Below w10.heap.size w10 W->W.cell? ⟨wb,0,none⟩=some (.pointer (some ⟨b,0,none⟩))/\W.cell? ⟨gx,0,none⟩=some (.slice x.aK x.key.length x.cK)/\W.cell? ⟨gx,1,none⟩=some (.slice (some ⟨gV,0,none⟩) j (j+64))/\W.cell? ⟨gx,2,none⟩=some (.int .i64 x.child)/\W.cell? ⟨gx,3,none⟩=some (.int .i64 x.size)):=fun W hb=>⟨(WW.out.keep (bt W10.out hb)).cells.1,four13 (blk13 X10.out hb)⟩
    obtain⟨er2,her⟩:∃er2,(ldv rd x').1=er2:=⟨_,rfl⟩;obtain⟨bl2,hbl⟩:∃bl2,(if (ldv rd x').1=0 then (ldv rd x').2 else [])=bl2:=⟨_,rfl⟩
    have HER2:=hide her;have HBL2:=hide hbl;clear her hbl;refine wp_region_held_drew (S:=fun W=>W.cell? ⟨wb,0,none⟩=some (.pointer (some ⟨b,0,none⟩))/\W.cell? ⟨gx,0,none⟩=some (.slice x.aK x.key.length x.cK)/\W.cell? ⟨gx,1,none⟩=some (.slice (some ⟨gV,0,none⟩) j (j+64))/\W.cell? ⟨gx,2,none⟩=some (.int .i64 x.child)/\W.cell? ⟨gx,3,none⟩=some (.int .i64 x.size)) (by kernel_rfl) (SS.out _ DR.out) (fun hHeld=>?_)
    refine tk 0 ?_;refine tk 1 ?_;refine tk 2 ?_;refine tk 3 ?_;refine tk 4 ?_;refine tw 5 fun K hK=>?_
    go_simp;refine LB.out.mono ?_;intro _ w11 hG;obtain⟨ad,cd,rfl,hO,hb8⟩:=hG.uni;rw[HBL2.out,HER2.out];rw[HBL2.out] at hO hb8;have O11:=hide hO;have H82:=hide hb8;have B11:=hide (bt DR.out hO.b);clear hO hb8 hG;go_wp2_with fail
    refine hK.out _ _ (SS.out _ B11.out) (fun hHeld=>?_)
    clear hK K;try simp only[pt]
    refine tk 6 ?_;refine tk 7 ?_;refine tk 8 ?_;refine tk 9 ?_;refine tk 10 ?_;refine td ?_;clear hHeld SS DR LB;have N11:=hide (blk13 N10.out B11.out);have RB11:=hide (RB10.out.keep B11.out);have RC11:=hide (RC10.out.keep B11.out);have W11:=hide (bt W10.out B11.out);have RD11:=hide O11.out.r;have QI11:=hide (QI10.out.keep B11.out);clear N10 RB10 RC10 W10 QI10 XI10 X10 B11 O11;have DR:=hide (dr2 w11);have LR:=hide (rbLoad_any w11.drew (.pointer (some ⟨rb,0,none⟩)) rd (RR.out.keep (bt W11.out DR.out)) q (QI11.out.keep DR.out));rw[QV.out,ldv_it QI.out] at LR;have SS:Hid (∀W:World,Below w11.heap.size w11 W->W.cell? ⟨wb,1,none⟩=some (.pointer (some ⟨rb,0,none⟩))/\W.cell? ⟨gn,0,none⟩=some (.slice q.aK q.key.length q.cK)/\W.cell? ⟨gn,1,none⟩=some (.slice q.aV q.val.length q.cV)/\W.cell? ⟨gn,2,none⟩=some (.int .i64 q.child)/\W.cell? ⟨gn,3,none⟩=some (.int .i64 q.size)):=fun W hb=>⟨(WW.out.keep (bt W11.out hb)).cells.2.1,four13 (blk13 N11.out hb)⟩
    go_upto_region 12 with fail
    refine wp_region_held_drew (S:=fun W=>W.cell? ⟨wb,1,none⟩=some (.pointer (some ⟨rb,0,none⟩))/\W.cell? ⟨gn,0,none⟩=some (.slice q.aK q.key.length q.cK)/\W.cell? ⟨gn,1,none⟩=some (.slice q.aV q.val.length q.cV)/\W.cell? ⟨gn,2,none⟩=some (.int .i64 q.child)/\W.cell? ⟨gn,3,none⟩=some (.int .i64 q.size)) (by kernel_rfl) (SS.out _ DR.out) (fun hHeld=>?_)
    refine tk 0 ?_;refine tk 1 ?_;refine tk 2 ?_;refine tk 3 ?_;refine tk 4 ?_;refine tw 5 fun K hK=>?_
    go_simp;refine LR.out.mono ?_;intro _ w12 hG;obtain⟨ae,ce,rfl,hO,_⟩:=hG.uni;rw[HBL2.out,HER2.out];rw[HBL2.out] at hO;have O12:=hide hO;have B12:=hide (bt DR.out hO.b);clear hO hG;go_wp2_with fail
    refine hK.out _ _ (SS.out _ B12.out) (fun hHeld=>?_)
    clear hK K;try simp only[pt]
    refine tk 6 ?_;refine tk 7 ?_;refine tk 8 ?_;refine tk 9 ?_;refine tk 10 ?_;refine td ?_;clear hHeld SS DR LR;have RB12:=hide (RB11.out.keep B12.out);have RC12:=hide (RC11.out.keep B12.out);have RD12:=hide (RD11.out.keep B12.out);have W12:=hide (bt W11.out B12.out);have RE12:=hide O12.out.r;clear N11 RB11 RC11 RD11 W11 QI11 B12 O12;have EQ:=hide (EqBytes_same w12 ab ac bl.length bl.length cb cc bl (RB12.out.bs H8.out RB12.out.len_le) (RC12.out.bs H8.out RC12.out.len_le) rfl rfl);have dE2:((er2:Int) != (er2:Int))=false:=by simp
    go_wp2_with fail
    refine EQ.out.mono ?_;rintro _ w13 ⟨rfl,hb13⟩;have W13:=hide (bt W12.out hb13);have RD13:=hide (RD12.out.keep hb13);have RB13:=hide (RB12.out.keep hb13);have RC13:=hide (RC12.out.keep hb13);have RE13:=hide (RE12.out.keep hb13);clear hb13 EQ;have EQ2:=hide (EqBytes_same w13 ad ae bl2.length bl2.length cd ce bl2 (RD13.out.bs H82.out RD13.out.len_le) (RE13.out.bs H82.out RE13.out.len_le) rfl rfl);go_wp2_with fail
    refine EQ2.out.mono ?_;rintro _ w14 ⟨rfl,hb14⟩;have W14:=hide (bt W13.out hb14);have WBB:Hid (∀y,ab=some y->y.block≠wb):=fun y hy e=>by have h1:=NB.out y hy;have h2:=GX.out;have h3:=HGI.out;have h4:=(Array.getElem?_eq_some_iff.1 WW.out.box).1;omega
    have WBC:Hid (∀y,ac=some y->y.block≠wb):=fun y hy e=>by have h1:=NC.out y hy;have h2:=GX.out;have h3:=HGI.out;have h4:=(Array.getElem?_eq_some_iff.1 WW.out.box).1;omega
    have RB14:=hide ((RB13.out).keep hb14);have RC14:=hide ((RC13.out).keep hb14);clear hb14 EQ2 RB13 RC13;have K14:=hide (WW.out.keep W14.out);obtain⟨u0,u1,u4,u5,f4,f5⟩:=K14.out.cells;have OW14:Hid (∀k,w14.heap.size<=k->own k):=fun k hk=>OW.out k (Nat.le_trans W14.out.size hk)
    obtain⟨nv,hnv⟩:∃nv,vs.length=nv:=⟨_,rfl⟩;have HNV:=hide hnv;rw[hnv] at u4 hvs;have u5':=u5;rw[HUS.out,hnv] at u5';clear u5 hnv;by_cases h30:nv<30
    · have h30i:(nv:Int)<30:=by omega
      have wbl:wb<w14.heap.size:=block_lt_of_cell u4;have A15:=hide (al w14 (.cells #[.slice ab bl.length cb] 29));have X15:=hide (one_cell' (heap_alloc_new w14 (.cells #[.slice ab bl.length cb] 29)));have K15:=hide (K14.out.keep A15.out);have hln:(vs.length+1)*24<=140737488355328:=by rw[HNV.out];omega
      clear u0 u1 f4 f5 u5';go_wp2_with (at_builtin;refine wpList_apRows rfl _ _ rfl aT nv cT vs rfl HNV.out.symm K15.out.t ⟨w14.heap.size,0,none⟩ 1 (.slice ab bl.length cb) rfl X15.out rfl hln ?_)
      intro g16 c16 w16 hA hN hg;have RB16:=hide ((RB14.out.keep A15.out).but (But.inA hg) (fun y hy ⟨z,hz,e⟩=>K15.out.t.ne (RB14.out.keep A15.out) hz hy e))
      have RC16:=hide ((RC14.out.keep A15.out).but (But.inA hg) (fun y hy ⟨z,hz,e⟩=>K15.out.t.ne (RC14.out.keep A15.out) hz hy e))
      have RB17:=hide (RB16.out.but ((But.refl (fun k=>k=wb) w16).setCell (p:=⟨wb,4,none⟩) (fun _=>rfl) (.slice (some ⟨g16,0,none⟩) (vs.length+1) c16)) (fun y hy e=>WBB.out y hy e))
      have RC17:=hide (RC16.out.but ((But.refl (fun k=>k=wb) w16).setCell (p:=⟨wb,4,none⟩) (fun _=>rfl) (.slice (some ⟨g16,0,none⟩) (vs.length+1) c16)) (fun y hy e=>WBC.out y hy e))
      obtain⟨k17,b17,c17,f17⟩:=K15.out.told (fun k hk=>OW14.out k (Nat.le_trans A15.out.size hk)) hA hN (But.inA hg)
      have K17:=hide k17;have BO17:=hide b17;rw[HNV.out] at c17 K17 BO17 RB17 RC17;clear hA hN hg k17 b17 u4 X15 K15 K14;go_upto_region 17 with fail
      generalize hw17:w16.setCell ⟨wb,4,none⟩ (.slice (some ⟨g16,0,none⟩) (nv+1) c16)=w17 at *;clear hw17 c17 f17;obtain⟨u0,u1,u4,u5,f4,f5⟩:=K17.out.cells;rw[HUS.out,HNV.out] at u5;have A18:=hide (al w17 (.cells #[.slice ac bl.length cc] 29));have X18:=hide (one_cell' (heap_alloc_new w17 (.cells #[.slice ac bl.length cc] 29)));have K18:=hide (K17.out.keep A18.out);have hln2:(us.length+1)*24<=140737488355328:=by rw[HUS.out,HNV.out];omega
      have wbl2:wb<w17.heap.size:=block_lt_of_cell u5;have OW17:Hid (∀k,w17.heap.size<=k->own k):=fun k hk=>OW14.out k (Nat.le_trans (Nat.le_trans A15.out.size BO17.out.size) hk)
      clear u0 u1 u4 f4 f5;go_wp2_with (at_builtin;refine wpList_apRows rfl _ _ rfl aX nv cX us rfl (by rw[HUS.out,HNV.out]) K18.out.x ⟨w17.heap.size,0,none⟩ 1 (.slice ac bl.length cc) rfl X18.out rfl hln2 ?_)
      intro g19 c19 w19 hA hN hg;have RB19:=hide ((RB17.out.keep A18.out).but (But.inA hg) (fun y hy ⟨z,hz,e⟩=>K18.out.x.ne (RB17.out.keep A18.out) hz hy e))
      have RC19:=hide ((RC17.out.keep A18.out).but (But.inA hg) (fun y hy ⟨z,hz,e⟩=>K18.out.x.ne (RC17.out.keep A18.out) hz hy e))
      have RB20:=hide (RB19.out.but ((But.refl (fun k=>k=wb) w19).setCell (p:=⟨wb,5,none⟩) (fun _=>rfl) (.slice (some ⟨g19,0,none⟩) (us.length+1) c19)) (fun y hy e=>WBB.out y hy e))
      have RC20:=hide (RC19.out.but ((But.refl (fun k=>k=wb) w19).setCell (p:=⟨wb,5,none⟩) (fun _=>rfl) (.slice (some ⟨g19,0,none⟩) (us.length+1) c19)) (fun y hy e=>WBC.out y hy e))
      obtain⟨k20,b20,c20,f20⟩:=K18.out.text (fun k hk=>OW17.out k (Nat.le_trans A18.out.size hk)) hA hN (But.inA hg)
      have K20:=hide k20;have BO20:=hide b20;rw[HUS.out,HNV.out] at c20 K20 BO20 RB20 RC20;clear hA hN hg k20 b20 u5 X18 K18 K17
      have FIN:Hid (But own w (w19.setCell ⟨wb,5,none⟩ (.slice (some ⟨g19,0,none⟩) (nv+1) c19))):=by
       have q1:But own w w17:=(But.ofBelow (S:=own) (bt W14.out A15.out)).trans BO17.out (fun _ _ e=>e)
       have q2:=q1.trans (But.ofBelow (S:=own) A18.out) (fun _ _ e=>e)
       exact q2.trans BO20.out (fun _ _ e=>e)
      go_wp2_with fail
      generalize hw20:w19.setCell ⟨wb,5,none⟩ (.slice (some ⟨g19,0,none⟩) (nv+1) c19)=w20 at *;clear hw20;go_ret;exact⟨rfl,_,_,_,_,_,_,K20.out,FIN.out,.inr ⟨⟨ab,cb,bl⟩,⟨ac,cc,bl⟩,rfl,rfl,rfl,H8.out,RB20.out,RC20.out,fun y hy=>by have h1:=NB.out y hy;have h2:=GX.out;have h3:=HGI.out;omega,fun y hy=>by have h1:=NC.out y hy;have h2:=GX.out;have h3:=HGI.out;omega,by rw[HNV.out];exact h30,by show bl.length<=3840;rw[<-HBL.out];exact ldv_len2 rd i⟩⟩
    · have h30i:¬(nv:Int)<30:=by omega
      clear u0 u1 u5' f4 f5;go_wp2_with fail
      go_ret;exact⟨rfl,_,_,_,_,_,_,K14.out,But.ofBelow W14.out,.inl ⟨rfl,rfl⟩⟩
def Rws(w:World)(col colR:Nat->Nat)(L:List Br):Prop:=∀t∈L,Rw w t.a t.c t.l/\B8 t.l/\∀y,t.a=some y->col y.block=0/\colR y.block=0
def Out(v:World)(col colR:Nat->Nat)(a:Option Addr):Prop:=∀y,a=some y->col y.block=0/\colR y.block=0/\v.heap.size<=y.block
structure Bks where
 aB:Option Addr
 cB:Nat
 B:List Iv
 aN:Option Addr
 cN:Nat
 N:List Iv
 aT:Option Addr
 cT:Nat
 T:List Br
 aX:Option Addr
 cX:Nat
 X:List Br
structure St(v w:World)(wb b rb pb mb:Nat)(S:Vs)(D:Rd)(pc col colR:Nat->Nat)(K:Bks):Prop where
 box:w.heap[wb]?=some (.cells #[.pointer (some ⟨b,0,none⟩),.pointer (some ⟨rb,0,none⟩),.slice K.aB K.B.length K.cB,.slice K.aN K.N.length K.cN,.slice K.aT (K.T.map bv).length K.cT,.slice K.aX (K.X.map bv).length K.cX] 78 (0,0))
 V:Vw w b S pb mb pc col
 R:Rq w rb D colR
 dj:∀k,col k≠0->colR k=0
 vn:∀k,col k≠0->v.heap.size<=k
 rn:∀k,colR k≠0->v.heap.size<=k
 wc:col wb=0/\colR wb=0/\v.heap.size<=wb
 jb:Jw w K.aB K.cB K.B
 jn:Jw w K.aN K.cN K.N
 tt:Ar w K.aT K.cT (K.T.map bv)
 tx:Ar w K.aX K.cX (K.X.map bv)
 oB:Out v col colR K.aB
 oN:Out v col colR K.aN
 oT:Out v col colR K.aT
 oX:Out v col colR K.aX
 nBN:∀y z,K.aB=some y->K.aN=some z->y.block≠z.block
 nTX:∀y z,K.aT=some y->K.aX=some z->y.block≠z.block
 r1:Rws w col colR (K.T++rowsOf K.B)
 r2:Rws w col colR (K.X++rowsOf K.N)
 ap:(K.T++rowsOf K.B).Pairwise brApart
 nt:∀t∈K.T++rowsOf K.B,∀y,t.a=some y->v.heap.size<=y.block
 bl:Below v.heap.size v w
 e1:K.T.map Br.l=K.X.map Br.l
 e2:K.B.map Iv.it=K.N.map Iv.it
 ns:∀r∈K.B++K.N,N64 r.child/\N64 r.size/\r.key.length<=24/\r.val.length<=32
 hu:D.aA=none/\D.nA=0/\D.cA=0/\D.fl=0/\D.hush=true
 fi:Fine S.X.f
 sm:∀z,Sml (S.X.on z)
section
variable {v w w':World} {wb b rb pb mb:Nat} {S S':Vs} {D D':Rd} {pc pc' col col' colR colR':Nat->Nat} {K:Bks}
theorem Rws.but{T:Nat->Prop}{L:List Br}(h:Rws w col colR L)(hb:But T w w')(hn:∀t∈L,∀y,t.a=some y->¬T y.block)(hc:∀k,k<w.heap.size->col' k=col k)(hr:∀k,k<w.heap.size->colR' k=colR k):Rws w' col' colR' L:=fun t ht=>by
 obtain⟨h1,h2,h3⟩:=h t ht;refine⟨h1.but hb (hn t ht),h2,fun y hy=>?_⟩
 have hl:=h1.lt hy;rw[hc _ hl,hr _ hl];exact h3 y hy
theorem Out.go{a:Option Addr}(h:Out v col colR a)(hl:∀y,a=some y->y.block<w.heap.size)(hc:∀k,k<w.heap.size->col' k=col k)(hr:∀k,k<w.heap.size->colR' k=colR k):Out v col' colR' a:=fun y hy=>by
 rw[hc _ (hl y hy),hr _ (hl y hy)];exact h y hy
theorem St.keep(h:St v w wb b rb pb mb S D pc col colR K)(hb:Below w.heap.size w w'):St v w' wb b rb pb mb S D pc col colR K:=
 ⟨blk13 h.box hb,h.V.keep hb,h.R.keep hb,h.dj,h.vn,h.rn,h.wc,h.jb.keep hb,h.jn.keep hb,h.tt.keep hb,h.tx.keep hb,h.oB,h.oN,h.oT,h.oX,h.nBN,h.nTX,fun t ht=>⟨(h.r1 t ht).1.keep hb,(h.r1 t ht).2⟩,fun t ht=>⟨(h.r2 t ht).1.keep hb,(h.r2 t ht).2⟩,h.ap,h.nt,bt h.bl hb,h.e1,h.e2,h.ns,h.hu,h.fi,h.sm⟩
theorem St.prog(h:St v w wb b rb pb mb S D pc col colR K)(hV:Vw w' b S' pb mb pc' col')(hf:Vf w col w' col')(hfi:Fine S'.X.f)(hsm:∀z,Sml (S'.X.on z)):St v w' wb b rb pb mb S' D pc' col' colR K:=by
 have hwl:wb<w.heap.size:=(Array.getElem?_eq_some_iff.1 h.box).1;have no:∀{k:Nat},col k=0->¬(1<=col k/\col k<=5):=fun e=>by omega
 have hr:∀k,k<w.heap.size->colR k=colR k:=fun _ _=>rfl
 have z:∀{k:Nat},w.heap.size<=k->colR k=0:=fun{k} hk=>by
  by_cases e:colR k=0
  · exact e
  · have:=h.R.lt k e;omega
 refine⟨hf.b.same h.box (no h.wc.1),hV,h.R.but hf.b (fun k hk e=>?_),fun k hk=>?_,fun k hk=>?_,h.rn,⟨by rw[hf.c _ hwl];exact h.wc.1,h.wc.2⟩,h.jb.but hf.b (fun y hy=>no (h.oB y hy).1),h.jn.but hf.b (fun y hy=>no (h.oN y hy).1),h.tt.but hf.b (fun y hy=>no (h.oT y hy).1),h.tx.but hf.b (fun y hy=>no (h.oX y hy).1),h.oB.go (fun y hy=>h.jb.lt hy) hf.c hr,h.oN.go (fun y hy=>h.jn.lt hy) hf.c hr,h.oT.go (fun y hy=>h.tt.lt hy) hf.c hr,h.oX.go (fun y hy=>h.tx.lt hy) hf.c hr,h.nBN,h.nTX,h.r1.but hf.b (fun t ht y hy=>no ((h.r1 t ht).2.2 y hy).1) hf.c hr,h.r2.but hf.b (fun t ht y hy=>no ((h.r2 t ht).2.2 y hy).1) hf.c hr,h.ap,h.nt,?_,h.e1,h.e2,h.ns,h.hu,hfi,hsm⟩
 · have h1:=h.dj k (by omega)
   exact hk h1
 · by_cases hl:k<w.heap.size
   · rw[hf.c k hl] at hk;exact h.dj k hk
   · exact z (by omega)
 · by_cases hl:k<w.heap.size
   · rw[hf.c k hl] at hk;exact h.vn k hk
   · have:=h.bl.size;omega
 · exact((But.ofBelow (S:=fun _=>False) h.bl).trans hf.b (fun k hk e=>by have:=h.vn k (by omega);omega)).below (fun _ _ e=>e)
theorem St.doc(h:St v w wb b rb pb mb S D pc col colR K)(hR:Rq w' rb D' colR')(hf:Vf w colR w' colR')(hu:D'.aA=none/\D'.nA=0/\D'.cA=0/\D'.fl=0/\D'.hush=true):St v w' wb b rb pb mb S D' pc col colR' K:=by
 have hwl:wb<w.heap.size:=(Array.getElem?_eq_some_iff.1 h.box).1;have no:∀{k:Nat},colR k=0->¬(1<=colR k/\colR k<=5):=fun e=>by omega
 have hc:∀k,k<w.heap.size->col k=col k:=fun _ _=>rfl
 have z:∀{k:Nat},w.heap.size<=k->col k=0:=fun{k} hk=>h.V.z hk
 refine⟨hf.b.same h.box (no h.wc.2.1),h.V.but13 hf.b (fun k hk e=>?_),hR,fun k hk=>?_,h.vn,fun k hk=>?_,⟨h.wc.1,by rw[hf.c _ hwl];exact h.wc.2.1,h.wc.2.2⟩,h.jb.but hf.b (fun y hy=>no (h.oB y hy).2.1),h.jn.but hf.b (fun y hy=>no (h.oN y hy).2.1),h.tt.but hf.b (fun y hy=>no (h.oT y hy).2.1),h.tx.but hf.b (fun y hy=>no (h.oX y hy).2.1),h.oB.go (fun y hy=>h.jb.lt hy) hc hf.c,h.oN.go (fun y hy=>h.jn.lt hy) hc hf.c,h.oT.go (fun y hy=>h.tt.lt hy) hc hf.c,h.oX.go (fun y hy=>h.tx.lt hy) hc hf.c,h.nBN,h.nTX,h.r1.but hf.b (fun t ht y hy=>no ((h.r1 t ht).2.2 y hy).2) hc hf.c,h.r2.but hf.b (fun t ht y hy=>no ((h.r2 t ht).2.2 y hy).2) hc hf.c,h.ap,h.nt,?_,h.e1,h.e2,h.ns,hu,h.fi,h.sm⟩
 · have h1:=h.dj k hk;omega
 · by_cases hl:k<w.heap.size
   · rw[hf.c k hl];exact h.dj k hk
   · exact absurd (z (by omega)) hk
 · by_cases hl:k<w.heap.size
   · rw[hf.c k hl] at hk;exact h.rn k hk
   · have:=h.bl.size;omega
 · exact((But.ofBelow (S:=fun _=>False) h.bl).trans hf.b (fun k hk e=>by have:=h.rn k (by omega);omega)).below (fun _ _ e=>e)
theorem St.cells(h:St v w wb b rb pb mb S D pc col colR K):w.cell? ⟨wb,0,none⟩=some (.pointer (some ⟨b,0,none⟩))/\w.cell? ⟨wb,1,none⟩=some (.pointer (some ⟨rb,0,none⟩))/\w.cell? ⟨wb,2,none⟩=some (.slice K.aB K.B.length K.cB)/\w.cell? ⟨wb,3,none⟩=some (.slice K.aN K.N.length K.cN)/\w.cell? ⟨wb,4,none⟩=some (.slice K.aT (K.T.map bv).length K.cT)/\w.cell? ⟨wb,5,none⟩=some (.slice K.aX (K.X.map bv).length K.cX):=six_cells h.box
end
end Go.Proofs.YtcpkinhneehomaaGreat
