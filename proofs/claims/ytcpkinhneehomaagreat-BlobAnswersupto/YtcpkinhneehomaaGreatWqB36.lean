import Derived.Test.YtcpkinhneehomaaGreatWqB33
import Derived.Test.YtcpkinhneehomaaGreatWqB35
set_option linter.unusedVariables false
set_option linter.unusedSimpArgs false
set_option maxHeartbeats 32000000
set_option maxRecDepth 8000
namespace Go.Proofs.YtcpkinhneehomaaGreat
open Go.RowKit Go.Shelf
attribute [local go_sem] Oper.semAt_some
variable {fl hb:Nat}{col pc:Nat->Nat}{P:Q.Po}{D:Vd}{W1:World}
def fdel(f:Int->Option Pv)(L:List Int):Int->Option Pv:=fun z=>if z∈L then none else f z
theorem fdel_nil(f:Int->Option Pv):fdel f []=f:=by funext z;simp[fdel]
theorem fdel_snoc(f:Int->Option Pv)(L:List Int)(x:Int):(fun k=>(fdel f (L++[x]) k).map Pv.vl)=mdel (fun k=>(fdel f L k).map Pv.vl) x:=by
 funext k
 unfold fdel mdel;by_cases e:k=x
 · subst e;simp
 · simp[e]
def Vs.settle(S:Vs):Vs:=⟨⟨S.X.P.settle,fdel S.X.f (S.X.P.pages 2),[]⟩,[],S.fl+S.al.length⟩
structure Sx(hb:Nat)(W1:World)(b:Nat)(P:Q.Po)(fl:Nat)(D:Vd)(pc col:Nat->Nat)(F:Nat->Prop)(pre:List Int)(W:World):Prop where
 i:∀k,F k↔k=D.mb
 v:Vq W b P fl {D with f:=fdel D.f pre} pc col
 x:W.cell? ⟨hb,0,none⟩=some (.pointer (some ⟨b,0,none⟩))
 b:But (fun k=>k=D.mb) W1 W
theorem Sx.abid{b:Nat}(hh:hb<W1.heap.size)(hlt:∀k,col k≠0->k<W1.heap.size):Q.AbidF W1.heap.size (Sx hb W1 b P fl D pc col):=fun F s A B hs hB=>
 ⟨hs.i,hs.v.but hB (fun k hk h2=>by have:=hlt k hk;omega),(hB.cell (p:=⟨hb,0,none⟩) (block_lt_of_cell hs.x) (fun h2=>by have h2:W1.heap.size<=hb:=h2.2;omega)).trans hs.x,hs.b.trans hB (fun k hk h2=>by omega)⟩
theorem Sx.siz{b:Nat}:Q.SizF (Sx hb W1 b P fl D pc col):=fun F s A hs k hk=>by
 rw[(hs.i k).1 hk];exact hs.v.mp.lt
theorem Vq.fresh{w:World}{b:Nat}(h:Vq w b P fl D pc col)(m:Nat):
 Vq (((w.setCell ⟨b,4,none⟩ (.int .i64 (m:Int))).setCell ⟨b,3,none⟩ (.slice none 0 0)).setCell ⟨b,2,none⟩ (.slice none 0 0)) b P m {D with ac:=none,cc:=0,ch:=[],aa:=none,ca:=0,al:=[]} pc col/\But (fun k=>k=b) w (((w.setCell ⟨b,4,none⟩ (.int .i64 (m:Int))).setCell ⟨b,3,none⟩ (.slice none 0 0)).setCell ⟨b,2,none⟩ (.slice none 0 0)):=by
 have bs:But (fun k=>k=b) w (((w.setCell ⟨b,4,none⟩ (.int .i64 (m:Int))).setCell ⟨b,3,none⟩ (.slice none 0 0)).setCell ⟨b,2,none⟩ (.slice none 0 0)):=(((But.refl (fun k=>k=b) w).setCell (p:=⟨b,4,none⟩) (fun _=>rfl) _).setCell (p:=⟨b,3,none⟩) (fun _=>rfl) _).setCell (p:=⟨b,2,none⟩) (fun _=>rfl) _
 have ne:∀{k:Nat},col k≠1->¬(k=b):=fun h1 e=>h1 (by rw[e];exact h.cb)
 refine⟨⟨?_,h.mp.but bs (ne (by rw[h.cm];decide)),Q.Gw.nil _ _ _,Q.Gw.nil _ _ _,h.pool.but bs (fun k hk=>ne (by rw[h.cp k hk];decide)),fun k p hp=>(h.fz k p hp).but bs (fun k _ e=>ne (by omega)),fun x hx=>absurd hx (List.not_mem_nil),h.cb,h.cm,fun x hx=>(by cases hx),fun x hx=>(by cases hx),h.cp,fun k hk=>Nat.lt_of_lt_of_le (h.lt k hk) bs.size⟩,bs⟩
 have e1:=heap_setCell_same w b 4 _ _ (.int .i64 (m:Int)) h.box;have e2:=heap_setCell_same _ b 3 _ _ (.slice none 0 0) e1;have e3:=heap_setCell_same _ b 2 _ _ (.slice none 0 0) e2;rw[e3];rfl
theorem vSettle_any(w:World)(b:Nat)(S:Vs)(pb mb:Nat)(pc col:Nat->Nat)(h:Vw w b S pb mb pc col)(hm:S.X.P.mark<=9223372036854775807)(hm2:S.fl+S.al.length<=9223372036854775807):
 Calls Tryz.prog 57 #[.pointer (some ⟨b,0,none⟩)] w fun e w'=>e=.returned (.tuple #[])/\∃pc' col',Vw w' b S.settle pb mb pc' col'/\Vf w col w' col':=by
 obtain⟨ac,cc,aa,ca,hq⟩:=h;refine(callsIn_wide (n:=0)).1 ?_;refine callsIn_of_wp_marks Tryz.func57 rfl trivial ?_ rfl;simp only[Tryz.ntmps57,List.size_toArray,List.length_cons,List.length_nil,Nat.reduceAdd,Nat.reduceSub,Array.replicate_succ,Array.replicate_zero,List.push_toArray,List.append_toArray,List.nil_append,List.cons_append];refine wpIn_wide.2 ?_;have A0:=hide (al w (.cells #[.pointer (some ⟨b,0,none⟩)] 41));have X0:=hide (Q.cell_alloc_new w (.pointer (some ⟨b,0,none⟩)) 41);have HQ:=hide (hq.keep A0.out);have HLT:=hide hq.lt;have PG:=hide (Q.Pages_any _ pb S.X.P pc HQ.out.pool 2);obtain⟨c0,c1,c2,c3,c4⟩:=HQ.out.cells;have x0:=X0.out;dsimp only at c0 c1;clear hq c2 c3 c4;go_wp2_with fail
 generalize w.alloc (.cells #[.pointer (some ⟨b,0,none⟩)] 41)=W0 at *;refine PG.out.mono ?_;rintro _ W1 ⟨gf,lb,X,rfl,hW⟩;have HW:=hide hW;have B1:=hide (bt A0.out hW.bl);have hs0:w.heap.size<W0.heap.size:=block_lt_of_cell x0;have hs1:W0.heap.size<=W1.heap.size:=hW.bl.size;have LT1:Hid (∀k,col k≠0->k<W1.heap.size):=fun k hk=>by have:=HLT.out k hk;omega
 have Z1:Hid (Sx w.heap.size W1 b S.X.P S.fl ⟨pb,mb,S.X.f,ac,cc,S.X.ch,aa,ca,S.al⟩ pc col (fun k=>k=mb) [] W1):=⟨fun k=>Iff.rfl,by
  rw[fdel_nil];exact HQ.out.keep hW.bl,(hW.bl.cell (p:=⟨w.heap.size,0,none⟩) hs0).trans x0,But.refl _ _⟩
 have sX:=hW.nw;have hmbl:Hid (mb<w.heap.size):=HLT.out mb (by rw[HQ.out.cm];decide)
 clear hW PG c0 c1 x0;go_wp2_with fail
 refine(wpIn_wide (n:=0)).1 ?_
 refine Q.wp_rangeF (gf:=gf) (lb:=lb) rfl HW.out.en HW.out.seq (But.refl _ _) (fun k hk=>(sX k hk).2) (fun _=>rfl)
  (fun k=>k=mb)
  (fun k hk hx=>by
    have h1:=(sX k hx).1;have h2:=hmbl.out;omega)
  (Sx w.heap.size W1 b S.X.P S.fl ⟨pb,mb,S.X.f,ac,cc,S.X.ch,aa,ca,S.al⟩ pc col)
  (fun c F pre W=>False)
  (Sx.abid (by omega) LT1.out)
  Sx.siz
  (fun c F s A B hs hb=>hs)
  (fun c F s A hs=>hs.elim)
  Z1.out ?round ?done ?stop
 case round=>
  rintro l F pre x rest W hxs hz hsz hFs hFl hl1 hl2 hBw;have HZ:=hide hz;have HFl:=hide hFl;have HL1:=hide hl1;clear hxs hz hFs hFl hl1 hl2 hBw sX hsz hm hm2;unfold Q.enI;gi_wp2
  refine⟨Below.refl _ _,fun W3 h3=>?_⟩
  have hz:=HZ.out;have hFl:=HFl.out;have hl1:=HL1.out;have z3:=Sx.abid (hb:=w.heap.size) (by omega) LT1.out F pre W W3 hz (h3.mono fun k _ hk=>⟨fun hf=>hFl (by rw[hk] at hf;exact hf),by omega⟩)
  obtain⟨c0,c1,c2,c3,c4⟩:=z3.v.cells;dsimp only at c1;have x3:=z3.x;obtain⟨W4,hdel,m4,b4,s4⟩:=z3.v.mp.drop (P:=Tryz.prog) (T:=81) Tryz.underlying81 Tryz.underlying3 x 3
  have FIN:Hid (Sx w.heap.size W1 b S.X.P S.fl ⟨pb,mb,S.X.f,ac,cc,S.X.ch,aa,ca,S.al⟩ pc col F (pre++[x]) W4):=by
   have hmb:∀{k:Nat},k=mb->k=mb:=fun e=>e
   refine⟨z3.i,?_,?_,z3.b.trans b4 (fun k hk e=>e)⟩
   · have hv:=z3.v.mapped (f':=fdel S.X.f (pre++[x])) (by rw[fdel_snoc];exact m4) b4 (fun k p hp=>z3.v.fz k p (by
      show fdel S.X.f pre k=some p;unfold fdel at hp ⊢;split at hp
      · cases hp
      · rename_i hn;rw[if_neg (fun e=>hn (List.mem_append_left _ e))]
        exact hp))
     exact hv
   · refine(b4.cell (p:=⟨w.heap.size,0,none⟩) (block_lt_of_cell x3) (fun e=>?_)).trans x3
     have e:w.heap.size=mb:=e;have:=hmbl.out;omega
  have FB:Hid (But F W3 W4):=b4.mono (fun k _ e=>(z3.i k).2 e)
  clear m4 b4 s4 z3 hz h3 c0 c2 c3 c4 HZ HFl HL1 hFl hl1;gi_wp2
  exact⟨F,FB.out,fun k hk=>.inl hk,FIN.out⟩
 case done=>
  rintro D F Wx hD hFD hz hBw hFs hK;have HZ:=hide hz;have HK:=hide hK;have hxl:W1.heap.size<=Wx.heap.size:=hBw.size;have VX:Hid (Vf w col Wx col):=(Vf.keep B1.out).trans ⟨hBw.mono (fun k _ e=>by rw[e,HQ.out.cm];omega),fun _ _=>rfl⟩
  have ST:=hide (Q.Settle_any Wx pb S.X.P pc HZ.out.v.pool hm);obtain⟨c0,c1,c2,c3,c4⟩:=HZ.out.v.cells;dsimp only at c0;have x3:=HZ.out.x;clear hz hK hBw hFs c1 c2 c3 c4 Z1 HW;go_wp2_with fail
  refine ST.out.mono ?_;rintro _ W5 ⟨rfl,pc5,hP5,hF5⟩;obtain⟨hv5,hf5⟩:=HZ.out.v.pooled hP5 hF5;have HV5:=hide hv5;have HF5:=hide (VX.out.trans hf5)
  have D0:Hid (∀k,W1.heap.size<=k->pc k=0):=fun k hk=>by
   by_cases e:pc k=0
   · exact e
   · have h1:=HZ.out.v.cp k e;have h2:=LT1.out k (by rw[h1];decide)
     omega
  have K5:Hid (W5.heap[D]?=some (.deferred (some []))):=(hF5.b.block D (Array.getElem?_eq_some_iff.1 HK.out).1 (fun e=>e (D0.out D hD))).trans HK.out
  have x5:W5.cell? ⟨w.heap.size,0,none⟩=some (.pointer (some ⟨b,0,none⟩)):=(hF5.b.cell (p:=⟨w.heap.size,0,none⟩) (block_lt_of_cell x3) (fun e=>e (by
   by_cases e2:pc w.heap.size=0
   · exact e2
   · have h1:=HZ.out.v.cp _ e2;have h2:=HLT.out w.heap.size (by rw[h1];decide)
     omega))).trans x3
  have X5:=hide x5;have MK:=hide fun(W:World)(hb:Below W5.heap.size W5 W)=>vMark_any W b S.X.P.settle S.fl _ pc5 _ (HV5.out.keep hb) hm2
  dsimp only at MK;obtain⟨mk,hmk⟩:∃mk,S.fl+S.al.length=mk:=⟨_,rfl⟩;rw[hmk] at MK;have HMK:=hide hmk;clear hmk;have DB:Hid (W1.heap.size<=D):=hD;clear hv5 hf5 hP5 hF5 c0 ST x3 x5;go_upto_region 5 with fail
  have DR:=hide (dr2 W5);have SS:Hid (∀W:World,Below W5.heap.size W5 W->W.cell? ⟨w.heap.size,0,none⟩=some (.pointer (some ⟨b,0,none⟩))):=fun W hb=>(hb.cell (p:=⟨w.heap.size,0,none⟩) (block_lt_of_cell X5.out)).trans X5.out
  refine wp_region_noPanic ?_;refine wp_region_held_drew (S:=fun W=>W.cell? ⟨w.heap.size,0,none⟩=some (.pointer (some ⟨b,0,none⟩))) (by kernel_rfl) (SS.out _ DR.out) (fun hHeld=>?_)
  refine tk 0 ?_;refine tk 1 ?_;refine tk 2 ?_;refine tk 3 ?_;refine tw 4 fun K hK=>?_
  go_simp;refine(MK.out _ DR.out).mono ?_;rintro _ W6 ⟨rfl,hb6⟩;have B6:=hide (bt DR.out hb6);clear hb6;go_wp2_with fail
  refine hK.out _ _ (SS.out _ B6.out) (fun hHeld=>?_)
  clear hK K;try simp only[pt]
  have V6:=hide (HV5.out.keep B6.out);obtain⟨VF7,BF7⟩:=V6.out.fresh mk;have V7:=hide VF7;have BF:=hide BF7;clear VF7 BF7
  have hbn:Hid (w.heap.size≠b):=fun e=>by
   have h1:=HLT.out b (by rw[HQ.out.cb];decide)
   omega
  obtain⟨d0,d1,d2,d3,d4⟩:=V6.out.cells;have f4:W6.frozen? ⟨b,4,none⟩=false:=V6.out.free 4;have f3:W6.frozen? ⟨b,3,none⟩=false:=V6.out.free 3;have f2:W6.frozen? ⟨b,2,none⟩=false:=V6.out.free 2;refine tk 5 ?_;refine tk 6 ?_;have S7:Hid ((W6.setCell ⟨b,4,none⟩ (.int .i64 ((mk:Nat):Int))).cell? ⟨w.heap.size,0,none⟩=some (.pointer (some ⟨b,0,none⟩))):=((But.refl (fun k=>k=b) W6).setCell (p:=⟨b,4,none⟩) (fun _=>rfl) (.int .i64 ((mk:Nat):Int))).cell (p:=⟨w.heap.size,0,none⟩) (block_lt_of_cell (SS.out _ B6.out)) hbn.out |>.trans (SS.out _ B6.out)
  have S8:Hid (((W6.setCell ⟨b,4,none⟩ (.int .i64 ((mk:Nat):Int))).setCell ⟨b,3,none⟩ (.slice none 0 0)).cell? ⟨w.heap.size,0,none⟩=some (.pointer (some ⟨b,0,none⟩))):=((But.refl (fun k=>k=b) _).setCell (p:=⟨b,3,none⟩) (fun _=>rfl) (.slice none 0 0)).cell (p:=⟨w.heap.size,0,none⟩) (block_lt_of_cell S7.out) hbn.out |>.trans S7.out
  have S9:Hid ((((W6.setCell ⟨b,4,none⟩ (.int .i64 ((mk:Nat):Int))).setCell ⟨b,3,none⟩ (.slice none 0 0)).setCell ⟨b,2,none⟩ (.slice none 0 0)).cell? ⟨w.heap.size,0,none⟩=some (.pointer (some ⟨b,0,none⟩))):=((But.refl (fun k=>k=b) _).setCell (p:=⟨b,2,none⟩) (fun _=>rfl) (.slice none 0 0)).cell (p:=⟨w.heap.size,0,none⟩) (block_lt_of_cell S8.out) hbn.out |>.trans S8.out
  refine tw 7 fun K hK=>?_
  go_simp;refine hK.out _ _ (S7.out) (fun hHeld=>?_)
  clear hK K;try simp only[pt]
  refine tk 8 ?_;refine tk 9 ?_;refine tw 10 fun K hK=>?_
  go_simp;refine hK.out _ _ (S8.out) (fun hHeld=>?_)
  clear hK K;try simp only[pt]
  refine tk 11 ?_;refine tk 12 ?_;refine tw 13 fun K hK=>?_
  go_simp;refine hK.out _ _ (S9.out) (fun hHeld=>?_)
  clear hK K;try simp only[pt]
  refine td ?_;refine NoPanic.normal ?_
  have W7E:Hid (∀o,∃pc' col',Vw ((((W6.setCell ⟨b,4,none⟩ (.int .i64 ((mk:Nat):Int))).setCell ⟨b,3,none⟩ (.slice none 0 0)).setCell ⟨b,2,none⟩ (.slice none 0 0)).putObj D o) b S.settle pb mb pc' col'/\Vf w col ((((W6.setCell ⟨b,4,none⟩ (.int .i64 ((mk:Nat):Int))).setCell ⟨b,3,none⟩ (.slice none 0 0)).setCell ⟨b,2,none⟩ (.slice none 0 0)).putObj D o) col'):=fun o=>by
   have hDx:D<Wx.heap.size:=(Array.getElem?_eq_some_iff.1 HK.out).1
   have hDc:paint col Wx W5 5 D=0:=by
    rw[paint_old hDx];by_cases e:col D=0
    · exact e
    · have h1:=LT1.out D e;have h2:=DB.out;omega
   have hDb:D≠b:=fun e=>by
    have h1:=HLT.out b (by rw[HQ.out.cb];decide)
    have h2:=DB.out;omega
   have bD:=(But.refl (fun k=>k=D) (((W6.setCell ⟨b,4,none⟩ (.int .i64 ((mk:Nat):Int))).setCell ⟨b,3,none⟩ (.slice none 0 0)).setCell ⟨b,2,none⟩ (.slice none 0 0))).putObj (fun _=>rfl) o
   refine⟨pc5,paint col Wx W5 5,⟨none,0,none,0,by show Vq _ b _ (S.fl+S.al.length) _ _ _;rw[HMK.out];exact V7.out.but bD (fun k hk e=>hk (by rw[e];exact hDc))⟩,?_⟩
   have v6:Vf w col W6 (paint col Wx W5 5):=HF5.out.trans (Vf.keep B6.out);refine⟨(v6.b.trans BF.out (fun k hk e=>by rw[e,HQ.out.cb];omega)).trans bD (fun k hk e=>?_),v6.c⟩
   have h2:=DB.out;omega
  have K7:Hid ((((W6.setCell ⟨b,4,none⟩ (.int .i64 ((mk:Nat):Int))).setCell ⟨b,3,none⟩ (.slice none 0 0)).setCell ⟨b,2,none⟩ (.slice none 0 0)).heap[D]?=some (.deferred (some []))):=by
   have k6:W6.heap[D]?=some (.deferred (some [])):=(B6.out.block D (Array.getElem?_eq_some_iff.1 K5.out).1).trans K5.out;refine(BF.out.block D (Array.getElem?_eq_some_iff.1 k6).1 (fun e=>?_)).trans k6
   have h1:=HLT.out b (by rw[HQ.out.cb];decide)
   have h2:=DB.out;omega
  clear hHeld d0 d1 d2 d3 d4 f4 f3 f2 S7 S8 S9 V7 BF V6;generalize (((W6.setCell ⟨b,4,none⟩ (.int .i64 ((mk:Nat):Int))).setCell ⟨b,3,none⟩ (.slice none 0 0)).setCell ⟨b,2,none⟩ (.slice none 0 0))=W9 at *;go_wp2;refine⟨by simp,.inl ⟨_,_,rfl,run_takeDeferred K7.out,?_⟩⟩
  obtain⟨p9,q9,h9,v9⟩:=W7E.out (.deferred none);exact⟨.tuple #[],by kernel_rfl,rfl,p9,q9,h9,v9⟩
 case stop=>exact fun D c F pre rest Wx hD hFD hxs hz=>hz.elim
end Go.Proofs.YtcpkinhneehomaaGreat
namespace Go.Proofs.YtcpkinhneehomaaGreat
open Go.RowKit
variable {z:Int}{us vs:List Value}{b cT cX g rb wb:Nat}{own:Nat->Prop}{aT aX:Option Addr}{D:Rd}{v v2 v3:Value}{X:Vm}{S:Vs}{w w5:World}
structure Rel(X:Vm)(D:Rd):Prop where
 pg:X.P.pg=D.pg
 rf:X.P.rf=D.R
 on:∀z,X.P.count z≠0->(X.on z).pg=(D.on z).pg
 nL:D.L.length=D.C.length
 nP:D.P.length=D.C.length
 ok:X.P.Ok
theorem Rel.len(h:Rel X D):X.P.pg.length=D.C.length:=by rw[h.pg];exact Rd.pg_len h.nL
theorem Rel.count(h:Rel X D)(z:Int):X.P.count z=D.count z:=by
 unfold Q.Po.count Rd.count
 have e:X.P.has z=D.has z:=by
  unfold Q.Po.has Rd.has;rw[h.len]
 rw[e];split
 · rename_i hh;obtain⟨h1,h2⟩:=Rd.has_iff.1 hh;rw[h.pg,Rd.pg_get h.nL (by omega)]
 · rfl
theorem Rel.counts(h:Rel X D):X.P.pg.map (·.1)=D.C:=by
 rw[h.pg];unfold Rd.pg;rw[List.map_fst_zip (by rw[h.nL];exact Nat.le_refl _)]
theorem Rel.low{X:Vm}{D:Rd}(h:Rel X D):X.P.alloc.1=if lowOf D.pg=0 then (0,12) else (lowOf D.pg,0):=by
 unfold Q.Po.alloc lowOf;rw[h.pg];cases e:Q.pagesOf D.pg 1 with
 |nil=>rfl
 |cons n T=>
  have hm:n∈Q.pagesOf D.pg 1:=by rw[e];exact List.mem_cons_self
  have h1:=(Q.inS_iff.1 ((Q.mem_pagesOf D.pg 1 n).1 hm)).1;show(n,(0:Int))=if n=0 then _ else (n,0)
  rw[if_neg (by omega)]
theorem zip_set{C:List Int}{L:List Bool}{i:Nat}(h:L.length=C.length)(hi:i<C.length)(c:Int):(C.set i c).zip L=(C.zip L).set i (c,((C.zip L).getD i Q.Pg.zero).2):=by
 have h2:i<L.length:=by omega
 apply List.ext_getElem?;intro j;simp only[List.getElem?_zip_eq_some,List.getElem?_set,List.length_zip];by_cases e:i=j
 · subst e;rw[if_pos rfl,if_pos (by omega)]
   simp[List.zip,List.getElem?_zipWith,hi,h2]
 · rw[if_neg e];simp[List.zip,List.getElem?_zipWith,List.getElem?_set,e]
theorem Rel.makeR(h:Rel S.X D)(p:Pg):S.makeR p=D.makeR p:=by
 unfold Vs.makeR Rd.makeR;rw[h.low]
theorem Rel.make(h:Rel S.X D){p:Pg}{q q':Pv}(hq:q.pg=p)(hq':q'.pg=p)(hk:p.kind≠0)(h0:(S.makeR p).2=0)(hp:p.check=0):Rel (S.makeS p q).X (D.makeD p q'):=by
 have e1:S.X.P.alloc.1.2=0:=by
  unfold Vs.makeR at h0;rw[if_pos hp] at h0;exact h0
 have hlow:lowOf D.pg≠0:=fun e=>by
  rw[h.low,if_pos e] at e1;exact absurd e1 (by decide)
 have e2:S.X.P.alloc.1.1=lowOf D.pg:=by rw[h.low,if_neg hlow]
 obtain⟨i,i1,i2,i3,i4,i5⟩:=alloc_yes e1;obtain⟨a1,a2⟩:=alloc_count e1
 have e3:S.makeS p q=⟨S.X.allocd.lay S.X.P.alloc.1.1 q,S.al++[(S.X.P.mark,S.X.ch.length)],S.fl⟩:=by
  unfold Vs.makeS;rw[if_pos hp,e1,if_pos rfl];unfold Vs.done;rw[if_pos rfl]
 have ei:(lowOf D.pg-1).toNat=i:=by rw[<-e2,i3];omega
 have hiC:i<D.C.length:=by rw[<-h.len];exact i1
 have e4:D.makeD p q'={D with C:=D.C.set i 1,P:=D.P.set i q'}:=by
  unfold Rd.makeD;rw[if_pos ⟨hp,hlow⟩,ei]
 rw[e3,e4];have kq:q.kind≠0:=fun e=>hk (by rw[<-hq];exact e)
 have onx:∀z,(S.X.allocd.lay S.X.P.alloc.1.1 q).on z=if z=S.X.P.alloc.1.1 then q else S.X.on z:=fun z=>by
  unfold Vm.lay Vm.on;show((fput S.X.f S.X.P.alloc.1.1 q z).getD Pv.zero)=_;by_cases ez:z=S.X.P.alloc.1.1
  · simp[fput,ez,kq]
  · simp only[fput,if_neg ez];try rfl
 refine⟨?_,?_,fun z hz=>?_,?_,?_,?_⟩
 · show S.X.P.alloc.2.pg=(D.C.set i 1).zip D.L;rw[i4,zip_set h.nL hiC,h.pg];rfl
 · show S.X.P.alloc.2.rf=D.R;rw[i5];exact h.rf
 · have hz2:S.X.P.alloc.2.count z≠0:=hz;rw[onx z];show _=(((D.P.set i q').getD (z-1).toNat Pv.zero)).pg;rw[a2 z] at hz2;by_cases ez:z=S.X.P.alloc.1.1
   · rw[if_pos ez,getD_set,if_pos ⟨by rw[ez,i3];omega,by rw[h.nP];exact hiC⟩,hq,hq']
   · rw[if_neg ez] at hz2 ⊢;have hh:=Q.Po.count_has hz2;rw[getD_set,if_neg (fun e=>ez (by rw[i3];omega))]
     exact h.on z hz2
 · show D.L.length=(D.C.set i 1).length;rw[List.length_set];exact h.nL
 · show(D.P.set i q').length=(D.C.set i 1).length;rw[List.length_set,List.length_set];exact h.nP
 · exact alloc_Ok h.ok e1
theorem mkp_kind(l:List Nat)(i:Nat)(nx:Int):(mkp l i nx).kind≠0:=by show(3:Int)≠0;decide
theorem Rel.spr{S:Vs}{D:Rd}{l:List Nat}{k:Nat}(h:Rel S.X D)(hl:480*(k-1)<l.length):∀(m:Nat)(S':Vs)(nx:Int)(D':Rd)(nx':Int),Spo l k S m S' nx->Sprd l k D m D' nx'->nx'=nx/\Rel S'.X D'
 |0,S',nx,D',nx',hs,hd=>by
  obtain⟨e1,e2⟩:=hs.s;obtain⟨e3,e4⟩:=hd;rw[e1,e2,e3,e4];exact⟨rfl,h⟩
 |m+1,S',nx,D',nx',hs,hd=>by
  obtain⟨S1,n1,q,p1,p2,p3,p4,p5,p6⟩:=(spr_step h.ok hl (m+1) S' nx hs.s hs.la).2.2 m rfl;obtain⟨D1,n1',q',d1,d2,d3,d4⟩:=hd;obtain⟨e,r⟩:=Rel.spr h hl m S1 n1 D1 n1' p1 d1;subst e;have hc:=mkp_check (l:=l) (i:=k-1-m) (nx:=n1') (by omega) p1.nx.1 p1.nx.2
  rw[d3,d4,p5,p6];exact⟨by rw[r.makeR],r.make p3 d2 (mkp_kind _ _ _) p4 hc⟩
theorem Rel.put(h:Rel X D)(h0:X.P.count z≠0){X':Vm}{c:Int}(hp:X'.P.pg=X.P.pg.set (z.toNat-1) (c,(X.P.pg.getD (z.toNat-1) Q.Pg.zero).2))(hr:X'.P.rf=X.P.rf)(ho:∀y,X'.P.count y≠0->X.P.count y≠0/\X'.on y=X.on y)(hok:X'.P.Ok):Rel X' (D.put z c):=by
 obtain⟨h1,h2⟩:=Q.Po.count_has h0;have hi:z.toNat-1<D.C.length:=by rw[<-h.len];omega
 have e:(z-1).toNat=z.toNat-1:=by omega
 refine⟨?_,by rw[hr];exact h.rf,fun y hy=>?_,?_,?_,hok⟩
 · rw[hp,h.pg];show _=(D.C.set (z-1).toNat c).zip D.L;rw[e,zip_set h.nL hi];rfl
 · obtain⟨k1,k2⟩:=ho y hy;rw[k2];exact h.on y k1
 · show D.L.length=(D.C.set _ c).length;rw[List.length_set];exact h.nL
 · show D.P.length=(D.C.set _ c).length;rw[List.length_set];exact h.nP
theorem count_le{P:Q.Po}(h:P.Ok)(z:Int):0<=P.count z/\P.count z<=P.rf:=by
 unfold Q.Po.count;split
 · rename_i hh;have hi:=Q.Po.has_iff.1 hh;exact h.cs _ (Q.getD_memP (by omega))
 · have:=h.r1;exact⟨Int.le_refl _,by omega⟩
theorem Rel.less(h:Rel X D)(h0:X.P.count z≠0):Rel (X.less z) (D.put z (D.count z-1)):=by
 have hc:=count_le h.ok z;refine h.put h0 ?_ ?_ (fun y hy=>Vm.less_on hy) ?_
 · rw[Vm.less_P,dec_pg,if_neg h0,h.count]
 · rw[Vm.less_P,dec_rf]
 · rw[Vm.less_P];obtain⟨k1,k2⟩:=Q.Po.count_has h0;unfold Q.Po.dec;rw[if_neg h0];exact h.ok.act (n:=z.toNat) (by omega) (by omega) ⟨by omega,by omega⟩
structure Dp(X X':Vm):Prop where
 t:tot X'.P<=tot X.P
 m:X'.P.mark+tot X'.P<=X.P.mark+tot X.P
 c:X'.ch.length+tot X'.P<=X.ch.length+tot X.P
theorem Dp.refl(X:Vm):Dp X X:=⟨Nat.le_refl _,Nat.le_refl _,Nat.le_refl _⟩
theorem Dp.trans{Y Z:Vm}(h:Dp X Y)(k:Dp Y Z):Dp X Z:=⟨Nat.le_trans k.t h.t,Nat.le_trans k.m h.m,Nat.le_trans k.c h.c⟩
theorem Dp.less(hok:X.P.Ok)(h0:X.P.count z≠0):Dp X (X.less z)/\tot (X.less z).P+1=tot X.P:=by
 have hd:=(dec_tot hok z).1 (by rw[dec_ans,if_neg h0])
 have hm:=dec_mark X.P z;rw[if_neg h0] at hm;have hch:=X.less_ch z;have e:tot (X.less z).P+1=tot X.P:=by rw[Vm.less_P];exact hd.1
 exact⟨⟨by omega,by rw[Vm.less_P] at e ⊢;omega,by omega⟩,e⟩
def DropAs(D:Rd)(z:Int)(L:List Int)(X:Vm)(r:Int×Vm):Prop:=(r.1=0/\∃D',Rel r.2 D'/\D'={D with C:=D'.C}/\Rd.dropS (D.tot+1) D (z::L)=Rd.dropS (D'.tot+1) D' L/\Dp X r.2)\/(r.1=15/\Rd.dropS (D.tot+1) D (z::L)=none)
theorem drop_as:∀(t:Nat)(X:Vm)(D:Rd)(z:Int)(L:List Int),Rel X D->tot X.P<t->DropAs D z L X (dropM t X z)
 |0,X,D,z,L,_,ht=>absurd ht (Nat.not_lt_zero _)
 |t+1,X,D,z,L,h,ht=>by
  unfold dropM;by_cases h0:X.P.count z=0
  · rw[if_pos (.inl (by rw[dec_ans,if_pos h0];decide))]
    refine .inr ⟨by rw[dec_ans,if_pos h0],?_⟩
    show(if 0<D.count z then _ else _)=_
    rw[if_neg (by rw[<-h.count,h0];decide)]
  · have hc:=count_le h.ok z;have hD:0<D.count z:=by rw[<-h.count];omega
    have hl:=h.less h0;obtain⟨dp,et⟩:=Dp.less h.ok h0
    have st:∀M,Rd.dropS (D.tot+1) D (z::M)=Rd.dropS ((D.put z (D.count z-1)).tot+1) (D.put z (D.count z-1)) (if D.count z-1=0 then (D.on z).pg.kids++M else M):=fun M=>by
     show(if 0<D.count z then _ else _)=_
     rw[if_pos hD,Rd.put_tot hD]
    by_cases h1:0<X.P.count z-1
    · rw[if_pos (.inr (by rw[dec_ans,if_neg h0];exact h1))]
      refine .inl ⟨by rw[dec_ans,if_neg h0],D.put z (D.count z-1),hl,rfl,?_,dp⟩
      rw[st L,if_neg (by rw[<-h.count];omega)]
    · rw[if_neg (by rw[dec_ans,if_neg h0];exact fun e=>e.elim (fun e=>e rfl) (fun e=>h1 e))]
      have hk:∀(K:List Int)(Y:Vm)(E:Rd),Rel Y E->tot Y.P<t->(((dropL (dropM t) Y K).1=0/\∃D',Rel (dropL (dropM t) Y K).2 D'/\D'={E with C:=D'.C}/\Rd.dropS (E.tot+1) E (K++L)=Rd.dropS (D'.tot+1) D' L/\Dp Y (dropL (dropM t) Y K).2)\/((dropL (dropM t) Y K).1=15/\Rd.dropS (E.tot+1) E (K++L)=none)):=by
       intro K;induction K with
       |nil=>exact fun Y E hY _=>.inl ⟨rfl,E,hY,rfl,rfl,Dp.refl Y⟩
       |cons y K ih=>
        intro Y E hY htY;unfold dropL;rcases drop_as t Y E y (K++L) hY htY with⟨a1,E',a2,a3,a4,a5⟩|⟨a1,a2⟩
        · rw[if_pos a1];rcases ih _ E' a2 (Nat.lt_of_le_of_lt a5.t htY) with⟨b1,D',b2,b3,b4,b5⟩|⟨b1,b2⟩
          · refine .inl ⟨b1,D',b2,?_,?_,a5.trans b5⟩
            · rw[a3] at b3;exact b3
            · rw[List.cons_append,a4,b4]
          · exact .inr ⟨b1,by rw[List.cons_append,a4,b2]⟩
        · rw[if_neg (by rw[a1];decide)]
          exact .inr ⟨a1,by rw[List.cons_append];exact a2⟩
      have e1:D.count z-1=0:=by rw[<-h.count];omega
      rcases hk (X.on z).pg.kids (X.less z) (D.put z (D.count z-1)) hl (by omega) with⟨b1,D',b2,b3,b4,b5⟩|⟨b1,b2⟩
      · refine .inl ⟨b1,D',b2,b3,?_,dp.trans b5⟩;rw[st L,if_pos e1,<-h.on z h0,b4]
      · refine .inr ⟨b1,?_⟩;rw[st L,if_pos e1,<-h.on z h0,b2]
theorem Rel.same{D2:Rd}(h:Rel X D)(hs:D.Same D2):Rel X D2:=by
 have e:D2.pg=D.pg:=by unfold Rd.pg;rw[hs.C,hs.L]
 refine⟨by rw[e];exact h.pg,by rw[hs.R];exact h.rf,fun z hz=>?_,by rw[hs.L,hs.C];exact h.nL,by rw[hs.P,hs.C];exact h.nP,h.ok⟩
 rw[h.on z hz];unfold Rd.on;rw[hs.P]
theorem Rel.inc(h:Rel S.X D)(z:Int):(S.X.P.inc z).1=(D.inc z).1/\((S.X.P.inc z).1=0->Rel ⟨(S.X.P.inc z).2,S.X.f,S.X.ch⟩ (D.inc z).2)/\((S.X.P.inc z).1≠0->(D.inc z).2=D):=by
 have hc:=count_le h.ok z;unfold Q.Po.inc Rd.inc;rw[<-h.count,<-h.rf];by_cases h0:S.X.P.count z=0
 · rw[if_pos h0,if_neg (by rw[h0];decide)]
   exact⟨rfl,fun e=>absurd (show(15:Int)=0 from e) (by decide),fun _=>rfl⟩
 · by_cases h1:S.X.P.count z=S.X.P.rf
   · rw[if_neg h0,if_pos h1,if_pos (show 0<S.X.P.count z by omega),if_pos (show S.X.P.rf<=S.X.P.count z by omega)]
     exact⟨rfl,fun e=>absurd (show(13:Int)=0 from e) (by decide),fun _=>rfl⟩
   · rw[if_neg h0,if_neg h1,if_pos (show 0<S.X.P.count z by omega),if_neg (show ¬S.X.P.rf<=S.X.P.count z by omega)]
     refine⟨rfl,fun _=>?_,fun e=>absurd rfl e⟩
     obtain⟨j1,j2⟩:=Q.Po.count_has h0;refine h.put h0 (X':=⟨S.X.P.act z.toNat (S.X.P.count z+1),S.X.f,S.X.ch⟩) rfl rfl (fun y hy=>⟨?_,rfl⟩) (h.ok.act (n:=z.toNat) (by omega) (by omega) ⟨by omega,by omega⟩)
     obtain⟨k1,k2⟩:=Q.Po.count_has h0;have k:(S.X.P.act z.toNat (S.X.P.count z+1)).count y=_:=count_set (P:=S.X.P) (i:=z.toNat-1) (by omega) rfl y
     have hy2:(S.X.P.act z.toNat (S.X.P.count z+1)).count y≠0:=hy;rw[k] at hy2;split at hy2
     · rename_i e;rw[show y=z by omega];exact h0
     · exact hy2
theorem Rel.settle{D':Rd}(h:Rel S.X D)(hs:D.Set D' D.C.length):Rel S.settle.X D':=by
 have eC:D'.C=D.C:=by rw[hs.e]
 have eR:D'.R=D.R:=by rw[hs.e]
 have nl:D'.L.length=D'.C.length:=by rw[hs.nl,eC];exact h.nL
 refine⟨?_,?_,fun z hz=>?_,nl,by rw[hs.np,eC];exact h.nP,?_⟩
 · show S.X.P.pg.map (fun x=>(x.1,decide (0<x.1)))=D'.pg
   have hl:D'.pg.length=D.C.length:=by rw[Rd.pg_len nl,eC]
   apply List.ext_getElem (by rw[List.length_map,h.len,hl])
   intro i h1 h2;have hi:i<D.C.length:=by rw[<-hl];exact h2
   have e1:D'.pg[i]=D'.pg.getD i Q.Pg.zero:=by simp[h2]
   have e2:S.X.P.pg[i]'(by rw[h.len];exact hi)=D.pg.getD i Q.Pg.zero:=by
    have h3:i<D.pg.length:=by rw[Rd.pg_len h.nL];exact hi
    simp[h3,h.pg]
   rw[e1,Rd.pg_get nl (by rw[eC];exact hi),List.getElem_map,e2,Rd.pg_get h.nL hi,hs.l i,if_pos ⟨hi,by rw[h.nL];exact hi⟩,eC]
 · show S.X.P.rf=D'.R;rw[eR];exact h.rf
 · have hz2:S.X.P.settle.count z=S.X.P.count z:=by
    unfold Q.Po.count Q.Po.has Q.Po.settle;dsimp only;rw[List.length_map];split
    · rename_i hh;rw[List.getD_eq_getElem?_getD,List.getD_eq_getElem?_getD,List.getElem?_map];cases S.X.P.pg[(z-1).toNat]?<;>rfl
    · rfl
   have hz3:S.X.P.count z≠0:=by rw[<-hz2];exact hz
   have hn:¬z∈S.X.P.pages 2:=fun hm=>by
    unfold Q.Po.pages at hm;rw[if_pos (by decide)] at hm
    have hm2:=Q.inS_iff.1 ((Q.mem_pagesOf _ _ _).1 hm);have hh:S.X.P.has z=true:=Q.Po.has_iff.2 ⟨hm2.1,hm2.2.1⟩;apply hz3;unfold Q.Po.count;rw[if_pos hh];have h4:=hm2.2.2;unfold Q.stt at h4;split at h4
    · assumption
    · split at h4<;>exact absurd h4 (by decide)
   have e1:S.settle.X.on z=S.X.on z:=by
    show(fdel S.X.f (S.X.P.pages 2) z).getD Pv.zero=_;unfold fdel;rw[if_neg hn];rfl
   rw[e1,h.on z hz3];unfold Rd.on;have hd:0<D.count z:=by rw[<-h.count];have:=count_le h.ok z;omega
   obtain⟨_,_,h5⟩:=Rd.count_at hd;rw[hs.p,if_neg (fun e=>by omega)]
 · refine⟨by show 1<=(S.X.P.pg.map _).length;rw[List.length_map];exact h.ok.l1,by show(S.X.P.pg.map _).length<=_;rw[List.length_map];exact h.ok.l2,h.ok.r1,h.ok.r2,fun x hx=>?_,fun a ha=>absurd (show a∈([]:List (Nat×Q.Pg)) from ha) (List.not_mem_nil)⟩
   obtain⟨y,hy,rfl⟩:=List.mem_map.1 (show x∈S.X.P.pg.map _ from hx)
   exact h.ok.cs y hy
structure Wk2(w:World)(wb b rb:Nat)(own:Nat->Prop)(v2 v3:Value)(aT:Option Addr)(cT:Nat)(vs:List Value)(aX:Option Addr)(cX:Nat)(us:List Value):Prop where
 box:w.heap[wb]?=some (.cells #[.pointer (some ⟨b,0,none⟩),.pointer (some ⟨rb,0,none⟩),v2,v3,.slice aT vs.length cT,.slice aX us.length cX] 78 (0,0))
 t:Ar w aT cT vs
 x:Ar w aX cX us
 ob:own wb
 ot:∀y,aT=some y->own y.block
 ox:∀y,aX=some y->own y.block
 ne:∀y z,aT=some y->aX=some z->y.block≠z.block
theorem Wk2.keep{w':World}(h:Wk2 w wb b rb own v2 v3 aT cT vs aX cX us)(hb:Below w.heap.size w w'):Wk2 w' wb b rb own v2 v3 aT cT vs aX cX us:=
 ⟨blk13 h.box hb,h.t.keep hb,h.x.keep hb,h.ob,h.ot,h.ox,h.ne⟩
theorem Wk2.cells(h:Wk2 w wb b rb own v2 v3 aT cT vs aX cX us):w.cell? ⟨wb,0,none⟩=some (.pointer (some ⟨b,0,none⟩))/\w.cell? ⟨wb,1,none⟩=some (.pointer (some ⟨rb,0,none⟩))/\w.cell? ⟨wb,4,none⟩=some (.slice aT vs.length cT)/\w.cell? ⟨wb,5,none⟩=some (.slice aX us.length cX)/\w.frozen? ⟨wb,4,none⟩=false/\w.frozen? ⟨wb,5,none⟩=false:=by
 obtain⟨x0,x1,x2,x3,x4,x5⟩:=six_cells h.box;exact⟨x0,x1,x4,x5,by simp[World.frozen?,h.box],by simp[World.frozen?,h.box]⟩
theorem Wk2.told(h:Wk2 w wb b rb own v2 v3 aT cT vs aX cX us)(hw:∀k,w.heap.size<=k->own k){c:Nat}(hA:Ar w5 (some ⟨g,0,none⟩) c (vs++[v]))(hN:New w aT (some ⟨g,0,none⟩))(hB:But (Q.InA aT) w w5):
 Wk2 (w5.setCell ⟨wb,4,none⟩ (.slice (some ⟨g,0,none⟩) (vs.length+1) c)) wb b rb own v2 v3 (some ⟨g,0,none⟩) c (vs++[v]) aX cX us/\But own w (w5.setCell ⟨wb,4,none⟩ (.slice (some ⟨g,0,none⟩) (vs.length+1) c))/\w5.cell? ⟨wb,4,none⟩=some (.slice aT vs.length cT)/\w5.frozen? ⟨wb,4,none⟩=false:=by
 have nb:∀{a:Option Addr}{c:Nat}{vs:List Value}{W:World}{cs:Array Value},Ar W a c vs->W.heap[wb]?=some (.cells cs 78 (0,0))->∀y,a=some y->y.block≠wb:=fun ha hb y hy e=>by
  rcases ha.cases with⟨h0,_⟩|⟨g',cur,h0,hg',_⟩
  · rw[h0] at hy;cases hy
  · rw[h0] at hy;cases hy;exact blk_ty hg' hb (by decide) e
 have b5:w5.heap[wb]?=_:=hB.same h.box (fun⟨y,hy,e⟩=>nb h.t h.box y hy e)
 have bs:But (fun k=>k=wb) w5 (w5.setCell ⟨wb,4,none⟩ (.slice (some ⟨g,0,none⟩) (vs.length+1) c)):=(But.refl (fun k=>k=wb) w5).setCell (p:=⟨wb,4,none⟩) (fun _=>rfl) _
 have x5:Ar w5 aX cX us:=h.x.but hB (fun z hz ⟨y,hy,e⟩=>h.ne y z hy hz e)
 have og:own g:=by
  rcases hN ⟨g,0,none⟩ rfl with⟨z,hz,e⟩|e
  · have e:z.block=g:=e;rw[<-e];exact h.ot z hz
  · exact hw g e
 have lx:∀z,aX=some z->z.block<w.heap.size:=fun z hz=>h.x.lt hz
 refine⟨⟨?_,hA.but bs (fun y hy e=>nb hA b5 y hy e),x5.but bs (fun y hy e=>nb x5 b5 y hy e),h.ob,fun y hy=>by cases hy;exact og,h.ox,fun y z hy hz e=>?_⟩,?_,?_,by simp[World.frozen?,b5]⟩
 · rw[heap_setCell_same _ _ _ _ _ _ b5];rw[List.length_append];rfl
 · cases hy;rcases hN ⟨g,0,none⟩ rfl with⟨q,hq,e2⟩|e2
   · exact h.ne q z hq hz (e2.trans e)
   · have:=lx z hz;have e2:w.heap.size<=g:=e2;have e:g=z.block:=e;omega
 · exact((hB.mono (T:=own) (fun k _ ⟨y,hy,e⟩=>by rw[<-e];exact h.ot y hy)).trans bs (fun k _ e=>by have e:k=wb:=e;rw[e];exact h.ob))
 · rw[cell_of_row _ _ _ _ _ _ b5];rfl
theorem Wk2.text(h:Wk2 w wb b rb own v2 v3 aT cT vs aX cX us)(hw:∀k,w.heap.size<=k->own k){c:Nat}(hA:Ar w5 (some ⟨g,0,none⟩) c (us++[v]))(hN:New w aX (some ⟨g,0,none⟩))(hB:But (Q.InA aX) w w5):
 Wk2 (w5.setCell ⟨wb,5,none⟩ (.slice (some ⟨g,0,none⟩) (us.length+1) c)) wb b rb own v2 v3 aT cT vs (some ⟨g,0,none⟩) c (us++[v])/\But own w (w5.setCell ⟨wb,5,none⟩ (.slice (some ⟨g,0,none⟩) (us.length+1) c))/\w5.cell? ⟨wb,5,none⟩=some (.slice aX us.length cX)/\w5.frozen? ⟨wb,5,none⟩=false:=by
 have nb:∀{a:Option Addr}{c:Nat}{vs:List Value}{W:World}{cs:Array Value},Ar W a c vs->W.heap[wb]?=some (.cells cs 78 (0,0))->∀y,a=some y->y.block≠wb:=fun ha hb y hy e=>by
  rcases ha.cases with⟨h0,_⟩|⟨g',cur,h0,hg',_⟩
  · rw[h0] at hy;cases hy
  · rw[h0] at hy;cases hy;exact blk_ty hg' hb (by decide) e
 have b5:w5.heap[wb]?=_:=hB.same h.box (fun⟨y,hy,e⟩=>nb h.x h.box y hy e)
 have bs:But (fun k=>k=wb) w5 (w5.setCell ⟨wb,5,none⟩ (.slice (some ⟨g,0,none⟩) (us.length+1) c)):=(But.refl (fun k=>k=wb) w5).setCell (p:=⟨wb,5,none⟩) (fun _=>rfl) _
 have t5:Ar w5 aT cT vs:=h.t.but hB (fun y hy ⟨z,hz,e⟩=>h.ne y z hy hz e.symm)
 have og:own g:=by
  rcases hN ⟨g,0,none⟩ rfl with⟨z,hz,e⟩|e
  · have e:z.block=g:=e;rw[<-e];exact h.ox z hz
  · exact hw g e
 have lt:∀z,aT=some z->z.block<w.heap.size:=fun z hz=>h.t.lt hz
 refine⟨⟨?_,t5.but bs (fun y hy e=>nb t5 b5 y hy e),hA.but bs (fun y hy e=>nb hA b5 y hy e),h.ob,h.ot,fun y hy=>by cases hy;exact og,fun y z hy hz e=>?_⟩,?_,?_,by simp[World.frozen?,b5]⟩
 · rw[heap_setCell_same _ _ _ _ _ _ b5];rw[List.length_append];rfl
 · cases hz;rcases hN ⟨g,0,none⟩ rfl with⟨q,hq,e2⟩|e2
   · exact h.ne y q hy hq (e.trans e2.symm)
   · have:=lt y hy;have e2:w.heap.size<=g:=e2;have e:y.block=g:=e;omega
 · exact((hB.mono (T:=own) (fun k _ ⟨y,hy,e⟩=>by rw[<-e];exact h.ox y hy)).trans bs (fun k _ e=>by have e:k=wb:=e;rw[e];exact h.ob))
 · rw[cell_of_row _ _ _ _ _ _ b5];rfl
end Go.Proofs.YtcpkinhneehomaaGreat
