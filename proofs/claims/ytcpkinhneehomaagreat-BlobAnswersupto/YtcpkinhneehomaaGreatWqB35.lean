import Derived.Test.YtcpkinhneehomaaGreatWqB34
import Derived.ControlIn
import Derived.BigFrameIn
import Derived.OrdersIn
set_option linter.unusedVariables false
set_option linter.unusedSimpArgs false
set_option maxHeartbeats 8000000
set_option maxRecDepth 10000
namespace Go.Proofs.YtcpkinhneehomaaGreat.Q
open Go.RowKit Go.Shelf
attribute [local go_sem] Oper.semAt_some
theorem two_slices(w:World)(u v:Value)(T:TypeId):(w.alloc (.cells #[u,v] T)).cell? ⟨w.heap.size,0,none⟩=some u/\(w.alloc (.cells #[u,v] T)).cell? ⟨w.heap.size,1,none⟩=some v:=by
 rw[cell_of_row _ _ _ _ _ _ (World.alloc_heap_new w _),cell_of_row _ _ _ _ _ _ (World.alloc_heap_new w _)];exact⟨rfl,rfl⟩
theorem pgc_las(L:List Pg)(i:Nat)(h:i<L.length):pgc (L.set i (las (L.getD i Pg.zero)))=(pgc L).set (i*2+1) (.bool (decide (0<(L.getD i Pg.zero).1))):=by
 rw[pgc_set];congr 1
 refine List.ext_getElem? fun j=>?_
 by_cases e:i*2=j
 · subst e;rw[List.getElem?_set_self (by rw[pgc_length];omega),(pgc_get L i h).1]
   rfl
 · rw[List.getElem?_set_ne e]
theorem Po.Ok.setl{P:Po}(h:P.Ok)(f:Nat):(P.setl f).Ok:=by
 have hl:(P.setl f).pg.length=P.pg.length:=sel_length _ _;refine⟨by rw[hl];exact h.l1,by rw[hl];exact h.l2,h.r1,h.r2,fun x hx=>?_,fun a ha=>⟨⟨(h.acs a ha).1.1,by rw[hl];exact(h.acs a ha).1.2⟩,(h.acs a ha).2⟩⟩
 obtain⟨i,hi,rfl⟩:=List.mem_map.1 hx;have hi':=List.mem_range.1 hi;have:=h.cs _ (getD_memP hi');split
 · exact this
 · exact this
theorem op_round{P:Program}{o:Oper}{a:Act}{w:World}{K:Act->World->Prop}{Q:Exit->Act->World->Prop}{l:Nat}(hd:∀c,o.op≠ .defer c)(h:o.wp P a w K Q):o.wpIn (Fence.wide.inRound l) 0 P a w K Q:=by
 refine⟨fun f _=>trivial,?_⟩
 rw[Oper.semAt_plain _ _ _ hd];unfold Oper.wp at h;revert h;generalize (execOp a.eval o).run P w=r;intro h;match r,h with
 | .ok (.value v) w',h=>exact h
 | .ok .skip w',h=>exact h
 | .ok (.defer d) w',h=>exact h
 | .ok (.enter f args) w',h=>exact⟨fun z=>absurd (show(false:Bool)=true from z) (by decide),CallsIn.inRound l (callsIn_wide.2 h)⟩
 | .ok (.row row args) w',h=>exact⟨fun z=>absurd (show(false:Bool)=true from z) (by decide),fun c cs _=>let ⟨v,w',r,s⟩:=h c cs;⟨v,w',r,stepsIn_wide.2 s⟩⟩
 | .halt (.panic v) w',h=>exact h
theorem any_round{P:Program}{md:Region.Mode}{ops:Array Oper}{Q:Exit->Act->World->Prop}{l:Nat}(hd:∀(i:Nat)(o:Oper),ops[i]?=some o->∀c,o.op≠ .defer c)(hQ:¬LetsOut Q):∀(fuel:Nat)(listed:Array Bool)(a:Act)(w:World),wpAny P md ops Q fuel listed a w->wpAnyIn (Fence.wide.inRound l) 0 P md ops Q fuel listed a w
 |0,_,_,_,h=>h
 |fuel+1,listed,a,w,h=>⟨h.1,fun i hi=>by
   have t:=h.2 i hi;unfold wpOp at t;unfold wpOpIn;cases ho:ops[i]? with
   |none=>rw[ho] at t;exact any_round hd hQ fuel _ _ _ t
   |some o=>
    rw[ho] at t;simp only at t ⊢;split
    · rename_i hw;rw[if_pos hw] at t;rcases t with t|⟨_,t⟩
      · exact Oper.wpIn_mono (fun a w h=>any_round hd hQ fuel _ a w h) (op_round (hd i o ho) t)
      · exact absurd t hQ
    · rename_i hw;rw[if_neg hw] at t;exact⟨fun f _=>trivial,any_round hd hQ fuel _ _ _ t⟩⟩
def noDefer(ops:Array Oper):Bool:=ops.toList.all fun o=>match o.op with
 | .defer _=>false
 |_=>true
theorem noDefer_spec{ops:Array Oper}(h:noDefer ops=true)(i:Nat)(o:Oper)(ho:ops[i]?=some o)(c:_):o.op≠ .defer c:=fun e=>by
 unfold noDefer at h
 have hm:o∈ops.toList:=by
  rw[<-Array.getElem?_toList] at ho;exact List.mem_of_getElem? ho
 have:=List.all_eq_true.1 h o hm;rw[e] at this;cases this
theorem settle_any(w:World)(b:Nat)(P:Po)(D:Pd)(col:Nat->Nat)(h:Pm w b P col D)(f t:Nat)(hf:f<5)(ht:t<5)(hft:f≠t)(hs:∀x∈P.pg,stt x=f->stt (las x)=t):
 Calls Tryz.prog 153 #[.pointer (some ⟨b,0,none⟩),.int .i64 (f:Int),.int .i64 (t:Int)] w fun e w'=>e=.returned (.tuple #[])/\∃col',Pl w' b (P.setl f) col'/\Fr w col w' col':=by
 have aw:=al w (.cells #[.pointer (some ⟨b,0,none⟩)] 80);have p0:=cell_alloc_new w (.pointer (some ⟨b,0,none⟩)) 80;have q0:=h.q.keep aw;have ci:=q0.cin hf;have AL:=hide (All_any _ (D.s f) (D.a f) (D.c f) (D.L f) (q0.set f hf));have HM:=hide h;have HS:=hide hs;have AW:=hide aw;have SZ0:=hide (size_alloc w (.cells #[.pointer (some ⟨b,0,none⟩)] 80));clear h hs aw q0;refine(callsIn_wide (n:=0)).1 ?_;refine callsIn_of_wp_marks Tryz.func153 rfl trivial ?_ rfl;simp only[Tryz.ntmps153,List.size_toArray,List.length_cons,List.length_nil,Nat.reduceAdd,Nat.reduceSub,Array.replicate_succ,Array.replicate_zero,List.push_toArray,List.append_toArray,List.nil_append,List.cons_append];refine wpIn_wide.2 ?_;go_wp2_with fail
 refine AL.out.mono ?_;rintro _ W1 ⟨E,g,rfl,hE,hg,hcE,hV,hgl,hb⟩;have p1:=(hb.cell (p:=⟨w.heap.size,0,none⟩) (block_lt_of_cell p0)).trans p0;have B1:=hide (bt AW.out hb);have q1:=HM.out.q.keep B1.out;have hE':w.heap.size<E:=by have:=SZ0.out;omega
 have hg':w.heap.size<g:=by have:=SZ0.out;omega
 have lg:=HM.out.q.lt D.g (by rw[HM.out.q.cg];decide)
 have lE:=block_lt_of_cell hcE;have sq:=all_seqF W1 E (some ⟨g,0,none⟩) (D.L f).length (D.L f) hcE hV (by have:=HM.out.few hf;omega) (HM.out.rn hf)
 have np:=nums_pages (HM.out.q.set f hf).can (HM.out.mem f hf);rw[np] at sq;have HC:=hide hcE;clear p0 ci AL hE hg hV hb hcE;go_wp2_with fail
 refine(wpIn_wide (n:=0)).1 ?_
 refine wp_rangeF (gf:=170) (lb:=#[.pointer (some ⟨E,0,none⟩)]) rfl (enters_of Tryz.func170 (by kernel_rfl) rfl) sq (But.refl _ _)
  (fun k hk=>by
    rcases hk with rfl|⟨x,hx,rfl⟩
    · exact lE
    · cases hx;exact hgl) (fun _=>rfl) (fun k=>k=D.g)
  (fun k hk hx=>by
    have hk:k=D.g:=hk;rcases hx with rfl|⟨x,hx,e⟩
    · omega
    · cases hx;have e:g=k:=e;omega)
  (fun F pre W=>(∀k,F k↔k=D.g)/\But (fun k=>k=D.g) W1 W/\W.heap[D.g]?=some (.cells (pgc (sel P.pg (fun z=>pre.contains z))).toArray 133 (0,0)))
  (fun _ _ _ _=>False)
  (fun F s X1 X2 hs hb=>⟨hs.1,hs.2.1.trans hb (fun k hk h=>by have:=h.2;omega),hb.same hs.2.2 (fun h=>h.1 ((hs.1 _).2 rfl))⟩)
  (fun F s X1 hs k hk=>by rw[(hs.1 k).1 hk];exact(Array.getElem?_eq_some_iff.1 hs.2.2).1)
  (fun c F s X1 X2 hs hb=>hs) (fun c F s X1 hs=>hs.elim)
  ⟨fun k=>Iff.rfl,But.refl _ _,by
    rw[show sel P.pg (fun z=>([]:List Int).contains z)=P.pg from(sel_congr (fun i _=>by simp)).trans (sel_none P.pg)]
    exact q1.pgs⟩ ?round ?done (fun D' c F pre rest W _ _ _ hx=>hx.elim)
 case round=>
  rintro l F pre x rest W hxs ⟨hF,hB,hG⟩ hsz hFs hFl hl1 hl2 hBw;have hx1:=inS_iff.1 ((mem_pagesOf P.pg f x).1 (by rw[hxs];simp))
  obtain⟨i,rfl⟩:∃i:Nat,x=(i:Int)+1:=⟨(x-1).toNat,by omega⟩
  have hi:i<P.pg.length:=by omega
  have hpre:pre.contains ((i:Int)+1)=false:=by
   have hr:=pagesOf_rise P.pg f;rw[hxs] at hr;have:=(List.pairwise_append.1 hr).2.2;by_cases hc:pre.contains ((i:Int)+1)=true
   · have hm:((i:Int)+1)∈pre:=by simpa using hc
     have:=this _ hm _ (List.mem_cons_self ..);omega
   · simpa using hc
  have hl2p:=HM.out.ok.l2;unfold enI;gi_wp2
  refine⟨Below.refl _ _,fun W3 h3=>?_⟩
  have sB:=hB.size;have bW3:But (fun k=>k=D.g\/k=l) W1 W3:=(hB.mono (fun k _ hk=>.inl hk)).trans h3 (fun k _ hk=>.inr hk)
  have p3:=(bW3.cell (p:=⟨w.heap.size,0,none⟩) (block_lt_of_cell p1) (fun e=>by have e:w.heap.size=D.g\/w.heap.size=l:=e;have:=block_lt_of_cell p1;have:w.heap.size<W1.heap.size:=this;omega)).trans p1
  have lb:=HM.out.q.lb
  have c3:=(bW3.cell (p:=⟨b,1,none⟩) (block_lt_of_cell q1.c1) (fun e=>by
   have e:b=D.g\/b=l:=e;rcases e with e|e
   · have:=HM.out.q.cg;rw[<-e,HM.out.q.cb] at this;cases this
   · have:=B1.out.size;omega)).trans q1.c1
  have hG3:=h3.same hG (fun e=>by have:=B1.out.size;omega)
  have hil:i<(sel P.pg (fun z=>pre.contains z)).length:=by rw[sel_length];exact hi
  have gx:(sel P.pg (fun z=>pre.contains z)).getD i Pg.zero=P.pg.getD i Pg.zero:=by
   rw[sel_get P.pg _ hi,hpre];rfl
  obtain⟨e1,e2⟩:=pgc_get _ i hil;rw[gx] at e1 e2;have d1:W3.cell? ⟨D.g,i*2,none⟩=some (.int .i64 (P.pg.getD i Pg.zero).1):=by rw[cell_of_row _ _ _ _ _ _ hG3,List.getElem?_toArray];exact e1
  have d2:W3.cell? ⟨D.g,i*2+1,none⟩=some (.bool (P.pg.getD i Pg.zero).2):=by rw[cell_of_row _ _ _ _ _ _ hG3,List.getElem?_toArray];exact e2
  have f2:W3.frozen? ⟨D.g,i*2+1,none⟩=false:=by simp[World.frozen?,hG3]
  have d1':W3.drew.cell? ⟨D.g,i*2,none⟩=_:=d1;have d2':W3.drew.cell? ⟨D.g,i*2+1,none⟩=_:=d2;have f2':W3.drew.frozen? ⟨D.g,i*2+1,none⟩=false:=f2;have p3':W3.drew.cell? ⟨w.heap.size,0,none⟩=_:=p3;have c3':W3.drew.cell? ⟨b,1,none⟩=_:=c3;have s1:IntKind.i64.wrap (i:Int)=(i:Int):=wrapI (by omega) (by omega)
  have s2:wrap64 (i:Int)=(i:Int):=by unfold wrap64;omega
  have hiI:(i:Int)<(P.pg.length:Int):=Int.ofNat_lt.2 hi;have SS:=hide (show(sel P.pg (fun z=>pre.contains z)).set i (las (P.pg.getD i Pg.zero))=sel P.pg (fun z=>(pre++[(i:Int)+1]).contains z) from(sel_set hi hpre).trans (sel_congr fun j _=>by simp))
  have PL:=hide (pgc_las (sel P.pg (fun z=>pre.contains z)) i hil)
  rw[gx] at PL;have HG3:=hide hG3;have HH3:=hide h3;have HB3:=hide hB;have HF:=hide hF;have HBW:=hide bW3;clear hG hG3 hil gx e1 e2 sq np hxs h3 hB hF bW3 hFs hBw hx1 hpre;obtain⟨xp,hxp⟩:∃xp,P.pg.getD i Pg.zero=xp:=⟨_,rfl⟩;rw[hxp] at d1 d2 d1' d2' SS PL;obtain⟨x0,x1⟩:=xp;simp only at d1 d2 d1' d2' PL;clear hxp;gi_wp2
  refine wpIn_region_any (by kernel_rfl) (any_round (noDefer_spec (by kernel_rfl)) (fun⟨_,_,h⟩=>h) _ _ _ _ (wpAny_of_held (S:=fun w'=>w'.cell? ⟨w.heap.size,0,none⟩=some (.pointer (some ⟨b,0,none⟩))/\w'.cell? ⟨b,1,none⟩=some (.slice (some ⟨D.g,0,none⟩) P.pg.length P.pg.length)/\w'.cell? ⟨D.g,i*2,none⟩=some (.int .i64 x0)) _ _ _ _ ?_))
  have hHeld:W3.drew.cell? ⟨w.heap.size,0,none⟩=some (.pointer (some ⟨b,0,none⟩))/\W3.drew.cell? ⟨b,1,none⟩=some (.slice (some ⟨D.g,0,none⟩) P.pg.length P.pg.length)/\W3.drew.cell? ⟨D.g,i*2,none⟩=some (.int .i64 x0):=⟨p3',c3',d1'⟩;change wpAnyH _ _ _ _ _ _ _ _ W3.drew;refine tk 0 ?_;refine tk 1 ?_;refine tk 2 ?_;refine tk 3 ?_;refine tk 4 ?_;refine tk 5 ?_;refine tk 6 ?_;refine tk 7 ?_;refine tk 8 ?_;refine tk 9 ?_;refine tk 10 ?_;refine tk 11 ?_;refine tk 12 ?_;refine tk 13 ?_;refine tk 14 ?_;refine tk 15 ?_;refine tk 16 ?_;refine tk 17 ?_;refine tw 18 fun K hK=>?_
  have SW:=hide (show(W3.drew.setCell ⟨D.g,i*2+1,none⟩ (.bool (decide (0<x0)))).cell? ⟨w.heap.size,0,none⟩=some (.pointer (some ⟨b,0,none⟩))/\(W3.drew.setCell ⟨D.g,i*2+1,none⟩ (.bool (decide (0<x0)))).cell? ⟨b,1,none⟩=some (.slice (some ⟨D.g,0,none⟩) P.pg.length P.pg.length)/\(W3.drew.setCell ⟨D.g,i*2+1,none⟩ (.bool (decide (0<x0)))).cell? ⟨D.g,i*2,none⟩=some (.int .i64 x0) from by
   have bS:But (fun k=>k=D.g) W3.drew (W3.drew.setCell ⟨D.g,i*2+1,none⟩ (.bool (decide (0<x0)))):=(But.refl (fun k=>k=D.g) _).setCell (p:=⟨D.g,i*2+1,none⟩) (fun _=>rfl) _
   refine⟨(bS.cell (p:=⟨w.heap.size,0,none⟩) (block_lt_of_cell p3') (fun e=>by have e:w.heap.size=D.g:=e;omega)).trans p3',(bS.cell (p:=⟨b,1,none⟩) (block_lt_of_cell c3') (fun e=>by have e:b=D.g:=e;have:=HM.out.q.cg;rw[<-e,HM.out.q.cb] at this;cases this)).trans c3',?_⟩
   have hG3':W3.drew.heap[D.g]?=_:=HG3.out;have h5:=heap_setCell_same _ _ (i*2+1) _ _ (.bool (decide (0<x0))) hG3';rw[cell_of_row _ _ _ _ _ _ h5];have d5:=d1';rw[cell_of_row _ _ _ _ _ _ hG3'] at d5;rw[<-d5];simp)
  have FIN:=hide (show ∃F':Nat->Prop,But F W3 (W3.drew.setCell ⟨D.g,i*2+1,none⟩ (.bool (decide (0<x0))))/\(∀k,F' k->F k\/W3.heap.size<=k)/\((∀k,F' k↔k=D.g)/\But (fun k=>k=D.g) W1 (W3.drew.setCell ⟨D.g,i*2+1,none⟩ (.bool (decide (0<x0))))/\(W3.drew.setCell ⟨D.g,i*2+1,none⟩ (.bool (decide (0<x0)))).heap[D.g]?=some (.cells (pgc (sel P.pg (fun z=>(pre++[(i:Int)+1]).contains z))).toArray 133 (0,0))) from by
   have bS:But (fun k=>k=D.g) W3 (W3.drew.setCell ⟨D.g,i*2+1,none⟩ (.bool (decide (0<x0)))):=((But.refl (fun k=>k=D.g) W3).drew).setCell (p:=⟨D.g,i*2+1,none⟩) (fun _=>rfl) _
   refine⟨F,bS.mono (fun k _ hk=>(HF.out k).2 hk),fun k hk=>.inl hk,HF.out,(HBW.out.mono ?_).trans bS (fun _ _ h=>h),?_⟩
   · intro k hk h;rcases h with h|h
     · exact h
     · omega
   · have hG3':W3.drew.heap[D.g]?=_:=HG3.out;rw[heap_setCell_same _ _ _ _ _ _ hG3'];have e:=PL.out;rw[SS.out] at e;rw[e];simp)
  clear SS PL HG3 HH3 HB3 HF HBW;go_simp;refine hK.out _ _ SW.out (fun hHeld=>?_)
  clear hK K;exact wpAnyH_done (by kernel_rfl) FIN.out _
 case done=>
  rintro DD F Wx hDD hFD ⟨hF,hB,hG⟩ hBw hFs hK
  have eS:sel P.pg (fun z=>(pagesOf P.pg f).contains z)=sel P.pg (inS P.pg f):=sel_congr fun j _=>by
   by_cases e:inS P.pg f ((j:Int)+1)=true
   · rw[e];simpa using(mem_pagesOf P.pg f _).2 e
   · have e2:inS P.pg f ((j:Int)+1)=false:=by simpa using e
     rw[e2];have:¬((j:Int)+1)∈pagesOf P.pg f:=fun h=>e ((mem_pagesOf P.pg f _).1 h)
     simpa using this
  rw[eS] at hG;have qx:Pq Wx b (P.setl f) D col:=q1.repage _ (sel_length _ _) hG hB;have sB1:=B1.out.size;have sBx:=hB.size;have px:Wx.cell? ⟨w.heap.size,0,none⟩=some (.pointer (some ⟨b,0,none⟩)):=(hB.cell (p:=⟨w.heap.size,0,none⟩) (block_lt_of_cell p1) (fun e=>by have e:w.heap.size=D.g:=e;omega)).trans p1
  have FX:=hide (show Fr w col Wx col from⟨(But.ofBelow B1.out).trans hB (fun k hk e=>by rw[e,HM.out.q.cg];decide),fun _ _=>rfl⟩)
  have DZ:=hide (show col DD=0 from by
   by_cases e:col DD=0
   · exact e
   · have:=HM.out.q.lt DD e;omega)
  have QX:=hide qx;have lDD:=(Array.getElem?_eq_some_iff.1 hK).1;have HK:=hide hK;have LT:=hide (HM.out.few ht);have LF:=hide (HM.out.few hf);have RT:=hide fun(W:World)(hb:Below Wx.heap.size Wx W)=>Runs_any W (D.s t) (D.a t) (D.c t) (D.L t) ((QX.out.keep hb).set t ht)
  have RF:=hide fun(W:World)(hb:Below Wx.heap.size Wx W)=>Runs_any W (D.s f) (D.a f) (D.c f) (D.L f) ((QX.out.keep hb).set f hf)
  have CT:=hide fun(W:World)(hb:Below Wx.heap.size Wx W)=>(QX.out.keep hb).cin ht
  have CF:=hide fun(W:World)(hb:Below Wx.heap.size Wx W)=>(QX.out.keep hb).cin hf
  have CP:=hide (show ∀(W:World),Below Wx.heap.size Wx W->W.cell? ⟨w.heap.size,0,none⟩=some (.pointer (some ⟨b,0,none⟩)) from fun W hb=>(hb.cell (p:=⟨w.heap.size,0,none⟩) (block_lt_of_cell px)).trans px)
  have FB:=hide fun(W:World)(hb:Below Wx.heap.size Wx W)=>(QX.out.keep hb).free (2+t)
  have BT:=hide (HM.out.q.set t ht).bnd;have BF:=hide (HM.out.q.set f hf).bnd;clear hF hB hG hBw hFs hK eS qx sq np HC q1 p1;have hr0:=CP.out _ (drw _);have hr1:=CT.out _ (drw _);have hr2:=CF.out _ (drw _);have hr0':Wx.cell? ⟨w.heap.size,0,none⟩=_:=hr0;have hr1':Wx.cell? ⟨b,2+t,none⟩=_:=hr1;have hr2':Wx.cell? ⟨b,2+f,none⟩=_:=hr2;have HB:=hide (drw Wx);obtain⟨nT,hnT⟩:∃n,(D.L t).length=n:=⟨_,rfl⟩;obtain⟨nF,hnF⟩:∃n,(D.L f).length=n:=⟨_,rfl⟩;have NT:=hide hnT;have NF:=hide hnF;rw[hnT] at RT LT;rw[hnF] at RF LF;clear hnT hnF
  have OFC:=hide fun(W:World)(aC:Option Addr)(cC:Nat)(hV:Vw W aC cC (D.L t++D.L f))=>Of_any W aC cC (D.L t++D.L f) hV.vs (by rw[List.length_append,NT.out,NF.out];have:=LT.out;have:=LF.out;omega) (fun e=>by
   rcases hV.cases with⟨_,h2,h3⟩|⟨g,Y,h1,_⟩
   · exact⟨h2,h3⟩
   · rw[e] at h1;cases h1) (fun r hr=>by
   rcases List.mem_append.1 hr with h|h
   · exact BT.out r h
   · exact BF.out r h)
  have CCC:=hide fun(W:World)(g:Nat)(a1 a2:Option Addr)(c1 c2:Nat)(h1:W.cell? ⟨g,0,none⟩=some (.slice a1 (D.L t).length c1))(h2:W.cell? ⟨g,1,none⟩=some (.slice a2 (D.L f).length c2))(V1:Vs W a1 (D.L t))(V2:Vs W a2 (D.L f))=>Concat_any W g a1 a2 c1 c2 (D.L t) (D.L f) h1 h2 V1 V2 (by rw[NT.out];exact LT.out) (by rw[NF.out];exact LF.out)
  obtain⟨nC,hnC⟩:∃n,(D.L t++D.L f).length=n:=⟨_,rfl⟩;rw[hnC] at CCC OFC;rw[NT.out,NF.out] at CCC;have HAP:=hide (show ∀z,has (D.L t++D.L f) z=(has (D.L t) z||has (D.L f) z) from has_append _ _)
  clear hnC;generalize D.L t++D.L f=LL at *;have htI:(t:Int)<5:=by omega
  have hfI:(f:Int)<5:=by omega
  go_wp2_with fail
  refine wp_region_noPanic (wp_region_held_drew (S:=fun w'=>w'.cell? ⟨w.heap.size,0,none⟩=some (.pointer (some ⟨b,0,none⟩))/\w'.cell? ⟨b,2+f,none⟩=some (.pointer (some ⟨D.s f,0,none⟩))) (by kernel_rfl) ⟨hr0,hr2⟩ (fun hHeld=>?_))
  refine tk 0 ?_;refine tk 1 ?_;refine tk 2 ?_;refine tk 3 ?_;refine tk 4 ?_;refine tk 5 ?_;refine tk 6 ?_;refine tk 9 ?_;refine tk 10 ?_;refine tk 11 ?_;refine tk 12 ?_;refine tk 13 ?_;refine tk 14 ?_;refine tk 19 ?_;refine tk 20 ?_;refine tw 7 fun K hK=>?_
  go_simp;refine hK.out _ _ (⟨hr0,hr2⟩) (fun hHeld=>?_)
  clear hK K;try simp only[pt]
  refine tw 8 fun K hK=>?_
  go_simp;refine(RT.out _ HB.out).mono ?_;rintro _ w2 ⟨rfl,hv,hb⟩;have V1:=hide hv;have HB:=hide (bt HB.out hb);clear hv hb;go_wp2_with fail
  refine hK.out _ _ (⟨CP.out _ HB.out,CF.out _ HB.out⟩) (fun hHeld=>?_)
  clear hK K;try simp only[pt]
  refine tw 15 fun K hK=>?_
  go_simp;refine(RF.out _ HB.out).mono ?_;rintro _ w3 ⟨rfl,hv,hb⟩;have V2:=hide hv;have V1:=hide (V1.out.keep hb);have HB:=hide (bt HB.out hb);clear hv hb;go_wp2_with fail
  refine hK.out _ _ (⟨CP.out _ HB.out,CF.out _ HB.out⟩) (fun hHeld=>?_)
  clear hK K;try simp only[pt]
  refine tw 16 fun K hK=>?_
  go_simp;have A16:=hide (al w3 (.cells #[.slice (some ⟨Wx.drew.heap.size,0,none⟩) nT nT,.slice (some ⟨w2.heap.size,0,none⟩) nF nF] 169));have X16:=hide (two_slices w3 (.slice (some ⟨Wx.drew.heap.size,0,none⟩) nT nT) (.slice (some ⟨w2.heap.size,0,none⟩) nF nF) 169);have HB3:=HB;have HB:=hide (bt HB.out A16.out);refine hK.out _ _ (⟨CP.out _ HB.out,CF.out _ HB.out⟩) (fun hHeld=>?_)
  clear hK K;try simp only[pt]
  refine tw 17 fun K hK=>?_
  go_simp;refine(CCC.out _ _ (some ⟨Wx.drew.heap.size,0,none⟩) (some ⟨w2.heap.size,0,none⟩) nT nF X16.out.1 X16.out.2 (V1.out.keep A16.out).vs (V2.out.keep A16.out).vs).mono ?_;rintro _ w5 ⟨aC,cC,rfl,hVC,hNC,hbC⟩;have VC:=hide hVC;have HB:=hide (bt HB.out hbC);clear hVC hNC hbC X16 A16;go_wp2_with fail
  refine hK.out _ _ (⟨CP.out _ HB.out,CF.out _ HB.out⟩) (fun hHeld=>?_)
  clear hK K;try simp only[pt]
  refine tw 18 fun K hK=>?_
  go_simp;refine(OFC.out _ aC cC VC.out).mono ?_;rintro _ w6 ⟨b6,a6,c6,R6,rfl,hN6,hH6,-⟩;have N6:=hide (QX.out.newSet ht HB.out hN6);have HB6:=hide (bt HB.out hN6.w);have H6:=hide hH6;have ct6:=CT.out _ HB6.out;have fr6:=FB.out _ HB6.out;clear hN6 hH6;go_wp2_with fail
  refine hK.out _ _ (⟨CP.out _ HB6.out,CF.out _ HB6.out⟩) (fun hHeld=>?_)
  clear hK K;try simp only[pt]
  refine tk 21 ?_;refine tw 22 fun K hK=>?_
  go_simp;refine hK.out _ _ (⟨(((But.refl (fun k=>k=b) w6).setCell (p:=⟨b,2+t,none⟩) (fun _=>rfl) _).cell (p:=⟨w.heap.size,0,none⟩) (block_lt_of_cell (CP.out _ HB6.out)) (fun e=>by have e:w.heap.size=b:=e;have:=HM.out.q.lb;omega)).trans (CP.out _ HB6.out),by have c:(w6.setCell ⟨b,2+t,none⟩ (.pointer (some ⟨b6,0,none⟩))).cell? ⟨b,2+f,none⟩=some (.pointer (some ⟨upd D.s t b6 f,0,none⟩)):=N6.out.1.cin hf;rw[upd_ne _ _ hft] at c;exact c⟩) (fun hHeld=>?_)
  clear hK K;try simp only[pt]
  refine wpAnyH_done (by kernel_rfl) (NoPanic.normal ?_) _
  obtain⟨q7,f7⟩:=N6.out;have p7:=hHeld.1;have Q7:=hide q7;have F7:=hide f7;generalize w6.setCell ⟨b,2+t,none⟩ (.pointer (some ⟨b6,0,none⟩))=W7 at *;have hs0:W7.drew.cell? ⟨w.heap.size,0,none⟩=some (.pointer (some ⟨b,0,none⟩)):=p7;clear hHeld q7 f7 N6 hr0 hr1 hr2 hr0' hr1' hr2' RT RF CT CF CP FB HB VC V1 V2 ct6 fr6;go_wp2_with fail
  refine wp_region_noPanic (wp_region_held_drew (S:=fun w'=>w'.cell? ⟨w.heap.size,0,none⟩=some (.pointer (some ⟨b,0,none⟩))) (by kernel_rfl) hs0 (fun hHeld=>?_))
  refine tk 0 ?_;refine tk 1 ?_;refine tk 3 ?_;refine tk 4 ?_;refine tw 2 fun K hK=>?_
  go_simp;refine(New_none _).mono ?_;rintro _ w8 ⟨b8,a8,c8,R8,rfl,hN8,hH8,-⟩;have N8:=hide (Q7.out.newSet hf (drw W7) hN8);have HB8:=hide (bt (drw W7) hN8.w);have H8:=hide hH8;have ct8:=(Q7.out.keep HB8.out).cin hf;have fr8:=(Q7.out.keep HB8.out).free (2+f);have cp8:w8.cell? ⟨w.heap.size,0,none⟩=some (.pointer (some ⟨b,0,none⟩)):=(HB8.out.cell (p:=⟨w.heap.size,0,none⟩) (block_lt_of_cell p7)).trans p7;clear hN8 hH8;go_wp2_with fail
  refine hK.out _ _ (cp8) (fun hHeld=>?_)
  clear hK K;try simp only[pt]
  refine tk 5 ?_;refine tw 6 fun K hK=>?_
  go_simp;refine hK.out _ _ ((((But.refl (fun k=>k=b) w8).setCell (p:=⟨b,2+f,none⟩) (fun _=>rfl) _).cell (p:=⟨w.heap.size,0,none⟩) (block_lt_of_cell cp8) (fun e=>by have e:w.heap.size=b:=e;have:=HM.out.q.lb;omega)).trans cp8) (fun hHeld=>?_)
  clear hK K;try simp only[pt]
  refine wpAnyH_done (by kernel_rfl) (NoPanic.normal ?_) _
  obtain⟨q9,f9⟩:=N8.out;generalize w8.setCell ⟨b,2+f,none⟩ (.pointer (some ⟨b8,0,none⟩))=W9 at *;have F79:=hide (F7.out.trans f9);have Q9:=hide q9;clear q9 f9 N8 hHeld ct8 fr8 cp8 Q7 F7 p7 hs0 OFC CCC HB8 HB6;go_wp2;refine⟨by simp,.inl ⟨_,_,rfl,run_takeDeferred (F79.out.b.same HK.out (fun h=>h DZ.out)),?_⟩⟩
  have cD:∀(o:Obj),But (fun k=>k=DD) W9 (W9.putObj DD o):=fun o=>(But.refl (fun k=>k=DD) W9).putObj (fun _=>rfl) o
  have zD:=(F79.out.c DD lDD).trans DZ.out;refine⟨_,results_none rfl _ _ _,rfl,_,⟨_,Q9.out.but (cD _) (fun k hk e=>hk (by rw[e];exact zD)),HM.out.ok.setl f,fun s hs z=>?_⟩,⟨((FX.out.trans F79.out).b).trans (cD _) (fun x hx e=>by omega),(FX.out.trans F79.out).c⟩⟩
  show has (upd (upd D.L t R6) f R8 s) z=inS (sel P.pg (inS P.pg f)) s z;rw[inS_setl hft HS.out];by_cases sf:s=f
  · subst sf;rw[upd_same,H8.out,if_neg hft,if_pos rfl]
  · rw[upd_ne _ _ sf];by_cases st:s=t
    · subst st;rw[upd_same,if_pos rfl,H6.out,HAP.out,HM.out.mem s hs,HM.out.mem f hf]
    · rw[upd_ne _ _ st,if_neg st,if_neg sf];exact HM.out.mem s hs z
end Go.Proofs.YtcpkinhneehomaaGreat.Q
namespace Go.Proofs.YtcpkinhneehomaaGreat.Q
open Go.RowKit
variable {x:Pg}
theorem stt_las3(h0:0<=x.1)(h:stt x=3):stt (las x)=4:=by
 obtain⟨c,l⟩:=x;unfold stt at h;unfold las stt;simp only at h h0 ⊢;by_cases e:c=0
 · rw[if_pos e] at h;split at h<;>omega
 · rw[if_neg e,decide_eq_true (show 0<c by omega)];rfl
theorem stt_las2(h:stt x=2):stt (las x)=1:=by
 obtain⟨c,l⟩:=x;unfold stt at h;unfold las stt;simp only at h ⊢;by_cases e:c=0
 · subst e;rfl
 · rw[if_neg e] at h;split at h<;>omega
theorem settle_two{P:Po}(h:P.Ok):((P.setl 3).setl 2).pg=P.pg.map fun x=>(x.1,decide (0<x.1)):=by
 have hl:((P.setl 3).setl 2).pg.length=P.pg.length:=(sel_length _ _).trans (sel_length _ _);refine getD_ext (by rw[hl,List.length_map]) fun i hi=>?_
 rw[hl] at hi;have h3:i<(P.setl 3).pg.length:=by show i<(sel _ _).length;rw[sel_length];exact hi
 have e1:(P.setl 3).pg.getD i Pg.zero=if inS P.pg 3 ((i:Int)+1) then las (P.pg.getD i Pg.zero) else P.pg.getD i Pg.zero:=sel_get _ _ hi
 have e2:((P.setl 3).setl 2).pg.getD i Pg.zero=if inS (P.setl 3).pg 2 ((i:Int)+1) then las ((P.setl 3).pg.getD i Pg.zero) else (P.setl 3).pg.getD i Pg.zero:=sel_get _ _ h3
 have e3:(P.pg.map fun x=>(x.1,decide (0<x.1))).getD i Pg.zero=las (P.pg.getD i Pg.zero):=by simp[hi,las]
 rw[e2,e3,inS_get h3,e1,inS_get hi];have h0:=(h.cs _ (getD_memP hi)).1;generalize P.pg.getD i Pg.zero=y at *;obtain⟨c,l⟩:=y;have h0:0<=c:=h0;unfold las stt;by_cases ec:c=0
 · subst ec;cases l<;>rfl
 · have d:decide (0<c)=true:=decide_eq_true (by omega)
   cases l<;>simp[ec,d]
theorem Settle_any(w:World)(b:Nat)(P:Po)(col:Nat->Nat)(h:Pl w b P col)(hm:P.mark<=9223372036854775807):
 Calls Tryz.prog 119 #[.pointer (some ⟨b,0,none⟩)] w fun e w'=>e=.returned (.tuple #[])/\∃col',Pl w' b P.settle col'/\Fr w col w' col':=by
 have ok:=h.ok;obtain⟨D,h⟩:=h;have S1:=hide (settle_any w b P D col h 3 4 (by decide) (by decide) (by decide) (fun x hx=>stt_las3 (ok.cs x hx).1))
 have S2:=hide fun(W:World)(D':Pd)(c':Nat->Nat)(h':Pm W b (P.setl 3) c' D')=>settle_any W b (P.setl 3) D' c' h' 2 1 (by decide) (by decide) (by decide) (fun x hx=>stt_las2)
 have HM:=hide hm;have OK:=hide ok;clear h ok;go_enter Tryz.func119,Tryz.ntmps119;go_wp2_with fail
 refine S1.out.mono ?_;rintro _ w1 ⟨rfl,c1,⟨D1,h1⟩,f1⟩;have F1:=hide f1;have H1:=hide h1;clear h1 f1 S1;go_wp2_with fail
 refine(S2.out _ _ _ H1.out).mono ?_;rintro _ w2 ⟨rfl,c2,⟨D2,h2⟩,f2⟩;have F2:=hide (F1.out.trans f2);have MK:=hide (Mark_any w2 b ((P.setl 3).setl 2) D2 c2 h2.q HM.out);have H2:=hide h2;clear h2 f2 S2 H1 F1;rw[show((P.setl 3).setl 2).mark=P.mark from rfl] at MK
 go_wp2_with fail
 refine MK.out.mono ?_;rintro _ w3 ⟨rfl,hb⟩;have q3:=H2.out.q.keep hb;have F3:=hide (F2.out.below hb);have c7:=q3.c7;have c8:=q3.c8;have f7:=q3.free 7;have f8:=q3.free 8
 have c7':(w3.setCell ⟨b,8,none⟩ (.int .i64 ((P.mark:Nat):Int))).cell? ⟨b,7,none⟩=some (.slice D2.aa ((P.setl 3).setl 2).ac.length D2.ac):=by
  rw[cell_of_row _ _ _ _ _ _ (heap_setCell_same w3 b 8 _ _ (.int .i64 ((P.mark:Nat):Int)) q3.box)];rfl
 have f7':(w3.setCell ⟨b,8,none⟩ (.int .i64 ((P.mark:Nat):Int))).frozen? ⟨b,7,none⟩=false:=by simp[World.frozen?,heap_setCell_same w3 b 8 _ _ (.int .i64 ((P.mark:Nat):Int)) q3.box]
 have FIN:=hide (show ∃col',Pl ((w3.setCell ⟨b,8,none⟩ (.int .i64 ((P.mark:Nat):Int))).setCell ⟨b,7,none⟩ (.slice none 0 0)) b P.settle col'/\Fr w col ((w3.setCell ⟨b,8,none⟩ (.int .i64 ((P.mark:Nat):Int))).setCell ⟨b,7,none⟩ (.slice none 0 0)) col' from by
  have bS:But (fun k=>k=b) w3 ((w3.setCell ⟨b,8,none⟩ (.int .i64 ((P.mark:Nat):Int))).setCell ⟨b,7,none⟩ (.slice none 0 0)):=((But.refl (fun k=>k=b) w3).setCell (p:=⟨b,8,none⟩) (fun _=>rfl) _).setCell (p:=⟨b,7,none⟩) (fun _=>rfl) _
  have ne:∀{k:Nat},c2 k≠1->¬(k=b):=fun h1 e=>h1 (by rw[e];exact q3.cb)
  have ps:P.settle=⟨P.rf,((P.setl 3).setl 2).pg,[],P.mark⟩:=by unfold Po.settle;rw[settle_two OK.out]
  refine⟨c2,⟨{D2 with aa:=none,ac:=0,B:=[]},?_,OK.out.settle,?_⟩,F3.out.trans ⟨bS.mono fun k _ hk=>by rw[hk,q3.cb];decide,fun _ _=>rfl⟩⟩
  · rw[ps];refine⟨?_,bS.same q3.pgs (ne (by rw[q3.cg];decide)),fun s hs=>(q3.set s hs).but bS (ne (by rw[q3.cs s hs];omega)) (fun y hy=>ne (by rw[q3.ca s hs y hy];omega)),Gw.nil _ _ _,rfl,fun q hq=>(by cases hq),q3.cb,q3.cg,q3.cs,q3.ca,fun x hx=>(by cases hx),fun t ht=>(by cases ht),fun k hk=>Nat.lt_of_lt_of_le (q3.lt k hk) bS.size⟩
    rw[heap_setCell_same _ _ _ _ _ _ (heap_setCell_same w3 b 8 _ _ (.int .i64 ((P.mark:Nat):Int)) q3.box)];rfl
  · intro s hs z;rw[ps];exact H2.out.mem s hs z)
 clear q3 F3 F2 H2 MK;go_wp2;go_end0
 exact⟨rfl,FIN.out⟩
end Go.Proofs.YtcpkinhneehomaaGreat.Q
