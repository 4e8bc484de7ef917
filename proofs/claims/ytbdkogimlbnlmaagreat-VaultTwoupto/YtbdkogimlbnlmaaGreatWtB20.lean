import Derived.Test.YtbdkogimlbnlmaaGreatWtB19
import Derived.Stop.BytesEq
import Derived.Laws.StructEq
set_option linter.unusedVariables false
set_option linter.unusedSimpArgs false
set_option maxHeartbeats 32000000
set_option maxRecDepth 10000
namespace Go.Proofs.YtbdkogimlbnlmaaGreat.Q
open Go.RowKit Go.Shelf
attribute [local go_sem] Oper.semAt_some
theorem xG(w:World)(u v:Value)(T:TypeId):(w.alloc (.cells #[u,v] T)).cell? ⟨w.heap.size,0,none⟩=some u/\(w.alloc (.cells #[u,v] T)).cell? ⟨w.heap.size,1,none⟩=some v:=by
 rw[au _ _ _ _ _ _ (az w _),au _ _ _ _ _ _ (az w _)];exact⟨rfl,rfl⟩
theorem Cp(L:List Pg)(i:Nat)(h:i<L.length):pgc (L.set i (las (L.getD i Pg.zero)))=(pgc L).set (i*2+1) (.bool (decide (0<(L.getD i Pg.zero).1))):=by
 rw[qY];congr 1
 refine dS λj=>?_
 by_cases e:i*2=j
 . subst e;rw[dM (by rw[m8];omega),(mB L i h).1]
   rfl
 . rw[bZ e]
theorem Po.Ok.setl{P:Po}(h:P.Ok)(f:Nat):(P.setl f).Ok:=by
 have hl:(P.setl f).pg.length=P.pg.length:=iM _ _;refine⟨by rw[hl];exact h.l1,by rw[hl];exact h.l2,h.r1,h.r2,λx hx=>?_,λa ha=>⟨⟨(h.acs a ha).1.1,by rw[hl];exact(h.acs a ha).1.2⟩,(h.acs a ha).2⟩⟩
 obtain⟨i,hi,rfl⟩:=bG.1 hx;have hi':=cQ.1 hi;have:=h.cs _ (jO hi');split
 all_goals
  exact this
theorem zu{P:Program}{o:Oper}{a:Act}{w:World}{K:Act->World->Prop}{Q:Exit->Act->World->Prop}{l:Nat}(hd:∀c,o.op≠ .defer c)(h:o.wp P a w K Q):o.wpIn (Fence.wide.inRound l) 0 P a w K Q:=by
 refine⟨λf _=>trivial,?_⟩
 rw[Oper.semAt_plain _ _ _ hd];unfold Oper.wp at h;revert h;generalize (execOp a.eval o).run P w=r;intro h;match r,h with
 | .ok (.value v) w',h=>exact h
 | .ok .skip w',h=>exact h
 | .ok (.defer d) w',h=>exact h
 | .ok (.enter f args) w',h=>exact⟨λz=>absurd (show(false:Bool)=true from z) (by decide),CallsIn.inRound l (eQ.2 h)⟩
 | .ok (.row row args) w',h=>exact⟨λz=>absurd (show(false:Bool)=true from z) (by decide),λc cs _=>let ⟨v,w',r,s⟩:=h c cs;⟨v,w',r,stepsIn_wide.2 s⟩⟩
 | .halt (.panic v) w',h=>exact h
theorem ko{P:Program}{md:Region.Mode}{ops:Array Oper}{Q:Exit->Act->World->Prop}{l:Nat}(hd:∀(i:Nat)(o:Oper),ops[i]?=some o->∀c,o.op≠ .defer c)(hQ:¬LetsOut Q):∀(fuel:Nat)(listed:Array Bool)(a:Act)(w:World),wpAny P md ops Q fuel listed a w->wpAnyIn (Fence.wide.inRound l) 0 P md ops Q fuel listed a w
 |0,_,_,_,h=>h
 |fuel+1,listed,a,w,h=>⟨h.1,λi hi=>by
   have t:=h.2 i hi;unfold wpOp at t;unfold wpOpIn;cases ho:ops[i]? with
   |none=>rw[ho] at t;exact ko hd hQ fuel _ _ _ t
   |some o=>
    rw[ho] at t;simp only at t ⊢;split
    . rename_i hw;rw[if_pos hw] at t;rcases t with t|⟨_,t⟩
      . exact Oper.wpIn_mono (λa w h=>ko hd hQ fuel _ a w h) (zu (hd i o ho) t)
      . exact absurd t hQ
    . rename_i hw;rw[if_neg hw] at t;exact⟨λf _=>trivial,ko hd hQ fuel _ _ _ t⟩⟩
def vI(ops:Array Oper):Bool:=ops.toList.all λo=>match o.op with
 | .defer _=>false
 |_=>true
theorem lF{ops:Array Oper}(h:vI ops=true)(i:Nat)(o:Oper)(ho:ops[i]?=some o)(c:_):o.op≠ .defer c:=λe=>by
 unfold vI at h
 have hm:o∈ops.toList:=by
  rw[<-eV] at ho;exact co ho
 have:=List.all_eq_true.1 h o hm;rw[e] at this;cases this
theorem qE(w:World)(b:Nat)(P:Po)(D:Pd)(col:Nat->Nat)(h:Pm w b P col D)(f t:Nat)(hf:f<5)(ht:t<5)(hft:f≠t)(hs:∀x∈P.pg,stt x=f->stt (las x)=t):
 Calls Tryz.prog 153 #[.pointer (some ⟨b,0,none⟩),.int .i64 (f:Int),.int .i64 (t:Int)] w λe w'=>e=.returned (.tuple #[])/\∃col',Pl w' b (P.setl f) col'/\Fr w col w' col':=by
 have aw:=al w (.cells #[.pointer (some ⟨b,0,none⟩)] 80);have p0:=iI w (.pointer (some ⟨b,0,none⟩)) 80;have q0:=h.q.keep aw;have ci:=q0.cin hf;have AL:=ig (vy _ (D.s f) (D.a f) (D.c f) (D.L f) (q0.set f hf));have HM:=ig h;have HS:=ig hs;have AW:=ig aw;have SZ0:=ig (size_alloc w (.cells #[.pointer (some ⟨b,0,none⟩)] 80));clear h hs aw q0;refine(eQ (n:=0)).1 ?_;refine fb Tryz.func153 rfl trivial ?_ rfl;simp only[Tryz.ntmps153,da,bg,bh,Nat.reduceAdd,Nat.reduceSub,dw,dy,dG,dA,cO,dl];refine fU.2 ?_;go_wp2_with fail
 refine AL.o.mono ?_;rintro _ W1 ⟨E,g,rfl,hE,hg,hcE,hV,hgl,hb⟩;have p1:=(hb.cell (p:=⟨w.heap.size,0,none⟩) (block_lt_of_cell p0)).trans p0;have B1:=ig (bt AW.o hb);have q1:=HM.o.q.keep B1.o;have hE':w.heap.size<E:=by have:=SZ0.o;omega
 have hg':w.heap.size<g:=by have:=SZ0.o;omega
 have lg:=HM.o.q.lt D.g (by rw[HM.o.q.cg];decide)
 have lE:=block_lt_of_cell hcE;have sq:=ue W1 E (some ⟨g,0,none⟩) (D.L f).length (D.L f) hcE hV (by have:=HM.o.few hf;omega) (HM.o.rn hf)
 have np:=kX (HM.o.q.set f hf).can (HM.o.mem f hf);rw[np] at sq;have HC:=ig hcE;clear p0 ci AL hE hg hV hb hcE;go_wp2_with fail
 refine(fU (n:=0)).1 ?_
 refine wp_rangeF (gf:=170) (lb:=#[.pointer (some ⟨E,0,none⟩)]) rfl (enters_of Tryz.func170 (by kernel_rfl) rfl) sq (But.refl _ _)
  (λk hk=>by
    rcases hk with rfl|⟨x,hx,rfl⟩
    . exact lE
    . cases hx;exact hgl) (λ_=>rfl) (λk=>k=D.g)
  (λk hk hx=>by
    have hk:k=D.g:=hk;rcases hx with rfl|⟨x,hx,e⟩
    . omega
    . cases hx;have e:g=k:=e;omega)
  (λF pre W=>(∀k,F k↔k=D.g)/\But (λk=>k=D.g) W1 W/\W.heap[D.g]?=some (.cells (pgc (sel P.pg (λz=>pre.contains z))).toArray 133 (0,0)))
  (λ_ _ _ _=>False)
  (λF s X1 X2 hs hb=>⟨hs.1,hs.2.1.trans hb (λk hk h=>by have:=h.2;omega),hb.same hs.2.2 (λh=>h.1 ((hs.1 _).2 rfl))⟩)
  (λF s X1 hs k hk=>by rw[(hs.1 k).1 hk];exact(af.1 hs.2.2).1)
  (λc F s X1 X2 hs hb=>hs) (λc F s X1 hs=>hs.elim)
  ⟨λk=>fQ,But.refl _ _,by
    rw[show sel P.pg (λz=>([]:List Int).contains z)=P.pg from(oc (λi _=>by simp)).trans (zC P.pg)]
    exact q1.pgs⟩ ?round ?done (λD' c F pre rest W _ _ _ hx=>hx.elim)
 case round=>
  rintro l F pre x rest W hxs ⟨hF,hB,hG⟩ hsz hFs hFl hl1 hl2 hBw;have hx1:=jE.1 ((ja P.pg f x).1 (by rw[hxs];simp))
  obtain⟨i,rfl⟩:∃i:Nat,x=(i:Int)+1:=⟨(x-1).toNat,by omega⟩
  have hi:i<P.pg.length:=by omega
  have hpre:pre.contains ((i:Int)+1)=false:=by
   have hr:=oz P.pg f;rw[hxs] at hr;have:=(dh.1 hr).2.2;by_cases hc:pre.contains ((i:Int)+1)=true
   . have hm:((i:Int)+1)∈pre:=by simpa using hc
     have:=this _ hm _ (dN ..);omega
   . simpa using hc
  have hl2p:=HM.o.ok.l2;unfold enI;gi_wp2
  refine⟨Below.refl _ _,λW3 h3=>?_⟩
  have sB:=hB.size;have bW3:But (λk=>k=D.g\/k=l) W1 W3:=(hB.mono (λk _ hk=>.inl hk)).trans h3 (λk _ hk=>.inr hk)
  have p3:=(bW3.cell (p:=⟨w.heap.size,0,none⟩) (block_lt_of_cell p1) (λe=>by have e:w.heap.size=D.g\/w.heap.size=l:=e;have:=block_lt_of_cell p1;have:w.heap.size<W1.heap.size:=this;omega)).trans p1
  have lb:=HM.o.q.lb
  have c3:=(bW3.cell (p:=⟨b,1,none⟩) (block_lt_of_cell q1.c1) (λe=>by
   have e:b=D.g\/b=l:=e;rcases e with e|e
   . have:=HM.o.q.cg;rw[<-e,HM.o.q.cb] at this;cases this
   . have:=B1.o.size;omega)).trans q1.c1
  have hG3:=h3.same hG (λe=>by have:=B1.o.size;omega)
  have hil:i<(sel P.pg (λz=>pre.contains z)).length:=by rw[iM];exact hi
  have gx:(sel P.pg (λz=>pre.contains z)).getD i Pg.zero=P.pg.getD i Pg.zero:=by
   rw[jT P.pg _ hi,hpre];rfl
  obtain⟨e1,e2⟩:=mB _ i hil;rw[gx] at e1 e2;have d1:W3.cell? ⟨D.g,i*2,none⟩=some (.int .i64 (P.pg.getD i Pg.zero).1):=by rw[au _ _ _ _ _ _ hG3,eW];exact e1
  have d2:W3.cell? ⟨D.g,i*2+1,none⟩=some (.bool (P.pg.getD i Pg.zero).2):=by rw[au _ _ _ _ _ _ hG3,eW];exact e2
  have f2:W3.frozen? ⟨D.g,i*2+1,none⟩=false:=by simp[World.frozen?,hG3]
  have d1':W3.drew.cell? ⟨D.g,i*2,none⟩=_:=d1;have d2':W3.drew.cell? ⟨D.g,i*2+1,none⟩=_:=d2;have f2':W3.drew.frozen? ⟨D.g,i*2+1,none⟩=false:=f2;have p3':W3.drew.cell? ⟨w.heap.size,0,none⟩=_:=p3;have c3':W3.drew.cell? ⟨b,1,none⟩=_:=c3;have s1:IntKind.i64.wrap (i:Int)=(i:Int):=iw (by omega) (by omega)
  have s2:wrap64 (i:Int)=(i:Int):=by unfold wrap64;omega
  have hiI:(i:Int)<(P.pg.length:Int):=Int.ofNat_lt.2 hi;have SS:=ig (show(sel P.pg (λz=>pre.contains z)).set i (las (P.pg.getD i Pg.zero))=sel P.pg (λz=>(pre++[(i:Int)+1]).contains z) from(Do hi hpre).trans (oc λj _=>by simp))
  have PL:=ig (Cp (sel P.pg (λz=>pre.contains z)) i hil)
  rw[gx] at PL;have HG3:=ig hG3;have HH3:=ig h3;have HB3:=ig hB;have HF:=ig hF;have HBW:=ig bW3;clear hG hG3 hil gx e1 e2 sq np hxs h3 hB hF bW3 hFs hBw hx1 hpre;obtain⟨xp,hxp⟩:∃xp,P.pg.getD i Pg.zero=xp:=⟨_,rfl⟩;rw[hxp] at d1 d2 d1' d2' SS PL;obtain⟨x0,x1⟩:=xp;simp only at d1 d2 d1' d2' PL;clear hxp;gi_wp2
  refine ie (by kernel_rfl) (ko (lF (by kernel_rfl)) (λ⟨_,_,h⟩=>h) _ _ _ _ (wpAny_of_held (S:=λw'=>w'.cell? ⟨w.heap.size,0,none⟩=some (.pointer (some ⟨b,0,none⟩))/\w'.cell? ⟨b,1,none⟩=some (.slice (some ⟨D.g,0,none⟩) P.pg.length P.pg.length)/\w'.cell? ⟨D.g,i*2,none⟩=some (.int .i64 x0)) _ _ _ _ ?_))
  have hHeld:W3.drew.cell? ⟨w.heap.size,0,none⟩=some (.pointer (some ⟨b,0,none⟩))/\W3.drew.cell? ⟨b,1,none⟩=some (.slice (some ⟨D.g,0,none⟩) P.pg.length P.pg.length)/\W3.drew.cell? ⟨D.g,i*2,none⟩=some (.int .i64 x0):=⟨p3',c3',d1'⟩;change wpAnyH _ _ _ _ _ _ _ _ W3.drew;refine tkd 0 1 2 3 ?_;refine tkd 4 5 6 7 ?_;refine tkd 8 9 10 11 ?_;refine tkd 12 13 14 15 ?_;refine tkb 16 17 ?_;refine tw 18 λK hK=>?_
  have SW:=ig (show(W3.drew.setCell ⟨D.g,i*2+1,none⟩ (.bool (decide (0<x0)))).cell? ⟨w.heap.size,0,none⟩=some (.pointer (some ⟨b,0,none⟩))/\(W3.drew.setCell ⟨D.g,i*2+1,none⟩ (.bool (decide (0<x0)))).cell? ⟨b,1,none⟩=some (.slice (some ⟨D.g,0,none⟩) P.pg.length P.pg.length)/\(W3.drew.setCell ⟨D.g,i*2+1,none⟩ (.bool (decide (0<x0)))).cell? ⟨D.g,i*2,none⟩=some (.int .i64 x0) from by
   have bS:But (λk=>k=D.g) W3.drew (W3.drew.setCell ⟨D.g,i*2+1,none⟩ (.bool (decide (0<x0)))):=(But.refl (λk=>k=D.g) _).setCell (p:=⟨D.g,i*2+1,none⟩) (λ_=>rfl) _
   refine⟨(bS.cell (p:=⟨w.heap.size,0,none⟩) (block_lt_of_cell p3') (λe=>by have e:w.heap.size=D.g:=e;omega)).trans p3',(bS.cell (p:=⟨b,1,none⟩) (block_lt_of_cell c3') (λe=>by have e:b=D.g:=e;have:=HM.o.q.cg;rw[<-e,HM.o.q.cb] at this;cases this)).trans c3',?_⟩
   have hG3':W3.drew.heap[D.g]?=_:=HG3.o;have h5:=aM _ _ (i*2+1) _ _ (.bool (decide (0<x0))) hG3';rw[au _ _ _ _ _ _ h5];have d5:=d1';rw[au _ _ _ _ _ _ hG3'] at d5;rw[<-d5];simp)
  have FIN:=ig (show ∃F':Nat->Prop,But F W3 (W3.drew.setCell ⟨D.g,i*2+1,none⟩ (.bool (decide (0<x0))))/\(∀k,F' k->F k\/W3.heap.size<=k)/\((∀k,F' k↔k=D.g)/\But (λk=>k=D.g) W1 (W3.drew.setCell ⟨D.g,i*2+1,none⟩ (.bool (decide (0<x0))))/\(W3.drew.setCell ⟨D.g,i*2+1,none⟩ (.bool (decide (0<x0)))).heap[D.g]?=some (.cells (pgc (sel P.pg (λz=>(pre++[(i:Int)+1]).contains z))).toArray 133 (0,0))) from by
   have bS:But (λk=>k=D.g) W3 (W3.drew.setCell ⟨D.g,i*2+1,none⟩ (.bool (decide (0<x0)))):=((But.refl (λk=>k=D.g) W3).drew).setCell (p:=⟨D.g,i*2+1,none⟩) (λ_=>rfl) _
   refine⟨F,bS.mono (λk _ hk=>(HF.o k).2 hk),λk hk=>.inl hk,HF.o,(HBW.o.mono ?_).trans bS (λ_ _ h=>h),?_⟩
   . intro k hk h;rcases h with h|h
     . exact h
     . omega
   . have hG3':W3.drew.heap[D.g]?=_:=HG3.o;rw[aM _ _ _ _ _ _ hG3'];have e:=PL.o;rw[SS.o] at e;rw[e];simp)
  clear SS PL HG3 HH3 HB3 HF HBW;go_simp;refine hK.o _ _ SW.o (λhHeld=>?_)
  clear hK K;exact wpAnyH_done (by kernel_rfl) FIN.o _
 case done=>
  rintro DD F Wx hDD hFD ⟨hF,hB,hG⟩ hBw hFs hK
  have eS:sel P.pg (λz=>(iD P.pg f).contains z)=sel P.pg (inS P.pg f):=oc λj _=>by
   by_cases e:inS P.pg f ((j:Int)+1)=true
   . rw[e];simpa using(ja P.pg f _).2 e
   . have e2:inS P.pg f ((j:Int)+1)=false:=by simpa using e
     rw[e2];have:¬((j:Int)+1)∈iD P.pg f:=λh=>e ((ja P.pg f _).1 h)
     simpa using this
  rw[eS] at hG;have qx:Pq Wx b (P.setl f) D col:=q1.repage _ (iM _ _) hG hB;have sB1:=B1.o.size;have sBx:=hB.size;have px:Wx.cell? ⟨w.heap.size,0,none⟩=some (.pointer (some ⟨b,0,none⟩)):=(hB.cell (p:=⟨w.heap.size,0,none⟩) (block_lt_of_cell p1) (λe=>by have e:w.heap.size=D.g:=e;omega)).trans p1
  have FX:=ig (show Fr w col Wx col from⟨(But.ofBelow B1.o).trans hB (λk hk e=>by rw[e,HM.o.q.cg];decide),λ_ _=>rfl⟩)
  have DZ:=ig (show col DD=0 from by
   by_cases e:col DD=0
   . exact e
   . have:=HM.o.q.lt DD e;omega)
  have QX:=ig qx;have lDD:=(af.1 hK).1;have HK:=ig hK;have LT:=ig (HM.o.few ht);have LF:=ig (HM.o.few hf);have RT:=ig λ(W:World)(hb:Below Wx.heap.size Wx W)=>pW W (D.s t) (D.a t) (D.c t) (D.L t) ((QX.o.keep hb).set t ht)
  have RF:=ig λ(W:World)(hb:Below Wx.heap.size Wx W)=>pW W (D.s f) (D.a f) (D.c f) (D.L f) ((QX.o.keep hb).set f hf)
  have CT:=ig λ(W:World)(hb:Below Wx.heap.size Wx W)=>(QX.o.keep hb).cin ht
  have CF:=ig λ(W:World)(hb:Below Wx.heap.size Wx W)=>(QX.o.keep hb).cin hf
  have CP:=ig (show ∀(W:World),Below Wx.heap.size Wx W->W.cell? ⟨w.heap.size,0,none⟩=some (.pointer (some ⟨b,0,none⟩)) from λW hb=>(hb.cell (p:=⟨w.heap.size,0,none⟩) (block_lt_of_cell px)).trans px)
  have FB:=ig λ(W:World)(hb:Below Wx.heap.size Wx W)=>(QX.o.keep hb).free (2+t)
  have BT:=ig (HM.o.q.set t ht).bnd;have BF:=ig (HM.o.q.set f hf).bnd;clear hF hB hG hBw hFs hK eS qx sq np HC q1 p1;have hr0:=CP.o _ (drw _);have hr1:=CT.o _ (drw _);have hr2:=CF.o _ (drw _);have hr0':Wx.cell? ⟨w.heap.size,0,none⟩=_:=hr0;have hr1':Wx.cell? ⟨b,2+t,none⟩=_:=hr1;have hr2':Wx.cell? ⟨b,2+f,none⟩=_:=hr2;have HB:=ig (drw Wx);obtain⟨nT,hnT⟩:∃n,(D.L t).length=n:=⟨_,rfl⟩;obtain⟨nF,hnF⟩:∃n,(D.L f).length=n:=⟨_,rfl⟩;have NT:=ig hnT;have NF:=ig hnF;rw[hnT] at RT LT;rw[hnF] at RF LF;clear hnT hnF
  have OFC:=ig λ(W:World)(aC:Option Addr)(cC:Nat)(hV:Vw W aC cC (D.L t++D.L f))=>zk W aC cC (D.L t++D.L f) hV.vs (by rw[ae,NT.o,NF.o];have:=LT.o;have:=LF.o;omega) (λe=>by
   rcases hV.cases with⟨_,h2,h3⟩|⟨g,Y,h1,_⟩
   . exact⟨h2,h3⟩
   . rw[e] at h1;cases h1) (λr hr=>by
   rcases bm.1 hr with h|h
   . exact BT.o r h
   . exact BF.o r h)
  have CCC:=ig λ(W:World)(g:Nat)(a1 a2:Option Addr)(c1 c2:Nat)(h1:W.cell? ⟨g,0,none⟩=some (.slice a1 (D.L t).length c1))(h2:W.cell? ⟨g,1,none⟩=some (.slice a2 (D.L f).length c2))(V1:Vs W a1 (D.L t))(V2:Vs W a2 (D.L f))=>wY W g a1 a2 c1 c2 (D.L t) (D.L f) h1 h2 V1 V2 (by rw[NT.o];exact LT.o) (by rw[NF.o];exact LF.o)
  obtain⟨nC,hnC⟩:∃n,(D.L t++D.L f).length=n:=⟨_,rfl⟩;rw[hnC] at CCC OFC;rw[NT.o,NF.o] at CCC;have HAP:=ig (show ∀z,has (D.L t++D.L f) z=(has (D.L t) z||has (D.L f) z) from iO _ _)
  clear hnC;generalize D.L t++D.L f=LL at *;have htI:(t:Int)<5:=by omega
  have hfI:(f:Int)<5:=by omega
  go_wp2_with fail
  refine wp_region_noPanic (bu (S:=λw'=>w'.cell? ⟨w.heap.size,0,none⟩=some (.pointer (some ⟨b,0,none⟩))/\w'.cell? ⟨b,2+f,none⟩=some (.pointer (some ⟨D.s f,0,none⟩))) (by kernel_rfl) ⟨hr0,hr2⟩ (λhHeld=>?_))
  refine tkd 0 1 2 3 ?_;refine tkd 4 5 6 9 ?_;refine tkd 10 11 12 13 ?_;refine tkb 14 19 ?_;refine tk 20 ?_;refine tw 7 λK hK=>?_
  go_simp;refine hK.o _ _ (⟨hr0,hr2⟩) (λhHeld=>?_)
  clear hK K;try simp only[pt]
  refine tw 8 λK hK=>?_
  go_simp;refine(RT.o _ HB.o).mono ?_;rintro _ w2 ⟨rfl,hv,hb⟩;have V1:=ig hv;have HB:=ig (bt HB.o hb);clear hv hb;go_wp2_with fail
  refine hK.o _ _ (⟨CP.o _ HB.o,CF.o _ HB.o⟩) (λhHeld=>?_)
  clear hK K;try simp only[pt]
  refine tw 15 λK hK=>?_
  go_simp;refine(RF.o _ HB.o).mono ?_;rintro _ w3 ⟨rfl,hv,hb⟩;have V2:=ig hv;have V1:=ig (V1.o.keep hb);have HB:=ig (bt HB.o hb);clear hv hb;go_wp2_with fail
  refine hK.o _ _ (⟨CP.o _ HB.o,CF.o _ HB.o⟩) (λhHeld=>?_)
  clear hK K;try simp only[pt]
  refine tw 16 λK hK=>?_
  go_simp;have A16:=ig (al w3 (.cells #[.slice (some ⟨Wx.drew.heap.size,0,none⟩) nT nT,.slice (some ⟨w2.heap.size,0,none⟩) nF nF] 169));have X16:=ig (xG w3 (.slice (some ⟨Wx.drew.heap.size,0,none⟩) nT nT) (.slice (some ⟨w2.heap.size,0,none⟩) nF nF) 169);have HB3:=HB;have HB:=ig (bt HB.o A16.o);refine hK.o _ _ (⟨CP.o _ HB.o,CF.o _ HB.o⟩) (λhHeld=>?_)
  clear hK K;try simp only[pt]
  refine tw 17 λK hK=>?_
  go_simp;refine(CCC.o _ _ (some ⟨Wx.drew.heap.size,0,none⟩) (some ⟨w2.heap.size,0,none⟩) nT nF X16.o.1 X16.o.2 (V1.o.keep A16.o).vs (V2.o.keep A16.o).vs).mono ?_;rintro _ w5 ⟨aC,cC,rfl,hVC,hNC,hbC⟩;have VC:=ig hVC;have HB:=ig (bt HB.o hbC);clear hVC hNC hbC X16 A16;go_wp2_with fail
  refine hK.o _ _ (⟨CP.o _ HB.o,CF.o _ HB.o⟩) (λhHeld=>?_)
  clear hK K;try simp only[pt]
  refine tw 18 λK hK=>?_
  go_simp;refine(OFC.o _ aC cC VC.o).mono ?_;rintro _ w6 ⟨b6,a6,c6,R6,rfl,hN6,hH6,-⟩;have N6:=ig (QX.o.newSet ht HB.o hN6);have HB6:=ig (bt HB.o hN6.w);have H6:=ig hH6;have ct6:=CT.o _ HB6.o;have fr6:=FB.o _ HB6.o;clear hN6 hH6;go_wp2_with fail
  refine hK.o _ _ (⟨CP.o _ HB6.o,CF.o _ HB6.o⟩) (λhHeld=>?_)
  clear hK K;try simp only[pt]
  refine tk 21 ?_;refine tw 22 λK hK=>?_
  go_simp;refine hK.o _ _ (⟨(((But.refl (λk=>k=b) w6).setCell (p:=⟨b,2+t,none⟩) (λ_=>rfl) _).cell (p:=⟨w.heap.size,0,none⟩) (block_lt_of_cell (CP.o _ HB6.o)) (λe=>by have e:w.heap.size=b:=e;have:=HM.o.q.lb;omega)).trans (CP.o _ HB6.o),by have c:(w6.setCell ⟨b,2+t,none⟩ (.pointer (some ⟨b6,0,none⟩))).cell? ⟨b,2+f,none⟩=some (.pointer (some ⟨upd D.s t b6 f,0,none⟩)):=N6.o.1.cin hf;rw[iS _ _ hft] at c;exact c⟩) (λhHeld=>?_)
  clear hK K;try simp only[pt]
  refine wpAnyH_done (by kernel_rfl) (NoPanic.normal ?_) _
  obtain⟨q7,f7⟩:=N6.o;have p7:=hHeld.1;have Q7:=ig q7;have F7:=ig f7;generalize w6.setCell ⟨b,2+t,none⟩ (.pointer (some ⟨b6,0,none⟩))=W7 at *;have hs0:W7.drew.cell? ⟨w.heap.size,0,none⟩=some (.pointer (some ⟨b,0,none⟩)):=p7;clear hHeld q7 f7 N6 hr0 hr1 hr2 hr0' hr1' hr2' RT RF CT CF CP FB HB VC V1 V2 ct6 fr6;go_wp2_with fail
  refine wp_region_noPanic (bu (S:=λw'=>w'.cell? ⟨w.heap.size,0,none⟩=some (.pointer (some ⟨b,0,none⟩))) (by kernel_rfl) hs0 (λhHeld=>?_))
  refine tkd 0 1 3 4 ?_;refine tw 2 λK hK=>?_
  go_simp;refine(ug _).mono ?_;rintro _ w8 ⟨b8,a8,c8,R8,rfl,hN8,hH8,-⟩;have N8:=ig (Q7.o.newSet hf (drw W7) hN8);have HB8:=ig (bt (drw W7) hN8.w);have H8:=ig hH8;have ct8:=(Q7.o.keep HB8.o).cin hf;have fr8:=(Q7.o.keep HB8.o).free (2+f);have cp8:w8.cell? ⟨w.heap.size,0,none⟩=some (.pointer (some ⟨b,0,none⟩)):=(HB8.o.cell (p:=⟨w.heap.size,0,none⟩) (block_lt_of_cell p7)).trans p7;clear hN8 hH8;go_wp2_with fail
  refine hK.o _ _ (cp8) (λhHeld=>?_)
  clear hK K;try simp only[pt]
  refine tk 5 ?_;refine tw 6 λK hK=>?_
  go_simp;refine hK.o _ _ ((((But.refl (λk=>k=b) w8).setCell (p:=⟨b,2+f,none⟩) (λ_=>rfl) _).cell (p:=⟨w.heap.size,0,none⟩) (block_lt_of_cell cp8) (λe=>by have e:w.heap.size=b:=e;have:=HM.o.q.lb;omega)).trans cp8) (λhHeld=>?_)
  clear hK K;try simp only[pt]
  refine wpAnyH_done (by kernel_rfl) (NoPanic.normal ?_) _
  obtain⟨q9,f9⟩:=N8.o;generalize w8.setCell ⟨b,2+f,none⟩ (.pointer (some ⟨b8,0,none⟩))=W9 at *;have F79:=ig (F7.o.trans f9);have Q9:=ig q9;clear q9 f9 N8 hHeld ct8 fr8 cp8 Q7 F7 p7 hs0 OFC CCC HB8 HB6;go_wp2;refine⟨by simp,.inl ⟨_,_,rfl,ee (F79.o.b.same HK.o (λh=>h DZ.o)),?_⟩⟩
  have cD:∀(o:Obj),But (λk=>k=DD) W9 (W9.putObj DD o):=λo=>(But.refl (λk=>k=DD) W9).putObj (λ_=>rfl) o
  have zD:=(F79.o.c DD lDD).trans DZ.o;refine⟨_,eu rfl _ _ _,rfl,_,⟨_,Q9.o.but (cD _) (λk hk e=>hk (by rw[e];exact zD)),HM.o.ok.setl f,λs hs z=>?_⟩,⟨((FX.o.trans F79.o).b).trans (cD _) (λx hx e=>by omega),(FX.o.trans F79.o).c⟩⟩
  show has (upd (upd D.L t R6) f R8 s) z=inS (sel P.pg (inS P.pg f)) s z;rw[Bm hft HS.o];by_cases sf:s=f
  . subst sf;rw[iL,H8.o,if_neg hft,if_pos rfl]
  . rw[iS _ _ sf];by_cases st:s=t
    . subst st;rw[iL,if_pos rfl,H6.o,HAP.o,HM.o.mem s hs,HM.o.mem f hf]
    . rw[iS _ _ st,if_neg st,if_neg sf];exact HM.o.mem s hs z
end Go.Proofs.YtbdkogimlbnlmaaGreat.Q
namespace Go.Proofs.YtbdkogimlbnlmaaGreat.Q
open Go.RowKit
variable {x:Pg}
theorem A9(h0:0<=x.1)(h:stt x=3):stt (las x)=4:=by
 obtain⟨c,l⟩:=x;unfold stt at h;unfold las stt;simp only at h h0 ⊢;by_cases e:c=0
 . rw[if_pos e] at h;split at h<;>omega
 . rw[if_neg e,ay (show 0<c by omega)];rfl
theorem Ap(h:stt x=2):stt (las x)=1:=by
 obtain⟨c,l⟩:=x;unfold stt at h;unfold las stt;simp only at h ⊢;by_cases e:c=0
 . subst e;rfl
 . rw[if_neg e] at h;split at h<;>omega
theorem xU{P:Po}(h:P.Ok):((P.setl 3).setl 2).pg=P.pg.map λx=>(x.1,decide (0<x.1)):=by
 have hl:((P.setl 3).setl 2).pg.length=P.pg.length:=(iM _ _).trans (iM _ _);refine nv (by rw[hl,a7]) λi hi=>?_
 rw[hl] at hi;have h3:i<(P.setl 3).pg.length:=by show i<(sel _ _).length;rw[iM];exact hi
 have e1:(P.setl 3).pg.getD i Pg.zero=if inS P.pg 3 ((i:Int)+1) then las (P.pg.getD i Pg.zero) else P.pg.getD i Pg.zero:=jT _ _ hi
 have e2:((P.setl 3).setl 2).pg.getD i Pg.zero=if inS (P.setl 3).pg 2 ((i:Int)+1) then las ((P.setl 3).pg.getD i Pg.zero) else (P.setl 3).pg.getD i Pg.zero:=jT _ _ h3
 have e3:(P.pg.map λx=>(x.1,decide (0<x.1))).getD i Pg.zero=las (P.pg.getD i Pg.zero):=by simp[hi,las]
 rw[e2,e3,lk h3,e1,lk hi];have h0:=(h.cs _ (jO hi)).1;generalize P.pg.getD i Pg.zero=y at *;obtain⟨c,l⟩:=y;have h0:0<=c:=h0;unfold las stt;by_cases ec:c=0
 . subst ec;cases l<;>rfl
 . have d:decide (0<c)=true:=ay (by omega)
   cases l<;>simp[ec,d]
theorem wC(w:World)(b:Nat)(P:Po)(col:Nat->Nat)(h:Pl w b P col)(hm:P.mark<=9223372036854775807):
 Calls Tryz.prog 119 #[.pointer (some ⟨b,0,none⟩)] w λe w'=>e=.returned (.tuple #[])/\∃col',Pl w' b P.settle col'/\Fr w col w' col':=by
 have ok:=h.ok;obtain⟨D,h⟩:=h;have S1:=ig (qE w b P D col h 3 4 (by decide) (by decide) (by decide) (λx hx=>A9 (ok.cs x hx).1))
 have S2:=ig λ(W:World)(D':Pd)(c':Nat->Nat)(h':Pm W b (P.setl 3) c' D')=>qE W b (P.setl 3) D' c' h' 2 1 (by decide) (by decide) (by decide) (λx hx=>Ap)
 have HM:=ig hm;have OK:=ig ok;clear h ok;go_enter Tryz.func119,Tryz.ntmps119;go_wp2_with fail
 refine S1.o.mono ?_;rintro _ w1 ⟨rfl,c1,⟨D1,h1⟩,f1⟩;have F1:=ig f1;have H1:=ig h1;clear h1 f1 S1;go_wp2_with fail
 refine(S2.o _ _ _ H1.o).mono ?_;rintro _ w2 ⟨rfl,c2,⟨D2,h2⟩,f2⟩;have F2:=ig (F1.o.trans f2);have MK:=ig (pK w2 b ((P.setl 3).setl 2) D2 c2 h2.q HM.o);have H2:=ig h2;clear h2 f2 S2 H1 F1;rw[show((P.setl 3).setl 2).mark=P.mark from rfl] at MK
 go_wp2_with fail
 refine MK.o.mono ?_;rintro _ w3 ⟨rfl,hb⟩;have q3:=H2.o.q.keep hb;have F3:=ig (F2.o.below hb);have c7:=q3.c7;have c8:=q3.c8;have f7:=q3.free 7;have f8:=q3.free 8
 have c7':(w3.setCell ⟨b,8,none⟩ (.int .i64 ((P.mark:Nat):Int))).cell? ⟨b,7,none⟩=some (.slice D2.aa ((P.setl 3).setl 2).ac.length D2.ac):=by
  rw[au _ _ _ _ _ _ (aM w3 b 8 _ _ (.int .i64 ((P.mark:Nat):Int)) q3.box)];rfl
 have f7':(w3.setCell ⟨b,8,none⟩ (.int .i64 ((P.mark:Nat):Int))).frozen? ⟨b,7,none⟩=false:=by simp[World.frozen?,aM w3 b 8 _ _ (.int .i64 ((P.mark:Nat):Int)) q3.box]
 have FIN:=ig (show ∃col',Pl ((w3.setCell ⟨b,8,none⟩ (.int .i64 ((P.mark:Nat):Int))).setCell ⟨b,7,none⟩ (.slice none 0 0)) b P.settle col'/\Fr w col ((w3.setCell ⟨b,8,none⟩ (.int .i64 ((P.mark:Nat):Int))).setCell ⟨b,7,none⟩ (.slice none 0 0)) col' from by
  have bS:But (λk=>k=b) w3 ((w3.setCell ⟨b,8,none⟩ (.int .i64 ((P.mark:Nat):Int))).setCell ⟨b,7,none⟩ (.slice none 0 0)):=((But.refl (λk=>k=b) w3).setCell (p:=⟨b,8,none⟩) (λ_=>rfl) _).setCell (p:=⟨b,7,none⟩) (λ_=>rfl) _
  have ne:∀{k:Nat},c2 k≠1->¬(k=b):=λh1 e=>h1 (by rw[e];exact q3.cb)
  have ps:P.settle=⟨P.rf,((P.setl 3).setl 2).pg,[],P.mark⟩:=by unfold Po.settle;rw[xU OK.o]
  refine⟨c2,⟨{D2 with aa:=none,ac:=0,B:=[]},?_,OK.o.settle,?_⟩,F3.o.trans ⟨bS.mono λk _ hk=>by rw[hk,q3.cb];decide,λ_ _=>rfl⟩⟩
  . rw[ps];refine⟨?_,bS.same q3.pgs (ne (by rw[q3.cg];decide)),λs hs=>(q3.set s hs).but bS (ne (by rw[q3.cs s hs];omega)) (λy hy=>ne (by rw[q3.ca s hs y hy];omega)),Gw.nil _ _ _,rfl,λq hq=>(by cases hq),q3.cb,q3.cg,q3.cs,q3.ca,λx hx=>(by cases hx),λt ht=>(by cases ht),λk hk=>aZ (q3.lt k hk) bS.size⟩
    rw[aM _ _ _ _ _ _ (aM w3 b 8 _ _ (.int .i64 ((P.mark:Nat):Int)) q3.box)];rfl
  . intro s hs z;rw[ps];exact H2.o.mem s hs z)
 clear q3 F3 F2 H2 MK;go_wp2;go_end0
 exact⟨rfl,FIN.o⟩
end Go.Proofs.YtbdkogimlbnlmaaGreat.Q
namespace Go.Proofs.YtbdkogimlbnlmaaGreat
open Go.RowKit Go.Shelf
attribute [local go_sem] Oper.semAt_some
variable {fl hb:Nat}{col pc:Nat->Nat}{P:Q.Po}{D:Vd}{W1:World}
def jM(f:Int->Option Pv)(L:List Int):Int->Option Pv:=λz=>if z∈L then none else f z
theorem Aw(f:Int->Option Pv):jM f []=f:=by funext z;simp[jM]
theorem y8(f:Int->Option Pv)(L:List Int)(x:Int):(λk=>(jM f (L++[x]) k).map Pv.vl)=nf (λk=>(jM f L k).map Pv.vl) x:=by
 funext k
 unfold jM nf;by_cases e:k=x
 . subst e;simp
 . simp[e]
def Vs.settle(S:Vs):Vs:=⟨⟨S.X.P.settle,jM S.X.f (S.X.P.pages 2),[]⟩,[],S.fl+S.al.length⟩
structure Sx(hb:Nat)(W1:World)(b:Nat)(P:Q.Po)(fl:Nat)(D:Vd)(pc col:Nat->Nat)(F:Nat->Prop)(pre:List Int)(W:World):Prop where
 i:∀k,F k↔k=D.mb
 v:Vq W b P fl {D with f:=jM D.f pre} pc col
 x:W.cell? ⟨hb,0,none⟩=some (.pointer (some ⟨b,0,none⟩))
 b:But (λk=>k=D.mb) W1 W
theorem Sx.abid{b:Nat}(hh:hb<W1.heap.size)(hlt:∀k,col k≠0->k<W1.heap.size):Q.kY W1.heap.size (Sx hb W1 b P fl D pc col):=λF s A B hs hB=>
 ⟨hs.i,hs.v.but hB (λk hk h2=>by have:=hlt k hk;omega),(hB.cell (p:=⟨hb,0,none⟩) (block_lt_of_cell hs.x) (λh2=>by have h2:W1.heap.size<=hb:=h2.2;omega)).trans hs.x,hs.b.trans hB (λk hk h2=>by omega)⟩
theorem Sx.siz{b:Nat}:Q.mL (Sx hb W1 b P fl D pc col):=λF s A hs k hk=>by
 rw[(hs.i k).1 hk];exact hs.v.mp.lt
theorem Vq.fresh{w:World}{b:Nat}(h:Vq w b P fl D pc col)(m:Nat):
 Vq (((w.setCell ⟨b,4,none⟩ (.int .i64 (m:Int))).setCell ⟨b,3,none⟩ (.slice none 0 0)).setCell ⟨b,2,none⟩ (.slice none 0 0)) b P m {D with ac:=none,cc:=0,ch:=[],aa:=none,ca:=0,al:=[]} pc col/\But (λk=>k=b) w (((w.setCell ⟨b,4,none⟩ (.int .i64 (m:Int))).setCell ⟨b,3,none⟩ (.slice none 0 0)).setCell ⟨b,2,none⟩ (.slice none 0 0)):=by
 have bs:But (λk=>k=b) w (((w.setCell ⟨b,4,none⟩ (.int .i64 (m:Int))).setCell ⟨b,3,none⟩ (.slice none 0 0)).setCell ⟨b,2,none⟩ (.slice none 0 0)):=(((But.refl (λk=>k=b) w).setCell (p:=⟨b,4,none⟩) (λ_=>rfl) _).setCell (p:=⟨b,3,none⟩) (λ_=>rfl) _).setCell (p:=⟨b,2,none⟩) (λ_=>rfl) _
 have ne:∀{k:Nat},col k≠1->¬(k=b):=λh1 e=>h1 (by rw[e];exact h.cb)
 refine⟨⟨?_,h.mp.but bs (ne (by rw[h.cm];decide)),Q.Gw.nil _ _ _,Q.Gw.nil _ _ _,h.pool.but bs (λk hk=>ne (by rw[h.cp k hk];decide)),λk p hp=>(h.fz k p hp).but bs (λk _ e=>ne (by omega)),λx hx=>absurd hx (bB),h.cb,h.cm,λx hx=>(by cases hx),λx hx=>(by cases hx),h.cp,λk hk=>aZ (h.lt k hk) bs.size⟩,bs⟩
 have e1:=aM w b 4 _ _ (.int .i64 (m:Int)) h.box;have e2:=aM _ b 3 _ _ (.slice none 0 0) e1;have e3:=aM _ b 2 _ _ (.slice none 0 0) e2;rw[e3];rfl
theorem uT(w:World)(b:Nat)(S:Vs)(pb mb:Nat)(pc col:Nat->Nat)(h:Vw w b S pb mb pc col)(hm:S.X.P.mark<=9223372036854775807)(hm2:S.fl+S.al.length<=9223372036854775807):
 Calls Tryz.prog 57 #[.pointer (some ⟨b,0,none⟩)] w λe w'=>e=.returned (.tuple #[])/\∃pc' col',Vw w' b S.settle pb mb pc' col'/\Vf w col w' col':=by
 obtain⟨ac,cc,aa,ca,hq⟩:=h;refine(eQ (n:=0)).1 ?_;refine fb Tryz.func57 rfl trivial ?_ rfl;simp only[Tryz.ntmps57,da,bg,bh,Nat.reduceAdd,Nat.reduceSub,dw,dy,dG,dA,cO,dl];refine fU.2 ?_;have A0:=ig (al w (.cells #[.pointer (some ⟨b,0,none⟩)] 41));have X0:=ig (Q.iI w (.pointer (some ⟨b,0,none⟩)) 41);have HQ:=ig (hq.keep A0.o);have HLT:=ig hq.lt;have PG:=ig (Q.sg _ pb S.X.P pc HQ.o.pool 2);obtain⟨c0,c1,c2,c3,c4⟩:=HQ.o.cells;have x0:=X0.o;dsimp only at c0 c1;clear hq c2 c3 c4;go_wp2_with fail
 generalize w.alloc (.cells #[.pointer (some ⟨b,0,none⟩)] 41)=W0 at *;refine PG.o.mono ?_;rintro _ W1 ⟨gf,lb,X,rfl,hW⟩;have HW:=ig hW;have B1:=ig (bt A0.o hW.bl);have hs0:w.heap.size<W0.heap.size:=block_lt_of_cell x0;have hs1:W0.heap.size<=W1.heap.size:=hW.bl.size;have LT1:Hid (∀k,col k≠0->k<W1.heap.size):=λk hk=>by have:=HLT.o k hk;omega
 have Z1:Hid (Sx w.heap.size W1 b S.X.P S.fl ⟨pb,mb,S.X.f,ac,cc,S.X.ch,aa,ca,S.al⟩ pc col (λk=>k=mb) [] W1):=⟨λk=>fQ,by
  rw[Aw];exact HQ.o.keep hW.bl,(hW.bl.cell (p:=⟨w.heap.size,0,none⟩) hs0).trans x0,But.refl _ _⟩
 have sX:=hW.nw;have hmbl:Hid (mb<w.heap.size):=HLT.o mb (by rw[HQ.o.cm];decide)
 clear hW PG c0 c1 x0;go_wp2_with fail
 refine(fU (n:=0)).1 ?_
 refine Q.wp_rangeF (gf:=gf) (lb:=lb) rfl HW.o.en HW.o.seq (But.refl _ _) (λk hk=>(sX k hk).2) (λ_=>rfl)
  (λk=>k=mb)
  (λk hk hx=>by
    have h1:=(sX k hx).1;have h2:=hmbl.o;omega)
  (Sx w.heap.size W1 b S.X.P S.fl ⟨pb,mb,S.X.f,ac,cc,S.X.ch,aa,ca,S.al⟩ pc col)
  (λc F pre W=>False)
  (Sx.abid (by omega) LT1.o)
  Sx.siz
  (λc F s A B hs hb=>hs)
  (λc F s A hs=>hs.elim)
  Z1.o ?round ?done ?stop
 case round=>
  rintro l F pre x rest W hxs hz hsz hFs hFl hl1 hl2 hBw;have HZ:=ig hz;have HFl:=ig hFl;have HL1:=ig hl1;clear hxs hz hFs hFl hl1 hl2 hBw sX hsz hm hm2;unfold Q.enI;gi_wp2
  refine⟨Below.refl _ _,λW3 h3=>?_⟩
  have hz:=HZ.o;have hFl:=HFl.o;have hl1:=HL1.o;have z3:=Sx.abid (hb:=w.heap.size) (by omega) LT1.o F pre W W3 hz (h3.mono λk _ hk=>⟨λhf=>hFl (by rw[hk] at hf;exact hf),by omega⟩)
  obtain⟨c0,c1,c2,c3,c4⟩:=z3.v.cells;dsimp only at c1;have x3:=z3.x;obtain⟨W4,hdel,m4,b4,s4⟩:=z3.v.mp.drop (P:=Tryz.prog) (T:=81) Tryz.underlying81 Tryz.underlying3 x 3
  have FIN:Hid (Sx w.heap.size W1 b S.X.P S.fl ⟨pb,mb,S.X.f,ac,cc,S.X.ch,aa,ca,S.al⟩ pc col F (pre++[x]) W4):=by
   have hmb:∀{k:Nat},k=mb->k=mb:=λe=>e
   refine⟨z3.i,?_,?_,z3.b.trans b4 (λk hk e=>e)⟩
   . have hv:=z3.v.mapped (f':=jM S.X.f (pre++[x])) (by rw[y8];exact m4) b4 (λk p hp=>z3.v.fz k p (by
      show jM S.X.f pre k=some p;unfold jM at hp ⊢;split at hp
      . cases hp
      . rename_i hn;rw[if_neg (λe=>hn (fZ _ e))]
        exact hp))
     exact hv
   . refine(b4.cell (p:=⟨w.heap.size,0,none⟩) (block_lt_of_cell x3) (λe=>?_)).trans x3
     have e:w.heap.size=mb:=e;have:=hmbl.o;omega
  have FB:Hid (But F W3 W4):=b4.mono (λk _ e=>(z3.i k).2 e)
  clear m4 b4 s4 z3 hz h3 c0 c2 c3 c4 HZ HFl HL1 hFl hl1;gi_wp2
  exact⟨F,FB.o,λk hk=>.inl hk,FIN.o⟩
 case done=>
  rintro D F Wx hD hFD hz hBw hFs hK;have HZ:=ig hz;have HK:=ig hK;have hxl:W1.heap.size<=Wx.heap.size:=hBw.size;have VX:Hid (Vf w col Wx col):=(Vf.keep B1.o).trans ⟨hBw.mono (λk _ e=>by rw[e,HQ.o.cm];omega),λ_ _=>rfl⟩
  have ST:=ig (Q.wC Wx pb S.X.P pc HZ.o.v.pool hm);obtain⟨c0,c1,c2,c3,c4⟩:=HZ.o.v.cells;dsimp only at c0;have x3:=HZ.o.x;clear hz hK hBw hFs c1 c2 c3 c4 Z1 HW;go_wp2_with fail
  refine ST.o.mono ?_;rintro _ W5 ⟨rfl,pc5,hP5,hF5⟩;obtain⟨hv5,hf5⟩:=HZ.o.v.pooled hP5 hF5;have HV5:=ig hv5;have HF5:=ig (VX.o.trans hf5)
  have D0:Hid (∀k,W1.heap.size<=k->pc k=0):=λk hk=>by
   by_cases e:pc k=0
   . exact e
   . have h1:=HZ.o.v.cp k e;have h2:=LT1.o k (by rw[h1];decide)
     omega
  have K5:Hid (W5.heap[D]?=some (.deferred (some []))):=(hF5.b.block D (af.1 HK.o).1 (λe=>e (D0.o D hD))).trans HK.o
  have x5:W5.cell? ⟨w.heap.size,0,none⟩=some (.pointer (some ⟨b,0,none⟩)):=(hF5.b.cell (p:=⟨w.heap.size,0,none⟩) (block_lt_of_cell x3) (λe=>e (by
   by_cases e2:pc w.heap.size=0
   . exact e2
   . have h1:=HZ.o.v.cp _ e2;have h2:=HLT.o w.heap.size (by rw[h1];decide)
     omega))).trans x3
  have X5:=ig x5;have MK:=ig λ(W:World)(hb:Below W5.heap.size W5 W)=>kQ W b S.X.P.settle S.fl _ pc5 _ (HV5.o.keep hb) hm2
  dsimp only at MK;obtain⟨mk,hmk⟩:∃mk,S.fl+S.al.length=mk:=⟨_,rfl⟩;rw[hmk] at MK;have HMK:=ig hmk;clear hmk;have DB:Hid (W1.heap.size<=D):=hD;clear hv5 hf5 hP5 hF5 c0 ST x3 x5;go_upto_region 5 with fail
  have DR:=ig (dr2 W5);have SS:Hid (∀W:World,Below W5.heap.size W5 W->W.cell? ⟨w.heap.size,0,none⟩=some (.pointer (some ⟨b,0,none⟩))):=λW hb=>(hb.cell (p:=⟨w.heap.size,0,none⟩) (block_lt_of_cell X5.o)).trans X5.o
  refine wp_region_noPanic ?_;refine wrd SS DR.o λhHeld=>?_
  refine tkd 0 1 2 3 ?_;refine tw 4 λK hK=>?_
  go_simp;refine(MK.o _ DR.o).mono ?_;rintro _ W6 ⟨rfl,hb6⟩;have B6:=ig (bt DR.o hb6);clear hb6;go_wp2_with fail
  refine hK.o _ _ (SS.o _ B6.o) (λhHeld=>?_)
  clear hK K;try simp only[pt]
  have V6:=ig (HV5.o.keep B6.o);obtain⟨VF7,BF7⟩:=V6.o.fresh mk;have V7:=ig VF7;have BF:=ig BF7;clear VF7 BF7
  have hbn:Hid (w.heap.size≠b):=λe=>by
   have h1:=HLT.o b (by rw[HQ.o.cb];decide)
   omega
  obtain⟨d0,d1,d2,d3,d4⟩:=V6.o.cells;have f4:W6.frozen? ⟨b,4,none⟩=false:=V6.o.free 4;have f3:W6.frozen? ⟨b,3,none⟩=false:=V6.o.free 3;have f2:W6.frozen? ⟨b,2,none⟩=false:=V6.o.free 2;refine tkb 5 6 ?_;have S7:Hid ((W6.setCell ⟨b,4,none⟩ (.int .i64 ((mk:Nat):Int))).cell? ⟨w.heap.size,0,none⟩=some (.pointer (some ⟨b,0,none⟩))):=((But.refl (λk=>k=b) W6).setCell (p:=⟨b,4,none⟩) (λ_=>rfl) (.int .i64 ((mk:Nat):Int))).cell (p:=⟨w.heap.size,0,none⟩) (block_lt_of_cell (SS.o _ B6.o)) hbn.o |>.trans (SS.o _ B6.o)
  have S8:Hid (((W6.setCell ⟨b,4,none⟩ (.int .i64 ((mk:Nat):Int))).setCell ⟨b,3,none⟩ (.slice none 0 0)).cell? ⟨w.heap.size,0,none⟩=some (.pointer (some ⟨b,0,none⟩))):=((But.refl (λk=>k=b) _).setCell (p:=⟨b,3,none⟩) (λ_=>rfl) (.slice none 0 0)).cell (p:=⟨w.heap.size,0,none⟩) (block_lt_of_cell S7.o) hbn.o |>.trans S7.o
  have S9:Hid ((((W6.setCell ⟨b,4,none⟩ (.int .i64 ((mk:Nat):Int))).setCell ⟨b,3,none⟩ (.slice none 0 0)).setCell ⟨b,2,none⟩ (.slice none 0 0)).cell? ⟨w.heap.size,0,none⟩=some (.pointer (some ⟨b,0,none⟩))):=((But.refl (λk=>k=b) _).setCell (p:=⟨b,2,none⟩) (λ_=>rfl) (.slice none 0 0)).cell (p:=⟨w.heap.size,0,none⟩) (block_lt_of_cell S8.o) hbn.o |>.trans S8.o
  refine tw 7 λK hK=>?_
  go_simp;refine hK.o _ _ (S7.o) (λhHeld=>?_)
  clear hK K;try simp only[pt]
  refine tkb 8 9 ?_;refine tw 10 λK hK=>?_
  go_simp;refine hK.o _ _ (S8.o) (λhHeld=>?_)
  clear hK K;try simp only[pt]
  refine tkb 11 12 ?_;refine tw 13 λK hK=>?_
  go_simp;refine hK.o _ _ (S9.o) (λhHeld=>?_)
  clear hK K;try simp only[pt]
  refine td ?_;refine NoPanic.normal ?_
  have W7E:Hid (∀o,∃pc' col',Vw ((((W6.setCell ⟨b,4,none⟩ (.int .i64 ((mk:Nat):Int))).setCell ⟨b,3,none⟩ (.slice none 0 0)).setCell ⟨b,2,none⟩ (.slice none 0 0)).putObj D o) b S.settle pb mb pc' col'/\Vf w col ((((W6.setCell ⟨b,4,none⟩ (.int .i64 ((mk:Nat):Int))).setCell ⟨b,3,none⟩ (.slice none 0 0)).setCell ⟨b,2,none⟩ (.slice none 0 0)).putObj D o) col'):=λo=>by
   have hDx:D<Wx.heap.size:=(af.1 HK.o).1
   have hDc:ip col Wx W5 5 D=0:=by
    rw[iR hDx];by_cases e:col D=0
    . exact e
    . have h1:=LT1.o D e;have h2:=DB.o;omega
   have hDb:D≠b:=λe=>by
    have h1:=HLT.o b (by rw[HQ.o.cb];decide)
    have h2:=DB.o;omega
   have bD:=(But.refl (λk=>k=D) (((W6.setCell ⟨b,4,none⟩ (.int .i64 ((mk:Nat):Int))).setCell ⟨b,3,none⟩ (.slice none 0 0)).setCell ⟨b,2,none⟩ (.slice none 0 0))).putObj (λ_=>rfl) o
   refine⟨pc5,ip col Wx W5 5,⟨none,0,none,0,by show Vq _ b _ (S.fl+S.al.length) _ _ _;rw[HMK.o];exact V7.o.but bD (λk hk e=>hk (by rw[e];exact hDc))⟩,?_⟩
   have v6:Vf w col W6 (ip col Wx W5 5):=HF5.o.trans (Vf.keep B6.o);refine⟨(v6.b.trans BF.o (λk hk e=>by rw[e,HQ.o.cb];omega)).trans bD (λk hk e=>?_),v6.c⟩
   have h2:=DB.o;omega
  have K7:Hid ((((W6.setCell ⟨b,4,none⟩ (.int .i64 ((mk:Nat):Int))).setCell ⟨b,3,none⟩ (.slice none 0 0)).setCell ⟨b,2,none⟩ (.slice none 0 0)).heap[D]?=some (.deferred (some []))):=by
   have k6:W6.heap[D]?=some (.deferred (some [])):=(B6.o.block D (af.1 K5.o).1).trans K5.o;refine(BF.o.block D (af.1 k6).1 (λe=>?_)).trans k6
   have h1:=HLT.o b (by rw[HQ.o.cb];decide)
   have h2:=DB.o;omega
  clear hHeld d0 d1 d2 d3 d4 f4 f3 f2 S7 S8 S9 V7 BF V6;generalize (((W6.setCell ⟨b,4,none⟩ (.int .i64 ((mk:Nat):Int))).setCell ⟨b,3,none⟩ (.slice none 0 0)).setCell ⟨b,2,none⟩ (.slice none 0 0))=W9 at *;go_wp2;refine⟨by simp,.inl ⟨_,_,rfl,ee K7.o,?_⟩⟩
  obtain⟨p9,q9,h9,v9⟩:=W7E.o (.deferred none);exact⟨.tuple #[],by kernel_rfl,rfl,p9,q9,h9,v9⟩
 case stop=>exact λD c F pre rest Wx hD hFD hxs hz=>hz.elim
end Go.Proofs.YtbdkogimlbnlmaaGreat
