import Derived.Test.YtcpkinhneehomaaGreatWqB23
set_option linter.unusedVariables false
set_option linter.unusedSimpArgs false
set_option maxHeartbeats 8000000
set_option maxRecDepth 8000
namespace Go.Proofs.YtcpkinhneehomaaGreat
open Go.RowKit
variable {c g rb sz:Nat}{a:Option Addr}{D:Rd}{W w w5 wx:World}
theorem Q.Gw.blk{e:TypeId}{cap n:Nat}{C:List Value}(h:Q.Gw e sz w a cap n C){x:Addr}(hx:a=some x):∃cur,w.heap[x.block]?=some (.cells cur e (0,0)):=by
 rcases h.cases with⟨e1,_⟩|⟨g,cur,e1,hg,_⟩
 · rw[e1] at hx;cases hx
 · rw[e1] at hx;cases hx;exact⟨cur,hg⟩
theorem blk_ty{k k':Nat}{c c':Array Value}{t t':TypeId}(h:w.heap[k]?=some (.cells c t (0,0)))(h':w.heap[k']?=some (.cells c' t' (0,0)))(hn:t≠t'):k≠k':=fun e=>by
 rw[e,h'] at h;simp only[Option.some.injEq,Obj.cells.injEq] at h;exact hn h.2.1.symm
theorem run_apG{ts te:TypeId}{bs:Nat}{z:Value}(hu:Tryz.prog.underlying ts=some (.slice te))(hinfo:(Tryz.prog.info? te).map (fun i=>(i.zero,i.size,i.bytes))=some (some z,sz,bs))(hz:z.cells.size=sz)(h0:0<sz)(w:World)(ty:TypeId)(a:Option Addr)(n cap:Nat)(C:List Value)(hR:Q.Gw te sz w a cap n C)(ad:Addr)(c:Nat)(xs:List Value)(hl:xs.length=1*sz)(hc:∀j u,xs[j]?=some u->w.cell? (ad.add j)=some u)(h1:∀u∈xs,u.oneCell'=true)(hm:n+1<=maxLen)(hlen:(n+1)*bs<=140737488355328):
 ∃g cap' w',(Builtin.append_ #[ts,ts] ty #[.slice a n cap,.slice (some ad) 1 c]).run Tryz.prog w=.ok (.slice (some ⟨g,0,none⟩) (n+1) cap') w'/\
  Q.Gw te sz w' (some ⟨g,0,none⟩) cap' (n+1) (C++xs)/\New w a (some ⟨g,0,none⟩)/\But (Q.InA a) w w':=by
 obtain⟨i0,hi,hz0,hz1,hz2⟩:=info_parts hinfo;obtain⟨g,cap',w',hr,k1,k2,k3,k4⟩:=run_append_lies (P:=Tryz.prog) w ts ty 0 te i0 z sz bs hu hi hz0 hz1 hz2 hz h0 (.slice a n cap) n C hR ad 1 c xs hl hc h1 (by decide) hm hlen (Nat.zero_le _) w.heap.size rfl
 rw[ob_eq] at k2 k3;refine⟨g,cap',w',hr,k1,?_,But.inA k2⟩;intro y hy;simp only[Option.some.injEq] at hy;subst hy;rcases k3 with k3|k3
 · obtain⟨z,hz,e⟩:=map_some k3;exact .inl ⟨z,hz,e⟩
 · exact .inr (by show _<=g;omega)
theorem wpList_apG{ts te:TypeId}{sz bs:Nat}{z:Value}(hu:Tryz.prog.underlying ts=some (.slice te))(hinfo:(Tryz.prog.info? te).map (fun i=>(i.zero,i.size,i.bytes))=some (some z,sz,bs))(hz:z.cells.size=sz)(h0:0<sz){w:World}{ops:Array Oper}{rest:List Oper}{o:Oper}{a:Act}{Q':Exit->Act->World->Prop}(hgd:o.guard=none)(s x:Operand)
 (ho:o.op=.call {callee:=.builtin .append,args:=#[s,x],argTypes:=#[ts,ts]}) (ao:Option Addr) (n cap:Nat) (C:List Value) (hs:a.eval s=.slice ao n cap) (hR:Q.Gw te sz w ao cap n C)
 (ad:Addr) (c:Nat) (xs:List Value) (hx:a.eval x=.slice (some ad) 1 c) (hl:xs.length=1*sz) (hc:∀j u,xs[j]?=some u->w.cell? (ad.add j)=some u) (h1:∀u∈xs,u.oneCell'=true) (hm:n+1<=maxLen) (hlen:(n+1)*bs<=140737488355328)
 (h:∀g cap' w',Q.Gw te sz w' (some ⟨g,0,none⟩) cap' (n+1) (C++xs)->New w ao (some ⟨g,0,none⟩)->But (Q.InA ao) w w'->wpList Tryz.prog ops Q' rest (a.put o.dst (.slice (some ⟨g,0,none⟩) (n+1) cap')) w'):wpList Tryz.prog ops Q' (o::rest) a w:=
 wpList_plain hgd fun K hK=>by
  obtain⟨g,cap',w',hr,k1,k2,k3⟩:=run_apG hu hinfo hz h0 w o.type ao n cap C hR ad c xs hl hc h1 hm hlen;unfold Oper.wp execOp;simp only[ho,resolve,invoke,builtin,Sem.run_bind,Sem.run_pure,Result.andThen_ok,List.map_toArray,List.map_cons,List.map_nil,hs,hx,hr];exact hK _ _ (h g cap' w' k1 k2 k3)
theorem infoBool:(Tryz.prog.info? 4).map (fun i=>(i.zero,i.size,i.bytes))=some (some (.bool false),1,1):=by kernel_rfl
theorem infoPage2:(Tryz.prog.info? 31).map (fun i=>(i.zero,i.size,i.bytes))=some (some (.agg Pv.zero.cs),5,72):=by kernel_rfl
theorem infoInt2:(Tryz.prog.info? 3).map (fun i=>(i.zero,i.size,i.bytes))=some (some (.int .i64 0),1,8):=by kernel_rfl
theorem vi_snoc(l:List Int)(x:Int):Q.vi l++[.int .i64 x]=Q.vi (l++[x]):=by simp[Q.vi]
theorem vbl_snoc(l:List Bool)(x:Bool):vbl l++[.bool x]=vbl (l++[x]):=by simp[vbl]
theorem vpg_snoc(l:List Pv)(x:Pv):vpg l++x.cs.toList=vpg (l++[x]):=by simp[vpg]
structure Rn(w wx:World)(rb:Nat)(D:Rd):Prop where
 box:wx.heap[rb]?=some (.cells D.box 99 (0,0))
 cr:Q.Gw 3 1 wx D.aC D.cC D.C.length (Q.vi D.C)
 lr:Q.Gw 4 1 wx D.aL D.cL D.L.length (vbl D.L)
 pr:Q.Gw 31 5 wx D.aP D.cP D.P.length (vpg D.P)
 pn:∀p∈D.P,Pn w wx p
 ps:∀p∈D.P,p.pg.check=0\/p=Pv.zero
 nb:w.heap.size<=rb
 nC:New w none D.aC
 nl:New w none D.aL
 np:New w none D.aP
 b:Below w.heap.size w wx
theorem Rn.keep{wy:World}(h:Rn w wx rb D)(hb:Below wx.heap.size wx wy):Rn w wy rb D:=
 ⟨blk13 h.box hb,h.cr.keep hb,h.lr.keep hb,h.pr.keep hb,fun p hp=>(h.pn p hp).keep hb,h.ps,h.nb,h.nC,h.nl,h.np,bt h.b hb⟩
theorem Rn.lb(h:Rn w wx rb D):rb<wx.heap.size:=(Array.getElem?_eq_some_iff.1 h.box).1
theorem Rn.cells(h:Rn w wx rb D):wx.cell? ⟨rb,0,none⟩=some (.int .i64 D.R)/\wx.cell? ⟨rb,1,none⟩=some (.slice D.aC D.C.length D.cC)/\wx.cell? ⟨rb,2,none⟩=some (.slice D.aL D.L.length D.cL)/\wx.cell? ⟨rb,3,none⟩=some (.slice D.aP D.P.length D.cP)/\wx.frozen? ⟨rb,1,none⟩=false/\wx.frozen? ⟨rb,2,none⟩=false/\wx.frozen? ⟨rb,3,none⟩=false:=by
 rw[cell_of_row _ _ _ _ _ _ h.box,cell_of_row _ _ _ _ _ _ h.box,cell_of_row _ _ _ _ _ _ h.box,cell_of_row _ _ _ _ _ _ h.box];exact⟨rfl,rfl,rfl,rfl,by simp[World.frozen?,h.box],by simp[World.frozen?,h.box],by simp[World.frozen?,h.box]⟩
theorem new_more(h:New w none a)(hN:New W a (some ⟨g,0,none⟩))(hs:w.heap.size<=W.heap.size):New w none (some ⟨g,0,none⟩):=fun y hy=>by
 cases hy;refine .inr ?_;rcases hN ⟨g,0,none⟩ rfl with⟨z,hz,e⟩|e
 · have e:z.block=g:=e;show _<=g;rw[<-e];exact vnew_at h hz
 · exact Nat.le_trans hs e
theorem Rn.low{i:Nat}{v:Value}(hb:Below w.heap.size w W)(hn:New w none a)(hB:But (Q.InA a) W w5)(hr:w.heap.size<=rb):Below w.heap.size w (w5.setCell ⟨rb,i,none⟩ v):=by
 have b1:But (fun k=>k=rb\/Q.InA a k) w w5:=(But.ofBelow (S:=fun k=>k=rb\/Q.InA a k) hb).trans hB (fun _ _ e=>.inr e)
 exact(b1.setCell (p:=⟨rb,i,none⟩) (fun _=>.inl rfl) v).below (fun k hk e=>by
  rcases e with e|⟨y,hy,e⟩
  · omega
  · have:=vnew_at hn hy;omega)
theorem Rn.apC(h:Rn w W rb D){x:Int}(hR:Q.Gw 3 1 w5 (some ⟨g,0,none⟩) c (D.C.length+1) (Q.vi D.C++[Value.int .i64 x]))(hN:New W D.aC (some ⟨g,0,none⟩))(hB:But (Q.InA D.aC) W w5):
 Rn w (w5.setCell ⟨rb,1,none⟩ (.slice (some ⟨g,0,none⟩) (D.C.length+1) c)) rb {D with aC:=some ⟨g,0,none⟩,cC:=c,C:=D.C++[x]}:=by
 have nI:∀{t:TypeId}{k:Nat}{cs:Array Value},W.heap[k]?=some (.cells cs t (0,0))->t≠3->¬Q.InA D.aC k:=fun hk ht ⟨y,hy,e⟩=>by
  obtain⟨cur,hc⟩:=h.cr.blk hy;exact blk_ty hk hc ht e.symm
 have b5:w5.heap[rb]?=some (.cells D.box 99 (0,0)):=hB.same h.box (nI h.box (by decide))
 have bs:But (fun k=>k=rb) w5 (w5.setCell ⟨rb,1,none⟩ (.slice (some ⟨g,0,none⟩) (D.C.length+1) c)):=(But.refl (fun k=>k=rb) w5).setCell (p:=⟨rb,1,none⟩) (fun _=>rfl) _
 have nb:∀{t:TypeId}{k:Nat}{cs:Array Value},w5.heap[k]?=some (.cells cs t (0,0))->t≠99->¬(k=rb):=fun hk ht e=>blk_ty hk b5 ht e
 have mv:∀{e:TypeId}{sz:Nat}{a:Option Addr}{cap n:Nat}{C:List Value},e≠3->e≠99->Q.Gw e sz W a cap n C->Q.Gw e sz (w5.setCell ⟨rb,1,none⟩ (.slice (some ⟨g,0,none⟩) (D.C.length+1) c)) a cap n C:=fun h1 h2 hg=>by
  have k5:=hg.but hB (fun y hy=>by obtain⟨cur,hc⟩:=hg.blk hy;exact nI hc h1)
  exact k5.but bs (fun y hy=>by obtain⟨cur,hc⟩:=k5.blk hy;exact nb hc h2)
 have mp:∀p:Pv,Pn w W p->Pn w (w5.setCell ⟨rb,1,none⟩ (.slice (some ⟨g,0,none⟩) (D.C.length+1) c)) p:=fun p hp=>by
  have p5:=hp.but hB (fun k ⟨y,hy,e⟩=>by obtain⟨cur,hc⟩:=h.cr.blk hy;exact⟨3,cur,by rw[<-e];exact hc,by decide,by decide⟩)
  exact p5.but bs (fun k e=>⟨99,D.box,by rw[e];exact b5,by decide,by decide⟩)
 refine⟨?_,(by show Q.Gw _ _ _ _ _ (D.C++[x]).length _;rw[List.length_append,<-vi_snoc];exact hR.but bs (fun y hy=>by obtain⟨cur,hc⟩:=hR.blk hy;exact nb hc (by decide))),mv (by decide) (by decide) h.lr,mv (by decide) (by decide) h.pr,fun p hp=>mp p (h.pn p hp),h.ps,h.nb,new_more h.nC hN h.b.size,h.nl,h.np,Rn.low h.b h.nC hB h.nb⟩
 rw[heap_setCell_same _ _ _ _ _ _ b5];show some (Obj.cells _ _ _)=some (Obj.cells (Rd.box _) _ _);unfold Rd.box;rw[List.length_append];rfl
theorem Rn.apL(h:Rn w W rb D){x:Bool}(hR:Q.Gw 4 1 w5 (some ⟨g,0,none⟩) c (D.L.length+1) (vbl D.L++[Value.bool x]))(hN:New W D.aL (some ⟨g,0,none⟩))(hB:But (Q.InA D.aL) W w5):
 Rn w (w5.setCell ⟨rb,2,none⟩ (.slice (some ⟨g,0,none⟩) (D.L.length+1) c)) rb {D with aL:=some ⟨g,0,none⟩,cL:=c,L:=D.L++[x]}:=by
 have nI:∀{t:TypeId}{k:Nat}{cs:Array Value},W.heap[k]?=some (.cells cs t (0,0))->t≠4->¬Q.InA D.aL k:=fun hk ht ⟨y,hy,e⟩=>by
  obtain⟨cur,hc⟩:=h.lr.blk hy;exact blk_ty hk hc ht e.symm
 have b5:w5.heap[rb]?=some (.cells D.box 99 (0,0)):=hB.same h.box (nI h.box (by decide))
 have bs:But (fun k=>k=rb) w5 (w5.setCell ⟨rb,2,none⟩ (.slice (some ⟨g,0,none⟩) (D.L.length+1) c)):=(But.refl (fun k=>k=rb) w5).setCell (p:=⟨rb,2,none⟩) (fun _=>rfl) _
 have nb:∀{t:TypeId}{k:Nat}{cs:Array Value},w5.heap[k]?=some (.cells cs t (0,0))->t≠99->¬(k=rb):=fun hk ht e=>blk_ty hk b5 ht e
 have mv:∀{e:TypeId}{sz:Nat}{a:Option Addr}{cap n:Nat}{C:List Value},e≠4->e≠99->Q.Gw e sz W a cap n C->Q.Gw e sz (w5.setCell ⟨rb,2,none⟩ (.slice (some ⟨g,0,none⟩) (D.L.length+1) c)) a cap n C:=fun h1 h2 hg=>by
  have k5:=hg.but hB (fun y hy=>by obtain⟨cur,hc⟩:=hg.blk hy;exact nI hc h1)
  exact k5.but bs (fun y hy=>by obtain⟨cur,hc⟩:=k5.blk hy;exact nb hc h2)
 have mp:∀p:Pv,Pn w W p->Pn w (w5.setCell ⟨rb,2,none⟩ (.slice (some ⟨g,0,none⟩) (D.L.length+1) c)) p:=fun p hp=>by
  have p5:=hp.but hB (fun k ⟨y,hy,e⟩=>by obtain⟨cur,hc⟩:=h.lr.blk hy;exact⟨4,cur,by rw[<-e];exact hc,by decide,by decide⟩)
  exact p5.but bs (fun k e=>⟨99,D.box,by rw[e];exact b5,by decide,by decide⟩)
 refine⟨?_,mv (by decide) (by decide) h.cr,(by show Q.Gw _ _ _ _ _ (D.L++[x]).length _;rw[List.length_append,<-vbl_snoc];exact hR.but bs (fun y hy=>by obtain⟨cur,hc⟩:=hR.blk hy;exact nb hc (by decide))),mv (by decide) (by decide) h.pr,fun p hp=>mp p (h.pn p hp),h.ps,h.nb,h.nC,new_more h.nl hN h.b.size,h.np,Rn.low h.b h.nl hB h.nb⟩
 rw[heap_setCell_same _ _ _ _ _ _ b5];show some (Obj.cells _ _ _)=some (Obj.cells (Rd.box _) _ _);unfold Rd.box;rw[List.length_append];rfl
theorem Rn.apP(h:Rn w W rb D){x:Pv}(hx:Pn w W x)(hxs:x.pg.check=0\/x=Pv.zero)(hR:Q.Gw 31 5 w5 (some ⟨g,0,none⟩) c (D.P.length+1) (vpg D.P++x.cs.toList))(hN:New W D.aP (some ⟨g,0,none⟩))(hB:But (Q.InA D.aP) W w5):
 Rn w (w5.setCell ⟨rb,3,none⟩ (.slice (some ⟨g,0,none⟩) (D.P.length+1) c)) rb {D with aP:=some ⟨g,0,none⟩,cP:=c,P:=D.P++[x]}:=by
 have nI:∀{t:TypeId}{k:Nat}{cs:Array Value},W.heap[k]?=some (.cells cs t (0,0))->t≠31->¬Q.InA D.aP k:=fun hk ht ⟨y,hy,e⟩=>by
  obtain⟨cur,hc⟩:=h.pr.blk hy;exact blk_ty hk hc ht e.symm
 have b5:w5.heap[rb]?=some (.cells D.box 99 (0,0)):=hB.same h.box (nI h.box (by decide))
 have bs:But (fun k=>k=rb) w5 (w5.setCell ⟨rb,3,none⟩ (.slice (some ⟨g,0,none⟩) (D.P.length+1) c)):=(But.refl (fun k=>k=rb) w5).setCell (p:=⟨rb,3,none⟩) (fun _=>rfl) _
 have nb:∀{t:TypeId}{k:Nat}{cs:Array Value},w5.heap[k]?=some (.cells cs t (0,0))->t≠99->¬(k=rb):=fun hk ht e=>blk_ty hk b5 ht e
 have mv:∀{e:TypeId}{sz:Nat}{a:Option Addr}{cap n:Nat}{C:List Value},e≠31->e≠99->Q.Gw e sz W a cap n C->Q.Gw e sz (w5.setCell ⟨rb,3,none⟩ (.slice (some ⟨g,0,none⟩) (D.P.length+1) c)) a cap n C:=fun h1 h2 hg=>by
  have k5:=hg.but hB (fun y hy=>by obtain⟨cur,hc⟩:=hg.blk hy;exact nI hc h1)
  exact k5.but bs (fun y hy=>by obtain⟨cur,hc⟩:=k5.blk hy;exact nb hc h2)
 have mp:∀p:Pv,Pn w W p->Pn w (w5.setCell ⟨rb,3,none⟩ (.slice (some ⟨g,0,none⟩) (D.P.length+1) c)) p:=fun p hp=>by
  have p5:=hp.but hB (fun k ⟨y,hy,e⟩=>by obtain⟨cur,hc⟩:=h.pr.blk hy;exact⟨31,cur,by rw[<-e];exact hc,by decide,by decide⟩)
  exact p5.but bs (fun k e=>⟨99,D.box,by rw[e];exact b5,by decide,by decide⟩)
 refine⟨?_,mv (by decide) (by decide) h.cr,mv (by decide) (by decide) h.lr,(by show Q.Gw _ _ _ _ _ (D.P++[x]).length _;rw[List.length_append,<-vpg_snoc];exact hR.but bs (fun y hy=>by obtain⟨cur,hc⟩:=hR.blk hy;exact nb hc (by decide))),(fun p hp=>by
  rcases List.mem_append.1 hp with hp|hp
  · exact mp p (h.pn p hp)
  · rw[List.mem_singleton.1 hp];exact mp x hx),(fun p hp=>by
  rcases List.mem_append.1 hp with hp|hp
  · exact h.ps p hp
  · rw[List.mem_singleton.1 hp];exact hxs),h.nb,h.nC,h.nl,new_more h.np hN h.b.size,Rn.low h.b h.np hB h.nb⟩
 rw[heap_setCell_same _ _ _ _ _ _ b5];show some (Obj.cells _ _ _)=some (Obj.cells (Rd.box _) _ _);unfold Rd.box;rw[List.length_append];rfl
end Go.Proofs.YtcpkinhneehomaaGreat
namespace Go.Proofs.YtcpkinhneehomaaGreat.Q
open Go.RowKit Go.Shelf
attribute [local go_sem] Oper.semAt_some
theorem make_int0(n:Nat)(hc:n<=65536)(w:World):(Instr.makeSlice 35 (.int .i64 0) (.int .i64 (n:Int))).run Tryz.prog w=.ok (.slice (some ⟨w.heap.size,0,none⟩) 0 n) (w.alloc (.cells (vi (List.replicate n 0)).toArray 3)):=by
 obtain⟨i0,hi,hz0,hz1,hz2⟩:=info_parts infoI64;have hr:=run_make (P:=Tryz.prog) w 35 3 i0 (.int .i64 0) Tryz.underlying35 hi hz0 .i64 .i64 (0:Nat) n (by omega) (by omega) (by rw[hz2];omega) (by omega)
 simp only[Int.toNat_natCast,hz1,Nat.mul_one] at hr;have e:madeCells (Value.int .i64 0).cells n=(vi (List.replicate n 0)).toArray:=made_ints n;rw[e] at hr;exact hr
theorem CopyInts_any(w:World)(a:Option Addr)(n cap:Nat)(l:List Int)(hI:Ir w a l)(hn:n=l.length)(hl:l.length<=65536):
 Calls Tryz.prog 87 #[.slice a n cap] w fun e w'=>∃a' c',e=.returned (.slice a' n c')/\IOwn w w' a' c' l:=by
 have HI:=hide hI;have HN:=hide hn;rw[<-hn] at hl;have hmk:=make_int0 n hl w;have O0:=hide (show IOwn w (w.alloc (.cells (vi (List.replicate n 0)).toArray 3)) (some ⟨w.heap.size,0,none⟩) n (l.take 0) from⟨Ig.mk (World.alloc_heap_new w _) (by simp) (by unfold maxLen;omega) (by simp[vi]) (by simp[vi]),fun x hx=>.inr (by cases hx;exact Nat.le_refl _),al _ _⟩)
 clear hI hn;go_enter Tryz.func87,Tryz.ntmps87;go_wp2_with fail
 go_loopw [3,4] (fun s i wr=>∃(j:Nat)(a':Option Addr)(c':Nat),j<=n/\i=.int .i64 (j:Int)/\s=.slice a' j c'/\IOwn w wr a' c' (l.take j)) (fun _ i _=>n-(intOf i).toNat)
 case atStart=>exact⟨0,_,n,Nat.zero_le _,rfl,rfl,O0.out⟩
 case round=>
  clear O0;obtain⟨j,a',c',hj,rfl,rfl,hO⟩:=hrel;have O:=hide hO;clear hO;by_cases hlt:j<n
  · have hjl:j<l.length:=by rw[<-HN.out];exact hlt
    have hji:(j:Int)<(n:Int):=by omega
    obtain⟨b1,o1,rfl,cA⟩:=(HI.out.keep O.out.b).at hjl;have tl:(l.take j).length=j:=by rw[List.length_take,<-HN.out];omega
    have SN:=hide (take_next l 0 hjl);obtain⟨x,hx⟩:∃x,l.getD j 0=x:=⟨_,rfl⟩;rw[hx] at cA SN;have aw:=al wr (.cells #[.int .i64 x] 3);have nc:=cell_alloc_new wr (.int .i64 x) 3;have O1:=hide (O.out.keep aw);have R1:=hide O1.out.r;have HAW:=hide aw;clear hx aw;go_wp2_with (refine wpList_apI rfl _ _ rfl a' j c' (l.take j) (by simp[Act.eval]) tl.symm R1.out ⟨wr.heap.size,0,none⟩ 1 x (by simp[Act.eval]) nc (by rw[tl];omega) ?_;intro g c2 w2 hR hN hg hgl;have O2:=hide (O.out.step HAW.out hR hN hg);clear hR hN hg hgl)
    go_roundw
    case rel=>exact⟨j+1,_,c2,by omega,by go_num,rfl,by rw[SN.out];exact O2.out⟩
    case measure=>simp[intOf];omega
  · obtain rfl:j=n:=by omega
    go_wp2;go_ret;exact⟨a',c',rfl,by have o:=O.out;rwa [HN.out,List.take_length] at o⟩
end Go.Proofs.YtcpkinhneehomaaGreat.Q
namespace Go.Proofs.YtcpkinhneehomaaGreat
open Go.RowKit
variable {cs:Array Value}{P:List Pv}{C:List Value}{cap g n rb sz:Nat}{D:Rd}{e t:TypeId}{W W' w:World}
theorem rNew_no(w:World)(n r:Int)(h:Q.fits n r=false):Calls Tryz.prog 33 #[.int .i64 n,.int .i64 r] w fun e w'=>e=.returned (.tuple #[.pointer none,.int .i64 1])/\w'=w:=by
 have RA:=hide (refsAre_any w r);unfold Q.fits at h;by_cases h1:n<1
 · have d1:decide (n<1)=true:=decide_eq_true h1;clear h;go_enter Tryz.func33,Tryz.ntmps33;go_wp2_with fail
   go_ret2
   exact⟨rfl,rfl⟩
 · by_cases h2:65536<n
   · have d1:decide (n<1)=false:=decide_eq_false h1;have d2:decide (65536<n)=true:=decide_eq_true h2;clear h;go_enter Tryz.func33,Tryz.ntmps33;go_wp2_with fail
     go_ret2
     exact⟨rfl,rfl⟩
   · have d1:decide (n<1)=false:=decide_eq_false h1;have d2:decide (65536<n)=false:=decide_eq_false h2
     have h3:(decide (2<=r)&&decide (r<65536))=false:=by
      rw[decide_eq_true (show 1<=n by omega),decide_eq_true (show n<=65536 by omega)] at h
      simpa using h
     rw[h3] at RA;clear h h3;go_enter Tryz.func33,Tryz.ntmps33;go_wp2_with fail
     refine RA.out.mono ?_;rintro _ wq ⟨rfl,hwq⟩;rw[hwq];clear hwq;go_wp2_with fail
     go_ret2
     exact⟨rfl,rfl⟩
def Rd.Fresh(D:Rd)(r:Int)(i:Nat):Prop:=D.R=r/\D.C=List.replicate i 0/\D.L=List.replicate i false/\D.P=List.replicate i Pv.zero/\D.aA=none/\D.nA=0/\D.cA=0/\D.fl=0/\D.hush=false
theorem Rn.start(r:Int):Rn w (w.alloc (.cells #[.int .i64 r,.slice none 0 0,.slice none 0 0,.slice none 0 0,.slice none 0 0,.int .i64 0,.bool false] 99)) w.heap.size ⟨r,none,0,[],none,0,[],none,0,[],none,0,0,0,false⟩:=
 ⟨heap_alloc_new _ _,Q.Gw.nil _ _ _,Q.Gw.nil _ _ _,Q.Gw.nil _ _ _,fun p hp=>absurd hp (List.not_mem_nil),fun p hp=>absurd hp (List.not_mem_nil),Nat.le_refl _,New.none _ _,New.none _ _,New.none _ _,al _ _⟩
theorem one_add{v:Value}(h:W.heap[g]?=some (.cells #[v] t (0,0))):∀j u,[v][j]?=some u->W.cell? ((⟨g,0,none⟩:Addr).add j)=some u:=by
 intro j u hu;rw[Addr.add_mid,Nat.zero_add,cell_of_row _ _ _ _ _ _ h,<-hu];simp
theorem zero_add(h:W.heap[g]?=some (.cells #[.int .i64 0,.int .i64 0,.slice none 0 0,.slice none 0 0,.int .i64 0] t (0,0))):∀j u,Pv.zero.cs.toList[j]?=some u->W.cell? ((⟨g,0,none⟩:Addr).add j)=some u:=by
 intro j u hu;rw[Addr.add_mid,Nat.zero_add,cell_of_row _ _ _ _ _ _ h,<-hu];simp[Pv.zero,Pv.cs]
theorem zero_one:∀u∈Pv.zero.cs.toList,u.oneCell'=true:=by
 intro u hu;simp[Pv.zero,Pv.cs] at hu;rcases hu with rfl|rfl|rfl<;>rfl
theorem rep_snoc{α:Type}(i:Nat)(x:α):List.replicate i x++[x]=List.replicate (i+1) x:=by rw[List.replicate_succ']
theorem rNew_yes(w:World)(n:Nat)(r:Int)(h:Q.fits n r=true):Calls Tryz.prog 33 #[.int .i64 (n:Int),.int .i64 r] w fun e w'=>∃(rb:Nat)(D:Rd),e=.returned (.tuple #[.pointer (some ⟨rb,0,none⟩),.int .i64 0])/\Rn w w' rb D/\D.Fresh r n:=by
 have RA:=hide (refsAre_any w r);unfold Q.fits at h;simp only[Bool.and_eq_true,decide_eq_true_eq] at h;rw[decide_eq_true (show 2<=r by omega),decide_eq_true (show r<65536 by omega)] at RA
 have d1:decide ((n:Int)<1)=false:=decide_eq_false (by omega)
 have d2:decide ((65536:Int)<(n:Int))=false:=decide_eq_false (by omega)
 have h6:n<=65536:=by omega
 have S0:=hide (Rn.start (w:=w) r);clear h;go_enter Tryz.func33,Tryz.ntmps33;go_wp2_with fail
 refine RA.out.mono ?_;rintro _ wq ⟨rfl,hwq⟩;rw[hwq];clear hwq;go_wp2_with fail
 generalize (w.alloc (.cells #[.int .i64 r,.slice none 0 0,.slice none 0 0,.slice none 0 0,.slice none 0 0,.int .i64 0,.bool false] 99))=w1 at *;go_loopw [7] (fun vi wx=>∃(i:Nat)(D:Rd),i<=n/\vi=.int .i64 (i:Int)/\Rn w wx w.heap.size D/\D.Fresh r i) (fun vi _=>n-(intOf vi).toNat)
 case atStart=>exact⟨0,_,Nat.zero_le _,rfl,S0.out,rfl,rfl,rfl,rfl,rfl,rfl,rfl,rfl,rfl⟩
 case round=>
  clear S0;obtain⟨i,D,hi,rfl,hR,hF⟩:=hrel;have RR:=hide hR;have FF:=hide hF;have LC:D.C.length=i:=by rw[hF.2.1,List.length_replicate]
  have LL:D.L.length=i:=by rw[hF.2.2.1,List.length_replicate]
  have LP:D.P.length=i:=by rw[hF.2.2.2.1,List.length_replicate]
  have HLC:=hide LC;have HLL:=hide LL;have HLP:=hide LP;clear hR hF LC LL LP;by_cases hlt:i<n
  · have hii:(i:Int)<(n:Int):=by omega
    have hml:i+1<=maxLen:=by unfold maxLen;omega
    obtain⟨x0,x1,x2,x3,f1,f2,f3⟩:=RR.out.cells;rw[HLC.out] at x1;rw[HLL.out] at x2;rw[HLP.out] at x3;have rbl:=RR.out.lb;have A0:=hide (al wr (.cells #[Value.int .i64 0] 3));have X0:=hide (heap_alloc_new wr (.cells #[Value.int .i64 0] 3));have P0:=hide (RR.out.keep A0.out);have G0:=hide P0.out.cr;rw[HLC.out] at G0;go_wp2_with (at_builtin;refine wpList_apG Tryz.underlying35 infoInt2 rfl (by decide) rfl _ _ rfl D.aC i D.cC (Q.vi D.C) rfl G0.out ⟨wr.heap.size,0,none⟩ 1 [Value.int .i64 0] rfl rfl (one_add X0.out) (fun u hu=>by rw[List.mem_singleton.1 hu];rfl) hml (by omega) ?_)
    intro gC cC w5 hG hN hB;have R1:=hide (P0.out.apC (x:=0) (by rw[HLC.out];exact hG) hN hB)
    rw[HLC.out] at R1;have b5:w5.heap[w.heap.size]?=some (.cells D.box 99 (0,0)):=hB.same P0.out.box (fun⟨y,hy,e⟩=>by obtain⟨cur,hc⟩:=P0.out.cr.blk hy;exact blk_ty P0.out.box hc (by decide) e.symm)
    have y1:w5.cell? ⟨w.heap.size,1,none⟩=some (.slice D.aC i D.cC):=by rw[cell_of_row _ _ _ _ _ _ b5];show some (Value.slice D.aC D.C.length D.cC)=_;rw[HLC.out]
    have z1:w5.frozen? ⟨w.heap.size,1,none⟩=false:=by simp[World.frozen?,b5]
    clear hG hN hB b5 x0 x1 x2 x3 f1 f2 f3 P0 G0 X0 A0 rbl;go_upto_region 8 with fail
    generalize hw5:(w5.setCell ⟨w.heap.size,1,none⟩ (.slice (some ⟨gC,0,none⟩) (i+1) cC))=w6 at *;clear hw5 y1 z1;obtain⟨D1,hD1⟩:∃X,({D with aC:=some ⟨gC,0,none⟩,cC:=cC,C:=D.C++[0]}:Rd)=X:=⟨_,rfl⟩;rw[hD1] at R1;have HLC1:Hid (D1.C.length=i+1):=by show _=_;rw[<-hD1];show(D.C++[0]).length=_;rw[List.length_append,HLC.out];rfl
    have HLL:Hid (D1.L.length=i):=by show _=_;rw[<-hD1];exact HLL.out
    have HLP:Hid (D1.P.length=i):=by show _=_;rw[<-hD1];exact HLP.out
    replace HLC:=HLC1
    have HD1:=hide hD1;clear hD1;obtain⟨x0,x1,x2,x3,f1,f2,f3⟩:=R1.out.cells;rw[HLC.out] at x1;rw[HLL.out] at x2;rw[HLP.out] at x3;have rbl:=R1.out.lb;have A0:=hide (al w6 (.cells #[Value.bool false] 4));have X0:=hide (heap_alloc_new w6 (.cells #[Value.bool false] 4));have P0:=hide (R1.out.keep A0.out);have G0:=hide P0.out.lr;rw[HLL.out] at G0;go_wp2_with (at_builtin;refine wpList_apG Tryz.underlying64 infoBool rfl (by decide) rfl _ _ rfl D1.aL i D1.cL (vbl D1.L) rfl G0.out ⟨w6.heap.size,0,none⟩ 1 [Value.bool false] rfl rfl (one_add X0.out) (fun u hu=>by rw[List.mem_singleton.1 hu];rfl) hml (by omega) ?_)
    intro gL cL w5 hG hN hB;have R2:=hide (P0.out.apL (x:=false) (by rw[HLL.out];exact hG) hN hB)
    rw[HLL.out] at R2;have b5:w5.heap[w.heap.size]?=some (.cells D1.box 99 (0,0)):=hB.same P0.out.box (fun⟨y,hy,e⟩=>by obtain⟨cur,hc⟩:=P0.out.lr.blk hy;exact blk_ty P0.out.box hc (by decide) e.symm)
    have y2:w5.cell? ⟨w.heap.size,2,none⟩=some (.slice D1.aL i D1.cL):=by rw[cell_of_row _ _ _ _ _ _ b5];show some (Value.slice D1.aL D1.L.length D1.cL)=_;rw[HLL.out]
    have z2:w5.frozen? ⟨w.heap.size,2,none⟩=false:=by simp[World.frozen?,b5]
    clear hG hN hB b5 x0 x1 x2 x3 f1 f2 f3 P0 G0 X0 A0 rbl;go_upto_region 9 with fail
    generalize hw5:(w5.setCell ⟨w.heap.size,2,none⟩ (.slice (some ⟨gL,0,none⟩) (i+1) cL))=w7 at *;clear hw5 y2 z2;obtain⟨D2,hD2⟩:∃X,({D1 with aL:=some ⟨gL,0,none⟩,cL:=cL,L:=D1.L++[false]}:Rd)=X:=⟨_,rfl⟩;rw[hD2] at R2;have HLC:Hid (D2.C.length=i+1):=by show _=_;rw[<-hD2];exact HLC.out
    have HLL2:Hid (D2.L.length=i+1):=by show _=_;rw[<-hD2];show(D1.L++[false]).length=_;rw[List.length_append,HLL.out];rfl
    have HLP:Hid (D2.P.length=i):=by show _=_;rw[<-hD2];exact HLP.out
    replace HLL:=HLL2
    have HD2:=hide hD2;clear hD2;obtain⟨x0,x1,x2,x3,f1,f2,f3⟩:=R2.out.cells;rw[HLC.out] at x1;rw[HLL.out] at x2;rw[HLP.out] at x3;have rbl:=R2.out.lb;have A0:=hide (al w7 (.cells #[.int .i64 0,.int .i64 0,.slice none 0 0,.slice none 0 0,.int .i64 0] 31));have X0:=hide (heap_alloc_new w7 (.cells #[.int .i64 0,.int .i64 0,.slice none 0 0,.slice none 0 0,.int .i64 0] 31));have P0:=hide (R2.out.keep A0.out);have G0:=hide P0.out.pr;rw[HLP.out] at G0;go_wp2_with (at_builtin;refine wpList_apG Tryz.underlying53 infoPage2 rfl (by decide) rfl _ _ rfl D2.aP i D2.cP (vpg D2.P) rfl G0.out ⟨w7.heap.size,0,none⟩ 1 Pv.zero.cs.toList rfl rfl (zero_add X0.out) zero_one hml (by omega) ?_)
    intro gP cP w5 hG hN hB;have R3:=hide (P0.out.apP (x:=Pv.zero) (Pn.zero _ _) (.inr rfl) (by rw[HLP.out];exact hG) hN hB)
    rw[HLP.out] at R3;have b5:w5.heap[w.heap.size]?=some (.cells D2.box 99 (0,0)):=hB.same P0.out.box (fun⟨y,hy,e⟩=>by obtain⟨cur,hc⟩:=P0.out.pr.blk hy;exact blk_ty P0.out.box hc (by decide) e.symm)
    have y3:w5.cell? ⟨w.heap.size,3,none⟩=some (.slice D2.aP i D2.cP):=by rw[cell_of_row _ _ _ _ _ _ b5];show some (Value.slice D2.aP D2.P.length D2.cP)=_;rw[HLP.out]
    have z3:w5.frozen? ⟨w.heap.size,3,none⟩=false:=by simp[World.frozen?,b5]
    clear hG hN hB b5 x0 x1 x2 x3 f1 f2 f3 P0 G0 X0 A0 rbl;go_upto_region 6 with fail
    generalize hw5:(w5.setCell ⟨w.heap.size,3,none⟩ (.slice (some ⟨gP,0,none⟩) (i+1) cP))=w8 at *;clear hw5 y3 z3;obtain⟨D3,hD3⟩:∃X,({D2 with aP:=some ⟨gP,0,none⟩,cP:=cP,P:=D2.P++[Pv.zero]}:Rd)=X:=⟨_,rfl⟩;rw[hD3] at R3
    have F3:Hid (D3.Fresh r (i+1)):=by
     show Rd.Fresh _ _ _;obtain⟨q1,q2,q3,q4,q5,q6,q7,q8,q9⟩:=FF.out;rw[<-hD3,<-HD2.out,<-HD1.out];refine⟨q1,?_,?_,?_,q5,q6,q7,q8,q9⟩
     · show D.C++[0]=_;rw[q2];exact rep_snoc i 0
     · show D.L++[false]=_;rw[q3];exact rep_snoc i false
     · show D.P++[Pv.zero]=_;rw[q4];exact rep_snoc i Pv.zero
    clear hD3;go_wp2_with fail
    go_roundw
    case rel=>exact⟨i+1,D3,by omega,by go_num,R3.out,F3.out⟩
    case measure=>simp[intOf];omega
  · obtain rfl:i=n:=by omega
    go_wp2_with fail
    go_ret2
    exact⟨w.heap.size,D,rfl,RR.out,FF.out⟩
theorem Q.Gw.setc(h:Q.Gw e sz w (some ⟨g,0,none⟩) cap n C)(k:Nat)(v:Value):Q.Gw e sz (w.setCell ⟨g,k,none⟩ v) (some ⟨g,0,none⟩) cap n (C.set k v):=by
 have hl:=h.length;rcases h.cases with⟨h0,_⟩|⟨g',cur,h0,hg,h1,h2,h3,h4⟩
 · cases h0
 · cases h0;refine Q.Gw.mk (by rw[List.length_set];exact hl) (heap_setCell_same _ _ _ _ _ _ hg) h1 h2 (by simpa using h3) ?_
   rw[Array.toList_setIfInBounds,List.take_set,h4]
theorem Q.Gw.free(h:Q.Gw e sz w (some ⟨g,0,none⟩) cap n C)(k:Nat):w.frozen? ⟨g,k,none⟩=false:=by
 rcases h.cases with⟨h0,_⟩|⟨g',cur,h0,hg,_⟩
 · cases h0
 · cases h0;exact frozen_of_row _ _ _ _ _ hg
theorem vi_set(l:List Int)(k:Nat)(x:Int):(Q.vi l).set k (.int .i64 x)=Q.vi (l.set k x):=by simp[Q.vi,List.map_set]
theorem vbl_set(l:List Bool)(k:Nat)(x:Bool):(vbl l).set k (.bool x)=vbl (l.set k x):=by simp[vbl,List.map_set]
theorem Q.Gw.there5(h:Q.Gw 31 5 w (some ⟨g,0,none⟩) cap P.length (vpg P)){k:Nat}(hk:k<P.length):w.there g (k*5) 5:=by
 rcases h.cases with⟨h0,_⟩|⟨g',cur,h0,hg,h1,h2,h3,h4⟩
 · cases h0
 · cases h0;intro j hj;have hle:P.length*5<=cap*5:=Nat.mul_le_mul_right _ h1;constructor
   · rw[cell_of_row _ _ _ _ _ _ hg];simp[show k*5+j<cur.size by omega]
   · exact frozen_of_row _ _ _ _ _ hg
theorem Q.Gw.setp(h:Q.Gw 31 5 w (some ⟨g,0,none⟩) cap P.length (vpg P))(k:Nat)(v:Pv):Q.Gw 31 5 (w.setCells g (k*5) v.cs.toList) (some ⟨g,0,none⟩) cap (P.set k v).length (vpg (P.set k v)):=by
 rcases h.cases with⟨h0,_⟩|⟨g',cur,h0,hg,h1,h2,h3,h4⟩
 · cases h0
 · cases h0;obtain⟨cur',k1,k2,k3⟩:=heap_setCells_same g 31 v.cs.toList w (k*5) cur hg;have hvl:v.cs.toList.length=5:=rfl;refine Q.Gw.mk (vpg_length _) k1 (by rw[List.length_set];exact h1) h2 (by rw[k2];exact h3) ?_
   rw[List.length_set];apply List.ext_getElem?;intro i;have hle:P.length*5<=cap*5:=Nat.mul_le_mul_right _ h1;by_cases hi:i<P.length*5
   · have ho:(vpg P)[i]?=cur[i]?:=by rw[<-h4,List.getElem?_take,if_pos hi];simp
     have hr:i/5<P.length:=by omega
     have hsp:i=i/5*5+i%5:=by omega
     have hmod:i%5<5:=Nat.mod_lt _ (by decide)
     rw[List.getElem?_take,if_pos hi,Array.getElem?_toList,k3 i (by omega),hvl]
     have hR:(vpg (P.set k v))[i]?=((P.set k v).getD (i/5) Pv.zero).cs.toList[i%5]?:=by
      conv=>lhs;rw[hsp]
      exact vpg_get (P.set k v) (i/5) (i%5) (by rw[List.length_set];exact hr) hmod
     have hO:(vpg P)[i]?=(P.getD (i/5) Pv.zero).cs.toList[i%5]?:=by
      conv=>lhs;rw[hsp]
      exact vpg_get P (i/5) (i%5) hr hmod
     rw[hR];by_cases hin:k*5<=i/\i<k*5+5
     · have e:i/5=k:=by omega
       rw[if_pos hin,e,show i-k*5=i%5 by omega]
       simp[show k<P.length by omega]
     · have e:¬k=i/5:=by omega
       rw[if_neg hin,<-ho,hO];simp[List.getElem?_set_ne e]
   · rw[List.getElem?_take,if_neg hi,List.getElem?_eq_none (by rw[vpg_length,List.length_set];omega)]
theorem Rn.but1(h:Rn w W rb D)(hB:But (fun k=>k=g) W W')(hg:w.heap.size<=g)(ht:W.heap[g]?=some (.cells cs t (0,0)))(h1:t≠99)(h2:t≠5)(h3:t≠51):
 W'.heap[rb]?=some (.cells D.box 99 (0,0))/\(∀p,Pn w W p->Pn w W' p)/\Below w.heap.size w W'/\∀{e:TypeId}{sz:Nat}{a:Option Addr}{cap n:Nat}{C:List Value},e≠t->Q.Gw e sz W a cap n C->Q.Gw e sz W' a cap n C:=by
 refine⟨hB.same h.box (fun e=>blk_ty h.box ht (fun e=>h1 e.symm) e),fun p hp=>hp.but hB (fun k e=>⟨t,cs,by rw[e];exact ht,h2,h3⟩),?_,fun hn hr=>hr.but hB (fun y hy e=>by obtain⟨cur,hc⟩:=hr.blk hy;exact blk_ty hc ht hn e)⟩
 exact((But.ofBelow (S:=fun k=>k=g) h.b).trans hB (fun _ _ e=>e)).below (fun k hk e=>by omega)
theorem Rn.setC(h:Rn w W rb D)(hg:D.aC=some ⟨g,0,none⟩)(k:Nat)(x:Int):Rn w (W.setCell ⟨g,k,none⟩ (.int .i64 x)) rb {D with C:=D.C.set k x}:=by
 obtain⟨cur,hc⟩:=h.cr.blk hg;have bs:But (fun k=>k=g) W (W.setCell ⟨g,k,none⟩ (.int .i64 x)):=(But.refl (fun k=>k=g) W).setCell (p:=⟨g,k,none⟩) (fun _=>rfl) _
 obtain⟨b1,b2,b3,b4⟩:=h.but1 bs (vnew_at h.nC hg) hc (by decide) (by decide) (by decide)
 have hr:=h.cr;rw[hg] at hr;refine⟨?_,?_,b4 (by decide) h.lr,b4 (by decide) h.pr,fun p hp=>b2 p (h.pn p hp),h.ps,h.nb,h.nC,h.nl,h.np,b3⟩
 · rw[b1];unfold Rd.box;rw[List.length_set]
 · show Q.Gw _ _ _ D.aC _ (D.C.set k x).length _;rw[hg,List.length_set,<-vi_set];exact hr.setc k _
theorem Rn.setL(h:Rn w W rb D)(hg:D.aL=some ⟨g,0,none⟩)(k:Nat)(x:Bool):Rn w (W.setCell ⟨g,k,none⟩ (.bool x)) rb {D with L:=D.L.set k x}:=by
 obtain⟨cur,hc⟩:=h.lr.blk hg;have bs:But (fun k=>k=g) W (W.setCell ⟨g,k,none⟩ (.bool x)):=(But.refl (fun k=>k=g) W).setCell (p:=⟨g,k,none⟩) (fun _=>rfl) _
 obtain⟨b1,b2,b3,b4⟩:=h.but1 bs (vnew_at h.nl hg) hc (by decide) (by decide) (by decide)
 have hr:=h.lr;rw[hg] at hr;refine⟨?_,b4 (by decide) h.cr,?_,b4 (by decide) h.pr,fun p hp=>b2 p (h.pn p hp),h.ps,h.nb,h.nC,h.nl,h.np,b3⟩
 · rw[b1];unfold Rd.box;rw[List.length_set]
 · show Q.Gw _ _ _ D.aL _ (D.L.set k x).length _;rw[hg,List.length_set,<-vbl_set];exact hr.setc k _
theorem Rn.setP(h:Rn w W rb D)(hg:D.aP=some ⟨g,0,none⟩)(k:Nat)(x:Pv)(hx:Pn w W x)(hxs:x.pg.check=0\/x=Pv.zero):Rn w (W.setCells g (k*5) x.cs.toList) rb {D with P:=D.P.set k x}:=by
 obtain⟨cur,hc⟩:=h.pr.blk hg;have bs:=but_setCells g x.cs.toList W (k*5);obtain⟨b1,b2,b3,b4⟩:=h.but1 bs (vnew_at h.np hg) hc (by decide) (by decide) (by decide)
 have hr:=h.pr;rw[hg] at hr;refine⟨?_,b4 (by decide) h.cr,b4 (by decide) h.lr,?_,fun p hp=>?_,fun p hp=>?_,h.nb,h.nC,h.nl,h.np,b3⟩
 · rw[b1];unfold Rd.box;rw[List.length_set]
 · show Q.Gw _ _ _ D.aP _ (D.P.set k x).length _;rw[hg];exact hr.setp k x
 · rcases List.mem_or_eq_of_mem_set hp with hp|rfl
   · exact b2 p (h.pn p hp)
   · exact b2 p hx
 · rcases List.mem_or_eq_of_mem_set hp with hp|rfl
   · exact h.ps p hp
   · exact hxs
theorem Rn.foreign(h:Rn w W rb D)(hB:But (fun k=>k=g) W W')(hg:w.heap.size<=g)(ht:W.heap[g]?=some (.cells cs 4 (0,0)))(hn:∀x,D.aL=some x->x.block≠g):Rn w W' rb D:=by
 obtain⟨b1,b2,b3,b4⟩:=h.but1 hB hg ht (by decide) (by decide) (by decide)
 exact⟨b1,b4 (by decide) h.cr,h.lr.but hB (fun y hy e=>hn y hy e),b4 (by decide) h.pr,fun p hp=>b2 p (h.pn p hp),h.ps,h.nb,h.nC,h.nl,h.np,b3⟩
def ldG(cnt:Int->Int):(Int->Option Pg)->List (Int×Pg)->Nat×(Int->Option Pg)
 |f,[]=>(0,f)
 |f,(n,p)::T=>if ¬0<cnt n then (15,f) else if (f n).isSome=true then (10,f) else if p.check≠0 then (p.check,f) else ldG cnt (fun k=>if k=n then some p else f k) T
def cntOf(C:List Int)(z:Int):Int:=if 1<=z/\z<=C.length then C.getD (z-1).toNat 0 else 0
def nmc(x:Int×Pv):List Value:=.int .i64 x.1::x.2.cs.toList
def nm0:Int×Pv:=(0,Pv.zero)
structure Nm(w:World)(a:Option Addr)(L:List (Int×Pv)):Prop where
 c:∀j,j<L.length->∃g off,a=some ⟨g,off,none⟩/\∀k u,(nmc (L.getD j nm0))[k]?=some u->w.cell? ⟨g,off+j*6+k,none⟩=some u
 p:∀x∈L,Pi w x.2/\N64 x.1
theorem Nm.keep{w':World}{a:Option Addr}{L:List (Int×Pv)}(h:Nm w a L)(hb:Below w.heap.size w w'):Nm w' a L:=⟨fun j hj=>by
 obtain⟨g,off,e,hc⟩:=h.c j hj;exact⟨g,off,e,fun k u hu=>(hb.cell (p:=⟨g,off+j*6+k,none⟩) (block_lt_of_cell (hc k u hu))).trans (hc k u hu)⟩,fun x hx=>⟨(h.p x hx).1.keep hb,(h.p x hx).2⟩⟩
def nmg(L:List (Int×Pv)):List (Int×Pg):=L.map fun x=>(x.1,x.2.pg)
end Go.Proofs.YtcpkinhneehomaaGreat
