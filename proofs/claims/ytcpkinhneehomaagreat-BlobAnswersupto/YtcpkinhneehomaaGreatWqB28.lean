import Derived.Test.YtcpkinhneehomaaGreatWqB27
set_option linter.unusedVariables false
set_option linter.unusedSimpArgs false
set_option maxHeartbeats 16000000
set_option maxRecDepth 8000
namespace Go.Proofs.YtcpkinhneehomaaGreat
open Go.RowKit
variable {rb:Nat}{col:Nat->Nat}{D:Rd}{w:World}
theorem step_apG{ts te:TypeId}{sz bs:Nat}{z:Value}(hu:Tryz.prog.underlying ts=some (.slice te))(hinfo:(Tryz.prog.info? te).map (fun i=>(i.zero,i.size,i.bytes))=some (some z,sz,bs))(hz:z.cells.size=sz)(h0:0<sz){w:World}{ops:Array Oper}{o:Oper}{a:Act}{K:Act->World->Prop}{Q':Exit->Act->World->Prop}{E:Prop}(hgd:o.guard=none)(s x:Operand)
 (ho:o.op=.call {callee:=.builtin .append,args:=#[s,x],argTypes:=#[ts,ts]}) (ao:Option Addr) (n cap:Nat) (C:List Value) (hs:a.eval s=.slice ao n cap) (hR:Q.Gw te sz w ao cap n C)
 (ad:Addr) (c:Nat) (xs:List Value) (hx:a.eval x=.slice (some ad) 1 c) (hl:xs.length=1*sz) (hc:∀j u,xs[j]?=some u->w.cell? (ad.add j)=some u) (h1:∀u∈xs,u.oneCell'=true) (hm:n+1<=maxLen) (hlen:(n+1)*bs<=140737488355328)
 (h:∀g cap' w',Q.Gw te sz w' (some ⟨g,0,none⟩) cap' (n+1) (C++xs)->New w ao (some ⟨g,0,none⟩)->But (Q.InA ao) w w'->K (a.put o.dst (.slice (some ⟨g,0,none⟩) (n+1) cap')) w'):
 if Region.wanted o (yielded ops a.tmps)=true then Oper.wp Tryz.prog o a w K Q' else E:=by
 have hw:Region.wanted o (yielded ops a.tmps)=true:=by simp[Region.wanted,hgd]
 rw[if_pos hw];obtain⟨g,cap',w',hr,k1,k2,k3⟩:=run_apG hu hinfo hz h0 w o.type ao n cap C hR ad c xs hl hc h1 hm hlen;unfold Oper.wp execOp;simp only[ho,resolve,invoke,builtin,Sem.run_bind,Sem.run_pure,Result.andThen_ok,List.map_toArray,List.map_cons,List.map_nil,hs,hx,hr];exact h g cap' w' k1 k2 k3
structure Rd.Same(D D':Rd):Prop where
 R:D'.R=D.R
 C:D'.C=D.C
 L:D'.L=D.L
 P:D'.P=D.P
 a:D'.aA=none/\D'.nA=0/\D'.cA=0/\D'.fl=0/\D'.hush=true
def ccol(col:Nat->Nat)(rb:Nat)(D:Rd)(k:Nat):Nat:=if k=rb then 1 else if blkOf D.aC k=true then 2 else if blkOf D.aL k=true then 3 else if blkOf D.aP k=true then 4 else if col k=6 then 6 else 0
theorem Rq.copied{wx:World}{rb2:Nat}{D':Rd}(h:Rq w rb D col)(hb:Below w.heap.size w wx)(hS:D.Same D')(box:wx.heap[rb2]?=some (.cells D'.box 99 (0,0)))(cr:Q.Gw 3 1 wx D'.aC D'.cC D'.C.length (Q.vi D'.C))(lr:Q.Gw 4 1 wx D'.aL D'.cL D'.L.length (vbl D'.L))(pr:Q.Gw 31 5 wx D'.aP D'.cP D'.P.length (vpg D'.P))(nb:w.heap.size<=rb2)(nC:New w none D'.aC)(nl:New w none D'.aL)(np:New w none D'.aP):Rq wx rb2 D' (ccol col rb2 D'):=by
 have nrb:∀{t:TypeId}{k:Nat}{cs:Array Value},wx.heap[k]?=some (.cells cs t (0,0))->t≠99->k≠rb2:=fun hk ht=>blk_ty hk box ht
 have nr:∀{t e:TypeId}{sz k:Nat}{cs:Array Value}{a:Option Addr}{cap n:Nat}{C:List Value},Q.Gw e sz wx a cap n C->wx.heap[k]?=some (.cells cs t (0,0))->t≠e->¬blkOf a k=true:=fun hg hk ht e=>by
  obtain⟨x,hx,e⟩:=blkOf_iff.1 e;obtain⟨cur,hc⟩:=hg.blk hx;exact blk_ty hk hc ht e.symm
 have ol:∀{a:Option Addr}{k:Nat},New w none a->k<w.heap.size->¬blkOf a k=true:=fun hn hk e=>by
  obtain⟨x,hx,e⟩:=blkOf_iff.1 e;have:=vnew_at hn hx;omega
 have six:∀k,k<w.heap.size->col k=6->ccol col rb2 D' k=6:=fun k hk e=>by
  unfold ccol;rw[if_neg (by omega),if_neg (ol nC hk),if_neg (ol nl hk),if_neg (ol np hk),if_pos e]
 refine⟨box,cr,lr,pr,fun p hp=>?_,by rw[hS.P];exact h.ps,if_pos rfl,fun x hx=>?_,fun x hx=>?_,fun x hx=>?_,fun k hk=>?_,by rw[hS.L,hS.C];exact h.nL,by rw[hS.P,hS.C];exact h.nP,by rw[hS.C];exact h.n6⟩
 · rw[hS.P] at hp;exact((h.pz p hp).mono (fun k hk e=>six k hk e)).keep hb
 · obtain⟨cur,hc⟩:=cr.blk hx;unfold ccol;rw[if_neg (nrb hc (by decide)),if_pos (blkOf_iff.2 ⟨x,hx,rfl⟩)]
 · obtain⟨cur,hc⟩:=lr.blk hx;unfold ccol;rw[if_neg (nrb hc (by decide)),if_neg (nr cr hc (by decide)),if_pos (blkOf_iff.2 ⟨x,hx,rfl⟩)]
 · obtain⟨cur,hc⟩:=pr.blk hx;unfold ccol;rw[if_neg (nrb hc (by decide)),if_neg (nr cr hc (by decide)),if_neg (nr lr hc (by decide)),if_pos (blkOf_iff.2 ⟨x,hx,rfl⟩)]
 · unfold ccol at hk;by_cases h1:k=rb2
   · rw[h1];exact(Array.getElem?_eq_some_iff.1 box).1
   · rw[if_neg h1] at hk;by_cases h2:blkOf D'.aC k=true
     · obtain⟨x,hx,e⟩:=blkOf_iff.1 h2;rw[<-e];exact cr.lt hx
     · rw[if_neg h2] at hk;by_cases h3:blkOf D'.aL k=true
       · obtain⟨x,hx,e⟩:=blkOf_iff.1 h3;rw[<-e];exact lr.lt hx
       · rw[if_neg h3] at hk;by_cases h4:blkOf D'.aP k=true
         · obtain⟨x,hx,e⟩:=blkOf_iff.1 h4;rw[<-e];exact pr.lt hx
         · rw[if_neg h4] at hk;by_cases h5:col k=6
           · exact Nat.lt_of_lt_of_le (h.lt k (by omega)) hb.size
           · rw[if_neg h5] at hk;exact absurd rfl hk
theorem rCopy_any(w:World)(rb:Nat)(D:Rd)(col:Nat->Nat)(h:Rq w rb D col):
 Calls Tryz.prog 81 #[.pointer (some ⟨rb,0,none⟩)] w fun e w'=>∃(rb2:Nat)(D':Rd)(col':Nat->Nat),e=.returned (.pointer (some ⟨rb2,0,none⟩))/\Rq w' rb2 D' col'/\D.Same D'/\Below w.heap.size w w'/\(∀k,col' k≠0->col k=6\/w.heap.size<=k):=by
 have HQ:=hide h;obtain⟨c0,c1,c2,c3,c6⟩:=h.cells;have DR:=hide (dr2 w);have SS:Hid (∀W:World,Below w.heap.size w W->W.cell? ⟨rb,0,none⟩=some (.int .i64 D.R)/\W.cell? ⟨rb,1,none⟩=some (.slice D.aC D.C.length D.cC)):=fun W hb=>⟨(h.keep hb).cells.1,(h.keep hb).cells.2.1⟩
 have CP:=hide (Q.CopyInts_any w.drew D.aC D.C.length D.cC D.C (h.cr.ir.keep DR.out) rfl h.n6);have LLn:Hid (D.L.length=D.C.length):=h.nL;have LPn:Hid (D.P.length=D.C.length):=h.nP;have h6:=h.n6;clear h c0 c1 c2 c3 c6;obtain⟨n,hn⟩:∃n,D.C.length=n:=⟨_,rfl⟩;have HN:=hide hn;rw[hn] at CP LLn LPn h6;simp only[hn] at SS;clear hn;go_enter Tryz.func81,Tryz.ntmps81;go_upto_region 1 with fail
 refine wp_region_held_drew (S:=fun W=>W.cell? ⟨rb,0,none⟩=some (.int .i64 D.R)/\W.cell? ⟨rb,1,none⟩=some (.slice D.aC n D.cC)) (by kernel_rfl) (SS.out _ DR.out) (fun hHeld=>?_)
 refine tk 0 ?_;refine tk 1 ?_;refine tk 2 ?_;refine tk 3 ?_;refine tk 4 ?_;refine tk 5 ?_;refine tk 6 ?_;refine tk 7 ?_;refine tw 8 fun K hK=>?_
 go_simp;refine CP.out.mono ?_;rintro _ w2 ⟨aC2,cC2,rfl,hO⟩;have O2:=hide hO;have B2:=hide (bt DR.out hO.b);clear hO;go_wp2_with fail
 refine hK.out _ _ (SS.out _ B2.out) (fun hHeld=>?_)
 clear hK K;try simp only[pt]
 refine tk 9 ?_;have A3:=hide (al w2 (.cells #[.int .i64 D.R,.slice aC2 n cC2,.slice none 0 0,.slice none 0 0,.slice none 0 0,.int .i64 0,.bool true] 99));have X3:=hide (heap_alloc_new w2 (.cells #[.int .i64 D.R,.slice aC2 n cC2,.slice none 0 0,.slice none 0 0,.slice none 0 0,.int .i64 0,.bool true] 99));refine tw 10 fun K hK=>?_
 go_simp;refine hK.out _ _ (SS.out _ (bt B2.out A3.out)) (fun hHeld=>?_)
 clear hK K;try simp only[pt]
 refine tk 11 ?_;refine td ?_;clear hHeld SS DR CP
 have R3:Hid (Rn w (w2.alloc (.cells #[.int .i64 D.R,.slice aC2 n cC2,.slice none 0 0,.slice none 0 0,.slice none 0 0,.int .i64 0,.bool true] 99)) w2.heap.size ⟨D.R,aC2,cC2,D.C,none,0,[],none,0,[],none,0,0,0,true⟩):=by
  refine⟨?_,?_,Q.Gw.nil _ _ _,Q.Gw.nil _ _ _,fun p hp=>absurd hp (List.not_mem_nil),fun p hp=>absurd hp (List.not_mem_nil),B2.out.size,O2.out.n,New.none _ _,New.none _ _,bt B2.out A3.out⟩
  · rw[X3.out];unfold Rd.box;simp only[HN.out];rfl
  · have k:=O2.out.r.keep A3.out;exact k
 generalize hw3:(w2.alloc (.cells #[.int .i64 D.R,.slice aC2 n cC2,.slice none 0 0,.slice none 0 0,.slice none 0 0,.int .i64 0,.bool true] 99))=w3 at *;clear hw3 A3 X3 B2 O2;generalize w2.heap.size=rb2 at *;go_wp2_with fail
 go_loopw [4] (fun vi wx=>∃(i:Nat)(aL:Option Addr)(cL:Nat),i<=n/\vi=.int .i64 (i:Int)/\Rn w wx rb2 ⟨D.R,aC2,cC2,D.C,aL,cL,D.L.take i,none,0,[],none,0,0,0,true⟩) (fun vi _=>n-(intOf vi).toNat)
 case atStart=>exact⟨0,none,0,Nat.zero_le _,rfl,R3.out⟩
 case round=>
  clear R3;obtain⟨i,aL,cL,hi,rfl,hR⟩:=hrel;have RR:=hide hR;clear hR;have QQ:=hide (HQ.out.keep RR.out.b);obtain⟨v0,v1,v2,v3,v6⟩:=QQ.out.cells;rw[LLn.out] at v2;by_cases hlt:i<n
  · have hii:(i:Int)<(n:Int):=by omega
    have hiC:i<D.C.length:=by rw[HN.out];exact hlt
    obtain⟨gv,hgv,cv⟩:=QQ.out.lAt hiC;rw[hgv] at v2;have TL:Hid ((D.L.take i).length=i):=by show _=_;rw[List.length_take,LLn.out];omega
    have SN:Hid (D.L.take i++[D.L.getD i false]=D.L.take (i+1)):=by
     have hl:i<D.L.length:=by rw[LLn.out];exact hlt
     show _=_;rw[List.take_succ_eq_append_getElem hl];simp[hl]
    obtain⟨x,hx⟩:∃x,D.L.getD i false=x:=⟨_,rfl⟩;rw[hx] at cv SN;clear hx;obtain⟨u0,u1,u2,u3,f1,f2,f3⟩:=RR.out.cells;simp only[TL.out] at u2;have gvl:gv<wr.heap.size:=block_lt_of_cell cv;have hml:i+1<=maxLen:=by unfold maxLen;omega
    have rbl:rb<wr.heap.size:=block_lt_of_cell v2;have rb2l:rb2<wr.heap.size:=block_lt_of_cell u2;have A4:=hide (bt (al wr (.cells #[.bool x] 4)) (Q.drw _));have X4:Hid ((wr.alloc (.cells #[.bool x] 4)).drew.heap[wr.heap.size]?=some (.cells #[.bool x] 4 (0,0))):=heap_alloc_new wr (.cells #[.bool x] 4);have R4:=hide (RR.out.keep A4.out)
    have G4:Hid (Q.Gw 4 1 (wr.alloc (.cells #[.bool x] 4)).drew aL cL i (vbl (D.L.take i))):=by
     have k:=R4.out.lr;simp only[TL.out] at k;exact k
    have FIN:Hid (∀(g5 c5:Nat)(w5:World),Q.Gw 4 1 w5 (some ⟨g5,0,none⟩) c5 (i+1) (vbl (D.L.take i)++[.bool x])->New (wr.alloc (.cells #[.bool x] 4)).drew aL (some ⟨g5,0,none⟩)->But (Q.InA aL) (wr.alloc (.cells #[.bool x] 4)).drew w5->(w5.cell? ⟨rb2,2,none⟩=some (.slice aL i cL)/\w5.frozen? ⟨rb2,2,none⟩=false)/\Rn w (w5.setCell ⟨rb2,2,none⟩ (.slice (some ⟨g5,0,none⟩) (i+1) c5)) rb2 ⟨D.R,aC2,cC2,D.C,some ⟨g5,0,none⟩,c5,D.L.take (i+1),none,0,[],none,0,0,0,true⟩):=by
     intro g5 c5 w5 hG hNw hB;have r6:=R4.out.apL (x:=x) (g:=g5) (c:=c5) (by simp only[TL.out];exact hG) hNw hB
     have b5:=hB.same R4.out.box (fun⟨y,hy,e⟩=>by obtain⟨cur,hc⟩:=R4.out.lr.blk hy;exact blk_ty R4.out.box hc (by decide) e.symm)
     refine⟨⟨?_,by simp[World.frozen?,b5]⟩,?_⟩
     · rw[cell_of_row _ _ _ _ _ _ b5];show some (Value.slice aL (D.L.take i).length cL)=_;rw[TL.out]
     · simp only[TL.out,SN.out] at r6;exact r6
    clear f1 f2 f3 u0 u1 u3 v0 v1 v3 v6 QQ RR;go_wp2_with fail
    go_region_law
     (refine step_apG Tryz.underlying64 infoBool rfl (by decide) rfl _ _ rfl aL i cL (vbl (D.L.take i)) (by first|(simp[Act.eval];done)|simp[Act.eval,Act.put]) G4.out ⟨wr.heap.size,0,none⟩ 1 [.bool x] (by first|(simp[Act.eval];done)|simp[Act.eval,Act.put]) rfl (one_add X4.out) (fun u hu=>by rw[List.mem_singleton.1 hu];rfl) hml (by omega) ?_
      intro g5 c5 w5 hG hNw hB;obtain⟨⟨cS,fS⟩,r6⟩:=FIN.out g5 c5 w5 hG hNw hB;have R6:=hide r6;clear hG hNw hB r6)
    all_goals
     clear cS fS FIN G4 R4 X4 A4;generalize w5.setCell ⟨rb2,2,none⟩ (.slice (some ⟨g5,0,none⟩) (i+1) c5)=w6 at *;go_wp2_with fail
     go_roundw
     case rel=>exact⟨i+1,some ⟨g5,0,none⟩,c5,by omega,by go_num,R6.out⟩
     case measure=>simp[intOf];omega
  · obtain rfl:i=n:=by omega
    have TL:Hid (D.L.take i=D.L):=List.take_of_length_le (by rw[LLn.out];exact Nat.le_refl _)
    rw[TL.out] at RR;rw[LPn.out] at v3
    have CPP:=hide (copyPages_any wr D.aP i D.cP D.P (fun t ht=>by
     have ht2:t<D.C.length:=by rw[HN.out,<-LPn.out];exact ht
     obtain⟨g,e,hc⟩:=QQ.out.pAt ht2;exact⟨g,0,e,fun k u hk hu=>by rw[Nat.zero_add];exact hc k u hk hu⟩) LPn.out.symm (by rw[LPn.out];exact h6))
    go_wp2_with fail
    refine CPP.out.mono ?_;rintro _ w5 ⟨aP,cP,rfl,hG,hNw,hb5⟩;have R5:=hide (RR.out.keep hb5);have G5:=hide hG;have N5:=hide (hNw.mono RR.out.b.size);obtain⟨u0,u1,u2,u3,f1,f2,f3⟩:=R5.out.cells
    have FIN:Hid (Rq (w5.setCell ⟨rb2,3,none⟩ (.slice aP i cP)) rb2 ⟨D.R,aC2,cC2,D.C,aL,cL,D.L,aP,cP,D.P,none,0,0,0,true⟩ (ccol col rb2 ⟨D.R,aC2,cC2,D.C,aL,cL,D.L,aP,cP,D.P,none,0,0,0,true⟩)/\Below w.heap.size w (w5.setCell ⟨rb2,3,none⟩ (.slice aP i cP))):=by
     have bs:But (fun k=>k=rb2) w5 (w5.setCell ⟨rb2,3,none⟩ (.slice aP i cP)):=(But.refl (fun k=>k=rb2) w5).setCell (p:=⟨rb2,3,none⟩) (fun _=>rfl) _
     have bw:Below w.heap.size w (w5.setCell ⟨rb2,3,none⟩ (.slice aP i cP)):=((But.ofBelow (S:=fun k=>k=rb2) R5.out.b).trans bs (fun _ _ e=>e)).below (fun k hk e=>by have:=R5.out.nb;omega)
     have mv:∀{e:TypeId}{sz:Nat}{a:Option Addr}{cap n:Nat}{C:List Value},e≠99->Q.Gw e sz w5 a cap n C->Q.Gw e sz (w5.setCell ⟨rb2,3,none⟩ (.slice aP i cP)) a cap n C:=fun h2 hg=>hg.but bs (fun y hy e=>by obtain⟨cur,hc⟩:=hg.blk hy;exact blk_ty hc R5.out.box h2 e)
     have g5:Q.Gw 31 5 w5 aP cP D.P.length (vpg D.P):=by rw[LPn.out];exact G5.out
     refine⟨HQ.out.copied bw ⟨rfl,rfl,rfl,rfl,rfl,rfl,rfl,rfl,rfl⟩ ?_ (mv (by decide) R5.out.cr) (mv (by decide) R5.out.lr) (mv (by decide) g5) R5.out.nb R5.out.nC R5.out.nl N5.out,bw⟩
     rw[heap_setCell_same _ _ _ _ _ _ R5.out.box];show some (Obj.cells _ _ _)=some (Obj.cells (Rd.box _) _ _);unfold Rd.box;simp only[LPn.out];rfl
    have NEW:Hid (∀k,ccol col rb2 ⟨D.R,aC2,cC2,D.C,aL,cL,D.L,aP,cP,D.P,none,0,0,0,true⟩ k≠0->col k=6\/w.heap.size<=k):=by
     intro k hk;unfold ccol at hk;by_cases h1:k=rb2
     · exact .inr (by rw[h1];exact R5.out.nb)
     · rw[if_neg h1] at hk;by_cases h2:blkOf aC2 k=true
       · obtain⟨x,hx,e⟩:=blkOf_iff.1 h2;exact .inr (by rw[<-e];exact vnew_at R5.out.nC hx)
       · rw[if_neg h2] at hk;by_cases h3:blkOf aL k=true
         · obtain⟨x,hx,e⟩:=blkOf_iff.1 h3;exact .inr (by rw[<-e];exact vnew_at R5.out.nl hx)
         · rw[if_neg h3] at hk;by_cases h4:blkOf aP k=true
           · obtain⟨x,hx,e⟩:=blkOf_iff.1 h4;exact .inr (by rw[<-e];exact vnew_at N5.out hx)
           · rw[if_neg h4] at hk;by_cases h5:col k=6
             · exact .inl h5
             · rw[if_neg h5] at hk;exact absurd rfl hk
    clear hG hNw hb5 v0 v1 v2 v3 v6 u0 u1 u2 f1 f2 CPP R5 G5 N5 RR QQ;go_wp2_with fail
    generalize hw6:w5.setCell ⟨rb2,3,none⟩ (.slice aP i cP)=w6 at *;go_ret;exact⟨rb2,_,_,rfl,FIN.out.1,⟨rfl,rfl,rfl,rfl,rfl,rfl,rfl,rfl,rfl⟩,FIN.out.2,NEW.out⟩
def gatF(rd:Int->Option Pg)(s:Nat):Nat->List Nat->Int->Nat×List Nat
 |0,acc,_=>(0,acc)
 |t+1,acc,n=>if acc.length<s then
   match rd n with
   |none=>(15,[])
   |some p=>if p.kind≠3 then (15,[]) else if p.data.length≠min (s-acc.length) 480 then (5,[]) else if decide (p.next=0)≠decide (s-acc.length<=480) then (5,[]) else gatF rd s t (acc++p.data) p.next
  else (0,acc)
theorem gatF_end{rd:Int->Option Pg}{s:Nat}{acc:List Nat}{n:Int}(h:s<=acc.length):∀t,gatF rd s t acc n=(0,acc)
 |0=>rfl
 |t+1=>by unfold gatF;rw[if_neg (by omega)]
theorem gatF_fuel{rd:Int->Option Pg}{s:Nat}:∀(t t':Nat)(acc:List Nat)(n:Int),s-acc.length<=t->s-acc.length<=t'->gatF rd s t acc n=gatF rd s t' acc n
 |0,t',acc,n,h,_=>by rw[gatF_end (by omega),gatF_end (by omega)]
 |t+1,0,acc,n,_,h'=>by rw[gatF_end (by omega),gatF_end (by omega)]
 |t+1,t'+1,acc,n,h,h'=>by
  unfold gatF;by_cases hl:acc.length<s
  · rw[if_pos hl,if_pos hl];cases rd n with
    |none=>rfl
    |some p=>
     simp only;by_cases h1:p.kind≠3
     · rw[if_pos h1,if_pos h1]
     · rw[if_neg h1,if_neg h1];by_cases h2:p.data.length≠min (s-acc.length) 480
       · rw[if_pos h2,if_pos h2]
       · rw[if_neg h2,if_neg h2];by_cases h3:decide (p.next=0)≠decide (s-acc.length<=480)
         · rw[if_pos h3,if_pos h3]
         · rw[if_neg h3,if_neg h3];have e:p.data.length=min (s-acc.length) 480:=by simpa using h2
           exact gatF_fuel t t' _ _ (by rw[List.length_append];omega) (by rw[List.length_append];omega)
  · rw[if_neg hl,if_neg hl]
def ReadsAs(f:FuncId)(v:Value)(rd:Int->Option Pg)(w:World):Prop:=∀(W:World),Below w.heap.size w W->∀z:Int,Calls Tryz.prog f #[v,.int .i64 z] W fun x w'=>∃q:Pv,x=.returned (.tuple #[q.vl,.int .i64 (if (rd z).isSome=true then 0 else 15)])/\Pn W w' q/\q.pg=(rd z).getD Pv.zero.pg/\Below W.heap.size W w'
def rdV(S:Vs)(z:Int):Option Pg:=if 0<S.X.P.count z then some (S.X.on z).pg else none
def rdR(D:Rd)(z:Int):Option Pg:=if 0<D.count z then some (D.on z).pg else none
theorem Vw.reads{b:Nat}{S:Vs}{pb mb:Nat}{pc:Nat->Nat}(h:Vw w b S pb mb pc col)(hs:∀z,Sml (S.X.on z)):ReadsAs 44 (.pointer (some ⟨b,0,none⟩)) (rdV S) w:=fun W hb z=>by
 refine(Read_any W b S pb mb pc col (h.keep hb) z (hs z)).mono ?_;rintro _ w' ⟨q,rfl,hP,hg,hb'⟩;refine⟨q,?_,hP,?_,hb'⟩
 · unfold rdV;by_cases hc:0<S.X.P.count z
   · rw[if_pos hc,if_pos hc,if_pos (by rfl)]
   · rw[if_neg hc,if_neg hc,if_neg (by simp)]
 · rw[hg];unfold rdV;by_cases hc:0<S.X.P.count z
   · rw[if_pos hc,if_pos hc];rfl
   · rw[if_neg hc,if_neg hc];rfl
theorem Rq.reads(h:Rq w rb D col):ReadsAs 45 (.pointer (some ⟨rb,0,none⟩)) (rdR D) w:=fun W hb z=>by
 refine(rRead_any W rb D col (h.keep hb) z).mono ?_;rintro _ w' ⟨q,rfl,hP,_,hg,hb'⟩;refine⟨q,?_,hP,?_,hb'⟩
 · unfold rdR;by_cases hc:0<D.count z
   · rw[if_pos hc,if_pos hc,if_pos (by rfl)]
   · rw[if_neg hc,if_neg hc,if_neg (by simp)]
 · rw[hg];unfold rdR;by_cases hc:0<D.count z
   · rw[if_pos hc,if_pos hc];rfl
   · rw[if_neg hc,if_neg hc];rfl
def Gvn(w w':World)(e:Ending)(r:Nat×List Nat):Prop:=(r.1≠0/\e=.returned (.tuple #[.slice none 0 0,.int .i64 ((r.1:Nat):Int)])/\Below w.heap.size w w')\/(r.1=0/\∃(a:Option Addr)(c:Nat),e=.returned (.tuple #[.slice a r.2.length c,.int .i64 0])/\Own w w' a c r.2/\B8 r.2)
theorem gather_any(w:World)(v:Value)(rd:Int->Option Pg)(hR:ReadsAs 44 v rd w)(s:Nat)(h1:32<s)(h2:s<=3840)(n:Int):
 Calls Tryz.prog 134 #[v,.int .i64 n,.int .i64 (s:Int)] w fun e w'=>Gvn w w' e (gatF rd s s [] n):=by
 have RD:=hide hR;have hmk:∀w:World,(Instr.makeSlice 29 (.int .i64 0) (.int .i64 (s:Int))).run Tryz.prog w=.ok (.slice (some ⟨w.heap.size,0,none⟩) 0 s) (w.alloc (.cells (madeCells #[.int .u8 0] s) 5)):=make_u8 0 s (Nat.zero_le _) (by omega)
 have A0:=hide (al w (.cells (madeCells #[.int .u8 0] s) 5));have R0:Hid (Rw (w.alloc (.cells (madeCells #[.int .u8 0] s) 5)) (some ⟨w.heap.size,0,none⟩) s []):=Rw.mk (cur:=madeCells #[.int .u8 0] s) (heap_alloc_new _ _) (Nat.zero_le _) (Nat.le_trans h2 (by decide)) (made_size s) (by simp[vb])
 clear hR;obtain⟨res,hres⟩:∃res,gatF rd s s [] n=res:=⟨_,rfl⟩;have HRES:=hide hres;rw[hres];clear hres;go_enter Tryz.func134,Tryz.ntmps134;go_wp2_with fail
 generalize (w.alloc (.cells (madeCells #[.int .u8 0] s) 5))=w1 at *;clear hmk;go_loopw [8,1] (fun vv nv wx=>∃(acc:List Nat)(n':Int)(a:Option Addr)(c m:Nat),vv=.slice a m c/\nv=.int .i64 n'/\m=acc.length/\m<=s/\Rw wx a c acc/\New w none a/\Below w.heap.size w wx/\B8 acc/\gatF rd s (s-m) acc n'=res) (fun vv _ _=>s-(lenOf13 vv))
 case atStart=>exact⟨[],n,some ⟨w.heap.size,0,none⟩,s,0,rfl,rfl,rfl,Nat.zero_le _,R0.out,fun x hx=>.inr (by cases hx;exact Nat.le_refl _),A0.out,(fun x hx=>absurd hx (List.not_mem_nil)),by rw[Nat.sub_zero];exact HRES.out⟩
 case round=>
  clear R0 A0;obtain⟨acc,n',a,c,m,rfl,rfl,hm,hms,hR,hN,hb,h8,hE⟩:=hrel;have HM:=hide hm;have RW:=hide hR;have NW:=hide hN;have BB:=hide hb;have H8:=hide h8;have EE:=hide hE;clear hm hR hN hb h8 hE;by_cases hlt:m<s
  · have hlti:(m:Int)<(s:Int):=by omega
    have RR:=hide (RD.out wr BB.out n');obtain⟨t,ht⟩:∃t,s-m=t+1:=⟨s-m-1,by omega⟩
    have hE:=EE.out;rw[ht] at hE;unfold gatF at hE;rw[if_pos (by rw[<-HM.out];exact hlt)] at hE
    obtain⟨o,ho⟩:∃o,rd n'=o:=⟨_,rfl⟩;rw[ho] at RR hE;clear ho EE;cases o with
    |none=>
     simp only at hE;have E1:Hid ((15,[])=res):=hE;clear hE;go_wp2_with fail
     refine RR.out.mono ?_;rintro _ w3 ⟨q,rfl,hn3,hq3,hb3⟩;have A3:=hide (al w3 (.cells #[.int .i64 q.kind,.int .i64 q.level,.slice q.aI q.items.length q.cI,.slice q.aD q.data.length q.cD,.int .i64 q.next] 31));have B3:=hide (bt BB.out (bt hb3 A3.out));clear hn3 hq3 hb3 RR;obtain⟨qkind,qlevel,qaI,qcI,qitems,qaD,qcD,qdata,qnext⟩:=q;unfold Pv.vl;simp only[Pv.cs] at B3 ⊢;go_wp2_with fail
     refine bodyPost_ret (results_tmp2 rfl _ _ _) rfl ?_;rw[<-E1.out];exact .inl ⟨by decide,rfl,B3.out⟩
    |some pg=>
     simp only at hE
     have GEN:Hid ((pg.kind≠3->(15,[])=res)/\(pg.kind=3->pg.data.length≠min (s-m) 480->(5,[])=res)/\(pg.kind=3->pg.data.length=min (s-m) 480->decide (pg.next=0)≠decide (s-m<=480)->(5,[])=res)/\(pg.kind=3->pg.data.length=min (s-m) 480->decide (pg.next=0)=decide (s-m<=480)->gatF rd s (s-(m+pg.data.length)) (acc++pg.data) pg.next=res)):=by
      rw[<-HM.out] at hE;refine⟨fun k1=>?_,fun k1 k2=>?_,fun k1 k2 k3=>?_,fun k1 k2 k3=>?_⟩
      · rw[if_pos k1] at hE;exact hE
      · rw[if_neg (fun e=>e k1),if_pos k2] at hE;exact hE
      · rw[if_neg (fun e=>e k1),if_neg (fun e=>e k2),if_pos k3] at hE;exact hE
      · rw[if_neg (fun e=>e k1),if_neg (fun e=>e k2),if_neg (fun e=>e k3)] at hE
        rw[<-hE];exact gatF_fuel _ _ _ _ (by rw[List.length_append,<-HM.out];omega) (by rw[List.length_append,<-HM.out];omega)
     clear hE;rw[if_pos (show(some pg).isSome=true from rfl)] at RR
     go_wp2_with fail
     refine RR.out.mono ?_;rintro _ w3 ⟨q,rfl,hn3,hq3,hb3⟩;have hq4:q.pg=pg:=hq3;have A3:=hide (al w3 (.cells q.cs 31));have X3:=hide (heap_alloc_new w3 (.cells q.cs 31));have B3:=hide (bt BB.out (bt hb3 A3.out));have PN:=hide (hn3.keep A3.out);have R3:=hide ((RW.out.keep hb3).keep A3.out);rw[<-hq4] at GEN;clear hn3 hq3 hb3 RR hq4;have BD:=hide (PN.out.d.bs PN.out.d8 PN.out.d.len_le);have D8:Hid (B8 q.data):=PN.out.d8;have GE2:Hid ((q.kind≠3->(15,[])=res)/\(q.kind=3->q.data.length≠min (s-m) 480->(5,[])=res)/\(q.kind=3->q.data.length=min (s-m) 480->decide (q.next=0)≠decide (s-m<=480)->(5,[])=res)/\(q.kind=3->q.data.length=min (s-m) 480->decide (q.next=0)=decide (s-m<=480)->gatF rd s (s-(m+q.data.length)) (acc++q.data) q.next=res)):=GEN.out;clear GEN PN;obtain⟨qkind,qlevel,qaI,qcI,qitems,qaD,qcD,qdata,qnext⟩:=q;unfold Pv.vl;simp only[Pv.cs] at X3 B3 R3 GE2 BD D8 ⊢;obtain⟨cl,hcl⟩:∃cl,qdata.length=cl:=⟨_,rfl⟩;have HCL:=hide hcl;simp only[hcl] at X3 B3 R3 BD GE2 ⊢;clear hcl;have ne3:Hid (∀x,a=some x->x.block≠w3.heap.size):=fun x hx=>R3.out.nty13 (t:=31) X3.out (by decide) hx
     go_upto_region 4 with fail
     generalize (w3.alloc (.cells #[.int .i64 qkind,.int .i64 qlevel,.slice qaI qitems.length qcI,.slice qaD cl qcD,.int .i64 qnext] 31))=w4 at *;have hz3:w3.heap.size<w4.heap.size:=(Array.getElem?_eq_some_iff.1 X3.out).1;generalize w3.heap.size=gp at *;obtain⟨y0,y1,y2,y3,y4⟩:=five_cells X3.out;by_cases hk3:qkind=3
     · have HK3:=hide hk3;have dk:(qkind != 3)=false:=by simpa using hk3
       clear hk3;by_cases hcl:cl=min (s-m) 480
       · have HCM:=hide hcl;have e2:min ((s:Int)-(m:Int)) 480=(cl:Int):=by omega
         have hclb:cl<=480:=by omega
         have hcl1:1<=cl:=by omega
         have hcs:m+cl<=s:=by omega
         have dcl:((cl:Int) != (cl:Int))=false:=by simp
         have hml:acc.length+cl<=140737488355328:=by rw[<-HM.out];omega
         clear hcl;by_cases hl:s-m<=480
         · have d1:decide ((s:Int)-(m:Int)<=480)=true:=decide_eq_true (by omega)
           by_cases hq0:qnext=0
           · have d0:(qnext==0)=true:=by simpa using hq0
             have E1:Hid (gatF rd s (s-(m+cl)) (acc++qdata) qnext=res):=GE2.out.2.2.2 HK3.out HCM.out (by rw[decide_eq_true hq0,decide_eq_true hl])
             clear hq0 GE2;go_wp2_with (at_builtin;refine wpList_apB rfl _ _ rfl a m c acc rfl HM.out R3.out qaD cl qcD qdata rfl HCL.out.symm BD.out (by rw[HCL.out];exact hml) ?_)
             intro a' c' w5 hR hN hg _;have R5:=hide hR
             have X5:=hide ((hg.block gp hz3 (fun e=>by
              cases ha:a with
              |none=>rw[ha] at e;cases e
              |some x=>rw[ha] at e;exact ne3.out x ha (by simpa using e.symm))).trans X3.out)
             have N5:Hid (New w none a'):=fun y hy=>by
              rcases hN y hy with⟨z,hz,e⟩|h
              · rcases NW.out z hz with⟨_,h0,_⟩|h1
                · cases h0
                · exact .inr (by rw[<-e];exact h1)
              · exact .inr (Nat.le_trans B3.out.size h)
             have B5:Hid (Below w.heap.size w w5):=(But.grown (S:=fun k=>∃x,a=some x/\x.block=k) (But.ofBelow B3.out) hg (by
              intro k e _;cases ha:a with
              |none=>rw[ha] at e;simp at e
              |some x=>rw[ha] at e;exact⟨x,rfl,by first|(simpa using e)|(simpa using e.symm)⟩)).below (fun k hk ⟨x,hx,e⟩=>by
               rcases NW.out x hx with⟨_,h0,_⟩|h1
               · cases h0
               · omega)
             clear hR hN hg y0 y1 y2 y3 y4;obtain⟨y0,y1,y2,y3,y4⟩:=five_cells X5.out;go_wp2_with fail
             go_roundw
             case rel=>exact⟨acc++qdata,qnext,a',c',m+cl,rfl,rfl,by rw[List.length_append,<-HM.out,HCL.out],by omega,R5.out,N5.out,B5.out,(fun x hx=>by
              rcases List.mem_append.1 hx with hx|hx
              · exact H8.out x hx
              · exact D8.out x hx),E1.out⟩
             case measure=>simp[lenOf13];omega
           · have d0:(qnext==0)=false:=by simpa using hq0
             have E1:Hid ((5,[])=res):=GE2.out.2.2.1 HK3.out HCM.out (by rw[decide_eq_false hq0,decide_eq_true hl];decide)
             clear hq0 GE2;go_wp2_with fail
             refine bodyPost_ret (results_tmp2 rfl _ _ _) rfl ?_;rw[<-E1.out];exact .inl ⟨by decide,rfl,B3.out⟩
         · have d1:decide ((s:Int)-(m:Int)<=480)=false:=decide_eq_false (by omega)
           by_cases hq0:qnext=0
           · have d0:(qnext==0)=true:=by simpa using hq0
             have E1:Hid ((5,[])=res):=GE2.out.2.2.1 HK3.out HCM.out (by rw[decide_eq_true hq0,decide_eq_false hl];decide)
             clear hq0 GE2;go_wp2_with fail
             refine bodyPost_ret (results_tmp2 rfl _ _ _) rfl ?_;rw[<-E1.out];exact .inl ⟨by decide,rfl,B3.out⟩
           · have d0:(qnext==0)=false:=by simpa using hq0
             have E1:Hid (gatF rd s (s-(m+cl)) (acc++qdata) qnext=res):=GE2.out.2.2.2 HK3.out HCM.out (by rw[decide_eq_false hq0,decide_eq_false hl])
             clear hq0 GE2;go_wp2_with (at_builtin;refine wpList_apB rfl _ _ rfl a m c acc rfl HM.out R3.out qaD cl qcD qdata rfl HCL.out.symm BD.out (by rw[HCL.out];exact hml) ?_)
             intro a' c' w5 hR hN hg _;have R5:=hide hR
             have X5:=hide ((hg.block gp hz3 (fun e=>by
              cases ha:a with
              |none=>rw[ha] at e;cases e
              |some x=>rw[ha] at e;exact ne3.out x ha (by simpa using e.symm))).trans X3.out)
             have N5:Hid (New w none a'):=fun y hy=>by
              rcases hN y hy with⟨z,hz,e⟩|h
              · rcases NW.out z hz with⟨_,h0,_⟩|h1
                · cases h0
                · exact .inr (by rw[<-e];exact h1)
              · exact .inr (Nat.le_trans B3.out.size h)
             have B5:Hid (Below w.heap.size w w5):=(But.grown (S:=fun k=>∃x,a=some x/\x.block=k) (But.ofBelow B3.out) hg (by
              intro k e _;cases ha:a with
              |none=>rw[ha] at e;simp at e
              |some x=>rw[ha] at e;exact⟨x,rfl,by first|(simpa using e)|(simpa using e.symm)⟩)).below (fun k hk ⟨x,hx,e⟩=>by
               rcases NW.out x hx with⟨_,h0,_⟩|h1
               · cases h0
               · omega)
             clear hR hN hg y0 y1 y2 y3 y4;obtain⟨y0,y1,y2,y3,y4⟩:=five_cells X5.out;go_wp2_with fail
             go_roundw
             case rel=>exact⟨acc++qdata,qnext,a',c',m+cl,rfl,rfl,by rw[List.length_append,<-HM.out,HCL.out],by omega,R5.out,N5.out,B5.out,(fun x hx=>by
              rcases List.mem_append.1 hx with hx|hx
              · exact H8.out x hx
              · exact D8.out x hx),E1.out⟩
             case measure=>simp[lenOf13];omega
       · have dcl:((cl:Int) != min ((s:Int)-(m:Int)) 480)=true:=by
          have:¬((cl:Int)=min ((s:Int)-(m:Int)) 480):=by omega
          simpa using this
         have E1:Hid ((5,[])=res):=GE2.out.2.1 HK3.out hcl;clear hcl GE2;go_wp2_with fail
         refine bodyPost_ret (results_tmp2 rfl _ _ _) rfl ?_;rw[<-E1.out];exact .inl ⟨by decide,rfl,B3.out⟩
     · have dk:(qkind != 3)=true:=by simpa using hk3
       have E1:Hid ((15,[])=res):=GE2.out.1 hk3;clear hk3 GE2;go_wp2_with fail
       refine bodyPost_ret (results_tmp2 rfl _ _ _) rfl ?_;rw[<-E1.out];exact .inl ⟨by decide,rfl,B3.out⟩
  · have e1:m=s:=by omega
    have E1:Hid ((0,acc)=res):=by
     show _=_;rw[<-EE.out];exact(gatF_end (by rw[<-HM.out];omega) _).symm
    subst e1;go_wp2_with fail
    refine bodyPost_ret (results_tmp2 rfl _ _ _) rfl ?_;rw[<-E1.out];exact .inr ⟨rfl,a,c,(by show Ending.returned (.tuple #[.slice a m c,.int .i64 0])=_;rw[HM.out]),⟨RW.out,NW.out,BB.out⟩,H8.out⟩
end Go.Proofs.YtcpkinhneehomaaGreat
