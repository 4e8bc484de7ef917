import Derived.Test.YtbdkogimlbnlmaaGreatWlB24
set_option linter.all false
set_option maxHeartbeats 64000000
set_option maxRecDepth 8000
namespace Go.Proofs.YtbdkogimlbnlmaaGreat
open Go.Proofs.Tryz
open Go.RowKit
variable {w:World}
theorem bxw2{d b e:Nat}{f vx:Value}{K:Bkk}(h:w.heap[d]?=some (.cells (K.cs b e f) 55 (0,0))):(w.setCell ⟨d,2,none⟩ vx).heap[d]?=some (.cells (K.cs b e vx) 55 (0,0)):=by
 rw[aY _ _ _ _ _ _ h];rfl
theorem Cg{W:World}{g:Nat}{x:Wl}{t:TypeId}(h:W.heap[g]?=some (.cells #[.func (.func 116) #[] #[.pointer (some ⟨x.tb,0,none⟩)],.slice x.aN x.N.length x.cN] t (0,0))):∀j u,x.cs[j]?=some u->W.cell? ((⟨g,0,none⟩:Addr).add j)=some u:=by
 intro j u b;match j,b with
 |0,b=>simp only[Wl.cs] at b;simp at b;subst b;rw[show((⟨g,0,none⟩:Addr).add 0)=⟨g,0,none⟩ from rfl,ay _ _ _ _ _ _ h];rfl
 |1,b=>simp only[Wl.cs] at b;simp at b;subst b;rw[show((⟨g,0,none⟩:Addr).add 1)=⟨g,1,none⟩ from rfl,ay _ _ _ _ _ _ h];rfl
 |j+2,b=>simp[Wl.cs] at b
theorem Eb{x:Wl}:∀u∈x.cs,u.oneCell'=true:=by
 intro u b;simp only[Wl.cs,cO,bm,gO] at b;rcases b with rfl|rfl<;>rfl
theorem yE:(prog.info? 107).map (λi=>(i.zero,i.size,i.bytes))=some (some (.agg #[.nilFunc,.slice none 0 0]),2,32):=by kernel_rfl
section
variable {v w w3 w4 w5:World} {wb b rb pb mb:Nat} {S:Vs} {D:Rd} {H:List Sn} {pc col colR:Nat->Nat} {aW:Option Addr} {cW:Nat} {W:List Wl} {K:Bkk} {M N:Nat} {x:Wl} {g c:Nat}
def mQ(wb:Nat)(aW:Option Addr)(k:Nat):Prop:=k=wb\/Q.InA aW k
theorem Wo.walked(P:Wo v w wb b rb pb mb S D H pc col colR aW cW W K M)(I:Below w.heap.size w w3)(Z:Wt v w3 col colR x.tb x.a x.c x.L)(hn:Wn v w3 col colR x.aN x.cN x.N)(he:nmg x.L=nmg x.N)(hd:∀p∈K.T,∀y∈x.N,Bdj p y.2)(A:Below w3.heap.size w3 w4)
 (V:Q.Gw 107 2 w5 (some ⟨g,0,none⟩) c (W.length+1) (wlv W++x.cs)) (Y:New w4 aW (some ⟨g,0,none⟩)) (U:But (Q.InA aW) w4 w5) (X:M<=N) (hW:W.length+1<=N):
 (w5.heap[wb]?=some (.cells (K.cs b rb (.slice aW W.length cW)) 55 (0,0)))/\But (mQ wb aW) w (w5.setCell ⟨wb,2,none⟩ (.slice (some ⟨g,0,none⟩) (W.length+1) c))/\Wo v (w5.setCell ⟨wb,2,none⟩ (.slice (some ⟨g,0,none⟩) (W.length+1) c)) wb b rb pb mb S D H pc col colR (some ⟨g,0,none⟩) c (W++[x]) K N:=by
 have h:=P.keep I;have m:But (Q.InA aW) w3 w5:=(But.ofBelow (S:=Q.InA aW) A).trans U (λ_ _ e=>e)
 have s:Q.InA aW g\/w3.heap.size<=g:=by
  rcases Y ⟨g,0,none⟩ rfl with⟨y,d,e⟩|h2
  . exact .inl ⟨y,d,e⟩
  . have h2:w4.heap.size<=g:=h2;exact .inr (aO A.size h2)
 have q:w5.heap[wb]?=_:=m.same h.bo.box (λ⟨y,d,e⟩=>jv h.gw h.bo.box (by decide) y d e)
 have O:g≠wb:=by
  rcases s with⟨y,d,e⟩|h2
  . exact λj=>jv h.gw h.bo.box (by decide) y d (e.trans j)
  . have:=h.bo.lb;omega
 have bs:But (λk=>k=wb) w5 (w5.setCell ⟨wb,2,none⟩ (.slice (some ⟨g,0,none⟩) (W.length+1) c)):=(But.refl (λk=>k=wb) w5).setCell (p:=⟨wb,2,none⟩) (λ_=>rfl) _
 have f:But (mQ wb aW) w3 (w5.setCell ⟨wb,2,none⟩ (.slice (some ⟨g,0,none⟩) (W.length+1) c)):=(m.mono (T:=mQ wb aW) λ_ _ e=>.inr e).trans bs (λ_ _ e=>.inl e)
 have off:∀{r:Pv},Pw1 v w3 col colR r->∀k,Blk r k->¬mQ wb aW k:=λE k hk e=>by
  rcases e with e|e
  . exact E.n.ne hk h.bo.box (by decide) (by decide) e
  . exact E.n.ne_row hk h.gw (by decide) (by decide) e
 have row:∀{e:TypeId}{sz:Nat}{a:Option Addr}{c n:Nat}{C:List Value},Q.Gw e sz w3 a c n C->e≠55->e≠107->∀y,a=some y->¬mQ wb aW y.block:=λB R h2 y d e=>by
  rcases e with e|e
  . exact jv B h.bo.box R y d e
  . exact kM B h.gw h2 y d e
 have sv:=h.va.bl.size
 have G:∀k,mQ wb aW k->col k=0/\colR k=0/\v.heap.size<=k:=λk e=>by
  rcases e with e|⟨y,d,e⟩
  . rw[e];exact h.bo.wc
  . rw[<-e];exact h.oW y d
 have L:∀{k:Wl},Wt v w3 col colR k.tb k.a k.c k.L->Wt v (w5.setCell ⟨wb,2,none⟩ (.slice (some ⟨g,0,none⟩) (W.length+1) c)) col colR k.tb k.a k.c k.L:=λt=>t.but f (λe=>by
  rcases e with e|⟨y,d,e⟩
  . have b:=h.bo.box;rw[<-e,t.bx] at b;simp only[aE,dU] at b;exact absurd b.2.1 (by decide)
  . exact jv h.gw t.bx (by decide) y d e) (row t.lr (by decide) (by decide)) (λk e1 j=>by have:=G k j;omega)
 have J:∀{k:Wl},Wn v w3 col colR k.aN k.cN k.N->Wn v (w5.setCell ⟨wb,2,none⟩ (.slice (some ⟨g,0,none⟩) (W.length+1) c)) col colR k.aN k.cN k.N:=λt=>t.but f (row t.nr (by decide) (by decide)) (λy d=>off (t.np y d))
 have l:(W++[x]).length=W.length+1:=by rw[ae];rfl
 refine⟨q,(But.ofBelow (S:=mQ wb aW) I).trans f (λ_ _ e=>e),h.va.but f G,?_,?_,λy d=>?_,λk hk=>?_,λk hk=>?_,λk hk=>?_,λp i k hk y d=>?_,h.tw.same (Rd.Al.refl _) X,h.eq,h.l4,by rw[l];exact hW,h.sm⟩
 . have o:=h.bo;rw[l];exact⟨bxw2 q,o.wc,o.gt.but f (row o.gt (by decide) (by decide)),o.gx.but f (row o.gx (by decide) (by decide)),o.oT,o.oX,o.nTX,λp i=>(o.tp p i).but f (off (o.tp p i)),λp i=>(o.xp p i).but f (off (o.xp p i)),o.tt,o.tx⟩
 . rw[l,yl,EF];exact V.but bs (λy d=>by cases d;exact O)
 . cases d;rcases s with⟨z,hz',e⟩|h2
   . have:=h.oW z hz';rw[e] at this;exact this
   . exact⟨(h.va.z h2).1,(h.va.z h2).2,aO sv h2⟩
 . rcases bq.1 hk with hk|hk
   . exact L (h.wt k hk)
   . rw[aQ.1 hk];exact L Z
 . rcases bq.1 hk with hk|hk
   . exact J (h.wn k hk)
   . rw[aQ.1 hk];exact J hn
 . rcases bq.1 hk with hk|hk
   . exact h.we k hk
   . rw[aQ.1 hk];exact he
 . rcases bq.1 hk with hk|hk
   . exact h.tn p i k hk y d
   . rw[aQ.1 hk] at d;exact hd p i y d
theorem Fx.walked{d:World}(hb:But (mQ wb aW) w d):Fx w col colR (ot wb aW K) d col colR:=⟨hb.mono (λk _ e=>.inr (.inr (by
 rcases e with e|e
 . exact .inl (.inl e)
 . exact .inr (.inl e)))),λ_ _=>rfl,λ_ _=>rfl⟩
end
section
variable (v w:World) (wb b rb pb mb:Nat) (S:Vs) (D:Rd) (H:List Sn) (pc col colR:Nat->Nat) (aW:Option Addr) (cW:Nat) (W:List Wl) (K:Bkk) (M:Nat)
theorem Gu(h:Wo v w wb b rb pb mb S D H pc col colR aW cW W K M)(hM:M<=100000000000)(o:Oq)(C:o.kind=14):
 Calls prog 10 #[.pointer (some ⟨wb,0,none⟩),o.vl] w λe w'=>Nx v w wb b rb pb mb col colR aW W K M e w':=by
 have OV:Hid (o.vl=.agg o.cs):=rfl;rw[OV.o];have A0:=iJ (al w (.cells o.cs 33));have Y:=iJ (aH w (.cells o.cs 33));have Z0:=iJ (h.va.z (ai w.heap.size));have m:=iJ (h.ws.keep A0.o);have I:=iJ h;have aj:M<=1000000000000:=by omega
 clear h;go_enter func10,ntmps10;obtain⟨c0,c1,c2,c3,c4,c5,c6,c7⟩:=iK Y.o;rw[C] at c0;go_upto_region 46 with fail
 generalize w.alloc (.cells o.cs 33)=l at *;clear C;obtain⟨O,ag⟩:∃O,w.heap.size=O:=⟨_,rfl⟩;simp only[ag] at Y Z0 c0 c1 c2 c3 c4 c5 c6 c7 ⊢;clear ag;have DR:=iJ (dr2 l);obtain⟨n,hn⟩:∃n,W.length=n:=⟨_,rfl⟩;have Z:=iJ hn;clear hn;have ak:n<=100000000000:=by have:=I.o.wl;rw[Z.o] at this;omega
 have ah:n+1<=maxLen:=by unfold maxLen;omega
 have q:Hid (∀V:World,Below l.heap.size l V->V.cell? ⟨wb,0,none⟩=some (.pointer (some ⟨b,0,none⟩))/\V.cell? ⟨wb,1,none⟩=some (.pointer (some ⟨rb,0,none⟩))/\V.cell? ⟨O,1,none⟩=some (.int .i64 o.n)):=λV hb=>⟨((m.o.keep hb).cells).1,((m.o.keep hb).cells).2.1,(iK (iQ Y.o hb)).2.1⟩
 have WC:Hid (∀V:World,Below l.heap.size l V->V.cell? ⟨wb,2,none⟩=some (.slice aW n cW)):=λV hb=>by rw[<-Z.o];exact((m.o.keep hb).cells).2.2.1
 clear c0 c1 c2 c3 c4 c5 c6 c7;have PA:=iJ λ(W:World)(hb:Below l.heap.size l W)=>sd W b S pb mb pc col ((m.o.keep hb).va.V) o.n
 have X:=iJ λ(W:World)(hb:Below l.heap.size l W)=>rR W rb D colR ((m.o.keep hb).va.R.q) o.n
 have G:=iJ DR.o;refine wrd q DR.o λhHeld=>?_
 refine tkd 0 1 2 3 ?_;refine tkd 5 6 7 8 ?_;refine tkd 9 10 12 13 ?_;refine tkd 14 15 16 17 ?_;refine fh (rs:=[4,11]) (by kernel_rfl) (by simp) ?_
 refine(AllReadyH.cons rfl (λs d=>?_) (AllReadyH.cons rfl (λs d=>?_) AllReadyH.nil))
 all_goals
  first
  |have U:=WC.o _ G.o
   go_simp;clear U;refine d.o _ _ (q.o _ G.o) (λhHeld=>?_)
   refine tw 11 λs d=>?_
   go_simp;refine(PA.o _ G.o).mono ?_;rintro _ w2 ⟨tb,a,c,rfl,R,T,ab,aa,P⟩;have f:=iJ (bt G.o R);have T2:=iJ (rE (m.o.keep G.o).va I.o.tw R T ab aa P);have ac:Hid (l.heap.size<=tb/\∀x,a=some x->l.heap.size<=x.block):=⟨T,P⟩;clear R T ab aa P PA;go_wp2_with fail
   refine d.o _ _ (q.o _ f.o) (λhHeld=>?_)
   refine tw 18 λs d=>?_
   go_simp;refine(X.o _ f.o).mono ?_;rintro _ w3 ⟨aN,cN,N,rfl,i,J⟩;have B:=iJ (bt f.o i.b);have T3:=iJ (T2.o.keep i.b);have N3:=iJ (oD (m.o.keep f.o).va i);have E3:=iJ (mL I.o.tw J);have D3:Hid (∀p∈K.T,∀x∈N,Bdj p x.2):=λp hp x hx ae h1 h2=>by have:=(m.o.wr.bo.tp p hp).n.blk_lt h1;have:=(i.p x hx).1.blk_new h2;have:=f.o.size;omega
   have NW:Hid ((∀y,aN=some y->l.heap.size<=y.block)/\∀x∈N,∀k,Blk x.2 k->l.heap.size<=k):=⟨λy r=>by
    rcases i.n y r with⟨_,e,_⟩|e
    . cases e
    . exact aO f.o.size e,λx hx k C=>aO f.o.size ((i.p x hx).1.blk_new C)⟩
   clear i J X;go_wp2_with fail
   refine d.o _ _ (q.o _ B.o) (λhHeld=>?_)
   refine tk 19 ?_;refine tw 20 λs d=>?_
   go_simp;have E:=iJ (al w3 (.cells #[.func (.func 116) #[] #[.pointer (some ⟨tb,0,none⟩)],.slice aN N.length cN] 107));have t:=iJ (bt B.o E.o);have j:=iJ (aH w3 (.cells #[.func (.func 116) #[] #[.pointer (some ⟨tb,0,none⟩)],.slice aN N.length cN] 107));refine d.o _ _ (q.o _ t.o) (λhHeld=>?_)
   try simp only[pt]
   generalize w3.alloc (.cells #[.func (.func 116) #[] #[.pointer (some ⟨tb,0,none⟩)],.slice aN N.length cN] 107)=w4 at*
  |go_simp
   refine(PA.o _ G.o).mono ?_;rintro _ w2 ⟨tb,a,c,rfl,R,T,ab,aa,P⟩;have f:=iJ (bt G.o R);have T2:=iJ (rE (m.o.keep G.o).va I.o.tw R T ab aa P);have ac:Hid (l.heap.size<=tb/\∀x,a=some x->l.heap.size<=x.block):=⟨T,P⟩;clear R T ab aa P PA;go_wp2_with fail
   refine d.o _ _ (q.o _ f.o) (λhHeld=>?_)
   try simp only[pt]
   refine fh (rs:=[4,18]) (by kernel_rfl) (by simp) ?_
   refine(AllReadyH.cons rfl (λs d=>?_) (AllReadyH.cons rfl (λs d=>?_) AllReadyH.nil))
   all_goals
    first
    |have U:=WC.o _ f.o
     go_simp;clear U;refine d.o _ _ (q.o _ f.o) (λhHeld=>?_)
     refine tw 18 λs d=>?_
     go_simp;refine(X.o _ f.o).mono ?_;rintro _ w3 ⟨aN,cN,N,rfl,i,J⟩;have B:=iJ (bt f.o i.b);have T3:=iJ (T2.o.keep i.b);have N3:=iJ (oD (m.o.keep f.o).va i);have E3:=iJ (mL I.o.tw J);have D3:Hid (∀p∈K.T,∀x∈N,Bdj p x.2):=λp hp x hx ae h1 h2=>by have:=(m.o.wr.bo.tp p hp).n.blk_lt h1;have:=(i.p x hx).1.blk_new h2;have:=f.o.size;omega
     have NW:Hid ((∀y,aN=some y->l.heap.size<=y.block)/\∀x∈N,∀k,Blk x.2 k->l.heap.size<=k):=⟨λy r=>by
      rcases i.n y r with⟨_,e,_⟩|e
      . cases e
      . exact aO f.o.size e,λx hx k C=>aO f.o.size ((i.p x hx).1.blk_new C)⟩
     clear i J X;go_wp2_with fail
     refine d.o _ _ (q.o _ B.o) (λhHeld=>?_)
     refine tk 19 ?_;refine tw 20 λs d=>?_
     go_simp;have E:=iJ (al w3 (.cells #[.func (.func 116) #[] #[.pointer (some ⟨tb,0,none⟩)],.slice aN N.length cN] 107));have t:=iJ (bt B.o E.o);have j:=iJ (aH w3 (.cells #[.func (.func 116) #[] #[.pointer (some ⟨tb,0,none⟩)],.slice aN N.length cN] 107));refine d.o _ _ (q.o _ t.o) (λhHeld=>?_)
     try simp only[pt]
     generalize w3.alloc (.cells #[.func (.func 116) #[] #[.pointer (some ⟨tb,0,none⟩)],.slice aN N.length cN] 107)=w4 at*
    |go_simp
     refine(X.o _ f.o).mono ?_;rintro _ w3 ⟨aN,cN,N,rfl,i,J⟩;have B:=iJ (bt f.o i.b);have T3:=iJ (T2.o.keep i.b);have N3:=iJ (oD (m.o.keep f.o).va i);have E3:=iJ (mL I.o.tw J);have D3:Hid (∀p∈K.T,∀x∈N,Bdj p x.2):=λp hp x hx ae h1 h2=>by have:=(m.o.wr.bo.tp p hp).n.blk_lt h1;have:=(i.p x hx).1.blk_new h2;have:=f.o.size;omega
     have NW:Hid ((∀y,aN=some y->l.heap.size<=y.block)/\∀x∈N,∀k,Blk x.2 k->l.heap.size<=k):=⟨λy r=>by
      rcases i.n y r with⟨_,e,_⟩|e
      . cases e
      . exact aO f.o.size e,λx hx k C=>aO f.o.size ((i.p x hx).1.blk_new C)⟩
     clear i J X;go_wp2_with fail
     refine d.o _ _ (q.o _ B.o) (λhHeld=>?_)
     refine tk 19 ?_;refine fh (rs:=[4,20]) (by kernel_rfl) (by simp) ?_
     refine(AllReadyH.cons rfl (λs d=>?_) (AllReadyH.cons rfl (λs d=>?_) AllReadyH.nil))
     all_goals
      first
      |have U:=WC.o _ B.o
       go_simp;clear U;refine d.o _ _ (q.o _ B.o) (λhHeld=>?_)
       refine tw 20 λs d=>?_
       go_simp;have E:=iJ (al w3 (.cells #[.func (.func 116) #[] #[.pointer (some ⟨tb,0,none⟩)],.slice aN N.length cN] 107));have t:=iJ (bt B.o E.o);have j:=iJ (aH w3 (.cells #[.func (.func 116) #[] #[.pointer (some ⟨tb,0,none⟩)],.slice aN N.length cN] 107));refine d.o _ _ (q.o _ t.o) (λhHeld=>?_)
       try simp only[pt]
       generalize w3.alloc (.cells #[.func (.func 116) #[] #[.pointer (some ⟨tb,0,none⟩)],.slice aN N.length cN] 107)=w4 at*
      |go_simp
       have E:=iJ (al w3 (.cells #[.func (.func 116) #[] #[.pointer (some ⟨tb,0,none⟩)],.slice aN N.length cN] 107));have t:=iJ (bt B.o E.o);have j:=iJ (aH w3 (.cells #[.func (.func 116) #[] #[.pointer (some ⟨tb,0,none⟩)],.slice aN N.length cN] 107));refine d.o _ _ (q.o _ t.o) (λhHeld=>?_)
       try simp only[pt]
       generalize w3.alloc (.cells #[.func (.func 116) #[] #[.pointer (some ⟨tb,0,none⟩)],.slice aN N.length cN] 107)=w4 at *;refine tw 4 λs d=>?_
       have U:=WC.o _ t.o;go_simp;clear U;refine d.o _ _ (q.o _ t.o) (λhHeld=>?_)
       try simp only[pt]
 all_goals
  obtain⟨gs,ad⟩:∃gs,w3.heap.size=gs:=⟨_,rfl⟩;rw[ad] at j;try simp only[ad]
  clear ad;have G4:Hid (Q.Gw 107 2 w4 aW cW n (wlv W)):=by have e:=(m.o.keep t.o).wr.gw;rw[Z.o] at e;exact e
  have af:Hid (∀(A c5:Nat)(w5:World),Q.Gw 107 2 w5 (some ⟨A,0,none⟩) c5 (n+1) (wlv W++({tb:=tb,a:=a,c:=c,L:=nU S o.n,aN:=aN,cN:=cN,N:=N}:Wl).cs)->New w4 aW (some ⟨A,0,none⟩)->But (Q.InA aW) w4 w5->((w5.cell? ⟨wb,0,none⟩=some (.pointer (some ⟨b,0,none⟩))/\w5.cell? ⟨wb,1,none⟩=some (.pointer (some ⟨rb,0,none⟩))/\w5.cell? ⟨O,1,none⟩=some (.int .i64 o.n))/\w5.frozen? ⟨wb,2,none⟩=false/\w5.cell? ⟨wb,2,none⟩=some (.slice aW n cW))/\((w5.setCell ⟨wb,2,none⟩ (.slice (some ⟨A,0,none⟩) (n+1) c5)).cell? ⟨wb,0,none⟩=some (.pointer (some ⟨b,0,none⟩))/\(w5.setCell ⟨wb,2,none⟩ (.slice (some ⟨A,0,none⟩) (n+1) c5)).cell? ⟨wb,1,none⟩=some (.pointer (some ⟨rb,0,none⟩))/\(w5.setCell ⟨wb,2,none⟩ (.slice (some ⟨A,0,none⟩) (n+1) c5)).cell? ⟨O,1,none⟩=some (.int .i64 o.n))/\Nx v w wb b rb pb mb col colR aW W K M (.returned (.bool true)) (w5.setCell ⟨wb,2,none⟩ (.slice (some ⟨A,0,none⟩) (n+1) c5))):=λA c5 w5 hG hN hB=>by
   obtain⟨q1,q2,q3⟩:=I.o.walked (bt A0.o B.o) T3.o N3.o E3.o D3.o E.o (by rw[Z.o];exact hG) hN hB (show M<=M+20 by omega) (by have:=I.o.wl;omega)
   rw[Z.o] at q1 q2 q3;have xi:w5.heap[O]?=_:=hB.same (iQ Y.o t.o) (λ⟨y,r,e⟩=>jv G4.o (iQ Y.o t.o) (by decide) y r e)
   have gw:O≠wb:=λe=>by
    have b:=(m.o.wr.bo.box);rw[<-e,Y.o] at b;simp only[aE,dU] at b;exact absurd b.2.1 (by decide)
   have xj:=((But.refl (λk=>k=wb) w5).setCell (p:=⟨wb,2,none⟩) (λ_=>rfl) (.slice (some ⟨A,0,none⟩) (n+1) c5)).same xi gw
   obtain⟨k0,k1,k2,_⟩:=iR q1
   exact⟨⟨⟨k0,k1,(iK xi).2.1⟩,by simp[World.frozen?,q1],k2⟩,⟨q3.ws.cells.1,q3.ws.cells.2.1,(iK xj).2.1⟩,rfl,S,D,H,pc,col,colR,_,_,_,K,q3,Fx.walked q2,λk C h=>by
    have s1:=A0.o.size;have s4:=t.o.size;rcases h with(h|⟨y,r,e⟩|h)|h|⟨x,hx,h⟩
    . exact .inl (.inl h)
    . cases r;rcases hN ⟨A,0,none⟩ rfl with⟨z,hz,e2⟩|e2
      . exact .inl (.inr (.inl ⟨z,hz,e2.trans e⟩))
      . have e2:w4.heap.size<=A:=e2;have e:A=k:=e;omega
    . exact .inl (.inr (.inr h))
    . exact .inr (.inl h)
    . rcases bq.1 hx with hx|hx
      . exact .inr (.inr ⟨x,hx,h⟩)
      . rw[aQ.1 hx] at h;rcases h with h|⟨y,r,e⟩|⟨y,r,e⟩|⟨y,r,e⟩
        . have:=ac.o.1;have h:k=tb:=h;omega
        . have:=ac.o.2 y r;omega
        . have:=NW.o.1 y r;omega
        . have:=NW.o.2 y r k e;omega⟩
  refine tw 21 λs d=>?_
  refine kP underlying52 yE rfl (by decide) rfl _ _ rfl aW n cW (wlv W) (by first|(simp[Act.eval];done)|simp[Act.eval,Act.put]) G4.o ⟨gs,0,none⟩ 1 ({tb:=tb,a:=a,c:=c,L:=nU S o.n,aN:=aN,cN:=cN,N:=N}:Wl).cs (by first|(simp[Act.eval];done)|simp[Act.eval,Act.put]) rfl (Cg j.o) Eb ah (by omega) ?_
  intro A c5 w5 hG hN hB;obtain⟨⟨h5,fS,cS⟩,h6,r6⟩:=af.o A c5 w5 hG hN hB;have H6:=iJ h6;have R6:=iJ r6;clear hG hN hB h6 r6 af;refine d.o _ _ h5 (λhHeld=>?_)
  clear h5;refine tkb 22 23 ?_;refine tw 24 λs d=>?_
  go_simp;refine d.o _ _ H6.o (λhHeld=>?_)
  refine td ?_;clear hHeld q fS cS;go_wp2_with fail
  go_ret;exact R6.o
end
section
variable (v w:World) (wb b rb pb mb:Nat) (S:Vs) (D:Rd) (H:List Sn) (pc col colR:Nat->Nat) (aW:Option Addr) (cW:Nat) (W:List Wl) (K:Bkk) (M:Nat)
theorem zY(h:Wo v w wb b rb pb mb S D H pc col colR aW cW W K M)(hM:M<=100000000000)(o:Oq):
 Calls prog 56 #[.pointer (some ⟨wb,0,none⟩),o.vl] w λe w'=>NxV v w wb b rb pb mb col colR aW cW W K M (λS'=>True) e w':=by
 have OV:Hid (o.vl=.agg o.cs):=rfl;rw[OV.o];have B:=iJ (al w (.cells o.cs 33));have P:=iJ (aH w (.cells o.cs 33));have Z0:=iJ (h.va.z (ai w.heap.size));have p:=iJ (h.ws.keep B.o);have s:=iJ h;have m:M<=1000000000000:=by omega
 clear h;go_enter func56,ntmps56;obtain⟨c0,c1,c2,c3,c4,c5,R,c7⟩:=iK P.o;by_cases hk:0<=o.k
 all_goals
  first
  |have T:decide (0<=o.k)=true:=ax hk
   go_upto_region 3 with fail
   generalize w.alloc (.cells o.cs 33)=t at *;obtain⟨U,aj⟩:∃U,w.heap.size=U:=⟨_,rfl⟩;simp only[aj] at P Z0 c0 c1 c2 c3 c4 c5 R c7 ⊢;clear aj;have I:=iJ (dr2 t);have L:Hid (∀W:World,Below t.heap.size t W->W.cell? ⟨wb,1,none⟩=some (.pointer (some ⟨rb,0,none⟩))/\W.cell? ⟨U,2,none⟩=some (.int .i64 o.k)):=λW hb=>⟨((p.o.keep hb).cells).2.1,(iK (iQ P.o hb)).2.2.1⟩
   clear c0 c1 c2 c3 c4 c5 R c7;have i:=iJ (vt s.o.tw m t.drew rb colR (p.o.keep I.o).va.R);obtain⟨y,k⟩:∃y:Int,((S.fl+S.al.length:Nat):Int)=y:=⟨_,rfl⟩;simp only[k] at i;clear k;obtain⟨z,V⟩:∃z,IntKind.i64.wrap (y-o.k)=z:=⟨_,rfl⟩;refine wrd L I.o λhHeld=>?_
   refine tkd 0 1 2 3 ?_;refine tkb 5 6 ?_;refine tw 4 λJ f=>?_
   go_simp;refine(i.o).mono ?_;rintro _ l ⟨rfl,af⟩;have C:=iJ (bt I.o af);clear af;go_wp2_with fail
   refine f.o _ _ (L.o _ C.o) (λhHeld=>?_)
   refine tkb 7 8 ?_;refine td ?_;clear hHeld L V T;have q:=iJ (p.o.keep C.o);have Z:=iJ (bt B.o C.o)
  |have T:decide (0<=o.k)=false:=au hk
   go_upto_region 4 with fail
   generalize w.alloc (.cells o.cs 33)=l at *;clear c0 c1 c2 c3 c4 c5 R c7 T;obtain⟨z,V⟩:∃z,o.n=z:=⟨_,rfl⟩;simp only[V];have q:=p;have Z:=B
  have WV:=(q.o.cells).1;obtain⟨u,hu⟩:∃u,S.undoB z=u:=⟨_,rfl⟩;obtain⟨j,ac⟩:∃j,S.undoS z=j:=⟨_,rfl⟩;have E:=iJ (GV s.o.tw m l b pb mb pc col q.o.va.V z);have G:=iJ λ(l:World)(hR:Ra l rb D H colR)=>Hr s.o.tw m l rb colR hR z
  simp only[hu,ac] at E G;clear hu ac;have ap:(u==u)=true:=by simp
  go_wp2_with fail
  refine E.o.mono ?_;rintro _ w5 ⟨rfl,ak,am,ae,Y⟩;have F2:=iJ Y;have r:=iJ (q.o.prog ae Y);clear ae Y E WV;go_upto_region 5 with fail
  have A:=iJ (dr2 w5);have CE:=iJ (G.o w5.drew (r.o.keep A.o).va.R);clear G;refine bC (S:=λW=>W.cell? ⟨wb,0,none⟩=some (.pointer (some ⟨b,0,none⟩))/\W.cell? ⟨wb,1,none⟩=some (.pointer (some ⟨rb,0,none⟩))) (by kernel_rfl) (⟨((r.o.keep A.o).cells).1,((r.o.keep A.o).cells).2.1⟩) (λhHeld=>?_)
  refine tkd 0 1 2 3 ?_;refine tkb 4 5 ?_;refine tw 6 λJ f=>?_
  go_simp;refine(CE.o).mono ?_;rintro _ X ⟨rfl,D3,ao,an,ab,aa,ad⟩;have F3:=iJ ((Vf.keep (c:=colR) A.o).trans aa);have d:=iJ (r.o.doc ab F3.o);have O:=iJ ad;clear ab aa ad CE;have MA:=iJ (Ak O.o m X b pb mb ak am d.o.va.V);have i:=iJ λ(W:World)(hb:Below X.heap.size X W)=>vt O.o m W rb an (d.o.keep hb).va.R
  obtain⟨y,k⟩:∃y:Int,((j.fl+j.al.length:Nat):Int)=y:=⟨_,rfl⟩;simp only[k] at MA i;clear k;have aq:(y==y)=true:=by simp
  go_wp2_with fail
  refine f.o _ _ (⟨d.o.cells.1,d.o.cells.2.1⟩) (λhHeld=>?_)
  refine tkd 7 8 9 10 ?_;refine tkd 11 12 14 15 ?_;refine tkb 16 17 ?_;refine tw 13 λJ f=>?_
  go_simp;refine(MA.o).mono ?_;rintro _ w7 ⟨rfl,ag⟩;have n:=iJ ag;clear ag;go_wp2_with fail
  refine f.o _ _ (⟨(d.o.keep n.o).cells.1,(d.o.keep n.o).cells.2.1⟩) (λhHeld=>?_)
  refine tw 18 λJ f=>?_
  go_simp;refine(i.o _ n.o).mono ?_;rintro _ w8 ⟨rfl,ah⟩;have B8:=iJ (bt n.o ah);clear ah;go_wp2_with fail
  refine f.o _ _ (⟨(d.o.keep B8.o).cells.1,(d.o.keep B8.o).cells.2.1⟩) (λhHeld=>?_)
  refine tkb 19 20 ?_;refine tk 21 ?_;refine td ?_;clear hHeld;go_wp2_with fail
  go_ret;exact⟨rfl,j,D3,ao,ak,am,an,trivial,(d.o.keep B8.o).wo s.o (O.o.up (by omega)) (by omega),(((Fx.keep Z.o).trans (Fx.vf F2.o) (λ_ _ e=>e)).trans (Fx.vfR F3.o) (λ_ _ e=>e)).trans (Fx.keep B8.o) (λ_ _ e=>e)⟩
theorem Hl(h:Wo v w wb b rb pb mb S D H pc col colR aW cW W K M)(U:M<=100000000000)(o:Oq)(i:o.kind=12):
 Calls prog 10 #[.pointer (some ⟨wb,0,none⟩),o.vl] w λe J=>NxV v w wb b rb pb mb col colR aW cW W K M (λj=>True) e J:=by
 have C:Hid (o.vl=.agg o.cs):=rfl;rw[C.o];have d:=iJ (al w (.cells o.cs 33));have k:=iJ (aH w (.cells o.cs 33));have G:=iJ (h.va.z (ai w.heap.size));have T:=iJ (h.ws.keep d.o);have A:=iJ h;have Y:M<=1000000000000:=by omega
 have y:=iJ i;clear h;go_enter func10,ntmps10;obtain⟨c0,c1,c2,c3,c4,c5,I,c7⟩:=iK k.o;rw[i] at c0;go_upto_region 40 with fail
 generalize w.alloc (.cells o.cs 33)=p at *;clear i;obtain⟨l,q⟩:∃l,w.heap.size=l:=⟨_,rfl⟩;simp only[q] at k G c0 c1 c2 c3 c4 c5 I c7 ⊢;clear q;have R:=iJ (dr2 p);have f:=iJ (zY v p wb b rb pb mb S D H pc col colR aW cW W K M (A.o.keep d.o) (by omega) o)
 have B:Hid (o.vl=.agg #[.int .i64 12,.int .i64 o.n,.int .i64 o.k,.int .i64 o.p.kind,.int .i64 o.p.level,.slice o.p.aI o.p.items.length o.p.cI,.slice o.p.aD o.p.data.length o.p.cD,.int .i64 o.p.next]):=by
  show Value.agg o.cs=_;unfold Oq.cs;rw[y.o]
 rw[B.o] at f;go_wp2_with fail
 refine f.o.mono ?_;rintro _ X ⟨rfl,j,r,t,L,O,P,V,n,m⟩;have E:=iJ n;have s:=iJ ((Fx.keep d.o).trans m (λ_ _ e=>e))
 clear n m f;go_wp2_with fail
 go_ret;exact⟨rfl,j,r,t,L,O,P,trivial,E.o,s.o⟩
end
section
variable (v w:World) (wb b rb pb mb:Nat) (S:Vs) (D:Rd) (H:List Sn) (pc col colR:Nat->Nat) (aW:Option Addr) (cW:Nat) (W:List Wl) (K:Bkk) (M:Nat)
theorem Ib(h:Wo v w wb b rb pb mb S D H pc col colR aW cW W K M)(hM:M<=100000000000)(o:Oq)(B:o.kind=9):
 Calls prog 10 #[.pointer (some ⟨wb,0,none⟩),o.vl] w λe w'=>NxV v w wb b rb pb mb col colR aW cW W K M (λS'=>S'=S) e w':=by
 have OV:Hid (o.vl=.agg o.cs):=rfl;rw[OV.o];have s:=iJ (al w (.cells o.cs 33));have O:=iJ (aH w (.cells o.cs 33));have Z0:=iJ (h.va.z (ai w.heap.size));have f:=iJ (h.ws.keep s.o);have y:=iJ h;have aa:M<=1000000000000:=by omega
 clear h;go_enter func10,ntmps10;obtain⟨c0,c1,c2,c3,c4,c5,P,c7⟩:=iK O.o;rw[B] at c0;go_upto_region 28 with fail
 generalize w.alloc (.cells o.cs 33)=q at *;clear B;obtain⟨R,Y⟩:∃R,w.heap.size=R:=⟨_,rfl⟩;simp only[Y] at O Z0 c0 c1 c2 c3 c4 c5 P c7 ⊢;clear Y;have DR:=iJ (dr2 q);clear c0 c1 c2 c3 c4 c5 P c7;obtain⟨n,r⟩:∃n,D.C.length=n:=⟨_,rfl⟩;have m:=iJ r;have ae:0<n:=by rw[<-r];exact(y.o.tw.bnd aa).n
 have af:n<=65536:=by rw[<-r];exact f.o.va.R.q.n6
 clear r;have CV:=f.o.cells.1;have CP:=f.o.va.V.c0;have t:=iJ (Q.yr q pb S.X.P pc f.o.va.V.pl);simp only[y.o.tw.counts,m.o] at t;go_wp2_with fail
 refine t.o.mono ?_;rintro _ U ⟨a,c,rfl,C⟩
 obtain⟨g,rfl⟩:∃g,a=some ⟨g,0,none⟩:=by
  rcases C.r.cases with⟨_,_,e⟩|⟨g,cur,e,_⟩
  . have:=m.o;rw[e] at this;simp at this;omega
  . exact⟨g,e⟩
 have d:=iJ C;clear C t CV CP
 have GN:Hid (q.heap.size<=g):=by
  rcases d.o.n ⟨g,0,none⟩ rfl with⟨_,e,_⟩|e
  . cases e
  . exact e
 have CR:=(f.o.keep d.o.b).cells.2.1;have CC:U.cell? ⟨rb,1,none⟩=some (.slice D.aC n D.cC):=by rw[<-m.o];exact((f.o.keep d.o.b).va.R.q.cells).2.1
 have J:=iJ (Q.qF U (some ⟨g,0,none⟩) D.aC n n c D.cC D.C d.o.r.ir ((f.o.keep d.o.b).va.R.q.cr.ir) m.o.symm m.o.symm (by have:=m.o;omega))
 go_wp2_with fail
 refine J.o.mono ?_;rintro _ w3 ⟨rfl,E⟩;have B3:=iJ (bt d.o.b E);have O3:=iJ (d.o.r.keep E);clear E J CR CC d;go_wp2_with fail
 go_loopw [21] (λvi V=>∃(j:Nat)(l:List Int),j<=n/\vi=.int .i64 (j:Int)/\l.length=n/\Q.Ig V (some ⟨g,0,none⟩) c l/\But (λk=>k=g) w3 V) (λvi _=>n-(intOf vi).toNat)
 case atStart=>exact⟨0,D.C,az _,rfl,m.o,O3.o,But.refl _ _⟩
 case round=>
  obtain⟨j,l,hj,rfl,Z,T,X⟩:=hrel;have L:=iJ Z;have A:=iJ T;have I:=iJ X;clear Z T X;by_cases ab:j<n
  . have ad:(j:Int)<(n:Int):=by omega
    have cV:=A.o.cell (i:=j) (by rw[L.o];exact ab)
    have fV:wr.frozen? ⟨g,j,none⟩=false:=by
     rcases A.o.cases with⟨e,_⟩|⟨g',cur,e,h2,_⟩
     . cases e
     . cases e;simp[World.frozen?,h2]
    have R2:=iJ (A.o.set j 9);have B2:Hid (But (λk=>k=g) w3 (wr.setCell ⟨g,j,none⟩ (.int .i64 9))):=I.o.setCell (p:=⟨g,j,none⟩) (λ_=>rfl) _
    go_wp2_with fail
    generalize ac:wr.setCell ⟨g,j,none⟩ (.int .i64 9)=wn at *;clear ac;go_roundw
    case rel=>exact⟨j+1,l.set j 9,by omega,by go_num,by rw[aM];exact L.o,R2.o,B2.o⟩
    case measure=>simp[intOf];omega
  . obtain rfl:j=n:=by omega
    have G:Hid (Below q.heap.size q wr):=((But.ofBelow (S:=λ_=>False) B3.o).trans I.o (λk B e=>by have:=GN.o;omega)).below (λ_ _ e=>e)
    go_wp2_with fail
    go_ret;exact⟨rfl,S,D,H,pc,col,colR,rfl,(y.o.keep (bt s.o G.o)).up (by omega),Fx.keep (bt s.o G.o)⟩
end
def U8r(w:World)(a:Option Addr)(m:Nat):Prop:=∃(gk:Nat)(cur:Array Value),a=some ⟨gk,0,none⟩/\w.heap[gk]?=some (.cells cur 5 (0,0))/\m<=cur.size/\∀t,t<m->∃x:Nat,x<256/\cur[t]?=some (.int .u8 ((x:Nat):Int))
section
variable {S:Nat->Prop} {v w w' w9 wx:World} {a:Option Addr} {m g g5 n i:Nat} {p q:Pv} {L:List Iv}
theorem Sl.u8{c:Nat}{l:List Nat}(h:Sl w a c l):U8r w a l.length:=by
 obtain⟨⟨g,e,r,k,s,j⟩,_,_,f⟩:=h;refine⟨g,r,e,k,by omega,λt d=>⟨l.getD t 0,f _ (by simp[d]),?_⟩⟩
 rw[j t (by omega)]
 exact a7 some (if_pos d)
theorem U8r.cell(h:U8r w (some ⟨g,0,none⟩) m){t:Nat}(j:t<m):∃x:Nat,x<256/\w.cell? ⟨g,t,none⟩=some (.int .u8 ((x:Nat):Int))/\w.frozen? ⟨g,t,none⟩=false:=by
 obtain⟨gk,r,e,f,l,d⟩:=h;cases e;obtain⟨x,k,d⟩:=d t j;exact⟨x,k,by rw[ay _ _ _ _ _ _ f];exact d,by simp[World.frozen?,f]⟩
theorem U8r.off(h:U8r w a m)(hb:But S w w')(j:∀x,a=some x->¬S x.block):U8r w' a m:=by
 obtain⟨gk,l,e,f,k,d⟩:=h;exact⟨gk,l,e,hb.same f (j _ e),k,d⟩
theorem U8r.set(h:U8r w a m){gk t z:Nat}(C:z<256):U8r (w.setCell ⟨gk,t,none⟩ (.int .u8 ((z:Nat):Int))) a m:=by
 obtain⟨g,s,e,f,r,d⟩:=h;by_cases l:g=gk
 . subst l;refine⟨g,s.setIfInBounds t (.int .u8 ((z:Nat):Int)),e,aY _ _ _ _ _ _ f,by simpa using r,λj A=>?_⟩
   by_cases y:t=j
   . subst y;exact⟨z,C,gQ (by omega)⟩
   . obtain⟨x,B,d⟩:=d j A;exact⟨x,B,by rw[fs y];exact d⟩
 . exact⟨g,s,e,((But.refl (λk=>k=gk) w).setCell (p:=⟨gk,t,none⟩) (λ_=>rfl) _).same f l,r,d⟩
structure Lo(w9 wx:World)(g5 g:Nat)(q:Pv)(n i:Nat)(L:List Iv):Prop where
 bx:wx.heap[g5]?=some (.cells #[.int .i64 q.kind,.int .i64 q.level,.slice (some ⟨g,0,none⟩) n (n+2),.slice q.aD q.data.length q.cD,.int .i64 q.next] 31 (0,0))
 qg:q.aI=some ⟨g,0,none⟩
 ll:L.length=n+2
 ql:q.items.length=n
 li:∀j,i<=j->j<n->L.getD j Iv.zero=q.items.getD j Iv.zero
 jw:Jw wx (some ⟨g,0,none⟩) (n+2) L
 u8:∀t∈rp q,U8r wx t.a t.l.length
 bt:But (Blk q) w9 wx
theorem Lo.heap(h:Lo w9 wx g5 g q n i L):∃cur,wx.heap[g]?=some (.cells cur 51 (0,0)):=by
 rcases h.jw.cases with⟨e,_⟩|⟨g',cur,e,h2,_⟩
 . cases e
 . cases e;exact⟨cur,h2⟩
theorem Lo.byte(h:Lo w9 wx g5 g q n i L){t:Br}(r:t∈rp q){gk:Nat}(l:t.a=some ⟨gk,0,none⟩)(k:Nat){z:Nat}(A:z<256):Lo w9 (wx.setCell ⟨gk,k,none⟩ (.int .u8 ((z:Nat):Int))) g5 g q n i L:=by
 obtain⟨I,G,e,f,_,_⟩:=h.u8 t r;rw[l] at e;cases e;have bs:But (λj=>j=gk) wx (wx.setCell ⟨gk,k,none⟩ (.int .u8 ((z:Nat):Int))):=(But.refl (λj=>j=gk) wx).setCell (p:=⟨gk,k,none⟩) (λ_=>rfl) _
 obtain⟨E,d⟩:=h.heap
 have B:g5≠gk:=λe=>by
  have b:=h.bx;rw[e,f] at b;simp only[aE,dU] at b;exact absurd b.2.1 (by decide)
 have C:g≠gk:=λe=>by
  rw[e,f] at d;simp only[aE,dU] at d;exact absurd d.2.1 (by decide)
 exact⟨bs.same h.bx B,h.qg,h.ll,h.ql,h.li,h.jw.but bs (λx y=>by cases y;exact C),λu s=>(h.u8 u s).set A,h.bt.trans bs (λj _ e=>.inr ⟨t,r,_,l,e.symm⟩)⟩
theorem Lo.zero(h:Lo w9 wx g5 g q n i L):Lo w9 (wx.setCells g (i*4) Iv.zero.cs.toList) g5 g q n (i+1) (L.set i Iv.zero):=by
 have bs:=jr g Iv.zero.cs.toList wx (i*4);obtain⟨y,l⟩:=h.heap
 have t:g5≠g:=λe=>by
  have b:=h.bx;rw[e,l] at b;simp only[aE,dU] at b;exact absurd b.2.1 (by decide)
 refine⟨bs.same h.bx t,h.qg,by rw[aM];exact h.ll,h.ql,λj A r=>?_,h.jw.setv i Iv.zero,λu k=>(h.u8 u k).off bs (λx s e=>?_),h.bt.trans bs (λj _ e=>.inl ⟨_,h.qg,e.symm⟩)⟩
 . rw[<-h.li j (by omega) r]
   simp only[aq];rw[bQ (by omega)]
 . obtain⟨gk,B,f,d,_⟩:=h.u8 u k;rw[s] at f;cases f;have e:gk=g:=e;rw[e,l] at d;simp only[aE,dU] at d;exact absurd d.2.1 (by decide)
theorem Lo.kv(h:Lo w9 wx g5 g q n i L)(hi:i<n):U8r wx (q.items.getD i Iv.zero).aK (q.items.getD i Iv.zero).key.length/\U8r wx (q.items.getD i Iv.zero).aV (q.items.getD i Iv.zero).val.length/\(⟨(q.items.getD i Iv.zero).aK,(q.items.getD i Iv.zero).cK,(q.items.getD i Iv.zero).key⟩:Br)∈rp q/\(⟨(q.items.getD i Iv.zero).aV,(q.items.getD i Iv.zero).cV,(q.items.getD i Iv.zero).val⟩:Br)∈rp q:=by
 have d:q.items.getD i Iv.zero∈q.items:=by
  have:=h.ql;simp only[aq];rw[aR (by omega)]
  exact eK _
 generalize q.items.getD i Iv.zero=x at *;have e:(⟨x.aK,x.cK,x.key⟩:Br)∈rp q:=dJ _ ((kT d).subset (by simp[Iv.rows]))
 have f:(⟨x.aV,x.cV,x.val⟩:Br)∈rp q:=dJ _ ((kT d).subset (by simp[Iv.rows]))
 exact⟨h.u8 _ e,h.u8 _ f,e,f⟩
theorem Sp.but(h:Sp v w p q)(hb:But S w w')(j:Below v.heap.size v w')(f:∀k,Blk q k->¬S k):Sp v w' p q:=by
 obtain⟨g,D,e,l,r,s,y⟩:=h.it;exact⟨h.e,h.s.but hb j (λt A x d=>f _ (.inr ⟨t,A,x,d,rfl⟩)),⟨g,D,e,l,r.but hb (λx d=>by cases d;exact f _ (.inl ⟨_,e,rfl⟩)),s,y⟩,j⟩
theorem Sp.blk(h:Sp v w p q){k:Nat}(j:Blk q k):v.heap.size<=k/\k<w.heap.size:=by
 obtain⟨g,D,d,l,e,r,f⟩:=h.it;rcases j with⟨x,hx,rfl⟩|⟨t,ht,y,hy,rfl⟩
 . rw[d] at hx;cases hx;exact⟨f,e.lt rfl⟩
 . have o:=(h.s.f.own t ht).1;exact⟨zR o.n hy,o.r.lt hy⟩
theorem Sp.lo(h:Sp v w p q)(hb:w.heap[g5]?=some (.cells #[.int .i64 q.kind,.int .i64 q.level,.slice q.aI q.items.length q.cI,.slice q.aD q.data.length q.cD,.int .i64 q.next] 31 (0,0)))(d:q.items.length=n):∃g L,q.aI=some ⟨g,0,none⟩/\q.cI=n+2/\Lo w w g5 g q n 0 L:=by
 obtain⟨g,D,e,f,k,l,y⟩:=h.it;have r:p.items.length=n:=h.len.symm.trans d;rw[r] at f k;refine⟨g,q.items++D,e,f,by rw[e,d,f] at hb;exact hb,e,by rw[ae,d,l];rfl,d,λj _ A=>?_,k,λt s=>(h.s.s t s).u8,But.refl _ _⟩
 simp only[aq];rw[br (by omega)]
end
section
variable {v w w':World} {wb b rb pb mb:Nat} {S S':Vs} {D D':Rd} {H H':List Sn} {pc pc' col col' colR colR':Nat->Nat} {aW:Option Addr} {cW:Nat} {W:List Wl} {K:Bkk} {M N:Nat}
theorem Wr.fx(h:Wr v w wb b rb col colR aW cW W K)(I:∀k,col k≠0->colR k=0)(d:Fx w col colR (λ_=>False) w' col' colR'):Wr v w' wb b rb col' colR' aW cW W K:=by
 have J:Bo v w' wb b rb col' colR' (.slice aW W.length cW) K:=(h.bo.recol d.c d.r).but d.b (λk f e=>by
  have:=h.bo.own0 f;rcases e with e|e|e
  . omega
  . omega
  . exact e) (λp B k f e=>by
  have:=(h.bo.tp p B).c k f;rcases e with e|e|e
  . omega
  . omega
  . exact e) (λp B k f e=>by
  have:=(h.bo.xp p B).c k f;rcases e with e|e|e
  . omega
  . omega
  . exact e)
 have E:∀{a:Option Addr},Ou v col colR a->∀y,a=some y->¬((1<=col y.block/\col y.block<=5)\/(1<=colR y.block/\colR y.block<=5)\/False):=λO y C e=>by
  have:=O y C;rcases e with e|e|e
  . omega
  . omega
  . exact e
 refine⟨J,h.gw.but d.b (E h.oW),h.oW.go (λy C=>h.gw.lt C) d.c d.r,λk f=>?_,λk f=>?_⟩
 . have t:=h.wt k f
   have s:=t.but d.b (λe=>by
    have:=t.tc;rcases e with e|e|e
    . omega
    . omega
    . exact e) (E t.la) (λk G A=>by
    have:=I k (by omega)
    rcases A with e|e|e
    . omega
    . omega
    . exact e)
   have r:=t.recol d.c d.r
   exact⟨s.bx,r.tc,s.lr,r.la,λx j=>(r.lp x j).but d.b (λk f G A=>by
    rw[d.c k f] at G;have:=I k (by omega)
    rcases A with e|e|e
    . omega
    . omega
    . exact e),t.ls⟩
 . have t:=h.wn k f
   have s:=t.but d.b (E t.na) (λx j k f e=>by
    have:=(t.np x j).c k f;rcases e with e|e|e
    . omega
    . omega
    . exact e)
   have r:=t.recol d.c d.r;exact⟨s.nr,r.na,λx j=>⟨(s.np x j).n,(t.np x j).l,(r.np x j).c⟩⟩
end
theorem Fx.far{w' wx:World}{col colR col' colR':Nat->Nat}{own T:Nat->Prop}(h:Fx w col colR own w' col' colR')(hb:But T w' wx)(d:∀k,T k->w.heap.size<=k):Fx w col colR own wx col' colR':=⟨h.b.trans hb (λk f e=>absurd (d k e) (by omega)),h.c,h.r⟩
section
variable (v w:World) (wb b rb pb mb:Nat) (S:Vs) (D:Rd) (H:List Sn) (pc col colR:Nat->Nat) (aW:Option Addr) (cW:Nat) (W:List Wl) (K:Bkk) (M:Nat)
theorem Gn(aw:Wo v w wb b rb pb mb S D H pc col colR aW cW W K M)(hM:M<=100000000000)(o:Oq)(hp:Po2 w col colR o.p):
 Calls prog 34 #[.pointer (some ⟨wb,0,none⟩),o.vl] w λe w'=>NxV v w wb b rb pb mb col colR aW cW W K M (λS'=>o.kind=0->∃q:Pv,q.pg=o.p.pg/\S'=S.makeS o.p.pg q) e w':=by
 have OV:Hid (o.vl=.agg o.cs):=rfl;rw[OV.o];have A0:=iJ (al w (.cells o.cs 33));have X0:=iJ (aH w (.cells o.cs 33));have Z0:=iJ (aw.va.z (ai w.heap.size));have H1:=iJ (aw.ws.keep A0.o);have HW:=iJ aw;have ax:=iJ (hp.keep A0.o);have SM:=iJ hp.s;have aA:M<=1000000000000:=by omega
 clear aw hp;go_enter func34,ntmps34;obtain⟨c0,c1,c2,c3,c4,c5,c6,c7⟩:=iK X0.o;have SP:=iJ (o9 (w.alloc (.cells o.cs 33)) o.p ax.o.z.pi SM.o.1.1 SM.o.2 SM.o.1.2);unfold Pv.vl at SP;simp only[Pv.cs] at SP;go_wp2_with fail
 refine SP.o.mono ?_;rintro _ A ⟨q,rfl,aV⟩;clear SP c0 c1 c2 c3 c4 c5 c6 c7;generalize w.alloc (.cells o.cs 33)=w1 at *;obtain⟨E,aQ⟩:∃E,w.heap.size=E:=⟨_,rfl⟩;simp only[aQ] at X0 Z0 ⊢;clear aQ;have S2:=iJ aV;clear aV;have EP:=iJ S2.o.e;have QK:Hid (∀k,Blk q k->w1.heap.size<=k/\k<A.heap.size):=λk d=>S2.o.blk d
 have AL:=iJ (al A (.cells #[.int .i64 0,.int .i64 0,.slice none 0 0,.slice none 0 0,.int .i64 0] 31));have Y0:=iJ (aH A (.cells #[.int .i64 0,.int .i64 0,.slice none 0 0,.slice none 0 0,.int .i64 0] 31));have B2:Hid (Below A.heap.size A ((A.alloc (.cells #[.int .i64 0,.int .i64 0,.slice none 0 0,.slice none 0 0,.int .i64 0] 31)).setRow A.heap.size #[.int .i64 q.kind,.int .i64 q.level,.slice q.aI q.items.length q.cI,.slice q.aD q.data.length q.cD,.int .i64 q.next])):=((But.ofBelow (S:=λ_=>False) AL.o).trans (jz _ _ _) (λk d e=>by omega)).below (λ_ _ e=>e)
 have Y3:Hid (((A.alloc (.cells #[.int .i64 0,.int .i64 0,.slice none 0 0,.slice none 0 0,.int .i64 0] 31)).setRow A.heap.size #[.int .i64 q.kind,.int .i64 q.level,.slice q.aI q.items.length q.cI,.slice q.aD q.data.length q.cD,.int .i64 q.next]).heap[A.heap.size]?=some (.cells #[.int .i64 q.kind,.int .i64 q.level,.slice q.aI q.items.length q.cI,.slice q.aD q.data.length q.cD,.int .i64 q.next] 31 (0,0))):=dc _ _ _ _ _ _ Y0.o;have B3:=iJ (bt S2.o.b B2.o);have ay:=iJ ((Sp.pre H1.o.va.bl S2.o).keep B2.o);have GZ:Hid (w1.heap.size<=A.heap.size):=S2.o.b.size;obtain⟨d0,d1,d2,d3,d4,d5,d6,d7⟩:=iK (iQ X0.o B3.o);by_cases d:o.kind=0
 all_goals
  have HK:=iJ d;clear d;first
  |have e0:=HK.o
   rw[e0] at d0;clear e0;go_upto_region 4 with(first|(refine cE rfl 31 _ _ rfl A.heap.size _ rfl rfl 31 _ Y0.o iP rfl (by simp[Value.oneCell']) ?_)|fail)
  |have k0:(o.kind==0)=false:=by simp;exact HK.o
   go_upto_region 7 with(first|(refine cE rfl 31 _ _ rfl A.heap.size _ rfl rfl 31 _ Y0.o iP rfl (by simp[Value.oneCell']) ?_)|fail)
  clear d0 d1 d2 d3 d4 d5 d6 d7 Y0 AL B2;generalize (A.alloc (.cells #[.int .i64 0,.int .i64 0,.slice none 0 0,.slice none 0 0,.int .i64 0] 31)).setRow A.heap.size #[.int .i64 q.kind,.int .i64 q.level,.slice q.aI q.items.length q.cI,.slice q.aD q.data.length q.cD,.int .i64 q.next]=w3 at *;have aN:Hid (A.heap.size<w3.heap.size):=(af.1 Y3.o).1;obtain⟨g5,aP⟩:∃g5,A.heap.size=g5:=⟨_,rfl⟩;have QL:Hid (∀k,Blk q k->w1.heap.size<=k/\k<w3.heap.size):=λk d=>⟨(QK.o k d).1,by have:=(QK.o k d).2;have:=aN.o;omega⟩
  simp only[aP] at Y3 GZ ⊢;clear aP QK aN;have H3:=iJ (H1.o.keep B3.o);have C5:Hid (col g5=0/\colR g5=0):=H1.o.va.z GZ.o;have CQ:Hid (∀k,Blk q k->col k=0/\colR k=0):=λk d=>H1.o.va.z (QL.o k d).1
  have PF:Hid (∀W:World,Below w3.heap.size w3 W->Pf col W q):=λW hb a3 hV=>by
   have sp:Sp v W o.p q:=ay.o.keep hb;have va:=(H3.o.keep hb).va;refine(sp.but hV (((But.ofBelow (S:=λ_=>False) va.bl).trans hV (λk d e=>?_)).below (λ_ _ e=>e)) (λk d e=>?_)).pi ax.o.z.pi SM.o.2
   . have:=va.vn k (by simp only[Classical.not_not] at e;omega);omega
   . have:=(CQ.o k d).1;simp only[Classical.not_not] at e;omega
  have SQ:=iJ (qh SM.o EP.o);have DR:=iJ (dr2 w3);first
  |have e0:o.kind=0:=HK.o
   clear e0;have Y:Hid (∀W:World,Below w3.heap.size w3 W->W.cell? ⟨wb,0,none⟩=some (.pointer (some ⟨b,0,none⟩))/\W.cell? ⟨g5,0,none⟩=some (.int .i64 q.kind)/\W.cell? ⟨g5,1,none⟩=some (.int .i64 q.level)/\W.cell? ⟨g5,2,none⟩=some (.slice q.aI q.items.length q.cI)/\W.cell? ⟨g5,3,none⟩=some (.slice q.aD q.data.length q.cD)/\W.cell? ⟨g5,4,none⟩=some (.int .i64 q.next)):=λW hb=>⟨((H3.o.keep hb).cells).1,iR (iQ Y3.o hb)⟩
   have I:=iJ (Hg HW.o.tw aA w3.drew b pb mb pc col (H3.o.keep DR.o).va.V q (PF.o _ DR.o) SQ.o);rw[EP.o] at I;obtain⟨r1,av⟩:∃ae,(S.makeR o.p.pg).1=ae:=⟨_,rfl⟩;obtain⟨r2,aU⟩:∃ae,(S.makeR o.p.pg).2=ae:=⟨_,rfl⟩;have X:=iJ λ(W:World)(hR:Ra W rb D H colR)(q1:Pv)(hP:Pf colR W o.p)(hq:q1.pg=o.p.pg)=>GU HW.o.tw aA W rb colR hR o.p q1 hP hq
   simp only[av,aU] at I X;have a1:(r1==r1)=true:=by simp
   have a4:(r2==r2)=true:=by simp
   clear av aU;unfold Pv.vl at I X;simp only[Pv.cs] at I X;refine wrd Y DR.o λhHeld=>?_
   refine tkd 0 1 2 3 ?_;refine tk 4 ?_;refine tw 5 λKx hK=>?_
   go_simp;refine(I.o).mono ?_;rintro _ w4 ⟨q1,au,rfl,aI,ac,an,ah⟩;have C:=iJ ((Vf.keep (c:=col) DR.o).trans ah);have U:=iJ (H3.o.prog an C.o);have Q1:=iJ au;clear au an ah I;have Y4:=iJ (C.o.box Y3.o C5.o.1);have l:=iJ (C.o.box (iQ X0.o B3.o) Z0.o.1);have aD:=iJ (ay.o.but C.o.b U.o.va.bl (λk d e=>by have:=CQ.o k d;omega))
   have ag:=iJ ((ax.o.keep B3.o).vf C.o);go_wp2_with fail
   refine hK.o _ _ (⟨U.o.cells.1,iR Y4.o⟩) (λhHeld=>?_)
   refine tkd 6 7 8 9 ?_;refine tk 10 ?_;refine td ?_;clear hHeld Y;go_upto_region 5 with fail
   have aa:=iJ (dr2 w4);have Y:Hid (∀W:World,Below w4.heap.size w4 W->W.cell? ⟨wb,1,none⟩=some (.pointer (some ⟨rb,0,none⟩))/\W.cell? ⟨E,3,none⟩=some (.int .i64 o.p.kind)/\W.cell? ⟨E,4,none⟩=some (.int .i64 o.p.level)/\W.cell? ⟨E,5,none⟩=some (.slice o.p.aI o.p.items.length o.p.cI)/\W.cell? ⟨E,6,none⟩=some (.slice o.p.aD o.p.data.length o.p.cD)/\W.cell? ⟨E,7,none⟩=some (.int .i64 o.p.next)):=λW hb=>⟨((U.o.keep hb).cells).2.1,(iK (iQ l.o hb)).2.2.2⟩
   have CE:=iJ (X.o w4.drew (U.o.keep aa.o).va.R q1 (ag.o.keep aa.o).pfR Q1.o);clear X;refine wrd Y aa.o λhHeld=>?_
   refine tkd 0 1 2 3 ?_;refine tkb 4 5 ?_;refine tw 6 λKx hK=>?_
   go_simp;refine(CE.o).mono ?_;rintro _ w5 ⟨rfl,D3,aC,ad,ak,aj,am⟩;have J:=iJ ((Vf.keep (c:=colR) aa.o).trans aj);have H5:=iJ (U.o.doc ak J.o);have TW:=iJ am;clear ak aj am CE;go_wp2_with fail
   refine hK.o _ _ (⟨H5.o.cells.2.1,(iK (J.o.box l.o Z0.o.2)).2.2.2⟩) (λhHeld=>?_)
   refine tkd 7 8 9 10 ?_;refine tk 11 ?_;refine td ?_;clear hHeld Y
  |skip
   have Y:Hid (∀W:World,Below w3.heap.size w3 W->W.cell? ⟨wb,0,none⟩=some (.pointer (some ⟨b,0,none⟩))/\W.cell? ⟨E,1,none⟩=some (.int .i64 o.n)/\W.cell? ⟨g5,0,none⟩=some (.int .i64 q.kind)/\W.cell? ⟨g5,1,none⟩=some (.int .i64 q.level)/\W.cell? ⟨g5,2,none⟩=some (.slice q.aI q.items.length q.cI)/\W.cell? ⟨g5,3,none⟩=some (.slice q.aD q.data.length q.cD)/\W.cell? ⟨g5,4,none⟩=some (.int .i64 q.next)):=λW hb=>⟨((H3.o.keep hb).cells).1,(iK (iQ (iQ X0.o B3.o) hb)).2.1,iR (iQ Y3.o hb)⟩
   have I:=iJ (FV HW.o.tw aA w3.drew b pb mb pc col (H3.o.keep DR.o).va.V o.n q (PF.o _ DR.o).pi SQ.o);rw[EP.o] at I;obtain⟨r1,av⟩:∃ae,S.writeE o.n o.p.pg=ae:=⟨_,rfl⟩;have X:=iJ λ(W:World)(hR:Ra W rb D H colR)(q1:Pv)(hP:Pf colR W o.p)(hq:q1.pg=o.p.pg)=>EU HW.o.tw aA W rb colR hR o.n o.p q1 hP hq
   simp only[av] at I X;have a1:(r1==r1)=true:=by simp
   clear av;unfold Pv.vl at I X;simp only[Pv.cs] at I X;refine wrd Y DR.o λhHeld=>?_
   refine tkd 0 1 2 3 ?_;refine tkb 4 5 ?_;refine tk 6 ?_;refine tw 7 λKx hK=>?_
   go_simp;refine(I.o).mono ?_;rintro _ w4 ⟨q1,au,rfl,aI,ac,an,ah⟩;have C:=iJ ((Vf.keep (c:=col) DR.o).trans ah);have U:=iJ (H3.o.prog an C.o);have Q1:=iJ au;clear au an ah I;have Y4:=iJ (C.o.box Y3.o C5.o.1);have l:=iJ (C.o.box (iQ X0.o B3.o) Z0.o.1);have aD:=iJ (ay.o.but C.o.b U.o.va.bl (λk d e=>by have:=CQ.o k d;omega))
   have ag:=iJ ((ax.o.keep B3.o).vf C.o);go_wp2_with fail
   refine hK.o _ _ (⟨U.o.cells.1,(iK l.o).2.1,iR Y4.o⟩) (λhHeld=>?_)
   refine tk 8 ?_;refine td ?_;clear hHeld Y;go_upto_region 8 with fail
   have aa:=iJ (dr2 w4);have Y:Hid (∀W:World,Below w4.heap.size w4 W->W.cell? ⟨wb,1,none⟩=some (.pointer (some ⟨rb,0,none⟩))/\W.cell? ⟨E,1,none⟩=some (.int .i64 o.n)/\W.cell? ⟨E,3,none⟩=some (.int .i64 o.p.kind)/\W.cell? ⟨E,4,none⟩=some (.int .i64 o.p.level)/\W.cell? ⟨E,5,none⟩=some (.slice o.p.aI o.p.items.length o.p.cI)/\W.cell? ⟨E,6,none⟩=some (.slice o.p.aD o.p.data.length o.p.cD)/\W.cell? ⟨E,7,none⟩=some (.int .i64 o.p.next)):=λW hb=>⟨((U.o.keep hb).cells).2.1,(iK (iQ l.o hb)).2.1,(iK (iQ l.o hb)).2.2.2⟩
   have CE:=iJ (X.o w4.drew (U.o.keep aa.o).va.R q1 (ag.o.keep aa.o).pfR Q1.o);clear X;refine wrd Y aa.o λhHeld=>?_
   refine tkd 0 1 2 3 ?_;refine tkd 4 5 6 7 ?_;refine tk 8 ?_;refine tw 9 λKx hK=>?_
   go_simp;refine(CE.o).mono ?_;rintro _ w5 ⟨rfl,D3,aC,ad,ak,aj,am⟩;have J:=iJ ((Vf.keep (c:=colR) aa.o).trans aj);have H5:=iJ (U.o.doc ak J.o);have TW:=iJ am;clear ak aj am CE;go_wp2_with fail
   refine hK.o _ _ (⟨H5.o.cells.2.1,(iK (J.o.box l.o Z0.o.2)).2.1,(iK (J.o.box l.o Z0.o.2)).2.2.2⟩) (λhHeld=>?_)
   refine tkb 10 11 ?_;refine td ?_;clear hHeld Y
  have Y5:=iJ (J.o.box Y4.o C5.o.2);have X5:=iJ (J.o.box l.o Z0.o.2);have aE:=iJ (aD.o.but J.o.b H5.o.va.bl (λk d e=>by have:=CQ.o k d;omega))
  have aM:=iJ (ag.o.vfR J.o);have aK:Hid (Fx w col colR (λ_=>False) w5 ac ad):=((Fx.keep (bt A0.o B3.o)).trans (Fx.vf C.o) (λ_ _ e=>e)).trans (Fx.vfR J.o) (λ_ _ e=>e)
  have aJ:Hid (∀k,Blk q k->ac k=0/\ad k=0):=λk d=>by
   have aY:=(QL.o k d).2;have l4:=C.o.b.size;rw[C.o.c k aY,J.o.c k (by omega)]
   exact CQ.o k d
  have KP:=iJ (pA w5 v o.p q aM.o.z.pi aE.o SM.o.2);unfold Pv.vl at KP;simp only[Pv.cs] at KP;obtain⟨O,P,R,B,T⟩:=iR Y5.o;obtain⟨d0,d1,d2,d3,d4,d5,d6,d7⟩:=iK X5.o;go_wp2_with fail
  refine KP.o.mono ?_;rintro _ w9 ⟨rfl,ao⟩;have H9:=iJ (H5.o.keep ao);have Y9:=iJ (iQ Y5.o ao);have a0:=iJ (aE.o.keep ao);have aZ:Hid (Fx w col colR (λ_=>False) w9 ac ad):=aK.o.trans (Fx.keep ao) (λ_ _ e=>e)
  clear ao KP O P R B T d0 d1 d2 d3 d4 d5 d6 d7 Y3 Y4 Y5 l X5 ay aD aE ag aM C J H3 U H5 aK PF DR aa S2 B3;obtain⟨n,hn⟩:∃n,q.items.length=n:=⟨_,rfl⟩;obtain⟨g,L0,aT,a2,G⟩:=a0.o.lo Y9.o hn;have LO:=iJ G;have QG:=iJ aT;have a7:n<=1048576:=by rw[<-hn];exact SQ.o.2
  clear G aT a2 hn;have MD:Hid ((⟨q.aD,q.cD,q.data⟩:Br)∈rp q):=da;obtain⟨O,P,R,B,T⟩:=iR LO.o.bx;go_wp2_with fail
  clear O P R B T;go_loopw [12] (λvi wx=>∃(i:Nat)(L:List Iv),i<=n/\vi=.int .i64 (i:Int)/\Lo w9 wx g5 g q n i L) (λvi _=>n-(intOf vi).toNat)
  case atStart=>exact⟨0,L0,az _,rfl,LO.o⟩
  case round=>
   obtain⟨i,L,hi,rfl,G⟩:=hrel;have t:=iJ G;clear G LO;by_cases ar:i<n
   . have a5:(i:Int)<(n:Int):=by omega
     obtain⟨x,hx⟩:∃x,q.items.getD i Iv.zero=x:=⟨_,rfl⟩;obtain⟨ku,vu,km,vm⟩:=t.o.kv ar
     have xm:x∈q.items:=by
      have:=t.o.ql;rw[<-hx];simp only[aq];rw[aR (by omega)]
      exact eK _
     have sk:=SQ.o.1.2 x xm;clear xm;rw[hx] at ku vu km vm;have MK:=iJ km;have MV:=iJ vm;obtain⟨gK,_,ek,_⟩:=ku;obtain⟨gV,_,ev,_⟩:=vu;have KE:=iJ ek;have VE:=iJ ev;obtain⟨mk,aF⟩:∃mk,x.key.length=mk:=⟨_,rfl⟩;obtain⟨mv,aG⟩:∃mv,x.val.length=mv:=⟨_,rfl⟩;have KL:=iJ aF;have VL:=iJ aG;have a6:mk<=140737488355264:=by rw[<-aF];exact sk.1
     have a8:mv<=140737488355264:=by rw[<-aG];exact sk.2
     clear km vm ek ev aF aG sk;obtain⟨O,P,R,B,T⟩:=iR t.o.bx;obtain⟨⟨j,s,V,p3⟩,f0,f1,f2,f3⟩:=t.o.jw.item4 (k:=i) (by rw[t.o.ll];omega)
     rw[t.o.li i (ai _) ar,hx] at j s V p3;rw[KE.o] at j;rw[VE.o] at s;rw[KL.o] at j;rw[VL.o] at s;generalize wr=aX at *;go_wp2_with fail
     clear O P R B T j s V p3 f0 f1 f2 f3;go_loopw [13] (λh wx=>∃k:Nat,k<=mk/\h=.int .i64 (k:Int)/\Lo w9 wx g5 g q n i L) (λh _=>mk-(intOf h).toNat)
     case atStart=>exact⟨0,az _,rfl,t.o⟩
     case round=>
      obtain⟨k,d,rfl,G⟩:=hrel;have f:=iJ G;clear G;obtain⟨O,P,R,B,T⟩:=iR f.o.bx;obtain⟨⟨j,s,V,p3⟩,f0,f1,f2,f3⟩:=f.o.jw.item4 (k:=i) (by rw[f.o.ll];omega)
      rw[f.o.li i (ai _) ar,hx] at j s V p3;rw[KE.o] at j;rw[VE.o] at s;rw[KL.o] at j;rw[VL.o] at s;by_cases ap:k<mk
      . have aS:(k:Int)<(mk:Int):=by omega
        have Z:=(f.o.u8 _ MK.o);simp only[KE.o,KL.o] at Z;obtain⟨y,r,cy,fy⟩:=Z.cell ap;obtain⟨z,hz,ab⟩:∃z:Nat,bits .xor .u8 ((y:Nat):Int) 1=((z:Nat):Int)/\z<256:=⟨y ^^^ 1,u8_xor_nat y 1 r (by decide),g8 (n:=8) r (by decide)⟩
        have NX:=iJ (f.o.byte MK.o KE.o k ab);clear Z r ab;go_wp2_with fail
        generalize wr.setCell ⟨gK,k,none⟩ (.int .u8 ((z:Nat):Int))=wn at *;go_roundw
        case rel=>exact⟨k+1,by omega,by go_num,NX.o⟩
        case measure=>simp[intOf];omega
      . obtain rfl:k=mk:=by omega
        clear O P R B T j s V p3 f0 f1 f2 f3 t;have t:=f;clear f;obtain⟨O,P,R,B,T⟩:=iR t.o.bx;obtain⟨⟨j,s,V,p3⟩,f0,f1,f2,f3⟩:=t.o.jw.item4 (k:=i) (by rw[t.o.ll];omega)
        rw[t.o.li i (ai _) ar,hx] at j s V p3;rw[KE.o] at j;rw[VE.o] at s;rw[KL.o] at j;rw[VL.o] at s;generalize wr=aX at *;go_wp2_with fail
        clear O P R B T j s V p3 f0 f1 f2 f3;go_loopw [14] (λh wx=>∃k:Nat,k<=mv/\h=.int .i64 (k:Int)/\Lo w9 wx g5 g q n i L) (λh _=>mv-(intOf h).toNat)
        case atStart=>exact⟨0,az _,rfl,t.o⟩
        case round=>
         obtain⟨k,d,rfl,G⟩:=hrel;have f:=iJ G;clear G;obtain⟨O,P,R,B,T⟩:=iR f.o.bx;obtain⟨⟨j,s,V,p3⟩,f0,f1,f2,f3⟩:=f.o.jw.item4 (k:=i) (by rw[f.o.ll];omega)
         rw[f.o.li i (ai _) ar,hx] at j s V p3;rw[KE.o] at j;rw[VE.o] at s;rw[KL.o] at j;rw[VL.o] at s;by_cases ap:k<mv
         . have aS:(k:Int)<(mv:Int):=by omega
           have Z:=(f.o.u8 _ MV.o);simp only[VE.o,VL.o] at Z;obtain⟨y,r,cy,fy⟩:=Z.cell ap;obtain⟨z,hz,ab⟩:∃z:Nat,bits .xor .u8 ((y:Nat):Int) 1=((z:Nat):Int)/\z<256:=⟨y ^^^ 1,u8_xor_nat y 1 r (by decide),g8 (n:=8) r (by decide)⟩
           have NX:=iJ (f.o.byte MV.o VE.o k ab);clear Z r ab;go_wp2_with fail
           generalize wr.setCell ⟨gV,k,none⟩ (.int .u8 ((z:Nat):Int))=wn at *;go_roundw
           case rel=>exact⟨k+1,by omega,by go_num,NX.o⟩
           case measure=>simp[intOf];omega
         . obtain rfl:k=mv:=by omega
           have ZE:Hid (Lo w9 ((((wr.setCell ⟨g,i*4,none⟩ (.slice none 0 0)).setCell ⟨g,i*4+1,none⟩ (.slice none 0 0)).setCell ⟨g,i*4+2,none⟩ (.int .i64 0)).setCell ⟨g,i*4+3,none⟩ (.int .i64 0)) g5 g q n (i+1) (L.set i Iv.zero)):=f.o.zero;go_wp2_with fail
           generalize ((((wr.setCell ⟨g,i*4,none⟩ (.slice none 0 0)).setCell ⟨g,i*4+1,none⟩ (.slice none 0 0)).setCell ⟨g,i*4+2,none⟩ (.int .i64 0)).setCell ⟨g,i*4+3,none⟩ (.int .i64 0))=wn at *;go_roundw
           case rel=>exact⟨i+1,_,by omega,by go_num,ZE.o⟩
           case measure=>simp[intOf];omega
   . obtain⟨O,P,R,B,T⟩:=iR t.o.bx;have uD:=t.o.u8 _ MD.o;obtain⟨gD,_,eD,_⟩:=uD;have ED:Hid (q.aD=some ⟨gD,0,none⟩):=eD;clear eD;obtain rfl:i=n:=by omega
     obtain⟨md,aB⟩:∃md,q.data.length=md:=⟨_,rfl⟩;have aL:=iJ aB;have a9:md<=140737488355264:=by rw[<-aB];exact SQ.o.1.1
     rw[aB] at B;clear aB;rw[ED.o] at B;generalize wr=aX at *;go_wp2_with fail
     clear O P R B T;go_loopw [15] (λh wx=>∃k:Nat,k<=md/\h=.int .i64 (k:Int)/\Lo w9 wx g5 g q i i L) (λh _=>md-(intOf h).toNat)
     case atStart=>exact⟨0,az _,rfl,t.o⟩
     case round=>
      obtain⟨k,d,rfl,G⟩:=hrel;have f:=iJ G;clear G;obtain⟨O,P,R,B,T⟩:=iR f.o.bx;rw[aL.o,ED.o] at B;by_cases ap:k<md
      . have aS:(k:Int)<(md:Int):=by omega
        have Z:=(f.o.u8 _ MD.o);simp only[ED.o,aL.o] at Z;obtain⟨y,r,cy,fy⟩:=Z.cell ap;obtain⟨z,hz,ab⟩:∃z:Nat,bits .xor .u8 ((y:Nat):Int) 1=((z:Nat):Int)/\z<256:=⟨y ^^^ 1,u8_xor_nat y 1 r (by decide),g8 (n:=8) r (by decide)⟩
        have NX:=iJ (f.o.byte MD.o ED.o k ab);clear Z r ab;go_wp2_with fail
        generalize wr.setCell ⟨gD,k,none⟩ (.int .u8 ((z:Nat):Int))=wn at *;go_roundw
        case rel=>exact⟨k+1,by omega,by go_num,NX.o⟩
        case measure=>simp[intOf];omega
      . obtain rfl:k=md:=by omega
        have FX:Hid (Fx w col colR (λ_=>False) wr ac ad):=aZ.o.far f.o.bt (λk d=>aO A0.o.size (QL.o k d).1)
        have WS:Hid (Ws v wr wb b rb pb mb _ D3 aC aI ac ad aW cW W K):=⟨H9.o.va.but f.o.bt (λk d=>⟨(aJ.o k d).1,(aJ.o k d).2,aO H1.o.va.bl.size (QL.o k d).1⟩),HW.o.wr.fx HW.o.va.dj FX.o⟩
        go_wp2_with fail
        go_ret;exact⟨rfl,_,D3,aC,aI,ac,ad,by first|exact λ_=>⟨q1,Q1.o,rfl⟩|exact λe=>absurd e HK.o,WS.o.wo HW.o TW.o (by omega),FX.o.b.mono (λk _ e=>e.imp id (λe=>e.imp id False.elim)),FX.o.c,FX.o.r⟩
end
section
variable (v w:World) (wb b rb pb mb:Nat) (S:Vs) (D:Rd) (H:List Sn) (pc col colR:Nat->Nat) (aW:Option Addr) (cW:Nat) (W:List Wl) (K:Bkk) (M:Nat)
theorem rS(h:Wo v w wb b rb pb mb S D H pc col colR aW cW W K M)(X:M<=100000000000)(o:Oq)(hk:o.kind=0\/o.kind=1)(t:Po2 w col colR o.p):
 Calls prog 10 #[.pointer (some ⟨wb,0,none⟩),o.vl] w λe w'=>NxV v w wb b rb pb mb col colR aW cW W K M (λS'=>o.kind=0->∃q:Pv,q.pg=o.p.pg/\S'=S.makeS o.p.pg q) e w':=by
 have I:Hid (o.vl=.agg o.cs):=rfl;rw[I.o];have d:=iJ (al w (.cells o.cs 33));have k:=iJ (aH w (.cells o.cs 33));have P:=iJ (h.va.z (ai w.heap.size));have V:=iJ (h.ws.keep d.o);have G:=iJ h;have Z:M<=1000000000000:=by omega
 have T:=iJ (t.keep d.o);clear h t;rcases hk with hk|hk
 all_goals
  go_enter func10,ntmps10;obtain⟨c0,c1,c2,c3,c4,c5,R,c7⟩:=iK k.o;rw[hk] at c0;have E:=iJ hk;go_upto_region 4 with fail
  clear hk;generalize w.alloc (.cells o.cs 33)=A at *;obtain⟨l,B⟩:∃l,w.heap.size=l:=⟨_,rfl⟩;simp only[B] at k P c0 c1 c2 c3 c4 c5 R c7 ⊢;clear B;have U:=iJ (dr2 A);have f:=iJ (Gn v A wb b rb pb mb S D H pc col colR aW cW W K M (G.o.keep d.o) (by omega) o T.o)
  have j:Hid (o.vl=.agg o.cs):=rfl;simp only[Oq.cs,E.o] at j;rw[j.o] at f;go_wp2_with fail
  refine f.o.mono ?_;rintro _ Y ⟨rfl,S',D',H',pc',col',colR',r,y,s⟩;have O:=iJ y;have C:=iJ ((Fx.keep d.o).trans s (λ_ _ e=>e))
  have J:=iJ r;clear y s f r;go_wp2_with fail
  go_ret;exact⟨rfl,S',D',H',pc',col',colR',J.o,O.o,C.o⟩
theorem xS(h:Wo v w wb b rb pb mb S D H pc col colR aW cW W K M)(f:M<=100000000000)(o:Oq)(j:Po2 w col colR o.p):
 Calls prog 10 #[.pointer (some ⟨wb,0,none⟩),o.vl] w λe w'=>Nx v w wb b rb pb mb col colR aW W K M e w':=by
 by_cases d:o.kind=0\/o.kind=1
 . exact(rS v w wb b rb pb mb S D H pc col colR aW cW W K M h f o d j).mono λ_ _ e=>e.nx
 by_cases d:o.kind=2
 . exact(Eo v w wb b rb pb mb S D H pc col colR aW cW W K M h f o d).mono λ_ _ e=>e.nx
 by_cases d:o.kind=3\/o.kind=6
 . exact Hq v w wb b rb pb mb S D H pc col colR aW cW W K M h f o d
 by_cases d:o.kind=4
 . exact(Ej v w wb b rb pb mb S D H pc col colR aW cW W K M h f o d).mono λ_ _ e=>e.nx
 by_cases d:o.kind=5
 . exact(Il v w wb b rb pb mb S D H pc col colR aW cW W K M h f o d).mono λ_ _ e=>e.nx
 by_cases d:o.kind=7
 . exact(If v w wb b rb pb mb S D H pc col colR aW cW W K M h f o d).mono λ_ _ e=>e.nx
 by_cases d:o.kind=8
 . exact(Hz v w wb b rb pb mb S D H pc col colR aW cW W K M h f o d).mono λ_ _ e=>e.nx
 by_cases d:o.kind=9
 . exact(Ib v w wb b rb pb mb S D H pc col colR aW cW W K M h f o d).mono λ_ _ e=>e.nx
 by_cases d:o.kind=10
 . exact GM v w wb b rb pb mb S D H pc col colR aW cW W K M h f o d
 by_cases d:o.kind=11
 . exact(GQ v w wb b rb pb mb S D H pc col colR aW cW W K M h f o d).mono λ_ _ e=>e.nx
 by_cases d:o.kind=12
 . exact(Hl v w wb b rb pb mb S D H pc col colR aW cW W K M h f o d).mono λ_ _ e=>e.nx
 by_cases d:o.kind=13
 . exact(Ge v w wb b rb pb mb S D H pc col colR aW cW W K M h f o d).mono λ_ _ e=>e.nx
 by_cases d:o.kind=14
 . exact Gu v w wb b rb pb mb S D H pc col colR aW cW W K M h f o d
 by_cases d:o.kind=15
 . exact Gm v w wb b rb pb mb S D H pc col colR aW cW W K M h f o d
 exact(Gs v w wb b rb pb mb S D H pc col colR aW cW W K M h f o (by omega)).mono λ_ _ e=>e.nx
end
end Go.Proofs.YtbdkogimlbnlmaaGreat
