import Derived.Test.YtbdkogimlbnlmaaGreatWtB29
import Derived.Test.YtbdkogimlbnlmaaGreatWtB31
set_option linter.unusedVariables false
set_option linter.unusedSimpArgs false
set_option maxHeartbeats 16000000
set_option maxRecDepth 10000
namespace Go.Proofs.YtbdkogimlbnlmaaGreat
open Go.RowKit Go.Shelf
attribute [local go_sem] Oper.semAt_some
variable {b ob vb:Nat}{w:World}
def Nz(w:World)(ob vb b:Nat)(g:Int->Pv)(F:Nat->Prop)(pre:List Int)(W:World):Prop:=
 ∃a c,(∀k,F k↔k=ob\/Q.InA a k)/\W.heap[ob]?=some (.cells #[.slice a pre.length c] 36 (0,0))/\Q.Gw 39 6 W a c pre.length (nms (pre.map λn=>(n,g n)))/\(∀x,a=some x->w.heap.size<=x.block/\x.block≠ob/\x.block≠vb)/\W.cell? ⟨vb,0,none⟩=some (.pointer (some ⟨b,0,none⟩))/\Below w.heap.size w W
theorem Nz.abid{n:Nat}{g:Int->Pv}(h1:w.heap.size<=ob)(h2:vb<n)(h3:w.heap.size<=n):Q.kY n (Nz w ob vb b g):=λF s A B hs hb=>by
 obtain⟨a,c,e1,e2,e3,e4,e5,e6⟩:=hs;refine⟨a,c,e1,hb.same e2 (λh=>h.1 ((e1 ob).2 (.inl rfl))),e3.but hb (λx hx h=>h.1 ((e1 _).2 (.inr ⟨x,hx,rfl⟩))),e4,(hb.cell (p:=⟨vb,0,none⟩) (block_lt_of_cell e5) (λh=>by have:=h.2;have e:({block:=vb,off:=0,spot:=none}:Addr).block=vb:=rfl;omega)).trans e5,?_⟩
 exact((But.ofBelow (S:=λ_=>False) e6).trans hb (λk hk h=>by have:=h.2;omega)).below (λ_ _ h=>h)
theorem Nz.siz{g:Int->Pv}:Q.mL (Nz w ob vb b g):=λF s A hs k hk=>by
 obtain⟨a,c,e1,e2,e3,e4,e5,e6⟩:=hs;rcases (e1 k).1 hk with rfl|⟨x,hx,rfl⟩
 . exact(af.1 e2).1
 . exact e3.lt hx
def PgH(vb b mb:Nat)(x:Int)(q:Pv)(W:World):Prop:=W.cell? ⟨vb,0,none⟩=some (.pointer (some ⟨b,0,none⟩))/\W.cell? ⟨b,1,none⟩=some (.map (some mb))/\(Instr.lookup 81 (.map (some mb)) (.int .i64 x) false).run Tryz.prog W=.ok (.agg #[.int .i64 q.kind,.int .i64 q.level,.slice q.aI q.items.length q.cI,.slice q.aD q.data.length q.cD,.int .i64 q.next]) W
def VPg(w:World)(S:Vs)(z:Int)(e:Ending)(w':World):Prop:=
 ∃(tb:Nat)(a:Option Addr)(c:Nat),e=.returned (.func (.func 116) #[] #[.pointer (some ⟨tb,0,none⟩)])/\Below w.heap.size w w'/\w.heap.size<=tb/\w'.heap[tb]?=some (.cells #[.slice a (S.X.P.pages z).length c] 36 (0,0))/\Q.Gw 39 6 w' a c (S.X.P.pages z).length (nms ((S.X.P.pages z).map λn=>(n,S.X.on n)))/\∀x,a=some x->w.heap.size<=x.block
theorem qn(w:World)(b:Nat)(S:Vs)(pb mb:Nat)(pc col:Nat->Nat)(h:Vw w b S pb mb pc col)(z:Int):
 Calls Tryz.prog 52 #[.pointer (some ⟨b,0,none⟩),.int .i64 z] w λe w'=>VPg w S z e w':=by
 obtain⟨ac,cc,aa,ca,hq⟩:=h;refine(eQ (n:=0)).1 ?_;refine fb Tryz.func52 rfl trivial ?_ rfl;simp only[Tryz.ntmps52,da,bg,bh,Nat.reduceAdd,Nat.reduceSub,dw,dy,dG,dA,cO,dl];refine fU.2 ?_;have A0:=ig (bt (al w (.cells #[.pointer (some ⟨b,0,none⟩)] 41)) (al (w.alloc (.cells #[.pointer (some ⟨b,0,none⟩)] 41)) (.cells #[.slice none 0 0] 36)))
 have X0:Hid (((w.alloc (.cells #[.pointer (some ⟨b,0,none⟩)] 41)).alloc (.cells #[.slice none 0 0] 36)).cell? ⟨w.heap.size,0,none⟩=some (.pointer (some ⟨b,0,none⟩))):=by
  have c:=Q.iI w (.pointer (some ⟨b,0,none⟩)) 41;exact((al _ _).cell (p:=⟨w.heap.size,0,none⟩) (block_lt_of_cell c)).trans c
 have O0:Hid (((w.alloc (.cells #[.pointer (some ⟨b,0,none⟩)] 41)).alloc (.cells #[.slice none 0 0] 36)).heap[w.heap.size+1]?=some (.cells #[.slice none 0 0] 36 (0,0))):=by
  have c:=aH (w.alloc (.cells #[.pointer (some ⟨b,0,none⟩)] 41)) (.cells #[.slice none 0 0] 36);rw[size_alloc] at c;exact c
 have SZ0:Hid (((w.alloc (.cells #[.pointer (some ⟨b,0,none⟩)] 41)).alloc (.cells #[.slice none 0 0] 36)).heap.size=w.heap.size+1+1):=by show _=_;rw[size_alloc,size_alloc]
 have HQ:=ig hq;have HQ0:=ig (hq.keep A0.o);have PG:=ig (Q.sg _ pb S.X.P pc HQ0.o.pool z)
 have HPL:Hid ((S.X.P.pages z).length<=65536):=by
  obtain⟨_,k⟩:=hq.pool;exact S.X.P.pages_len k.ok z
 obtain⟨c0,c1,c2,c3,c4⟩:=HQ0.o.cells;have x0:=X0.o;dsimp only at c0 c1;clear hq c2 c3 c4;go_wp2_with fail
 generalize (w.alloc (.cells #[.pointer (some ⟨b,0,none⟩)] 41)).alloc (.cells #[.slice none 0 0] 36)=W0 at *;refine PG.o.mono ?_;rintro _ W1 ⟨gf,lb,X,rfl,hW⟩;have HW:=ig hW;have B1:=ig (bt A0.o hW.bl);have s0:=SZ0.o;have s1:W0.heap.size<=W1.heap.size:=hW.bl.size;have Z1:Hid (Nz w (w.heap.size+1) w.heap.size b S.X.on (λk=>k=w.heap.size+1\/Q.InA none k) [] W1):=⟨none,0,λk=>fQ,(hW.bl.block _ (af.1 O0.o).1).trans O0.o,Q.Gw.nil _ _ _,λx hx=>(by cases hx),(hW.bl.cell (p:=⟨w.heap.size,0,none⟩) (block_lt_of_cell x0)).trans x0,B1.o⟩
 have sX:=hW.nw;clear hW PG c0 c1 x0;go_wp2_with fail
 refine(fU (n:=0)).1 ?_;obtain⟨ob,hob⟩:∃ob,w.heap.size+1=ob:=⟨_,rfl⟩;rw[hob] at Z1 s0;simp only[hob]
 refine Q.wp_rangeF (gf:=gf) (lb:=lb) rfl HW.o.en HW.o.seq (But.refl _ _) (λk hk=>(sX k hk).2) (λ_=>rfl)
  (λk=>k=ob\/Q.InA none k)
  (λk hk hx=>by
    have:=(sX k hx).1;rcases hk with rfl|⟨y,hy,rfl⟩
    . omega
    . cases hy)
  (Nz w ob w.heap.size b S.X.on)
  (λc F pre W=>False)
  (Nz.abid (by omega) (by omega) (by omega))
  Nz.siz
  (λc F s A B hs hb=>hs)
  (λc F s A hs=>hs.elim)
  Z1.o ?round ?done ?stop
 case round=>
  rintro l F pre x rest W hxs hz hsz hFs hFl hl1 hl2 hBw;unfold Q.enI;gi_wp2
  refine⟨Below.refl _ _,λW3 h3=>?_⟩
  have z3:Nz w ob w.heap.size b S.X.on F pre W3:=Nz.abid (n:=W1.heap.size) (by omega) (by omega) (by omega) _ _ _ _ hz (h3.mono λk _ hk=>⟨λhf=>hFl (by rw[hk] at hf;exact hf),by omega⟩)
  obtain⟨a,c,e1,e2,e3,e4,e5,e6⟩:=z3;have lp:(pre++[x]).length=pre.length+1:=by simp
  have lx:pre.length+1<=65536:=by have:=HPL.o;rw[hxs,ae,bg] at this;omega
  obtain⟨m,hm⟩:∃m,pre.length=m:=⟨_,rfl⟩;obtain⟨q,hq⟩:∃q,S.X.on x=q:=⟨_,rfl⟩
  have LO:Hid (∀W:World,Below w.heap.size w W->W.cell? ⟨w.heap.size,0,none⟩=some (.pointer (some ⟨b,0,none⟩))->PgH w.heap.size b mb x q W):=λW hb hv=>by
   have k:=HQ.o.keep hb;have k1:=k.cells.2.1;have k2:=rB k x;refine⟨hv,k1,?_⟩;have e:lN ⟨pb,mb,S.X.f,ac,cc,S.X.ch,aa,ca,S.al⟩ x=q:=hq;rw[e] at k2;exact k2
  have bW3:Below w.heap.size w W3.drew:=bt e6 (dr2 W3);have v3:W3.drew.cell? ⟨w.heap.size,0,none⟩=some (.pointer (some ⟨b,0,none⟩)):=e5;have o3:W3.drew.heap[ob]?=some (.cells #[.slice a m c] 36 (0,0)):=by rw[<-hm];exact e2
  have hs3:w.heap.size<W3.drew.heap.size:=block_lt_of_cell v3;have hob3:ob<W3.drew.heap.size:=(af.1 o3).1;have A4:=ig (al W3.drew (.cells #[.int .i64 x,.int .i64 q.kind,.int .i64 q.level,.slice q.aI q.items.length q.cI,.slice q.aD q.data.length q.cD,.int .i64 q.next] 39));have X4:Hid ((W3.drew.alloc (.cells #[.int .i64 x,.int .i64 q.kind,.int .i64 q.level,.slice q.aI q.items.length q.cI,.slice q.aD q.data.length q.cD,.int .i64 q.next] 39)).heap[W3.drew.heap.size]?=some (.cells #[.int .i64 x,.int .i64 q.kind,.int .i64 q.level,.slice q.aI q.items.length q.cI,.slice q.aD q.data.length q.cD,.int .i64 q.next] 39 (0,0))):=aH _ _;have G4:Hid (Q.Gw 39 6 (W3.drew.alloc (.cells #[.int .i64 x,.int .i64 q.kind,.int .i64 q.level,.slice q.aI q.items.length q.cI,.slice q.aD q.data.length q.cD,.int .i64 q.next] 39)) a c m (nms (pre.map λn=>(n,S.X.on n)))):=by rw[<-hm];exact(e3.keep (dr2 W3)).keep A4.o
  have o4:(W3.drew.alloc (.cells #[.int .i64 x,.int .i64 q.kind,.int .i64 q.level,.slice q.aI q.items.length q.cI,.slice q.aD q.data.length q.cD,.int .i64 q.next] 39)).cell? ⟨ob,0,none⟩=some (.slice a m c):=dT ((A4.o.block ob hob3).trans o3);have o4b:(W3.alloc (.cells #[.int .i64 x,.int .i64 q.kind,.int .i64 q.level,.slice q.aI q.items.length q.cI,.slice q.aD q.data.length q.cD,.int .i64 q.next] 39)).drew.cell? ⟨ob,0,none⟩=some (.slice a m c):=o4;have v4:=(A4.o.cell (p:=⟨w.heap.size,0,none⟩) hs3).trans v3;have H3:=ig (LO.o _ bW3 v3);have H4:=ig (LO.o _ (bt bW3 A4.o) v4)
  have FIN:Hid (∀(g cap':Nat)(w5:World),Q.Gw 39 6 w5 (some ⟨g,0,none⟩) cap' (m+1) (nms (pre.map λn=>(n,S.X.on n))++nmc (x,q))->New (W3.drew.alloc (.cells #[.int .i64 x,.int .i64 q.kind,.int .i64 q.level,.slice q.aI q.items.length q.cI,.slice q.aD q.data.length q.cD,.int .i64 q.next] 39)) a (some ⟨g,0,none⟩)->But (Q.InA a) (W3.drew.alloc (.cells #[.int .i64 x,.int .i64 q.kind,.int .i64 q.level,.slice q.aI q.items.length q.cI,.slice q.aD q.data.length q.cD,.int .i64 q.next] 39)) w5->
   (w5.cell? ⟨ob,0,none⟩=some (.slice a m c)/\w5.frozen? ⟨ob,0,none⟩=false)/\PgH w.heap.size b mb x q w5/\PgH w.heap.size b mb x q (w5.setCell ⟨ob,0,none⟩ (.slice (some ⟨g,0,none⟩) (m+1) cap'))/\∃F':Nat->Prop,But F W3 (w5.setCell ⟨ob,0,none⟩ (.slice (some ⟨g,0,none⟩) (m+1) cap'))/\(∀k,F' k->F k\/W3.heap.size<=k)/\Nz w ob w.heap.size b S.X.on F' (pre++[x]) (w5.setCell ⟨ob,0,none⟩ (.slice (some ⟨g,0,none⟩) (m+1) cap'))):=λg cap' w5 hR hN hB=>by
   have b5:But (Q.InA a) W3.drew w5:=(But.ofBelow (S:=Q.InA a) A4.o).trans hB (λ_ _ h=>h)
   have o5:=b5.same o3 (λ⟨y,hy,e⟩=>(e4 y hy).2.1 e)
   have v5:=(b5.cell (p:=⟨w.heap.size,0,none⟩) hs3 (λ⟨y,hy,e⟩=>(e4 y hy).2.2 e)).trans v3
   have gb:w.heap.size<=g/\g≠ob/\g≠w.heap.size/\(F g\/W3.heap.size<=g):=by
    rcases hN ⟨g,0,none⟩ rfl with⟨y,hy,e⟩|h2
    . have e:y.block=g:=e;rw[<-e];exact⟨(e4 y hy).1,(e4 y hy).2.1,(e4 y hy).2.2,.inl ((e1 _).2 (.inr ⟨y,hy,rfl⟩))⟩
    . have h2:(W3.drew.alloc (.cells #[.int .i64 x,.int .i64 q.kind,.int .i64 q.level,.slice q.aI q.items.length q.cI,.slice q.aD q.data.length q.cD,.int .i64 q.next] 39)).heap.size<=g:=h2;have h2:=aO A4.o.size h2;have e0:W3.drew.heap.size=W3.heap.size:=rfl;exact⟨by omega,by omega,by omega,.inr (by omega)⟩
   have b6:But (λk=>k=ob) w5 (w5.setCell ⟨ob,0,none⟩ (.slice (some ⟨g,0,none⟩) (m+1) cap')):=(But.refl (λk=>k=ob) w5).setCell (p:=⟨ob,0,none⟩) (λ_=>rfl) _
   have o6:=one_setCell (u:=.slice (some ⟨g,0,none⟩) (m+1) cap') o5;have v6:=(b6.cell (p:=⟨w.heap.size,0,none⟩) (block_lt_of_cell v5) (λe=>by have e:w.heap.size=ob:=e;omega)).trans v5
   have bw5:Below w.heap.size w w5:=((But.ofBelow (S:=λ_=>False) bW3).trans b5 (λk hk ⟨y,hy,e⟩=>by have:=(e4 y hy).1;omega)).below (λ_ _ h=>h)
   have bw6:Below w.heap.size w (w5.setCell ⟨ob,0,none⟩ (.slice (some ⟨g,0,none⟩) (m+1) cap')):=((But.ofBelow (S:=λ_=>False) bw5).trans b6 (λk hk e=>by omega)).below (λ_ _ h=>h)
   have lpm:(pre++[x]).length=m+1:=by rw[<-hm];exact lp
   refine⟨⟨dT o5,free_of_one o5⟩,LO.o _ bw5 v5,LO.o _ bw6 v6,λk=>k=ob\/Q.InA (some ⟨g,0,none⟩) k,?_,?_,some ⟨g,0,none⟩,cap',λk=>fQ,by rw[lpm];exact o6,?_,λy hy=>by cases hy;exact⟨gb.1,gb.2.1,gb.2.2.1⟩,v6,bw6⟩
   . have b35:But F W3 w5:=((But.refl F W3).drew).trans (b5.mono (λk _ hk=>(e1 k).2 (.inr hk))) (λ_ _ h=>h)
     exact b35.trans b6 (λk _ hk=>(e1 k).2 (.inl hk))
   . rintro k (rfl|⟨y,hy,rfl⟩)
     . exact .inl ((e1 _).2 (.inl rfl))
     . cases hy;exact gb.2.2.2
   . have r:=hR.but b6 (λy hy=>by cases hy;exact gb.2.1)
     rw[lpm,bL,qh];show Q.Gw _ _ _ _ _ _ (_++nms [(x,S.X.on x)]);rw[vL,hq];exact r
  have HML:Hid (m+1<=65536):=by show _<=_;omega
  have hml:m+1<=maxLen:=by unfold maxLen;omega
  have o3c:=dT o3;clear e1 e2 e3 e4 e5 e6 h3 hz hxs hFs hBw HW hm hq lp lx o3 bW3 LO hl1 hl2 hFl hsz s0 s1 sX;gi_wp2
  refine ie (by kernel_rfl) (Q.ko (Q.lF (by kernel_rfl)) (λ⟨_,_,h⟩=>h) _ _ _ _ (wpAny_of_held (S:=λW=>W.cell? ⟨w.heap.size,0,none⟩=some (.pointer (some ⟨b,0,none⟩))/\W.cell? ⟨b,1,none⟩=some (.map (some mb))/\(Instr.lookup 81 (.map (some mb)) (.int .i64 x) false).run Tryz.prog W=.ok (.agg #[.int .i64 q.kind,.int .i64 q.level,.slice q.aI q.items.length q.cI,.slice q.aD q.data.length q.cD,.int .i64 q.next]) W) _ _ _ _ ?_))
  have hHeld:=H3.o;change wpAnyH _ _ _ _ _ _ _ _ W3.drew;refine tkd 1 2 3 4 ?_;refine tkd 5 6 7 8 ?_;refine eO (rs:=[0,9]) (by kernel_rfl) (by simp) ?_
  refine(AllReadyH.cons rfl (λKx hK=>?_) (AllReadyH.cons rfl (λKx hK=>?_) AllReadyH.nil))
  all_goals
   first
   |go_simp
    refine hK.o _ _ (H3.o) (λhHeld=>?_)
    refine tw 9 λKx hK=>?_
    go_simp;refine hK.o _ _ (H4.o) (λhHeld=>?_)
    try simp only[pt]
   |go_simp
    refine hK.o _ _ (H4.o) (λhHeld=>?_)
    refine tw 0 λKx hK=>?_
    go_simp;refine hK.o _ _ (H4.o) (λhHeld=>?_)
   refine tw 10 λKx hK=>?_
   refine lv Tryz.underlying36 rA rfl (by decide) rfl _ _ rfl a m c (nms (pre.map λn=>(n,S.X.on n))) (by first|(simp[Act.eval];done)|simp[Act.eval,Act.put]) G4.o ⟨W3.drew.heap.size,0,none⟩ 1 (nmc (x,q)) (by first|(simp[Act.eval];done)|simp[Act.eval,Act.put]) rfl (rm X4.o) qX hml (by have:=HML.o;omega) ?_
   intro g5 c5 w5 hG5 hN5 hB5;obtain⟨⟨y5,z5⟩,k5,k6,fin⟩:=FIN.o g5 c5 w5 hG5 hN5 hB5;have FI:=ig fin;have K6:=ig k6;clear hG5 hN5 hB5 fin k6 FIN;refine hK.o _ _ k5 (λhHeld=>?_)
   clear k5;refine tw 11 λKx hK=>?_
   go_simp;refine hK.o _ _ K6.o (λhHeld=>?_)
   refine td ?_;exact FI.o
 case done=>
  rintro D F Wx hD hFD hz hBw hFs hK;obtain⟨a,c,e1,e2,e3,e4,e5,e6⟩:=hz
  have FIN:Hid (∀o,Below w.heap.size w (Wx.putObj D o)/\w.heap.size<=ob/\(Wx.putObj D o).heap[ob]?=some (.cells #[.slice a (S.X.P.pages z).length c] 36 (0,0))/\Q.Gw 39 6 (Wx.putObj D o) a c (S.X.P.pages z).length (nms ((S.X.P.pages z).map λn=>(n,S.X.on n)))/\∀x,a=some x->w.heap.size<=x.block):=λo=>by
   have bD:But (λk=>k=D) Wx (Wx.putObj D o):=(But.refl (λk=>k=D) Wx).putObj (λ_=>rfl) o
   exact⟨((But.ofBelow (S:=λ_=>False) e6).trans bD (λk hk e=>by omega)).below (λ_ _ h=>h),by omega,bD.same e2 (λe=>hFD ((e1 D).2 (.inl e.symm))),e3.but bD (λx hx e=>hFD ((e1 D).2 (.inr ⟨x,hx,e⟩))),λx hx=>(e4 x hx).1⟩
  have HK:=ig hK;clear e1 e2 e3 e4 e5 e6 hK hBw hFs HW Z1;go_wp2;refine⟨by simp,.inl ⟨_,_,rfl,ee HK.o,?_⟩⟩
  exact⟨_,results_tmp rfl _ _ _,ob,a,c,rfl,FIN.o _⟩
 case stop=>
  rintro D c' F pre rest Wx hD hFD hxs hz;exact hz.elim
end Go.Proofs.YtbdkogimlbnlmaaGreat
namespace Go.Proofs.YtbdkogimlbnlmaaGreat
open Go.RowKit
variable {c:Nat}{a:Option Addr}{w:World}
theorem oj{e:TypeId}{sz:Nat}{n:Nat}{C:List Value}(h:Q.Gw e sz w a c n C):n<=9223372036854775807:=by
 obtain⟨_,⟨_,h⟩|⟨g,cap,cur,h1,h2,h3,h4,h5,_⟩⟩:=h
 . omega
 . have:cap<=9223372036854775807:=h5;omega
section
variable {v w w' w1:World} {wb b rb pb mb:Nat} {S:Vs} {D:Rd} {H:List Sn} {pc col colR:Nat->Nat} {aW:Option Addr} {cW:Nat} {W:List Wl} {K K':Bkk} {M N:Nat}
theorem Vw.on_pz(h:Vw w b S pb mb pc col)(z:Int):Pz (λk=>col k=6) w (S.X.on z):=by
 obtain⟨ac,cc,aa,ca,hq⟩:=h;unfold Vm.on;cases hz:S.X.f z with
 |none=>exact Pz.zero _ _
 |some p=>exact hq.fz z p hz
def mT(S:Vs)(z:Int):List (Int×Pv):=(S.X.P.pages z).map λn=>(n,S.X.on n)
theorem p8(h:Va v w b rb pb mb S D H pc col colR)(ht:Tw S D H M){z:Int}{tb:Nat}{a:Option Addr}{c:Nat}(hb:Below w.heap.size w w')(h1:w.heap.size<=tb)(h2:w'.heap[tb]?=some (.cells #[.slice a (S.X.P.pages z).length c] 36 (0,0)))(h3:Q.Gw 39 6 w' a c (S.X.P.pages z).length (nms (mT S z)))(h4:∀x,a=some x->w.heap.size<=x.block):Wt v w' col colR tb a c (mT S z):=by
 have el:(mT S z).length=(S.X.P.pages z).length:=a7 _;have sv:=h.bl.size;refine⟨by rw[el];exact h2,⟨(h.z h1).1,(h.z h1).2,by omega⟩,by rw[el];exact h3,λy hy=>⟨(h.z (h4 y hy)).1,(h.z (h4 y hy)).2,by have:=h4 y hy;omega⟩,λx hx=>?_,λx hx=>?_⟩
 . obtain⟨n,_,rfl⟩:=bG.1 hx;exact(h.V.keep hb).on_pz n
 . obtain⟨n,_,rfl⟩:=bG.1 hx;exact ht.now.sm n
theorem mM(h:Va v w b rb pb mb S D H pc col colR){a:Option Addr}{c:Nat}{L:List (Int×Pv)}(hN:Nn w w' a c L):Wn v w' col colR a c L:=by
 have sv:=h.bl.size
 have nw:∀y,a=some y->w.heap.size<=y.block:=λy hy=>by
  rcases hN.n y hy with⟨_,e,_⟩|e
  . cases e
  . exact e
 exact⟨hN.r,λy hy=>⟨(h.z (nw y hy)).1,(h.z (nw y hy)).2,by have:=nw y hy;omega⟩,λx hx=>⟨(hN.p x hx).1.pre sv,(hN.p x hx).2,λk hk=>h.z ((hN.p x hx).1.blk_new hk)⟩⟩
theorem lO(ht:Tw S D H M){z:Int}{L:List (Int×Pv)}(hL:nmg L=D.listed z D.C.length):nmg (mT S z)=nmg L:=by
 rw[hL,<-ht.listed z];unfold nmg mT;rw[List.map_map];rfl
theorem Wo.gone(h:Wo v w wb b rb pb mb S D H pc col colR aW cW W K M){L:List (Int×Pv)}{e:Ending}(hg:GoQ v w wb b rb col colR (.slice aW W.length cW) K L e w'):e=.returned (.bool true)/\∃K',Wo v w' wb b rb pb mb S D H pc col colR aW cW W K' M/\But (j7 wb K) w w'/\∀n,n<=w.heap.size->(∀x∈L,∀k,k<n->Blk x.2 k->mP wb aW W K k)->Sb n wb aW W K aW W K':=by
 obtain⟨rfl,K',hB,h4,he,ht,hx,ho,hb⟩:=hg;refine⟨rfl,K',h.booked hb hB h4 he (λq hq=>(ht q hq).imp id (λe=>⟨e.1,λk hk x hx j hj hj2=>?_⟩)),hb,λn hn hL=>Sb.book (λq hq=>(ht q hq).imp id (λe k hk hk2=>by have:=e.2 k hk2;omega)) (λq hq=>(hx q hq).imp id (λ⟨x,hx,e⟩ k hk hk2=>hL x hx k hk (e▸hk2))) (λk hk=>(ho k hk).imp id (λe=>by omega))⟩
 have:=((h.wn k hk).np x hx).n.blk_lt hj2;have:=e.2 j hj;omega
theorem Wo.up(h:Wo v w wb b rb pb mb S D H pc col colR aW cW W K M)(hN:M<=N):Wo v w wb b rb pb mb S D H pc col colR aW cW W K N:=h.ws.wo h (h.tw.same (Rd.Al.refl _) hN) hN
end
section
variable (v w:World) (wb b rb pb mb:Nat) (S:Vs) (D:Rd) (H:List Sn) (pc col colR:Nat->Nat) (aW:Option Addr) (cW:Nat) (W:List Wl) (K:Bkk) (M:Nat)
theorem Fd(h:Wo v w wb b rb pb mb S D H pc col colR aW cW W K M)(hM:M<=100000000000)(o:Oq)(hk:o.kind=10):
 Calls Tryz.prog 10 #[.pointer (some ⟨wb,0,none⟩),o.vl] w λe w'=>Nx v w wb b rb pb mb col colR aW W K M e w':=by
 have OV:Hid (o.vl=.agg o.cs):=rfl;rw[OV.o];have A0:=ig (al w (.cells o.cs 33));have X0:=ig (aH w (.cells o.cs 33));have Z0:=ig (h.va.z (ai w.heap.size));have H1:=ig (h.ws.keep A0.o);have HW:=ig h;have hM2:M<=1000000000000:=by omega
 clear h;go_enter Tryz.func10,Tryz.ntmps10;obtain⟨c0,c1,c2,c3,c4,c5,c6,c7⟩:=ij X0.o;rw[hk] at c0;go_upto_region 36 with fail
 generalize w.alloc (.cells o.cs 33)=w1 at *;clear hk;obtain⟨gi,hgi⟩:∃gi,w.heap.size=gi:=⟨_,rfl⟩;simp only[hgi] at X0 Z0 c0 c1 c2 c3 c4 c5 c6 c7 ⊢;clear hgi;have DR:=ig (dr2 w1);have SS:Hid (∀W:World,Below w1.heap.size w1 W->W.cell? ⟨wb,0,none⟩=some (.pointer (some ⟨b,0,none⟩))/\W.cell? ⟨wb,1,none⟩=some (.pointer (some ⟨rb,0,none⟩))/\W.cell? ⟨gi,1,none⟩=some (.int .i64 o.n)/\W.cell? ⟨gi,2,none⟩=some (.int .i64 o.k)):=λW hb=>⟨((H1.o.keep hb).cells).1,((H1.o.keep hb).cells).2.1,(ij (im X0.o hb)).2.1,(ij (im X0.o hb)).2.2.1⟩
 clear c0 c1 c2 c3 c4 c5 c6 c7;have PA:=ig λ(W:World)(hb:Below w1.heap.size w1 W)=>qn W b S pb mb pc col ((H1.o.keep hb).va.V) o.n
 have PD:=ig λ(W:World)(hb:Below w1.heap.size w1 W)=>qJ W rb D colR ((H1.o.keep hb).va.R.q) o.n
 refine wrd SS DR.o λhHeld=>?_
 refine tkd 0 1 2 3 ?_;refine tkd 4 5 6 8 ?_;refine tkd 9 10 11 12 ?_;refine tkb 13 15 ?_;refine tk 16 ?_;refine tw 7 λKx hK=>?_
 go_simp;refine(PA.o _ DR.o).mono ?_;rintro _ w2 ⟨tb,a,c,rfl,hb2,ht2,hx2,hg2,ha2⟩;have B1:=ig (bt DR.o hb2);have T2:=ig (p8 (H1.o.keep DR.o).va HW.o.tw hb2 ht2 hx2 hg2 ha2);clear hb2 ht2 hx2 hg2 ha2 PA;go_wp2_with fail
 refine hK.o _ _ (SS.o _ B1.o) (λhHeld=>?_)
 refine tw 14 λKx hK=>?_
 go_simp;refine(PD.o _ B1.o).mono ?_;rintro _ w3 ⟨aN,cN,N,rfl,hn3,hl3⟩;have B2:=ig (bt B1.o hn3.b);have T3:=ig (T2.o.keep hn3.b);have N3:=ig (mM (H1.o.keep B1.o).va hn3);have E3:=ig (lO HW.o.tw hl3);have LG:=ig (nO v w3 wb b rb col colR (.slice aW W.length cW) K (H1.o.keep B2.o).wr.bo HW.o.eq HW.o.l4 (λk hk=>(H1.o.keep B2.o).va.z hk) (λk hk=>eE λe=>hk ((H1.o.keep B2.o).va.z (gM e)).1) (H1.o.keep B2.o).va.bl.size tb a c _ T3.o aN cN N N3.o E3.o (λp hp x hx j h1 h2=>by have:=(H1.o.wr.bo.tp p hp).n.blk_lt h1;have:=(hn3.p x hx).1.blk_new h2;have:=B1.o.size;omega) (oj T3.o.lr) o.k)
 have NW:Hid (∀x∈N,∀k,Blk x.2 k->w2.heap.size<=k):=λx hx k hk=>(hn3.p x hx).1.blk_new hk
 clear hn3 hl3 PD;go_wp2_with fail
 refine hK.o _ _ (SS.o _ B2.o) (λhHeld=>?_)
 refine tw 17 λKx hK=>?_
 go_simp;refine(LG.o).mono ?_;rintro e4 w4 hg4;obtain⟨rfl,K4,wo4,hb4,sb4⟩:=(HW.o.keep (bt A0.o B2.o)).gone hg4;have SB4:Hid (Sb w.heap.size wb aW W K aW W K4):=sb4 _ (bt A0.o B2.o).size (λx hx k hk hk2=>by have:=NW.o x hx k hk2;have:=(bt A0.o B1.o).size;omega)
 have WO:=ig wo4;have HB4:=ig hb4;have X4:=ig (hb4.same (im X0.o B2.o) ((H1.o.keep B2.o).wr.bo.box_off (im X0.o B2.o) (by decide) (by decide) (by decide) (by decide)))
 clear hg4 wo4 hb4 sb4 LG;go_wp2_with fail
 refine hK.o _ _ (⟨WO.o.ws.cells.1,WO.o.ws.cells.2.1,(ij X4.o).2.1,(ij X4.o).2.2.1⟩) (λhHeld=>?_)
 refine tk 18 ?_;refine td ?_;clear hHeld SS;go_wp2_with fail
 go_ret;exact⟨rfl,S,D,H,pc,col,colR,aW,cW,W,K4,WO.o.up (by omega),(Fx.keep (bt A0.o B2.o)).trans (Fx.booked (aW:=aW) HB4.o) (λ_ _ e=>e),SB4.o⟩
end
theorem rd:∀(W:List Wl)(i k:Nat)(x:Wl),W[i]?=some x->k<2->(wlv W)[i*2+k]?=x.cs[k]?
 | [],i,k,x,h,_=>by simp at h
 |y::W,0,k,x,h,hk=>by
  have hl:(y.cs).length=2:=rfl;simp only[gB,aE] at h;subst h;simp only[wlv,bC,dH,dX,bH];rw[br (by omega)]
 |y::W,i+1,k,x,h,hk=>by
  have hl:(y.cs).length=2:=rfl;rw[dU] at h;have ih:=rd W i k x h hk;simp only[wlv,bC,dH] at ih ⊢;rw[bj (by omega),hl,show(i+1)*2+k-2=i*2+k by omega,ih]
theorem mD{W:List Wl}(h:Q.Gw 107 2 w a c W.length (wlv W)){i:Nat}{x:Wl}(hx:W[i]?=some x):∃g,a=some ⟨g,0,none⟩/\w.cell? ⟨g,i*2,none⟩=some x.fn/\w.cell? ⟨g,i*2+1,none⟩=some (.slice x.aN x.N.length x.cN):=by
 have hi:i<W.length:=(bz.1 hx).1;obtain⟨g,e⟩:=h.addr (by omega)
 have r:=h;rw[e] at r;exact⟨g,e,r.cell (by have:=rd W i 0 x hx (by decide);rw[cE] at this;rw[this];rfl),r.cell (by rw[rd W i 1 x hx (by decide)];rfl)⟩
section
variable (v w:World) (wb b rb pb mb:Nat) (S:Vs) (D:Rd) (H:List Sn) (pc col colR:Nat->Nat) (aW:Option Addr) (cW:Nat) (W:List Wl) (K:Bkk) (M:Nat)
theorem EJ(h:Wo v w wb b rb pb mb S D H pc col colR aW cW W K M)(hM:M<=100000000000)(o:Oq)(hk:o.kind=15):
 Calls Tryz.prog 10 #[.pointer (some ⟨wb,0,none⟩),o.vl] w λe w'=>Nx v w wb b rb pb mb col colR aW W K M e w':=by
 have OV:Hid (o.vl=.agg o.cs):=rfl;rw[OV.o];have A0:=ig (al w (.cells o.cs 33));have X0:=ig (aH w (.cells o.cs 33));have Z0:=ig (h.va.z (ai w.heap.size));have H1:=ig (h.ws.keep A0.o);have HW:=ig h;have hM2:M<=1000000000000:=by omega
 clear h;go_enter Tryz.func10,Tryz.ntmps10;obtain⟨c0,c1,c2,c3,c4,c5,c6,c7⟩:=ij X0.o;rw[hk] at c0;go_upto_region 49 with fail
 generalize w.alloc (.cells o.cs 33)=w1 at *;clear hk;obtain⟨gi,hgi⟩:∃gi,w.heap.size=gi:=⟨_,rfl⟩;simp only[hgi] at X0 Z0 c0 c1 c2 c3 c4 c5 c6 c7 ⊢;clear hgi;have DR:=ig (dr2 w1);clear c0 c1 c3 c4 c5 c6 c7 DR;obtain⟨n,hn⟩:∃n,W.length=n:=⟨_,rfl⟩;have HN:=ig hn;have wb2:w1.cell? ⟨wb,2,none⟩=some (.slice aW n cW):=by rw[<-hn];exact H1.o.cells.2.2.1
 clear hn;have SAME:Hid (Nx v w wb b rb pb mb col colR aW W K M (.returned (.bool true)) w1):=⟨rfl,S,D,H,pc,col,colR,aW,cW,W,K,(HW.o.keep A0.o).up (by omega),Fx.keep A0.o,λ_ _ e=>e⟩
 by_cases h0:n=0
 . subst h0;go_wp2_with fail
   go_ret;exact SAME.o
 have hnI:¬((n:Int)=0):=by omega
 have hnb:((n:Int)==0)=false:=by simp;omega
 have hnb2:(n==0)=false:=by simp;omega
 by_cases hk0:o.k<0
 . have dk:decide (o.k<0)=true:=ay hk0;go_wp2_with fail
   go_ret;exact SAME.o
 have dk:decide (o.k<0)=false:=ax hk0;obtain⟨kk,hkk⟩:∃kk:Nat,o.k=(kk:Int):=⟨o.k.toNat,by omega⟩
 rw[hkk] at dk hk0 c2;have HKK:=ig hkk;clear hkk SAME;obtain⟨i,hi⟩:∃i,kk%n=i:=⟨_,rfl⟩;have hin:i<n:=by rw[<-hi];exact fu _ (by omega)
 have hrem:((kk:Int)).tmod (n:Int)=(i:Int):=by rw[<-hi];rfl
 have hrem2:((kk:Int))%(n:Int)=(i:Int):=by rw[<-hi];rfl
 have hiI:(i:Int)<(n:Int):=by omega
 have HG:=ig HW.o.gw;have hmx:=oj HG.o;rw[HN.o] at hmx;have wri:IntKind.i64.wrap (i:Int)=(i:Int):=iw (by omega) (by omega)
 obtain⟨x,hx⟩:∃x,W[i]?=some x:=⟨_,aU (by rw[HN.o];exact hin)⟩
 have HX:=ig hx;obtain⟨g,hg⟩:∃g,aW=some ⟨g,0,none⟩:=⟨_,(mD HW.o.gw hx).choose_spec.1⟩;have HAG:=ig hg
 have SS:Hid (∀V:World,Below w1.heap.size w1 V->V.cell? ⟨wb,2,none⟩=some (.slice (some ⟨g,0,none⟩) n cW)/\V.cell? ⟨gi,2,none⟩=some (.int .i64 (kk:Int))/\V.cell? ⟨g,i*2,none⟩=some (.func (.func 116) #[] #[.pointer (some ⟨x.tb,0,none⟩)])/\V.cell? ⟨g,i*2+1,none⟩=some (.slice x.aN x.N.length x.cN)):=λV hb=>by
  have c:=(H1.o.keep hb).cells;obtain⟨g',e1,e2,e3⟩:=mD (H1.o.keep hb).wr.gw hx;rw[hg] at e1;cases e1;exact⟨by rw[c.2.2.1,hg,HN.o],by rw[<-HKK.o];exact(ij (im X0.o hb)).2.2.1,e2,e3⟩
 clear hx hi HG;rw[hg] at wb2;clear hg;go_upto_region 51 with fail
 have DR:=ig (dr2 w1);refine wrd SS DR.o λhHeld=>?_
 refine tkd 0 1 2 3 ?_;refine tkd 4 5 6 7 ?_;refine tkd 8 9 10 11 ?_;refine tkb 12 13 ?_;refine tw 14 λKx hK=>?_
 go_simp;have AL:=ig (bt (al w1 (.cells #[.nilFunc,.slice none 0 0] 107)) (dr2 (w1.alloc (.cells #[.nilFunc,.slice none 0 0] 107))));have XJ:Hid ((w1.alloc (.cells #[.nilFunc,.slice none 0 0] 107)).drew.heap[w1.heap.size]?=some (.cells #[.nilFunc,.slice none 0 0] 107 (0,0))):=aH w1 (.cells #[.nilFunc,.slice none 0 0] 107);refine hK.o _ _ (SS.o _ AL.o) (λhHeld=>?_)
 try simp only[pt]
 generalize (w1.alloc (.cells #[.nilFunc,.slice none 0 0] 107)).drew=w2 at *;obtain⟨gk,hgk⟩:∃gk,w1.heap.size=gk:=⟨_,rfl⟩;have GK:Hid (w1.heap.size<=gk):=g7 hgk;rw[hgk] at XJ;rw[hgk];clear hgk;refine tw 15 λKx hK=>?_
 rw[if_pos (by rfl)]
 refine ia 107 _ _ rfl gk _ rfl rfl 107 _ XJ.o (by kernel_rfl) rfl (by simp[Value.oneCell']) ?_
 have B3:Hid (Below w1.heap.size w1 (w2.setRow gk #[.func (.func 116) #[] #[.pointer (some ⟨x.tb,0,none⟩)],.slice x.aN x.N.length x.cN])):=((But.ofBelow (S:=λ_=>False) AL.o).trans (iZ w2 gk #[.func (.func 116) #[] #[.pointer (some ⟨x.tb,0,none⟩)],.slice x.aN x.N.length x.cN]) (λk hk e=>by have:=GK.o;omega)).below (λ_ _ e=>e)
 have XK:Hid ((w2.setRow gk #[.func (.func 116) #[] #[.pointer (some ⟨x.tb,0,none⟩)],.slice x.aN x.N.length x.cN]).heap[gk]?=some (.cells #[.func (.func 116) #[] #[.pointer (some ⟨x.tb,0,none⟩)],.slice x.aN x.N.length x.cN] 107 (0,0))):=cY _ _ _ _ _ _ XJ.o;refine hK.o _ _ (SS.o _ B3.o) (λhHeld=>?_)
 refine td ?_;clear hHeld AL XJ;generalize w2.setRow gk #[.func (.func 116) #[] #[.pointer (some ⟨x.tb,0,none⟩)],.slice x.aN x.N.length x.cN]=w3 at *;have xk0:w3.cell? ⟨gk,0,none⟩=some (.func (.func 116) #[] #[.pointer (some ⟨x.tb,0,none⟩)]):=by rw[au _ _ _ _ _ _ XK.o];rfl
 have xk1:w3.cell? ⟨gk,1,none⟩=some (.slice x.aN x.N.length x.cN):=by rw[au _ _ _ _ _ _ XK.o];rfl
 obtain⟨j,hj⟩:∃j,kk%5=j:=⟨_,rfl⟩;have hj5:j<5:=by omega
 have hrem5:((kk:Int)).tmod 5=(j:Int):=by rw[<-hj];rfl
 have hrem6:((kk:Int))%5=(j:Int):=by rw[<-hj];rfl
 clear hj;have wrj:IntKind.i64.wrap (j:Int)=(j:Int):=iw (by omega) (by omega)
 have wrj1:IntKind.i64.wrap (1+(j:Int))=1+(j:Int):=iw (by omega) (by omega)
 have xm:x∈W:=co HX.o;have ck:=(SS.o _ B3.o).2.1;have LG:=ig (nO v w3 wb b rb col colR (.slice aW W.length cW) K (H1.o.keep B3.o).wr.bo HW.o.eq HW.o.l4 (λk hk=>(H1.o.keep B3.o).va.z hk) (λk hk=>eE λe=>hk ((H1.o.keep B3.o).va.z (gM e)).1) (H1.o.keep B3.o).va.bl.size x.tb x.a x.c x.L ((H1.o.keep B3.o).wr.wt x xm) x.aN x.cN x.N ((H1.o.keep B3.o).wr.wn x xm) (HW.o.we x xm) (λp hp y hy=>HW.o.tn p hp x xm y hy) (oj ((H1.o.keep B3.o).wr.wt x xm).lr) (1+(j:Int)))
 clear xm hmx SS wb2 hrem hrem2 hiI wri hin hnI hnb hnb2 dk hk0 c2;go_wp2_with fail
 refine LG.o.mono ?_;rintro e4 w4 hg4;obtain⟨rfl,K4,wo4,hb4,sb4⟩:=(HW.o.keep (bt A0.o B3.o)).gone hg4;have SB4:Hid (Sb w.heap.size wb aW W K aW W K4):=sb4 _ (bt A0.o B3.o).size (λy hy k hk hk2=>.inr (.inr ⟨x,co HX.o,.inr (.inr (.inr ⟨y,hy,hk2⟩))⟩))
 have WO:=ig wo4;have HB4:=ig hb4;clear hg4 wo4 hb4 sb4 LG;go_wp2_with fail
 go_ret;exact⟨rfl,S,D,H,pc,col,colR,aW,cW,W,K4,WO.o.up (by omega),(Fx.keep (bt A0.o B3.o)).trans (Fx.booked (aW:=aW) HB4.o) (λ_ _ e=>e),SB4.o⟩
end
theorem bxw2{wb b rb:Nat}{vw vx:Value}{K:Bkk}(h:w.heap[wb]?=some (.cells (K.cs b rb vw) 55 (0,0))):(w.setCell ⟨wb,2,none⟩ vx).heap[wb]?=some (.cells (K.cs b rb vx) 55 (0,0)):=by
 rw[aM _ _ _ _ _ _ h];rfl
theorem zX{W:World}{g:Nat}{x:Wl}{t:TypeId}(h:W.heap[g]?=some (.cells #[.func (.func 116) #[] #[.pointer (some ⟨x.tb,0,none⟩)],.slice x.aN x.N.length x.cN] t (0,0))):∀j u,x.cs[j]?=some u->W.cell? ((⟨g,0,none⟩:Addr).add j)=some u:=by
 intro j u hj;match j,hj with
 |0,hj=>simp only[Wl.cs] at hj;simp at hj;subst hj;rw[show((⟨g,0,none⟩:Addr).add 0)=⟨g,0,none⟩ from rfl,au _ _ _ _ _ _ h];rfl
 |1,hj=>simp only[Wl.cs] at hj;simp at hj;subst hj;rw[show((⟨g,0,none⟩:Addr).add 1)=⟨g,1,none⟩ from rfl,au _ _ _ _ _ _ h];rfl
 |j+2,hj=>simp[Wl.cs] at hj
theorem Ag{x:Wl}:∀u∈x.cs,u.oneCell'=true:=by
 intro u hu;simp only[Wl.cs,bT,bB,gd] at hu;rcases hu with rfl|rfl<;>rfl
theorem xy:(Tryz.prog.info? 107).map (λi=>(i.zero,i.size,i.bytes))=some (some (.agg #[.nilFunc,.slice none 0 0]),2,32):=by kernel_rfl
section
variable {v w w3 w4 w5:World} {wb b rb pb mb:Nat} {S:Vs} {D:Rd} {H:List Sn} {pc col colR:Nat->Nat} {aW:Option Addr} {cW:Nat} {W:List Wl} {K:Bkk} {M N:Nat} {x:Wl} {g c:Nat}
def lH(wb:Nat)(aW:Option Addr)(k:Nat):Prop:=k=wb\/Q.InA aW k
theorem Wo.walked(h0:Wo v w wb b rb pb mb S D H pc col colR aW cW W K M)(h03:Below w.heap.size w w3)(hT:Wt v w3 col colR x.tb x.a x.c x.L)(hn:Wn v w3 col colR x.aN x.cN x.N)(he:nmg x.L=nmg x.N)(hd:∀p∈K.T,∀y∈x.N,Bdj p y.2)(hA:Below w3.heap.size w3 w4)
 (hG:Q.Gw 107 2 w5 (some ⟨g,0,none⟩) c (W.length+1) (wlv W++x.cs)) (hN:New w4 aW (some ⟨g,0,none⟩)) (hB:But (Q.InA aW) w4 w5) (hM:M<=N) (hW:W.length+1<=N):
 (w5.heap[wb]?=some (.cells (K.cs b rb (.slice aW W.length cW)) 55 (0,0)))/\But (lH wb aW) w (w5.setCell ⟨wb,2,none⟩ (.slice (some ⟨g,0,none⟩) (W.length+1) c))/\Wo v (w5.setCell ⟨wb,2,none⟩ (.slice (some ⟨g,0,none⟩) (W.length+1) c)) wb b rb pb mb S D H pc col colR (some ⟨g,0,none⟩) c (W++[x]) K N:=by
 have h:=h0.keep h03;have B5:But (Q.InA aW) w3 w5:=(But.ofBelow (S:=Q.InA aW) hA).trans hB (λ_ _ e=>e)
 have gn:Q.InA aW g\/w3.heap.size<=g:=by
  rcases hN ⟨g,0,none⟩ rfl with⟨y,hy,e⟩|h2
  . exact .inl ⟨y,hy,e⟩
  . have h2:w4.heap.size<=g:=h2;exact .inr (aO hA.size h2)
 have b5:w5.heap[wb]?=_:=B5.same h.bo.box (λ⟨y,hy,e⟩=>iT h.gw h.bo.box (by decide) y hy e)
 have gb:g≠wb:=by
  rcases gn with⟨y,hy,e⟩|h2
  . exact λe2=>iT h.gw h.bo.box (by decide) y hy (e.trans e2)
  . have:=h.bo.lb;omega
 have bs:But (λk=>k=wb) w5 (w5.setCell ⟨wb,2,none⟩ (.slice (some ⟨g,0,none⟩) (W.length+1) c)):=(But.refl (λk=>k=wb) w5).setCell (p:=⟨wb,2,none⟩) (λ_=>rfl) _
 have bw:But (lH wb aW) w3 (w5.setCell ⟨wb,2,none⟩ (.slice (some ⟨g,0,none⟩) (W.length+1) c)):=(B5.mono (T:=lH wb aW) λ_ _ e=>.inr e).trans bs (λ_ _ e=>.inl e)
 have off:∀{r:Pv},Pw1 v w3 col colR r->∀k,Blk r k->¬lH wb aW k:=λhr k hk e=>by
  rcases e with e|e
  . exact hr.n.ne hk h.bo.box (by decide) (by decide) e
  . exact hr.n.ne_row hk h.gw (by decide) (by decide) e
 have row:∀{e:TypeId}{sz:Nat}{a:Option Addr}{c n:Nat}{C:List Value},Q.Gw e sz w3 a c n C->e≠55->e≠107->∀y,a=some y->¬lH wb aW y.block:=λhg h1 h2 y hy e=>by
  rcases e with e|e
  . exact iT hg h.bo.box h1 y hy e
  . exact j8 hg h.gw h2 y hy e
 have sv:=h.va.bl.size
 have un:∀k,lH wb aW k->col k=0/\colR k=0/\v.heap.size<=k:=λk e=>by
  rcases e with e|⟨y,hy,e⟩
  . rw[e];exact h.bo.wc
  . rw[<-e];exact h.oW y hy
 have wtb:∀{k:Wl},Wt v w3 col colR k.tb k.a k.c k.L->Wt v (w5.setCell ⟨wb,2,none⟩ (.slice (some ⟨g,0,none⟩) (W.length+1) c)) col colR k.tb k.a k.c k.L:=λt=>t.but bw (λe=>by
  rcases e with e|⟨y,hy,e⟩
  . have b:=h.bo.box;rw[<-e,t.bx] at b;simp only[aE,dP] at b;exact absurd b.2.1 (by decide)
  . exact iT h.gw t.bx (by decide) y hy e) (row t.lr (by decide) (by decide)) (λk e1 e2=>by have:=un k e2;omega)
 have wnb:∀{k:Wl},Wn v w3 col colR k.aN k.cN k.N->Wn v (w5.setCell ⟨wb,2,none⟩ (.slice (some ⟨g,0,none⟩) (W.length+1) c)) col colR k.aN k.cN k.N:=λt=>t.but bw (row t.nr (by decide) (by decide)) (λy hy=>off (t.np y hy))
 have hl:(W++[x]).length=W.length+1:=by rw[ae];rfl
 refine⟨b5,(But.ofBelow (S:=lH wb aW) h03).trans bw (λ_ _ e=>e),h.va.but bw un,?_,?_,λy hy=>?_,λk hk=>?_,λk hk=>?_,λk hk=>?_,λp hp k hk y hy=>?_,h.tw.same (Rd.Al.refl _) hM,h.eq,h.l4,by rw[hl];exact hW,h.sm⟩
 . have o:=h.bo;rw[hl];exact⟨bxw2 b5,o.wc,o.gt.but bw (row o.gt (by decide) (by decide)),o.gx.but bw (row o.gx (by decide) (by decide)),o.oT,o.oX,o.nTX,λp hp=>(o.tp p hp).but bw (off (o.tp p hp)),λp hp=>(o.xp p hp).but bw (off (o.xp p hp)),o.tt,o.tx⟩
 . rw[hl,wO,DU];exact hG.but bs (λy hy=>by cases hy;exact gb)
 . cases hy;rcases gn with⟨z,hz',e⟩|h2
   . have:=h.oW z hz';rw[e] at this;exact this
   . exact⟨(h.va.z h2).1,(h.va.z h2).2,aO sv h2⟩
 . rcases bm.1 hk with hk|hk
   . exact wtb (h.wt k hk)
   . rw[aQ.1 hk];exact wtb hT
 . rcases bm.1 hk with hk|hk
   . exact wnb (h.wn k hk)
   . rw[aQ.1 hk];exact wnb hn
 . rcases bm.1 hk with hk|hk
   . exact h.we k hk
   . rw[aQ.1 hk];exact he
 . rcases bm.1 hk with hk|hk
   . exact h.tn p hp k hk y hy
   . rw[aQ.1 hk] at hy;exact hd p hp y hy
theorem Fx.walked{w':World}(hb:But (lH wb aW) w w'):Fx w col colR (nu wb aW K) w' col colR:=⟨hb.mono (λk _ e=>.inr (.inr (by
 rcases e with e|e
 . exact .inl (.inl e)
 . exact .inr (.inl e)))),λ_ _=>rfl,λ_ _=>rfl⟩
end
end Go.Proofs.YtbdkogimlbnlmaaGreat
