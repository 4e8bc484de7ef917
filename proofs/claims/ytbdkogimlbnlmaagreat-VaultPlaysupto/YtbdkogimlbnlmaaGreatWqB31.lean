import Derived.Test.YtbdkogimlbnlmaaGreatWqB30
set_option linter.unusedVariables false
set_option linter.unusedSimpArgs false
set_option maxHeartbeats 32000000
set_option maxRecDepth 10000
namespace Go.Proofs.YtbdkogimlbnlmaaGreat
open Go.RowKit Go.Shelf
attribute [local go_sem] Oper.semAt_some
theorem m8{fn:Func}{p:Tmp}(h:fn.results=#[.cell p 4])(tmps:Array Value)(w:World)(g:Nat)(v:Value)(hp:tmps.getD p undef=.pointer (some ⟨g,0,none⟩))(hc:w.cell? ⟨g,0,none⟩=some v):
 (results fn tmps).run Tryz.prog w=.ok v w:=by
 have hp':tmps[p]?.getD undef=.pointer (some ⟨g,0,none⟩):=by simpa using hp
 simp[results,h,hp',asAddr,loadVar,Tryz.isAgg4,run_load,hc]
theorem Cd(d n:Nat)(lb:Array Value)(w:World):(Op.equalIn (d+1) 102 (.func (.func n) #[] lb) .nilFunc).run Tryz.prog w=.ok false w:=by
 simp[Op.equalIn,c9 Tryz.underlying102]
theorem yN(n:Nat)(lb:Array Value)(w:World):(binOp .eql 102 (.func (.func n) #[] lb) .nilFunc).run Tryz.prog w=.ok (.bool false) w:=by
 simp only[binOp];simp[Op.equal,Op.maxDepth,Cd 9999 n lb w]
structure Gj(v w Wc:World)(wb b rb:Nat)(col colR:Nat->Nat)(vw:Value)(K:Bkk)(N:List (Int×Pv))(ib sb:Nat)(rv:Bool)(F:Nat->Prop)(pre:List (Int×Pv))(W:World)(K':Bkk):Prop where
 bo:Bo v W wb b rb col colR vw K'
 l4:K'.T.length<=40
 eq:K'.T.map Pv.pg=K'.X.map Pv.pg
 tk:∀q∈K'.T,q∈K.T\/Smi q/\∀j,Blk q j->Wc.heap.size<=j
 xk:∀q∈K'.X,q∈K.X\/∃x∈N,q=x.2
 fi:∀j,F j↔j=ib\/j=sb\/K'.own wb j\/∃q∈K'.T,Blk q j
 ow:∀j,K'.own wb j->K.own wb j\/Wc.heap.size<=j
 i:W.heap[ib]?=some (.cells #[.int .i64 ((pre.length:Nat):Int)] 3 (0,0))
 r:W.heap[sb]?=some (.cells #[.bool rv] 4 (0,0))
 b:But (λj=>j=ib\/j=sb\/K.own wb j\/(∃q∈K.T,Blk q j)) Wc W
section
variable {v w Wc W A B:World} {wb b rb:Nat} {col colR:Nat->Nat} {vw:Value} {K K':Bkk} {N:List (Int×Pv)} {ib sb:Nat} {rv:Bool} {F:Nat->Prop} {pre:List (Int×Pv)}
theorem Gj.but{n:Nat}(hB:Bo v w wb b rb col colR vw K)(hN:∀x∈N,Pw1 v w col colR x.2)(hw:w.heap.size<=n)(hn:Wc.heap.size<=n)(h:Gj v w Wc wb b rb col colR vw K N ib sb rv F pre A K')(hb:But (λk=>¬F k/\n<=k) A B):Gj v w Wc wb b rb col colR vw K N ib sb rv F pre B K':=by
 refine⟨h.bo.but hb (λk hk e=>e.1 ((h.fi k).2 (.inr (.inr (.inl hk))))) (λp hp k hk e=>e.1 ((h.fi k).2 (.inr (.inr (.inr ⟨p,hp,hk⟩))))) (λp hp k hk e=>?_),h.l4,h.eq,h.tk,h.xk,h.fi,h.ow,hb.same h.i (λe=>e.1 ((h.fi _).2 (.inl rfl))),hb.same h.r (λe=>e.1 ((h.fi _).2 (.inr (.inl rfl)))),h.b.trans hb (λk hk e=>by have:=e.2;omega)⟩
 have h2:=e.2;rcases h.xk p hp with hp|⟨x,hx,rfl⟩
 . have:=(hB.xp p hp).n.blk_lt hk;omega
 . have:=(hN x hx).n.blk_lt hk;omega
theorem Gj.siz(h:Gj v w Wc wb b rb col colR vw K N ib sb rv F pre A K'){k:Nat}(hk:F k):k<A.heap.size:=by
 rcases (h.fi k).1 hk with rfl|rfl|hk|⟨q,hq,hk⟩
 . exact(af.1 h.i).1
 . exact(af.1 h.r).1
 . exact h.bo.own_lt hk
 . exact(h.bo.tp q hq).n.blk_lt hk
end
def GoH(ib nb g m nn cN xb wb pb:Nat)(x1:Int)(y q:Pv)(W:World):Prop:=W.cell? ⟨ib,0,none⟩=some (.int .i64 (m:Int))/\W.cell? ⟨nb,0,none⟩=some (.slice (some ⟨g,0,none⟩) nn cN)/\W.cell? ⟨g,m*6,none⟩=some (.int .i64 x1)/\W.cell? ⟨g,m*6+1,none⟩=some (.int .i64 y.kind)/\W.cell? ⟨g,m*6+2,none⟩=some (.int .i64 y.level)/\W.cell? ⟨g,m*6+3,none⟩=some (.slice y.aI y.items.length y.cI)/\W.cell? ⟨g,m*6+4,none⟩=some (.slice y.aD y.data.length y.cD)/\W.cell? ⟨g,m*6+5,none⟩=some (.int .i64 y.next)/\W.cell? ⟨xb,0,none⟩=some (.pointer (some ⟨wb,0,none⟩))/\W.cell? ⟨pb,0,none⟩=some (.int .i64 q.kind)/\W.cell? ⟨pb,1,none⟩=some (.int .i64 q.level)/\W.cell? ⟨pb,2,none⟩=some (.slice q.aI q.items.length q.cI)/\W.cell? ⟨pb,3,none⟩=some (.slice q.aD q.data.length q.cD)/\W.cell? ⟨pb,4,none⟩=some (.int .i64 q.next)
def GoQ(v w:World)(wb b rb:Nat)(col colR:Nat->Nat)(vw:Value)(K:Bkk)(N:List (Int×Pv))(e:Ending)(w':World):Prop:=
 e=.returned (.bool true)/\∃K':Bkk,Bo v w' wb b rb col colR vw K'/\K'.T.length<=40/\K'.T.map Pv.pg=K'.X.map Pv.pg/\(∀q∈K'.T,q∈K.T\/Smi q/\∀j,Blk q j->w.heap.size<=j)/\(∀q∈K'.X,q∈K.X\/∃x∈N,q=x.2)/\(∀j,K'.own wb j->K.own wb j\/w.heap.size<=j)/\But (λj=>K.own wb j\/∃q∈K.T,Blk q j) w w'
theorem n9(v w:World)(wb b rb:Nat)(col colR:Nat->Nat)(vw:Value)(K:Bkk)(h:Bo v w wb b rb col colR vw K)(he:K.T.map Pv.pg=K.X.map Pv.pg)(h4:K.T.length<=40)(hz:∀k,w.heap.size<=k->col k=0/\colR k=0)(hlt:∀k,col k≠0->k<w.heap.size)(hv:v.heap.size<=w.heap.size)
 (tb:Nat) (a:Option Addr) (c:Nat) (L:List (Int×Pv)) (hT:Wt v w col colR tb a c L) (aN:Option Addr) (cN:Nat) (N:List (Int×Pv)) (hN:Wn v w col colR aN cN N) (hE:nmg L=nmg N) (hD:∀p∈K.T,∀x∈N,Bdj p x.2) (hl:L.length<=9223372036854775807) (k:Int):
 Calls Tryz.prog 51 #[.pointer (some ⟨wb,0,none⟩),.func (.func 116) #[] #[.pointer (some ⟨tb,0,none⟩)],.slice aN N.length cN,.int .i64 k] w λe w'=>GoQ v w wb b rb col colR vw K N e w':=by
 refine(ew (n:=0)).1 ?_;refine eY Tryz.func51 rfl trivial ?_ rfl;simp only[Tryz.ntmps51,cU,bf,bg,Nat.reduceAdd,Nat.reduceSub,dr,dt,dB,dv,cF,de]
 have hLN:L.length=N.length:=by
  have:=aY List.length hE;simpa[nmg] using this
 refine fN.2 ?_;have ba:Below w.heap.size w ((((w.alloc (.cells #[.pointer (some ⟨wb,0,none⟩)] 24)).alloc (.cells #[.slice aN N.length cN] 36)).alloc (.cells #[.int .i64 k] 3)).alloc (.cells #[.bool false] 4)):=bt (bt (bt (al _ _) (al _ _)) (al _ _)) (al _ _);have sa:((((w.alloc (.cells #[.pointer (some ⟨wb,0,none⟩)] 24)).alloc (.cells #[.slice aN N.length cN] 36)).alloc (.cells #[.int .i64 k] 3)).alloc (.cells #[.bool false] 4)).heap.size=w.heap.size+1+1+1+1:=by rw[size_alloc,size_alloc,size_alloc,size_alloc]
 have x0:((((w.alloc (.cells #[.pointer (some ⟨wb,0,none⟩)] 24)).alloc (.cells #[.slice aN N.length cN] 36)).alloc (.cells #[.int .i64 k] 3)).alloc (.cells #[.bool false] 4)).heap[w.heap.size]?=some (.cells #[.pointer (some ⟨wb,0,none⟩)] 24 (0,0)):=ig (ig (ig (aH w _) (al _ _)) (al _ _)) (al _ _)
 have n0:((((w.alloc (.cells #[.pointer (some ⟨wb,0,none⟩)] 24)).alloc (.cells #[.slice aN N.length cN] 36)).alloc (.cells #[.int .i64 k] 3)).alloc (.cells #[.bool false] 4)).heap[w.heap.size+1]?=some (.cells #[.slice aN N.length cN] 36 (0,0)):=by
  have c:=aH (w.alloc (.cells #[.pointer (some ⟨wb,0,none⟩)] 24)) (.cells #[.slice aN N.length cN] 36);rw[size_alloc] at c;exact ig (ig c (al _ _)) (al _ _)
 have k0:((((w.alloc (.cells #[.pointer (some ⟨wb,0,none⟩)] 24)).alloc (.cells #[.slice aN N.length cN] 36)).alloc (.cells #[.int .i64 k] 3)).alloc (.cells #[.bool false] 4)).heap[w.heap.size+1+1]?=some (.cells #[.int .i64 k] 3 (0,0)):=by
  have c:=aH ((w.alloc (.cells #[.pointer (some ⟨wb,0,none⟩)] 24)).alloc (.cells #[.slice aN N.length cN] 36)) (.cells #[.int .i64 k] 3);rw[size_alloc,size_alloc] at c;exact ig c (al _ _)
 have s0:((((w.alloc (.cells #[.pointer (some ⟨wb,0,none⟩)] 24)).alloc (.cells #[.slice aN N.length cN] 36)).alloc (.cells #[.int .i64 k] 3)).alloc (.cells #[.bool false] 4)).heap[w.heap.size+1+1+1]?=some (.cells #[.bool false] 4 (0,0)):=by
  have c:=aH (((w.alloc (.cells #[.pointer (some ⟨wb,0,none⟩)] 24)).alloc (.cells #[.slice aN N.length cN] 36)).alloc (.cells #[.int .i64 k] 3)) (.cells #[.bool false] 4);rw[size_alloc,size_alloc,size_alloc] at c;exact c
 have hq:=yN;go_upto_region 3 with fail
 generalize (((w.alloc (.cells #[.pointer (some ⟨wb,0,none⟩)] 24)).alloc (.cells #[.slice aN N.length cN] 36)).alloc (.cells #[.int .i64 k] 3)).alloc (.cells #[.bool false] 4)=Wa at *;obtain⟨xb,hxb⟩:∃xb,w.heap.size=xb:=⟨_,rfl⟩;obtain⟨nb,hnb⟩:∃nb,xb+1=nb:=⟨_,rfl⟩;obtain⟨kb,hkb⟩:∃kb,nb+1=kb:=⟨_,rfl⟩;obtain⟨sb,hsb⟩:∃sb,kb+1=sb:=⟨_,rfl⟩;simp only[hxb,hnb,hkb,hsb] at x0 n0 k0 s0 sa ⊢;have A5:=al Wa (.cells #[.int .i64 0] 3);have i0:=aH Wa (.cells #[.int .i64 0] 3);have x1:=ig x0 A5;have n1:=ig n0 A5;have k1:=ig k0 A5;have s1:=ig s0 A5;have bW:=bt ba A5;have sW:(Wa.alloc (.cells #[.int .i64 0] 3)).heap.size=Wa.heap.size+1:=size_alloc _ _;clear hq x0 n0 k0 s0 A5;go_wp2_with fail
 refine(fN (n:=0)).1 ?_;generalize Wa.alloc (.cells #[.int .i64 0] 3)=Wc at *;rw[sa] at i0 sW;obtain⟨ib,hib⟩:∃ib,sb+1=ib:=⟨_,rfl⟩;simp only[hib] at i0 sW ⊢;have HO:=gZ (show w.heap.size=xb/\xb+1=nb/\nb+1=kb/\kb+1=sb/\sb+1=ib/\Wc.heap.size=ib+1 from⟨hxb,hnb,hkb,hsb,hib,sW⟩)
 clear hxb hnb hkb hsb hib sW sa ba;have HB0:=gZ h;have HZ:=gZ hz;have HV:=gZ hv;have HLT:=gZ hlt;have HD:=gZ hD;have HE:=gZ hE;have HLN:=gZ hLN;have BW:=gZ bW;have HB1:=gZ (h.keep bW);have WT1:=gZ (hT.keep bW);have WN0:=gZ hN;have WTL:Hid (tb<w.heap.size/\∀y,a=some y->y.block<w.heap.size):=⟨hT.lb,λy hy=>hT.lr.lt hy⟩
 have WN1:=gZ (hN.keep bW);have XX:=gZ (show Wc.heap[xb]?=_/\Wc.heap[nb]?=_/\Wc.heap[kb]?=_ from⟨x1,n1,k1⟩)
 have SQ:=yJ WT1.o hl;have G0:Hid (Gj v w Wc wb b rb col colR vw K N ib sb false (λj=>j=ib\/j=sb\/K.own wb j\/∃q∈K.T,Blk q j) [] Wc K):=⟨HB1.o,h4,he,λq hq=>.inl hq,λq hq=>.inl hq,λj=>fJ,λj hj=>.inl hj,i0,s1,But.refl _ _⟩
 clear h hz hv hlt hD hE hN hT x1 n1 k1 i0 s1 h4 he hLN;obtain⟨nn,hnn⟩:∃nn,N.length=nn:=⟨_,rfl⟩;have HNN:=gZ hnn
 refine wp_rangeG (gf:=116) (lb:=#[.pointer (some ⟨tb,0,none⟩)]) rfl (enters_of Tryz.func116 (by kernel_rfl) rfl) SQ (But.refl _ _)
  (λj hj=>by
    rcases hj with rfl|⟨y,hy,rfl⟩|hj
    . exact WT1.o.lb
    . exact WT1.o.lr.lt hy
    . have:=HLT.o j (by omega);have:=BW.o.size;omega)
  (λW0 W x vals hv=>by obtain⟨q,rfl,_⟩:=hv;rfl)
  (λj=>j=ib\/j=sb\/K.own wb j\/∃q∈K.T,Blk q j)
  (λj hj hx=>by
    have ho:=HO.o;have hl1:=(show tb<w.heap.size/\∀y,a=some y->y.block<w.heap.size from⟨WTL.o.1,WTL.o.2⟩)
    rcases hx with rfl|⟨y,hy,rfl⟩|hx
    . rcases hj with e|e|e|⟨q,hq,e⟩
      . omega
      . omega
      . rcases e with e|⟨z,hz,e⟩|⟨z,hz,e⟩
        . exact i8 HB1.o.box WT1.o.bx (by decide) e.symm
        . exact iO HB1.o.gt WT1.o.bx (by decide) z hz e
        . exact iO HB1.o.gx WT1.o.bx (by decide) z hz e
      . exact(HB1.o.tp q hq).n.ne e WT1.o.bx (by decide) (by decide) rfl
    . have hyl:=hl1.2 y hy;obtain⟨cur,hcur⟩:=WT1.o.lr.blk hy;rcases hj with e|e|e|⟨q,hq,e⟩
      . omega
      . omega
      . rcases e with e|⟨z,hz,e⟩|⟨z,hz,e⟩
        . exact i8 HB1.o.box hcur (by decide) e.symm
        . exact iO HB1.o.gt hcur (by decide) z hz e
        . exact iO HB1.o.gx hcur (by decide) z hz e
      . exact(HB1.o.tp q hq).n.ne e hcur (by decide) (by decide) rfl
    . have hxl:=HLT.o j (by omega)
      rcases hj with e|e|e|⟨q,hq,e⟩
      . omega
      . omega
      . have:=HB1.o.own0 e;omega
      . have:=(HB1.o.tp q hq).c j e;omega)
  (λF pre W=>∃K',Gj v w Wc wb b rb col colR vw K N ib sb false F pre W K')
  (λc F pre W=>c=.ret/\∃K',Gj v w Wc wb b rb col colR vw K N ib sb true F pre W K')
  (λF s A B hs hb=>by obtain⟨K',hs⟩:=hs;exact⟨K',hs.but HB0.o WN0.o.np BW.o.size (ai _) hb⟩)
  (λF s A hs j hj=>by obtain⟨K',hs⟩:=hs;exact hs.siz hj)
  (λc F s A B hs hb=>by obtain⟨e,K',hs⟩:=hs;exact⟨e,K',hs.but HB0.o WN0.o.np BW.o.size (ai _) hb⟩)
  (λc F s A hs j hj=>by obtain⟨e,K',hs⟩:=hs;exact hs.siz hj)
  ⟨K,G0.o⟩ ?round ?done ?stop
 case round=>
  rintro l F pre x rest W0 W vals hxs ⟨K',hg⟩ hb01 ⟨q,rfl,hqg,hqn,hql⟩ hsz hFs hFl hl1 hl2 hBw;obtain⟨m,hm⟩:∃m,pre.length=m:=⟨_,rfl⟩;have hmL:m<L.length:=by rw[hxs,ae,bf];omega
  have hmN:m<N.length:=by rw[<-HLN.o];exact hmL
  obtain⟨y,hy⟩:∃y,N.getD m (0,Pv.zero)=y:=⟨_,rfl⟩;have gy:N[m]?=some y:=by rw[<-hy];simp[hmN]
  have hyN:y∈N:=cE gy
  have exy:x.1=y.1/\x.2.pg=y.2.pg:=by
   have e:(nmg L)[m]?=(nmg N)[m]?:=by rw[HE.o]
   have e1:(nmg L)[m]?=some (x.1,x.2.pg):=by
    unfold nmg;rw[df,hxs,bi (by omega),hm,dq]
    rfl
   have e2:(nmg N)[m]?=some (y.1,y.2.pg):=by
    unfold nmg;rw[df,gy];rfl
   rw[e1,e2] at e;simp only[aE,fT] at e;exact e
  unfold Pv.vl;simp only[Pv.cs];gi_wp2
  refine⟨al _ _,λW3 h3=>?_⟩
  have ho:=HO.o;have aB:=al W (.cells #[.int .i64 q.kind,.int .i64 q.level,.slice q.aI q.items.length q.cI,.slice q.aD q.data.length q.cD,.int .i64 q.next] 31);have sB:=size_alloc W (.cells #[.int .i64 q.kind,.int .i64 q.level,.slice q.aI q.items.length q.cI,.slice q.aD q.data.length q.cD,.int .i64 q.next] 31);have s01:=hb01.size;have sW:w.heap.size<=Wc.heap.size:=BW.o.size;have b03:But (λj=>¬F j/\Wc.heap.size<=j) W0 W3:=((But.ofBelow (S:=λj=>¬F j/\Wc.heap.size<=j) hb01).trans (But.ofBelow aB) (λ_ _ e=>e)).trans h3 (λj hj e=>⟨λhf=>hFl (by rw[e] at hf;exact hf),by omega⟩)
  have g3:=hg.but HB0.o WN0.o.np BW.o.size (ai _) b03;have s3:=h3.size;have OFF:Hid (∀j,w.heap.size<=j->j<Wc.heap.size->¬K.own wb j/\∀p∈K.T,¬Blk p j):=λj h1 h2=>⟨λe=>by have:=HB0.o.own_lt e;omega,λp hp e=>by have:=(HB0.o.tp p hp).n.blk_lt e;omega⟩
  have bx:∀{j:Nat}{o:Obj},Wc.heap[j]?=some o->w.heap.size<=j->j≠ib->j≠sb->W3.heap[j]?=some o:=λ{j o} hj h1 h2 h4=>g3.b.same hj (λe=>by
   have hjl:=(af.1 hj).1;rcases e with e|e|e|⟨p,hp,e⟩
   . exact h2 e
   . exact h4 e
   . exact(OFF.o j h1 hjl).1 e
   . exact(OFF.o j h1 hjl).2 p hp e)
  have x3:=bx XX.o.1 (by omega) (by omega) (by omega)
  have n3:=bx XX.o.2.1 (by omega) (by omega) (by omega)
  have k3:=bx XX.o.2.2 (by omega) (by omega) (by omega)
  have WN3:Wn v W3 col colR aN cN N:=WN1.o.but g3.b (λz hz e=>by
   have hzl:=WN0.o.nr.lt hz;obtain⟨cur,hcur⟩:=WN1.o.nr.blk hz;rcases e with e|e|e|⟨p,hp,e⟩
   . omega
   . omega
   . rcases e with e|⟨z2,hz2,e⟩|⟨z2,hz2,e⟩
     . exact i8 HB1.o.box hcur (by decide) e.symm
     . exact iO HB1.o.gt hcur (by decide) z2 hz2 e
     . exact iO HB1.o.gx hcur (by decide) z2 hz2 e
   . exact(HB1.o.tp p hp).n.ne e hcur (by decide) (by decide) rfl)
   (λz hz j hj e=>by
     have hjl:=(WN0.o.np z hz).n.blk_lt hj;rcases e with e|e|e|⟨p,hp,e⟩
     . omega
     . omega
     . rcases e with e|e|e
       . exact(WN1.o.np z hz).n.ne hj HB1.o.box (by decide) (by decide) e
       . exact(WN1.o.np z hz).n.ne_row hj HB1.o.gt (by decide) (by decide) e
       . exact(WN1.o.np z hz).n.ne_row hj HB1.o.gx (by decide) (by decide) e
     . exact HD.o p hp z hz j e hj)
  obtain⟨g,ea,d0,d1,d2,d3,d4,d5⟩:=yP WN3.nr hmN hy;have hgl:g<w.heap.size:=WN0.o.nr.lt ea;obtain⟨gcur,hgcur⟩:=WN3.nr.blk ea;rw[<-exy.1] at d0;obtain⟨pb,hpb⟩:∃pb,W.heap.size=pb:=⟨_,rfl⟩;have p3:W3.heap[pb]?=some (.cells #[.int .i64 q.kind,.int .i64 q.level,.slice q.aI q.items.length q.cI,.slice q.aD q.data.length q.cD,.int .i64 q.next] 31 (0,0)):=h3.same (by rw[<-hpb];exact aH W _) (by omega)
  have Q3:Pw1 v W3 col colR q:=⟨((hqn.keep aB).but2 h3 (λj hj e=>by have:=hqn.blk_new hj;omega)).pre (by have:=HV.o;omega),hql,λj hj=>HZ.o j (by have:=hqn.blk_new hj;omega)⟩
  have Y3:Pw1 v W3 col colR y.2:=WN3.np y hyN;have SMQ:Hid (Smi q):=sL (WT1.o.ls x (by rw[hxs];exact gI _ dG)) hqg
  have ylt:∀j,Blk y.2 j->j<w.heap.size:=λj hj=>(WN0.o.np y hyN).n.blk_lt hj
  have KD:Kd v W3.drew col colR K' q y.2:=⟨Q3.keep (dr2 _),Y3.keep (dr2 _),hqg.trans exy.2,λp hp j h1 h2=>by have:=(hg.bo.tp p hp).n.blk_lt h1;have:=hqn.blk_new h2;omega,λp hp j h1 h2=>by have:=(hg.bo.xp p hp).n.blk_lt h2;have:=hqn.blk_new h1;omega,λp hp j h1 h2=>by
   rcases g3.tk p hp with hp2|hp2
   . exact HD.o p hp2 y hyN j h1 h2
   . have:=hp2.2 j h1;have:=ylt j h2;omega,λj h1 h2=>by have:=hqn.blk_new h1;have:=ylt j h2;omega,λj hj=>HZ.o j (by have e:W3.drew.heap.size=W3.heap.size:=rfl;omega),by have:=HV.o;have e:W3.drew.heap.size=W3.heap.size:=rfl;omega⟩
  have LK:=gZ (r8 v W3.drew wb b rb col colR vw K' (g3.bo.keep (dr2 _)) g3.eq g3.l4 q y.2 KD);have OW:Hid (∀j,j<W0.heap.size\/True->K'.own wb j->K.own wb j\/Wc.heap.size<=j):=λj _=>g3.ow j
  have NOW:Hid ((∀j,w.heap.size<=j->j<Wc.heap.size->¬K'.own wb j)/\¬K'.own wb g/\¬K'.own wb pb):=⟨λj h1 h2 e=>by
   rcases g3.ow j e with e|e
   . exact(OFF.o j h1 h2).1 e
   . omega,λe=>by
   rcases e with e|⟨z2,hz2,e⟩|⟨z2,hz2,e⟩
   . exact i8 g3.bo.box hgcur (by decide) e.symm
   . exact iO g3.bo.gt hgcur (by decide) z2 hz2 e
   . exact iO g3.bo.gx hgcur (by decide) z2 hz2 e,λe=>by have:=hg.bo.own_lt e;omega⟩
  have SS:Hid (∀W:World,But (K'.own wb) W3.drew W->GoH ib nb g m nn cN xb wb pb x.1 y.2 q W):=λW hb=>by
   have cl:∀{j k:Nat}{u:Value},W3.cell? ⟨j,k,none⟩=some u->¬K'.own wb j->W.cell? ⟨j,k,none⟩=some u:=λ{j k u} h1 h2=>(hb.cell (p:=⟨j,k,none⟩) (block_lt_of_cell (w:=W3.drew) h1) h2).trans h1
   obtain⟨q0,q1,q2,q3,q4⟩:=ij p3;have i3:=dO g3.i;rw[hm] at i3;have n3c:=dO n3;rw[ea,hnn] at n3c;exact⟨cl i3 (NOW.o.1 ib (by omega) (by omega)),cl n3c (NOW.o.1 nb (by omega) (by omega)),cl d0 NOW.o.2.1,cl d1 NOW.o.2.1,cl d2 NOW.o.2.1,cl d3 NOW.o.2.1,cl d4 NOW.o.2.1,cl d5 NOW.o.2.1,cl (dO x3) (NOW.o.1 xb (by omega) (by omega)),cl q0 NOW.o.2.2,cl q1 NOW.o.2.2,cl q2 NOW.o.2.2,cl q3 NOW.o.2.2,cl q4 NOW.o.2.2⟩
  have FIN:Hid (∀(w4:World)(K4:Bkk),Bo v w4 wb b rb col colR vw K4->K4.T.length<=40->K4.T.map Pv.pg=K4.X.map Pv.pg->(∀p∈K4.T,p∈K'.T\/p=q)->(∀p∈K4.X,p∈K'.X\/p=y.2)->But (K'.own wb) W3.drew w4->(∀j,K4.own wb j->K'.own wb j\/W3.drew.heap.size<=j)->
   (w4.cell? ⟨ib,0,none⟩=some (.int .i64 (m:Int))/\w4.frozen? ⟨ib,0,none⟩=false)/\((w4.setCell ⟨ib,0,none⟩ (.int .i64 ((m:Int)+1))).cell? ⟨ib,0,none⟩=some (.int .i64 ((m:Int)+1))/\(w4.setCell ⟨ib,0,none⟩ (.int .i64 ((m:Int)+1))).cell? ⟨kb,0,none⟩=some (.int .i64 k)/\(w4.setCell ⟨ib,0,none⟩ (.int .i64 ((m:Int)+1))).cell? ⟨sb,0,none⟩=some (.bool false)/\(w4.setCell ⟨ib,0,none⟩ (.int .i64 ((m:Int)+1))).frozen? ⟨sb,0,none⟩=false)/\
   (∃F':Nat->Prop,But F W3 (w4.setCell ⟨ib,0,none⟩ (.int .i64 ((m:Int)+1)))/\(∀j,F' j->F j\/W0.heap.size<=j)/\∃K',Gj v w Wc wb b rb col colR vw K N ib sb false F' (pre++[x]) (w4.setCell ⟨ib,0,none⟩ (.int .i64 ((m:Int)+1))) K')/\
   (∃F':Nat->Prop,But F W3 ((w4.setCell ⟨ib,0,none⟩ (.int .i64 ((m:Int)+1))).setCell ⟨sb,0,none⟩ (.bool true))/\(∀j,F' j->F j\/W0.heap.size<=j)/\Code.ret=.ret/\∃K',Gj v w Wc wb b rb col colR vw K N ib sb true F' (pre++[x]) ((w4.setCell ⟨ib,0,none⟩ (.int .i64 ((m:Int)+1))).setCell ⟨sb,0,none⟩ (.bool true)) K')):=λw4 K4 hB4 hl4 he4 ht4 hx4 hb4 ho4=>by
   have e3:W3.drew.heap.size=W3.heap.size:=rfl
   have OFI:∀j,w.heap.size<=j->j<Wc.heap.size->¬K4.own wb j/\(∀p∈K4.T,¬Blk p j)/\∀p∈K4.X,¬Blk p j:=λj h1 h2=>⟨λe=>by
    rcases ho4 j e with e|e
    . exact NOW.o.1 j h1 h2 e
    . omega,λp hp e=>by
    rcases ht4 p hp with hp|rfl
    . rcases g3.tk p hp with hp2|hp2
      . exact(OFF.o j h1 h2).2 p hp2 e
      . have:=hp2.2 j e;omega
    . have:=hqn.blk_new e;omega,λp hp e=>by
    rcases hx4 p hp with hp|rfl
    . rcases g3.xk p hp with hp2|⟨z,hz,rfl⟩
      . have:=(HB0.o.xp p hp2).n.blk_lt e;omega
      . have:=(WN0.o.np z hz).n.blk_lt e;omega
    . have:=ylt j e;omega⟩
   have i4:=hb4.same (show W3.drew.heap[ib]?=_ from g3.i) (NOW.o.1 ib (by omega) (by omega))
   rw[hm] at i4;have r4:=hb4.same (show W3.drew.heap[sb]?=_ from g3.r) (NOW.o.1 sb (by omega) (by omega))
   have k4:=hb4.same (show W3.drew.heap[kb]?=_ from k3) (NOW.o.1 kb (by omega) (by omega))
   have b5:But (λj=>j=ib) w4 (w4.setCell ⟨ib,0,none⟩ (.int .i64 ((m:Int)+1))):=(But.refl (λj=>j=ib) w4).setCell (p:=⟨ib,0,none⟩) (λ_=>rfl) _
   have i5:=one_setCell (u:=.int .i64 ((m:Int)+1)) i4;have r5:=b5.same r4 (by omega)
   have k5:=b5.same k4 (by omega)
   have B5:=hB4.but b5 (λj hj e=>(OFI ib (by omega) (by omega)).1 (e▸hj)) (λp hp j hj e=>(OFI ib (by omega) (by omega)).2.1 p hp (e▸hj)) (λp hp j hj e=>(OFI ib (by omega) (by omega)).2.2 p hp (e▸hj))
   have b6:But (λj=>j=sb) (w4.setCell ⟨ib,0,none⟩ (.int .i64 ((m:Int)+1))) ((w4.setCell ⟨ib,0,none⟩ (.int .i64 ((m:Int)+1))).setCell ⟨sb,0,none⟩ (.bool true)):=(But.refl (λj=>j=sb) _).setCell (p:=⟨sb,0,none⟩) (λ_=>rfl) _
   have r6:=one_setCell (u:=.bool true) r5;have i6:=b6.same i5 (by omega)
   have B6:=B5.but b6 (λj hj e=>(OFI sb (by omega) (by omega)).1 (e▸hj)) (λp hp j hj e=>(OFI sb (by omega) (by omega)).2.1 p hp (e▸hj)) (λp hp j hj e=>(OFI sb (by omega) (by omega)).2.2 p hp (e▸hj))
   have lpm:(((pre++[x]).length:Nat):Int)=(m:Int)+1:=by rw[ae,hm];simp
   have bF4:But F W3 w4:=((But.refl F W3).drew).trans (hb4.mono (λj _ e=>(g3.fi j).2 (.inr (.inr (.inl e))))) (λ_ _ e=>e)
   have bF5:But F W3 (w4.setCell ⟨ib,0,none⟩ (.int .i64 ((m:Int)+1))):=bF4.trans b5 (λj _ e=>(g3.fi j).2 (.inl e))
   have bF6:=bF5.trans b6 (λj _ e=>(g3.fi j).2 (.inr (.inl e)))
   have fsub:∀j,(j=ib\/j=sb\/K4.own wb j\/∃p∈K4.T,Blk p j)->F j\/W0.heap.size<=j:=λj e=>by
    rcases e with e|e|e|⟨p,hp,e⟩
    . exact .inl ((g3.fi j).2 (.inl e))
    . exact .inl ((g3.fi j).2 (.inr (.inl e)))
    . rcases ho4 j e with e|e
      . exact .inl ((g3.fi j).2 (.inr (.inr (.inl e))))
      . exact .inr (by omega)
    . rcases ht4 p hp with hp|rfl
      . exact .inl ((g3.fi j).2 (.inr (.inr (.inr ⟨p,hp,e⟩))))
      . exact .inr (hqn.blk_new e)
   have tk4:∀p∈K4.T,p∈K.T\/Smi p/\∀j,Blk p j->Wc.heap.size<=j:=λp hp=>by
    rcases ht4 p hp with hp|rfl
    . exact g3.tk p hp
    . exact .inr ⟨SMQ.o,λj hj=>by have:=hqn.blk_new hj;omega⟩
   have xk4:∀p∈K4.X,p∈K.X\/∃z∈N,p=z.2:=λp hp=>by
    rcases hx4 p hp with hp|rfl
    . exact g3.xk p hp
    . exact .inr ⟨y,hyN,rfl⟩
   have ow4:∀j,K4.own wb j->K.own wb j\/Wc.heap.size<=j:=λj e=>by
    rcases ho4 j e with e|e
    . exact g3.ow j e
    . exact .inr (by omega)
   have bc4:But (λj=>j=ib\/j=sb\/K.own wb j\/(∃p∈K.T,Blk p j)) Wc w4:=(g3.b.trans ((But.refl _ W3).drew) (λ_ _ e=>e)).trans hb4 (λj hj e=>by
    rcases g3.ow j e with e|e
    . exact .inr (.inr (.inl e))
    . omega)
   have bc5:=bc4.trans b5 (λj _ e=>.inl e)
   have bc6:=bc5.trans b6 (λj _ e=>.inr (.inl e))
   exact⟨⟨dO i4,free_of_one i4⟩,⟨dO i5,dO k5,dO r5,free_of_one r5⟩,⟨_,bF5,fsub,K4,B5,hl4,he4,tk4,xk4,λj=>fJ,ow4,by rw[lpm];exact i5,r5,bc5⟩,⟨_,bF6,fsub,rfl,K4,B6,hl4,he4,tk4,xk4,λj=>fJ,ow4,by rw[lpm];exact i6,r6,bc6⟩⟩
  have H3:=gZ (SS.o _ (But.refl _ _));have hmI:(m:Int)<(nn:Int):=by rw[<-hnn];omega
  have z2:decide ((nn:Int)<=(m:Int))=false:=au (by omega)
  have z3:decide (nn<=m)=false:=au (by omega)
  have z4:(y.1==x.1)=true:=by rw[exy.1];simp
  have z5:(y.1 != x.1)=false:=by rw[exy.1];simp
  have zw:IntKind.i64.wrap ((m:Int)+1)=(m:Int)+1:=im (by omega) (by have:=HLN.o;have:=HNN.o;omega)
  have ZW:=gZ zw;clear zw hxs hg hb01 hqg hqn hql hsz hFs hFl hl1 hl2 hBw h3 aB sB s01 b03 g3 s3 OFF bx x3 n3 k3 WN3 d0 d1 d2 d3 d4 d5 hgcur p3 Q3 Y3 ylt KD OW NOW exy gy hyN hy hmL hmN;unfold Pv.vl at LK;simp only[Pv.cs] at LK;rw[hpb];gi_wp2
  refine gY (by kernel_rfl) (Q.j5 (Q.kY (by kernel_rfl)) (λ⟨_,_,h⟩=>h) _ _ _ _ (wpAny_of_held (S:=λW=>W.cell? ⟨ib,0,none⟩=some (.int .i64 (m:Int))/\W.cell? ⟨nb,0,none⟩=some (.slice (some ⟨g,0,none⟩) nn cN)/\W.cell? ⟨g,m*6,none⟩=some (.int .i64 x.1)/\W.cell? ⟨g,m*6+1,none⟩=some (.int .i64 y.2.kind)/\W.cell? ⟨g,m*6+2,none⟩=some (.int .i64 y.2.level)/\W.cell? ⟨g,m*6+3,none⟩=some (.slice y.2.aI y.2.items.length y.2.cI)/\W.cell? ⟨g,m*6+4,none⟩=some (.slice y.2.aD y.2.data.length y.2.cD)/\W.cell? ⟨g,m*6+5,none⟩=some (.int .i64 y.2.next)/\W.cell? ⟨xb,0,none⟩=some (.pointer (some ⟨wb,0,none⟩))/\W.cell? ⟨pb,0,none⟩=some (.int .i64 q.kind)/\W.cell? ⟨pb,1,none⟩=some (.int .i64 q.level)/\W.cell? ⟨pb,2,none⟩=some (.slice q.aI q.items.length q.cI)/\W.cell? ⟨pb,3,none⟩=some (.slice q.aD q.data.length q.cD)/\W.cell? ⟨pb,4,none⟩=some (.int .i64 q.next)) _ _ _ _ ?_))
  have hHeld:=H3.o;change wpAnyH _ _ _ _ _ _ _ _ W3.drew;refine tkd 0 1 2 3 ?_;refine tkd 4 5 6 7 ?_;refine tkd 8 9 10 11 ?_;refine tkd 12 13 14 15 ?_;refine tkd 16 17 18 19 ?_;refine tk 20 ?_;refine tw 21 λKx hK=>?_
  go_simp;refine LK.o.mono ?_;rintro _ w4 ⟨rfl,K4,hB4,hl4,he4,ht4,hx4,hb4,ho4⟩;have H4:=gZ (SS.o _ hb4);obtain⟨f1,f2,f3,f4⟩:=FIN.o w4 K4 hB4 hl4 he4 ht4 hx4 hb4 ho4;have F1:=gZ f1;have F2:=gZ f2;have F3:=gZ f3;have F4:=gZ f4;clear hB4 hl4 he4 ht4 hx4 hb4 ho4 f1 f2 f3 f4 FIN SS LK;go_wp2_with fail
  refine hK.o _ _ H4.o (λhHeld=>?_)
  refine tkb 22 23 ?_;refine td ?_;clear hHeld;obtain⟨i4,f4⟩:=F1.o;obtain⟨i5,k5,r5,rf5⟩:=F2.o;have zw:=ZW.o;by_cases hgt:k<(m:Int)+1
  . have dg:decide (k<(m:Int)+1)=true:=ay hgt;gi_wp2
    obtain⟨F',q1,q2,-,q3⟩:=F4.o;exact⟨F',q1,q2,rfl,q3⟩
  . have dg:decide (k<(m:Int)+1)=false:=au hgt;gi_wp2
    exact F3.o
 case done=>
  rintro D F Wx hD hFD ⟨K',hg⟩ hBw hFs hK;have ho:=HO.o;have eL:L.length=nn:=by rw[HLN.o];exact hnn
  have i3:=dO hg.i;rw[eL] at i3
  have OFF:∀j,w.heap.size<=j->j<Wc.heap.size->j≠ib->j≠sb->¬(j=ib\/j=sb\/K.own wb j\/∃q∈K.T,Blk q j):=λj h1 h2 h3 h4 e=>by
   rcases e with e|e|e|⟨p,hp,e⟩
   . exact h3 e
   . exact h4 e
   . have:=HB0.o.own_lt e;omega
   . have:=(HB0.o.tp p hp).n.blk_lt e;omega
  have n3:=dO (hg.b.same XX.o.2.1 (OFF nb (by omega) (by omega) (by omega) (by omega)))
  rw[hnn] at n3;have r3:=dO hg.r;have r3f:=free_of_one hg.r;have RR:=gZ hg.r
  have FIN:Hid (∀(vv:Bool) o,GoQ v w wb b rb col colR vw K N (.returned (.bool true)) ((Wx.setCell ⟨sb,0,none⟩ (.bool vv)).putObj D o)):=λvv o=>by
   have OFI:∀j,(j=sb\/j=D)->¬K'.own wb j/\(∀p∈K'.T,¬Blk p j)/\∀p∈K'.X,¬Blk p j:=λj hj=>by
    refine⟨λe=>?_,λp hp e=>?_,λp hp e=>?_⟩
    . rcases hj with rfl|rfl
      . rcases hg.ow _ e with e|e
        . have:=HB0.o.own_lt e;omega
        . omega
      . exact hFD ((hg.fi _).2 (.inr (.inr (.inl e))))
    . rcases hj with rfl|rfl
      . rcases hg.tk p hp with hp2|hp2
        . have:=(HB0.o.tp p hp2).n.blk_lt e;omega
        . have:=hp2.2 _ e;omega
      . exact hFD ((hg.fi _).2 (.inr (.inr (.inr ⟨p,hp,e⟩))))
    . have hl:j<w.heap.size:=by
       rcases hg.xk p hp with hp2|⟨z,hz,rfl⟩
       . exact(HB0.o.xp p hp2).n.blk_lt e
       . exact(WN0.o.np z hz).n.blk_lt e
      rcases hj with rfl|rfl<;>omega
   have b1:But (λj=>j=sb\/j=D) Wx ((Wx.setCell ⟨sb,0,none⟩ (.bool vv)).putObj D o):=((But.refl (λj=>j=sb\/j=D) Wx).setCell (p:=⟨sb,0,none⟩) (λ_=>.inl rfl) _).putObj (λ_=>.inr rfl) o
   have bo:=hg.bo.but b1 (λj hj e=>(OFI j e).1 hj) (λp hp j hj e=>(OFI j e).2.1 p hp hj) (λp hp j hj e=>(OFI j e).2.2 p hp hj)
   have sW:w.heap.size<=Wc.heap.size:=BW.o.size;refine⟨rfl,K',bo,hg.l4,hg.eq,λq hq=>(hg.tk q hq).imp id (λe=>⟨e.1,λj hj=>by have:=e.2 j hj;omega⟩),hg.xk,λj hj=>(hg.ow j hj).imp id (λe=>by omega),?_⟩
   have c1:But (λj=>K.own wb j\/∃q∈K.T,Blk q j) w Wx:=(But.ofBelow (S:=λj=>K.own wb j\/∃q∈K.T,Blk q j) BW.o).trans hg.b (λj hj e=>by
    rcases e with e|e|e|e
    . omega
    . omega
    . exact .inl e
    . exact .inr e)
   exact c1.trans b1 (λj hj e=>by rcases e with e|e<;>omega)
  have HK:=gZ hK;clear hg hBw hFs hK G0 SQ hFD OFF eL;have ze:(nn==nn)=true:=by simp
  have zi:(((nn:Nat):Int)==(nn:Int))=true:=by simp
  go_wp2;refine⟨by simp,.inl ⟨_,_,rfl,dY (((But.refl (λk=>k=sb) Wx).setCell (p:=⟨sb,0,none⟩) (λ_=>rfl) (.bool true)).same HK.o (λe=>by omega)),?_⟩⟩
  refine⟨_,m8 rfl _ _ sb (.bool true) rfl ?_,FIN.o true _⟩;have q1:(Wx.setCell ⟨sb,0,none⟩ (.bool true)).heap[sb]?=_:=one_setCell (u:=.bool true) RR.o;rw[ax _ _ _ _ _ _ ((dh (by omega)).trans q1)]
  rfl
 case stop=>
  rintro D c' F pre rest Wx hD hFD hxs ⟨rfl,K',hg⟩ hBw hFs hK;have ho:=HO.o;have i3:=dO hg.i
  have OFF:∀j,w.heap.size<=j->j<Wc.heap.size->j≠ib->j≠sb->¬(j=ib\/j=sb\/K.own wb j\/∃q∈K.T,Blk q j):=λj h1 h2 h3 h4 e=>by
   rcases e with e|e|e|⟨p,hp,e⟩
   . exact h3 e
   . exact h4 e
   . have:=HB0.o.own_lt e;omega
   . have:=(HB0.o.tp p hp).n.blk_lt e;omega
  have n3:=dO (hg.b.same XX.o.2.1 (OFF nb (by omega) (by omega) (by omega) (by omega)))
  rw[hnn] at n3;have r3:=dO hg.r;have r3f:=free_of_one hg.r;have RR:=gZ hg.r
  have FIN:Hid (∀o,GoQ v w wb b rb col colR vw K N (.returned (.bool true)) (Wx.putObj D o)):=λo=>by
   have OFI:∀j,(j=sb\/j=D)->¬K'.own wb j/\(∀p∈K'.T,¬Blk p j)/\∀p∈K'.X,¬Blk p j:=λj hj=>by
    refine⟨λe=>?_,λp hp e=>?_,λp hp e=>?_⟩
    . rcases hj with rfl|rfl
      . rcases hg.ow _ e with e|e
        . have:=HB0.o.own_lt e;omega
        . omega
      . exact hFD ((hg.fi _).2 (.inr (.inr (.inl e))))
    . rcases hj with rfl|rfl
      . rcases hg.tk p hp with hp2|hp2
        . have:=(HB0.o.tp p hp2).n.blk_lt e;omega
        . have:=hp2.2 _ e;omega
      . exact hFD ((hg.fi _).2 (.inr (.inr (.inr ⟨p,hp,e⟩))))
    . have hl:j<w.heap.size:=by
       rcases hg.xk p hp with hp2|⟨z,hz,rfl⟩
       . exact(HB0.o.xp p hp2).n.blk_lt e
       . exact(WN0.o.np z hz).n.blk_lt e
      rcases hj with rfl|rfl<;>omega
   have b1:But (λj=>j=sb\/j=D) Wx (Wx.putObj D o):=(But.refl (λj=>j=sb\/j=D) Wx).putObj (λ_=>.inr rfl) o
   have bo:=hg.bo.but b1 (λj hj e=>(OFI j e).1 hj) (λp hp j hj e=>(OFI j e).2.1 p hp hj) (λp hp j hj e=>(OFI j e).2.2 p hp hj)
   have sW:w.heap.size<=Wc.heap.size:=BW.o.size;refine⟨rfl,K',bo,hg.l4,hg.eq,λq hq=>(hg.tk q hq).imp id (λe=>⟨e.1,λj hj=>by have:=e.2 j hj;omega⟩),hg.xk,λj hj=>(hg.ow j hj).imp id (λe=>by omega),?_⟩
   have c1:But (λj=>K.own wb j\/∃q∈K.T,Blk q j) w Wx:=(But.ofBelow (S:=λj=>K.own wb j\/∃q∈K.T,Blk q j) BW.o).trans hg.b (λj hj e=>by
    rcases e with e|e|e|e
    . omega
    . omega
    . exact .inl e
    . exact .inr e)
   exact c1.trans b1 (λj hj e=>by rcases e with e|e<;>omega)
  have HK:=gZ hK;clear hg hBw hFs hK G0 SQ hFD OFF;refine fN.2 ?_;go_wp2;refine⟨by simp,.inl ⟨_,_,rfl,dY HK.o,?_⟩⟩
  refine⟨_,m8 rfl _ _ sb (.bool true) rfl ?_,FIN.o _⟩;rw[ax _ _ _ _ _ _ ((dh (by omega)).trans RR.o)]
  rfl
end Go.Proofs.YtbdkogimlbnlmaaGreat
