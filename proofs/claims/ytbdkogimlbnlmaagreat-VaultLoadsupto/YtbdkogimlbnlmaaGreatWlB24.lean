import Derived.Test.YtbdkogimlbnlmaaGreatWlB23
set_option linter.all false
set_option maxHeartbeats 32000000
set_option maxRecDepth 10000
namespace Go.Proofs.YtbdkogimlbnlmaaGreat
open Go.Proofs.Tryz
open Go.RowKit Go.Shelf
attribute [local go_sem] Oper.semAt_some
variable {ob vb:Nat}{w:World}
theorem pq{fn:Func}{p:Tmp}(h:fn.results=#[.cell p 4])(tmps:Array Value)(w:World)(g:Nat)(v:Value)(d:tmps.getD p undef=.pointer (some ⟨g,0,none⟩))(b:w.cell? ⟨g,0,none⟩=some v):
 (results fn tmps).run prog w=.ok v w:=by
 have e:tmps[p]?.getD undef=.pointer (some ⟨g,0,none⟩):=by simpa using d
 simp[results,h,e,asAddr,loadVar,isAgg4,run_load,b]
theorem Fi(d n:Nat)(lb:Array Value)(w:World):(Op.equalIn (d+1) 102 (.func (.func n) #[] lb) .nilFunc).run prog w=.ok false w:=by
 simp[Op.equalIn,dt underlying102]
theorem zP(n:Nat)(lb:Array Value)(w:World):(binOp .eql 102 (.func (.func n) #[] lb) .nilFunc).run prog w=.ok (.bool false) w:=by
 simp only[binOp];simp[Op.equal,Op.maxDepth,Fi 9999 n lb w]
structure Gj(v w Wc:World)(wb b rb:Nat)(col colR:Nat->Nat)(vw:Value)(K:Bkk)(N:List (Int×Pv))(ib sb:Nat)(rv:Bool)(F:Nat->Prop)(pre:List (Int×Pv))(W:World)(K':Bkk):Prop where
 bo:Bo v W wb b rb col colR vw K'
 l4:K'.T.length<=40
 eq:K'.T.map Pv.pg=K'.X.map Pv.pg
 tk:∀q∈K'.T,q∈K.T\/Smi q/\∀j,Blk q j->Wc.heap.size<=j
 xk:∀q∈K'.X,q∈K.X\/∃x∈N,q=x.2
 fi:∀j,F j↔j=ib\/j=sb\/K'.own wb j\/∃q∈K'.T,Blk q j
 ow:∀j,K'.own wb j->K.own wb j\/Wc.heap.size<=j
 i:W.heap[ib]?=some (.cells #[.int .i64 ((pre.length:Nat):Int)] 3 (0,0))
 r:W.heap[sb]?=some (.cells #[.bool rv] 4 (0,0))
 b:But (λj=>j=ib\/j=sb\/K.own wb j\/(∃q∈K.T,Blk q j)) Wc W
section
variable {v w Wc W A B:World} {wb b rb:Nat} {col colR:Nat->Nat} {vw:Value} {K K':Bkk} {N:List (Int×Pv)} {ib sb:Nat} {rv:Bool} {F:Nat->Prop} {pre:List (Int×Pv)}
theorem Gj.but{n:Nat}(g:Bo v w wb b rb col colR vw K)(i:∀x∈N,Pw1 v w col colR x.2)(q:w.heap.size<=n)(m:Wc.heap.size<=n)(h:Gj v w Wc wb b rb col colR vw K N ib sb rv F pre A K')(hb:But (λk=>¬F k/\n<=k) A B):Gj v w Wc wb b rb col colR vw K N ib sb rv F pre B K':=by
 refine⟨h.bo.but hb (λk d e=>e.1 ((h.fi k).2 (.inr (.inr (.inl d))))) (λp f k d e=>e.1 ((h.fi k).2 (.inr (.inr (.inr ⟨p,f,d⟩))))) (λp f k d e=>?_),h.l4,h.eq,h.tk,h.xk,h.fi,h.ow,hb.same h.i (λe=>e.1 ((h.fi _).2 (.inl rfl))),hb.same h.r (λe=>e.1 ((h.fi _).2 (.inr (.inl rfl)))),h.b.trans hb (λk d e=>by have:=e.2;omega)⟩
 have l:=e.2;rcases h.xk p f with f|⟨x,j,rfl⟩
 . have:=(g.xp p f).n.blk_lt d;omega
 . have:=(i x j).n.blk_lt d;omega
theorem Gj.siz(h:Gj v w Wc wb b rb col colR vw K N ib sb rv F pre A K'){k:Nat}(hk:F k):k<A.heap.size:=by
 rcases (h.fi k).1 hk with rfl|rfl|hk|⟨q,d,hk⟩
 . exact(af.1 h.i).1
 . exact(af.1 h.r).1
 . exact h.bo.own_lt hk
 . exact(h.bo.tp q d).n.blk_lt hk
end
def GoH(ib nb g m nn cN xb wb pb:Nat)(x1:Int)(y q:Pv)(W:World):Prop:=W.cell? ⟨ib,0,none⟩=some (.int .i64 (m:Int))/\W.cell? ⟨nb,0,none⟩=some (.slice (some ⟨g,0,none⟩) nn cN)/\W.cell? ⟨g,m*6,none⟩=some (.int .i64 x1)/\W.cell? ⟨g,m*6+1,none⟩=some (.int .i64 y.kind)/\W.cell? ⟨g,m*6+2,none⟩=some (.int .i64 y.level)/\W.cell? ⟨g,m*6+3,none⟩=some (.slice y.aI y.items.length y.cI)/\W.cell? ⟨g,m*6+4,none⟩=some (.slice y.aD y.data.length y.cD)/\W.cell? ⟨g,m*6+5,none⟩=some (.int .i64 y.next)/\W.cell? ⟨xb,0,none⟩=some (.pointer (some ⟨wb,0,none⟩))/\W.cell? ⟨pb,0,none⟩=some (.int .i64 q.kind)/\W.cell? ⟨pb,1,none⟩=some (.int .i64 q.level)/\W.cell? ⟨pb,2,none⟩=some (.slice q.aI q.items.length q.cI)/\W.cell? ⟨pb,3,none⟩=some (.slice q.aD q.data.length q.cD)/\W.cell? ⟨pb,4,none⟩=some (.int .i64 q.next)
def GoQ(v w:World)(wb b rb:Nat)(col colR:Nat->Nat)(vw:Value)(K:Bkk)(N:List (Int×Pv))(e:Ending)(w':World):Prop:=
 e=.returned (.bool true)/\∃K':Bkk,Bo v w' wb b rb col colR vw K'/\K'.T.length<=40/\K'.T.map Pv.pg=K'.X.map Pv.pg/\(∀q∈K'.T,q∈K.T\/Smi q/\∀j,Blk q j->w.heap.size<=j)/\(∀q∈K'.X,q∈K.X\/∃x∈N,q=x.2)/\(∀j,K'.own wb j->K.own wb j\/w.heap.size<=j)/\But (λj=>K.own wb j\/∃q∈K.T,Blk q j) w w'
theorem pR(v w:World)(wb b rb:Nat)(col colR:Nat->Nat)(vw:Value)(K:Bkk)(ao:Bo v w wb b rb col colR vw K)(he:K.T.map Pv.pg=K.X.map Pv.pg)(h4:K.T.length<=40)(t:∀k,w.heap.size<=k->col k=0/\colR k=0)(a5:∀k,col k≠0->k<w.heap.size)(hv:v.heap.size<=w.heap.size)
 (tb:Nat) (a:Option Addr) (c:Nat) (L:List (Int×Pv)) (hT:Wt v w col colR tb a c L) (aN:Option Addr) (cN:Nat) (N:List (Int×Pv)) (hN:Wn v w col colR aN cN N) (hE:nmg L=nmg N) (hD:∀p∈K.T,∀x∈N,Bdj p x.2) (hl:L.length<=9223372036854775807) (k:Int):
 Calls prog 51 #[.pointer (some ⟨wb,0,none⟩),.func (.func 116) #[] #[.pointer (some ⟨tb,0,none⟩)],.slice aN N.length cN,.int .i64 k] w λe w'=>GoQ v w wb b rb col colR vw K N e w':=by
 refine(fj (n:=0)).1 ?_;refine fF func51 rfl trivial ?_ rfl;simp only[ntmps51,dm,bf,bj,Nat.reduceAdd,Nat.reduceSub,dG,dH,dY,dO,cY,dw]
 have a3:L.length=N.length:=by
  have:=a7 List.length hE;simpa[nmg] using this
 refine gH.2 ?_;have ba:Below w.heap.size w ((((w.alloc (.cells #[.pointer (some ⟨wb,0,none⟩)] 24)).alloc (.cells #[.slice aN N.length cN] 36)).alloc (.cells #[.int .i64 k] 3)).alloc (.cells #[.bool false] 4)):=bt (bt (bt (al _ _) (al _ _)) (al _ _)) (al _ _);have sa:((((w.alloc (.cells #[.pointer (some ⟨wb,0,none⟩)] 24)).alloc (.cells #[.slice aN N.length cN] 36)).alloc (.cells #[.int .i64 k] 3)).alloc (.cells #[.bool false] 4)).heap.size=w.heap.size+1+1+1+1:=by rw[size_alloc,size_alloc,size_alloc,size_alloc]
 have x0:((((w.alloc (.cells #[.pointer (some ⟨wb,0,none⟩)] 24)).alloc (.cells #[.slice aN N.length cN] 36)).alloc (.cells #[.int .i64 k] 3)).alloc (.cells #[.bool false] 4)).heap[w.heap.size]?=some (.cells #[.pointer (some ⟨wb,0,none⟩)] 24 (0,0)):=iQ (iQ (iQ (aH w _) (al _ _)) (al _ _)) (al _ _)
 have n0:((((w.alloc (.cells #[.pointer (some ⟨wb,0,none⟩)] 24)).alloc (.cells #[.slice aN N.length cN] 36)).alloc (.cells #[.int .i64 k] 3)).alloc (.cells #[.bool false] 4)).heap[w.heap.size+1]?=some (.cells #[.slice aN N.length cN] 36 (0,0)):=by
  have c:=aH (w.alloc (.cells #[.pointer (some ⟨wb,0,none⟩)] 24)) (.cells #[.slice aN N.length cN] 36);rw[size_alloc] at c;exact iQ (iQ c (al _ _)) (al _ _)
 have k0:((((w.alloc (.cells #[.pointer (some ⟨wb,0,none⟩)] 24)).alloc (.cells #[.slice aN N.length cN] 36)).alloc (.cells #[.int .i64 k] 3)).alloc (.cells #[.bool false] 4)).heap[w.heap.size+1+1]?=some (.cells #[.int .i64 k] 3 (0,0)):=by
  have c:=aH ((w.alloc (.cells #[.pointer (some ⟨wb,0,none⟩)] 24)).alloc (.cells #[.slice aN N.length cN] 36)) (.cells #[.int .i64 k] 3);rw[size_alloc,size_alloc] at c;exact iQ c (al _ _)
 have s0:((((w.alloc (.cells #[.pointer (some ⟨wb,0,none⟩)] 24)).alloc (.cells #[.slice aN N.length cN] 36)).alloc (.cells #[.int .i64 k] 3)).alloc (.cells #[.bool false] 4)).heap[w.heap.size+1+1+1]?=some (.cells #[.bool false] 4 (0,0)):=by
  have c:=aH (((w.alloc (.cells #[.pointer (some ⟨wb,0,none⟩)] 24)).alloc (.cells #[.slice aN N.length cN] 36)).alloc (.cells #[.int .i64 k] 3)) (.cells #[.bool false] 4);rw[size_alloc,size_alloc,size_alloc] at c;exact c
 have O:=zP;go_upto_region 3 with fail
 generalize (((w.alloc (.cells #[.pointer (some ⟨wb,0,none⟩)] 24)).alloc (.cells #[.slice aN N.length cN] 36)).alloc (.cells #[.int .i64 k] 3)).alloc (.cells #[.bool false] 4)=Wa at *;obtain⟨xb,aV⟩:∃xb,w.heap.size=xb:=⟨_,rfl⟩;obtain⟨nb,aS⟩:∃nb,xb+1=nb:=⟨_,rfl⟩;obtain⟨kb,aP⟩:∃kb,nb+1=kb:=⟨_,rfl⟩;obtain⟨sb,aU⟩:∃sb,kb+1=sb:=⟨_,rfl⟩;simp only[aV,aS,aP,aU] at x0 n0 k0 s0 sa ⊢;have A5:=al Wa (.cells #[.int .i64 0] 3);have i0:=aH Wa (.cells #[.int .i64 0] 3);have x1:=iQ x0 A5;have n1:=iQ n0 A5;have k1:=iQ k0 A5;have s1:=iQ s0 A5;have bW:=bt ba A5;have sW:(Wa.alloc (.cells #[.int .i64 0] 3)).heap.size=Wa.heap.size+1:=size_alloc _ _;clear O x0 n0 k0 s0 A5;go_wp2_with fail
 refine(gH (n:=0)).1 ?_;generalize Wa.alloc (.cells #[.int .i64 0] 3)=Wc at *;rw[sa] at i0 sW;obtain⟨ib,aM⟩:∃ib,sb+1=ib:=⟨_,rfl⟩;simp only[aM] at i0 sW ⊢;have HO:=iJ (show w.heap.size=xb/\xb+1=nb/\nb+1=kb/\kb+1=sb/\sb+1=ib/\Wc.heap.size=ib+1 from⟨aV,aS,aP,aU,aM,sW⟩)
 clear aV aS aP aU aM sW sa ba;have M:=iJ ao;have HZ:=iJ t;have HV:=iJ hv;have aX:=iJ a5;have HD:=iJ hD;have HE:=iJ hE;have aL:=iJ a3;have BW:=iJ bW;have J:=iJ (ao.keep bW);have ab:=iJ (hT.keep bW);have s:=iJ hN;have aY:Hid (tb<w.heap.size/\∀y,a=some y->y.block<w.heap.size):=⟨hT.lb,λy h=>hT.lr.lt h⟩
 have ap:=iJ (hN.keep bW);have XX:=iJ (show Wc.heap[xb]?=_/\Wc.heap[nb]?=_/\Wc.heap[kb]?=_ from⟨x1,n1,k1⟩)
 have SQ:=Am ab.o hl;have G0:Hid (Gj v w Wc wb b rb col colR vw K N ib sb false (λj=>j=ib\/j=sb\/K.own wb j\/∃q∈K.T,Blk q j) [] Wc K):=⟨J.o,h4,he,λq O=>.inl O,λq O=>.inl O,λj=>gF,λj hj=>.inl hj,i0,s1,But.refl _ _⟩
 clear ao t hv a5 hD hE hN hT x1 n1 k1 i0 s1 h4 he a3;obtain⟨Y,ak⟩:∃Y,N.length=Y:=⟨_,rfl⟩;have bk:=iJ ak
 refine wp_rangeG (gf:=116) (lb:=#[.pointer (some ⟨tb,0,none⟩)]) rfl (enters_of func116 (by kernel_rfl) rfl) SQ (But.refl _ _)
  (λj hj=>by
    rcases hj with rfl|⟨y,h,rfl⟩|hj
    . exact ab.o.lb
    . exact ab.o.lr.lt h
    . have:=aX.o j (by omega);have:=BW.o.size;omega)
  (λW0 W x bA hv=>by obtain⟨q,rfl,_⟩:=hv;rfl)
  (λj=>j=ib\/j=sb\/K.own wb j\/∃q∈K.T,Blk q j)
  (λj hj hx=>by
    have ho:=HO.o;have aQ:=(show tb<w.heap.size/\∀y,a=some y->y.block<w.heap.size from⟨aY.o.1,aY.o.2⟩)
    rcases hx with rfl|⟨y,h,rfl⟩|hx
    . rcases hj with e|e|e|⟨q,O,e⟩
      . omega
      . omega
      . rcases e with e|⟨z,t,e⟩|⟨z,t,e⟩
        . exact jy J.o.box ab.o.bx (by decide) e.symm
        . exact jv J.o.gt ab.o.bx (by decide) z t e
        . exact jv J.o.gx ab.o.bx (by decide) z t e
      . exact(J.o.tp q O).n.ne e ab.o.bx (by decide) (by decide) rfl
    . have bG:=aQ.2 y h;obtain⟨br,ad⟩:=ab.o.lr.blk h;rcases hj with e|e|e|⟨q,O,e⟩
      . omega
      . omega
      . rcases e with e|⟨z,t,e⟩|⟨z,t,e⟩
        . exact jy J.o.box ad (by decide) e.symm
        . exact jv J.o.gt ad (by decide) z t e
        . exact jv J.o.gx ad (by decide) z t e
      . exact(J.o.tp q O).n.ne e ad (by decide) (by decide) rfl
    . have bF:=aX.o j (by omega)
      rcases hj with e|e|e|⟨q,O,e⟩
      . omega
      . omega
      . have:=J.o.own0 e;omega
      . have:=(J.o.tp q O).c j e;omega)
  (λF pre W=>∃K',Gj v w Wc wb b rb col colR vw K N ib sb false F pre W K')
  (λc F pre W=>c=.ret/\∃K',Gj v w Wc wb b rb col colR vw K N ib sb true F pre W K')
  (λF aK A B P hb=>by obtain⟨K',P⟩:=P;exact⟨K',P.but M.o s.o.np BW.o.size (ai _) hb⟩)
  (λF aK A P j hj=>by obtain⟨K',P⟩:=P;exact P.siz hj)
  (λc F aK A B P hb=>by obtain⟨e,K',P⟩:=P;exact⟨e,K',P.but M.o s.o.np BW.o.size (ai _) hb⟩)
  (λc F aK A P j hj=>by obtain⟨e,K',P⟩:=P;exact P.siz hj)
  ⟨K,G0.o⟩ ?round ?done ?stop
 case round=>
  rintro bC F pre x bz W0 W bA aC ⟨K',f⟩ aW ⟨q,rfl,aT,aa,a9⟩ bu av a2 aQ bs ar;obtain⟨m,hm⟩:∃m,pre.length=m:=⟨_,rfl⟩;have a6:m<L.length:=by rw[aC,ae,bf];omega
  have aR:m<N.length:=by rw[<-aL.o];exact a6
  obtain⟨y,h⟩:∃y,N.getD m (0,Pv.zero)=y:=⟨_,rfl⟩;have gy:N[m]?=some y:=by rw[<-h];simp[aR]
  have aD:y∈N:=bB gy
  have aq:x.1=y.1/\x.2.pg=y.2.pg:=by
   have e:(nmg L)[m]?=(nmg N)[m]?:=by rw[HE.o]
   have e1:(nmg L)[m]?=some (x.1,x.2.pg):=by
    unfold nmg;rw[c9,aC,bg (by omega),hm,df]
    rfl
   have e2:(nmg N)[m]?=some (y.1,y.2.pg):=by
    unfold nmg;rw[c9,gy];rfl
   rw[e1,e2] at e;simp only[aE,Prod.mk.injEq] at e;exact e
  unfold Pv.vl;simp only[Pv.cs];gi_wp2
  refine⟨al _ _,λi h3=>?_⟩
  have ho:=HO.o;have aB:=al W (.cells #[.int .i64 q.kind,.int .i64 q.level,.slice q.aI q.items.length q.cI,.slice q.aD q.data.length q.cD,.int .i64 q.next] 31);have sB:=size_alloc W (.cells #[.int .i64 q.kind,.int .i64 q.level,.slice q.aI q.items.length q.cI,.slice q.aD q.data.length q.cD,.int .i64 q.next] 31);have bw:=aW.size;have sW:w.heap.size<=Wc.heap.size:=BW.o.size;have aZ:But (λj=>¬F j/\Wc.heap.size<=j) W0 i:=((But.ofBelow (S:=λj=>¬F j/\Wc.heap.size<=j) aW).trans (But.ofBelow aB) (λ_ _ e=>e)).trans h3 (λj hj e=>⟨λhf=>a2 (by rw[e] at hf;exact hf),by omega⟩)
  have r:=f.but M.o s.o.np BW.o.size (ai _) aZ;have s3:=h3.size;have Z:Hid (∀j,w.heap.size<=j->j<Wc.heap.size->¬K.own wb j/\∀p∈K.T,¬Blk p j):=λj E H=>⟨λe=>by have:=M.o.own_lt e;omega,λp d e=>by have:=(M.o.tp p d).n.blk_lt e;omega⟩
  have bx:∀{j:Nat}{o:Obj},Wc.heap[j]?=some o->w.heap.size<=j->j≠ib->j≠sb->i.heap[j]?=some o:=λ{j o} hj E H h4=>r.b.same hj (λe=>by
   have aO:=(af.1 hj).1;rcases e with e|e|e|⟨p,d,e⟩
   . exact H e
   . exact h4 e
   . exact(Z.o j E aO).1 e
   . exact(Z.o j E aO).2 p d e)
  have x3:=bx XX.o.1 (by omega) (by omega) (by omega)
  have n3:=bx XX.o.2.1 (by omega) (by omega) (by omega)
  have k3:=bx XX.o.2.2 (by omega) (by omega) (by omega)
  have aF:Wn v i col colR aN cN N:=ap.o.but r.b (λz t e=>by
   have bH:=s.o.nr.lt t;obtain⟨br,ad⟩:=ap.o.nr.blk t;rcases e with e|e|e|⟨p,d,e⟩
   . omega
   . omega
   . rcases e with e|⟨z2,ah,e⟩|⟨z2,ah,e⟩
     . exact jy J.o.box ad (by decide) e.symm
     . exact jv J.o.gt ad (by decide) z2 ah e
     . exact jv J.o.gx ad (by decide) z2 ah e
   . exact(J.o.tp p d).n.ne e ad (by decide) (by decide) rfl)
   (λz t j hj e=>by
     have aO:=(s.o.np z t).n.blk_lt hj;rcases e with e|e|e|⟨p,d,e⟩
     . omega
     . omega
     . rcases e with e|e|e
       . exact(ap.o.np z t).n.ne hj J.o.box (by decide) (by decide) e
       . exact(ap.o.np z t).n.ne_row hj J.o.gt (by decide) (by decide) e
       . exact(ap.o.np z t).n.ne_row hj J.o.gx (by decide) (by decide) e
     . exact HD.o p d z t j e hj)
  obtain⟨g,ea,d0,d1,d2,d3,d4,d5⟩:=sF aF.nr aR h;have bD:g<w.heap.size:=s.o.nr.lt ea;obtain⟨bJ,aJ⟩:=aF.nr.blk ea;rw[<-aq.1] at d0;obtain⟨l,a8⟩:∃l,W.heap.size=l:=⟨_,rfl⟩;have p3:i.heap[l]?=some (.cells #[.int .i64 q.kind,.int .i64 q.level,.slice q.aI q.items.length q.cI,.slice q.aD q.data.length q.cD,.int .i64 q.next] 31 (0,0)):=h3.same (by rw[<-a8];exact aH W _) (by omega)
  have Q3:Pw1 v i col colR q:=⟨((aa.keep aB).but2 h3 (λj hj e=>by have:=aa.blk_new hj;omega)).pre (by have:=HV.o;omega),a9,λj hj=>HZ.o j (by have:=aa.blk_new hj;omega)⟩
  have Y3:Pw1 v i col colR y.2:=aF.np y aD;have bl:Hid (Smi q):=qh (ab.o.ls x (by rw[aC];exact iy _ da)) aT
  have aI:∀j,Blk y.2 j->j<w.heap.size:=λj hj=>(s.o.np y aD).n.blk_lt hj
  have KD:Kd v i.drew col colR K' q y.2:=⟨Q3.keep (dr2 _),Y3.keep (dr2 _),aT.trans aq.2,λp d j E H=>by have:=(f.bo.tp p d).n.blk_lt E;have:=aa.blk_new H;omega,λp d j E H=>by have:=(f.bo.xp p d).n.blk_lt H;have:=aa.blk_new E;omega,λp d j E H=>by
   rcases r.tk p d with hp2|hp2
   . exact HD.o p hp2 y aD j E H
   . have:=hp2.2 j E;have:=aI j H;omega,λj E H=>by have:=aa.blk_new E;have:=aI j H;omega,λj hj=>HZ.o j (by have e:i.drew.heap.size=i.heap.size:=rfl;omega),by have:=HV.o;have e:i.drew.heap.size=i.heap.size:=rfl;omega⟩
  have LK:=iJ (tN v i.drew wb b rb col colR vw K' (r.bo.keep (dr2 _)) r.eq r.l4 q y.2 KD);have OW:Hid (∀j,j<W0.heap.size\/True->K'.own wb j->K.own wb j\/Wc.heap.size<=j):=λj _=>r.ow j
  have I:Hid ((∀j,w.heap.size<=j->j<Wc.heap.size->¬K'.own wb j)/\¬K'.own wb g/\¬K'.own wb l):=⟨λj E H e=>by
   rcases r.ow j e with e|e
   . exact(Z.o j E H).1 e
   . omega,λe=>by
   rcases e with e|⟨z2,ah,e⟩|⟨z2,ah,e⟩
   . exact jy r.bo.box aJ (by decide) e.symm
   . exact jv r.bo.gt aJ (by decide) z2 ah e
   . exact jv r.bo.gx aJ (by decide) z2 ah e,λe=>by have:=f.bo.own_lt e;omega⟩
  have SS:Hid (∀W:World,But (K'.own wb) i.drew W->GoH ib nb g m Y cN xb wb l x.1 y.2 q W):=λW hb=>by
   have R:∀{j k:Nat}{u:Value},i.cell? ⟨j,k,none⟩=some u->¬K'.own wb j->W.cell? ⟨j,k,none⟩=some u:=λ{j k u} E H=>(hb.cell (p:=⟨j,k,none⟩) (block_lt_of_cell (w:=i.drew) E) H).trans E
   obtain⟨q0,q1,q2,q3,q4⟩:=iR p3;have i3:=em r.i;rw[hm] at i3;have bc:=em n3;rw[ea,ak] at bc;exact⟨R i3 (I.o.1 ib (by omega) (by omega)),R bc (I.o.1 nb (by omega) (by omega)),R d0 I.o.2.1,R d1 I.o.2.1,R d2 I.o.2.1,R d3 I.o.2.1,R d4 I.o.2.1,R d5 I.o.2.1,R (em x3) (I.o.1 xb (by omega) (by omega)),R q0 I.o.2.2,R q1 I.o.2.2,R q2 I.o.2.2,R q3 I.o.2.2,R q4 I.o.2.2⟩
  have aj:Hid (∀(C:World)(G:Bkk),Bo v C wb b rb col colR vw G->G.T.length<=40->G.T.map Pv.pg=G.X.map Pv.pg->(∀p∈G.T,p∈K'.T\/p=q)->(∀p∈G.X,p∈K'.X\/p=y.2)->But (K'.own wb) i.drew C->(∀j,G.own wb j->K'.own wb j\/i.drew.heap.size<=j)->
   (C.cell? ⟨ib,0,none⟩=some (.int .i64 (m:Int))/\C.frozen? ⟨ib,0,none⟩=false)/\((C.setCell ⟨ib,0,none⟩ (.int .i64 ((m:Int)+1))).cell? ⟨ib,0,none⟩=some (.int .i64 ((m:Int)+1))/\(C.setCell ⟨ib,0,none⟩ (.int .i64 ((m:Int)+1))).cell? ⟨kb,0,none⟩=some (.int .i64 k)/\(C.setCell ⟨ib,0,none⟩ (.int .i64 ((m:Int)+1))).cell? ⟨sb,0,none⟩=some (.bool false)/\(C.setCell ⟨ib,0,none⟩ (.int .i64 ((m:Int)+1))).frozen? ⟨sb,0,none⟩=false)/\
   (∃F':Nat->Prop,But F i (C.setCell ⟨ib,0,none⟩ (.int .i64 ((m:Int)+1)))/\(∀j,F' j->F j\/W0.heap.size<=j)/\∃K',Gj v w Wc wb b rb col colR vw K N ib sb false F' (pre++[x]) (C.setCell ⟨ib,0,none⟩ (.int .i64 ((m:Int)+1))) K')/\
   (∃F':Nat->Prop,But F i ((C.setCell ⟨ib,0,none⟩ (.int .i64 ((m:Int)+1))).setCell ⟨sb,0,none⟩ (.bool true))/\(∀j,F' j->F j\/W0.heap.size<=j)/\Code.ret=.ret/\∃K',Gj v w Wc wb b rb col colR vw K N ib sb true F' (pre++[x]) ((C.setCell ⟨ib,0,none⟩ (.int .i64 ((m:Int)+1))).setCell ⟨sb,0,none⟩ (.bool true)) K')):=λC G aG az aw an aA ac am=>by
   have e3:i.drew.heap.size=i.heap.size:=rfl
   have U:∀j,w.heap.size<=j->j<Wc.heap.size->¬G.own wb j/\(∀p∈G.T,¬Blk p j)/\∀p∈G.X,¬Blk p j:=λj E H=>⟨λe=>by
    rcases am j e with e|e
    . exact I.o.1 j E H e
    . omega,λp d e=>by
    rcases an p d with d|rfl
    . rcases r.tk p d with hp2|hp2
      . exact(Z.o j E H).2 p hp2 e
      . have:=hp2.2 j e;omega
    . have:=aa.blk_new e;omega,λp d e=>by
    rcases aA p d with d|rfl
    . rcases r.xk p d with hp2|⟨z,t,rfl⟩
      . have:=(M.o.xp p hp2).n.blk_lt e;omega
      . have:=(s.o.np z t).n.blk_lt e;omega
    . have:=aI j e;omega⟩
   have i4:=ac.same (show i.drew.heap[ib]?=_ from r.i) (I.o.1 ib (by omega) (by omega))
   rw[hm] at i4;have r4:=ac.same (show i.drew.heap[sb]?=_ from r.r) (I.o.1 sb (by omega) (by omega))
   have k4:=ac.same (show i.drew.heap[kb]?=_ from k3) (I.o.1 kb (by omega) (by omega))
   have b5:But (λj=>j=ib) C (C.setCell ⟨ib,0,none⟩ (.int .i64 ((m:Int)+1))):=(But.refl (λj=>j=ib) C).setCell (p:=⟨ib,0,none⟩) (λ_=>rfl) _
   have i5:=one_setCell (u:=.int .i64 ((m:Int)+1)) i4;have r5:=b5.same r4 (by omega)
   have k5:=b5.same k4 (by omega)
   have B5:=aG.but b5 (λj hj e=>(U ib (by omega) (by omega)).1 (e▸hj)) (λp d j hj e=>(U ib (by omega) (by omega)).2.1 p d (e▸hj)) (λp d j hj e=>(U ib (by omega) (by omega)).2.2 p d (e▸hj))
   have b6:But (λj=>j=sb) (C.setCell ⟨ib,0,none⟩ (.int .i64 ((m:Int)+1))) ((C.setCell ⟨ib,0,none⟩ (.int .i64 ((m:Int)+1))).setCell ⟨sb,0,none⟩ (.bool true)):=(But.refl (λj=>j=sb) _).setCell (p:=⟨sb,0,none⟩) (λ_=>rfl) _
   have r6:=one_setCell (u:=.bool true) r5;have i6:=b6.same i5 (by omega)
   have B6:=B5.but b6 (λj hj e=>(U sb (by omega) (by omega)).1 (e▸hj)) (λp d j hj e=>(U sb (by omega) (by omega)).2.1 p d (e▸hj)) (λp d j hj e=>(U sb (by omega) (by omega)).2.2 p d (e▸hj))
   have bb:(((pre++[x]).length:Nat):Int)=(m:Int)+1:=by rw[ae,hm];simp
   have bm:But F i C:=((But.refl F i).drew).trans (ac.mono (λj _ e=>(r.fi j).2 (.inr (.inr (.inl e))))) (λ_ _ e=>e)
   have a0:But F i (C.setCell ⟨ib,0,none⟩ (.int .i64 ((m:Int)+1))):=bm.trans b5 (λj _ e=>(r.fi j).2 (.inl e))
   have bn:=a0.trans b6 (λj _ e=>(r.fi j).2 (.inr (.inl e)))
   have bi:∀j,(j=ib\/j=sb\/G.own wb j\/∃p∈G.T,Blk p j)->F j\/W0.heap.size<=j:=λj e=>by
    rcases e with e|e|e|⟨p,d,e⟩
    . exact .inl ((r.fi j).2 (.inl e))
    . exact .inl ((r.fi j).2 (.inr (.inl e)))
    . rcases am j e with e|e
      . exact .inl ((r.fi j).2 (.inr (.inr (.inl e))))
      . exact .inr (by omega)
    . rcases an p d with d|rfl
      . exact .inl ((r.fi j).2 (.inr (.inr (.inr ⟨p,d,e⟩))))
      . exact .inr (aa.blk_new e)
   have be:∀p∈G.T,p∈K.T\/Smi p/\∀j,Blk p j->Wc.heap.size<=j:=λp d=>by
    rcases an p d with d|rfl
    . exact r.tk p d
    . exact .inr ⟨bl.o,λj hj=>by have:=aa.blk_new hj;omega⟩
   have bh:∀p∈G.X,p∈K.X\/∃z∈N,p=z.2:=λp d=>by
    rcases aA p d with d|rfl
    . exact r.xk p d
    . exact .inr ⟨y,aD,rfl⟩
   have bd:∀j,G.own wb j->K.own wb j\/Wc.heap.size<=j:=λj e=>by
    rcases am j e with e|e
    . exact r.ow j e
    . exact .inr (by omega)
   have bp:But (λj=>j=ib\/j=sb\/K.own wb j\/(∃p∈K.T,Blk p j)) Wc C:=(r.b.trans ((But.refl _ i).drew) (λ_ _ e=>e)).trans ac (λj hj e=>by
    rcases r.ow j e with e|e
    . exact .inr (.inr (.inl e))
    . omega)
   have a1:=bp.trans b5 (λj _ e=>.inl e)
   have bq:=a1.trans b6 (λj _ e=>.inr (.inl e))
   exact⟨⟨em i4,free_of_one i4⟩,⟨em i5,em k5,em r5,free_of_one r5⟩,⟨_,a0,bi,G,B5,az,aw,be,bh,λj=>gF,bd,by rw[bb];exact i5,r5,a1⟩,⟨_,bn,bi,rfl,G,B6,az,aw,be,bh,λj=>gF,bd,by rw[bb];exact i6,r6,bq⟩⟩
  have H3:=iJ (SS.o _ (But.refl _ _));have bE:(m:Int)<(Y:Int):=by rw[<-ak];omega
  have z2:decide ((Y:Int)<=(m:Int))=false:=au (by omega)
  have z3:decide (Y<=m)=false:=au (by omega)
  have z4:(y.1==x.1)=true:=by rw[aq.1];simp
  have z5:(y.1 != x.1)=false:=by rw[aq.1];simp
  have zw:IntKind.i64.wrap ((m:Int)+1)=(m:Int)+1:=iT (by omega) (by have:=aL.o;have:=bk.o;omega)
  have ZW:=iJ zw;clear zw aC f aW aT aa a9 bu av a2 aQ bs ar h3 aB sB bw aZ r s3 Z bx x3 n3 k3 aF d0 d1 d2 d3 d4 d5 aJ p3 Q3 Y3 aI KD OW I aq gy aD h a6 aR;unfold Pv.vl at LK;simp only[Pv.cs] at LK;rw[a8];gi_wp2
  refine iI (by kernel_rfl) (Q.kZ (Q.mG (by kernel_rfl)) (λ⟨_,_,ao⟩=>ao) _ _ _ _ (wpAny_of_held (S:=λW=>W.cell? ⟨ib,0,none⟩=some (.int .i64 (m:Int))/\W.cell? ⟨nb,0,none⟩=some (.slice (some ⟨g,0,none⟩) Y cN)/\W.cell? ⟨g,m*6,none⟩=some (.int .i64 x.1)/\W.cell? ⟨g,m*6+1,none⟩=some (.int .i64 y.2.kind)/\W.cell? ⟨g,m*6+2,none⟩=some (.int .i64 y.2.level)/\W.cell? ⟨g,m*6+3,none⟩=some (.slice y.2.aI y.2.items.length y.2.cI)/\W.cell? ⟨g,m*6+4,none⟩=some (.slice y.2.aD y.2.data.length y.2.cD)/\W.cell? ⟨g,m*6+5,none⟩=some (.int .i64 y.2.next)/\W.cell? ⟨xb,0,none⟩=some (.pointer (some ⟨wb,0,none⟩))/\W.cell? ⟨l,0,none⟩=some (.int .i64 q.kind)/\W.cell? ⟨l,1,none⟩=some (.int .i64 q.level)/\W.cell? ⟨l,2,none⟩=some (.slice q.aI q.items.length q.cI)/\W.cell? ⟨l,3,none⟩=some (.slice q.aD q.data.length q.cD)/\W.cell? ⟨l,4,none⟩=some (.int .i64 q.next)) _ _ _ _ ?_))
  have hHeld:=H3.o;change wpAnyH _ _ _ _ _ _ _ _ i.drew;refine tkd 0 1 2 3 ?_;refine tkd 4 5 6 7 ?_;refine tkd 8 9 10 11 ?_;refine tkd 12 13 14 15 ?_;refine tkd 16 17 18 19 ?_;refine tk 20 ?_;refine tw 21 λKx hK=>?_
  go_simp;refine LK.o.mono ?_;rintro _ C ⟨rfl,G,aG,az,aw,an,aA,ac,am⟩;have H4:=iJ (SS.o _ ac);obtain⟨f1,f2,f3,f4⟩:=aj.o C G aG az aw an aA ac am;have F1:=iJ f1;have F2:=iJ f2;have F3:=iJ f3;have F4:=iJ f4;clear aG az aw an aA ac am f1 f2 f3 f4 aj SS LK;go_wp2_with fail
  refine hK.o _ _ H4.o (λhHeld=>?_)
  refine tkb 22 23 ?_;refine td ?_;clear hHeld;obtain⟨i4,f4⟩:=F1.o;obtain⟨i5,k5,r5,bI⟩:=F2.o;have zw:=ZW.o;by_cases a4:k<(m:Int)+1
  . have dg:decide (k<(m:Int)+1)=true:=ax a4;gi_wp2
    obtain⟨F',q1,q2,-,q3⟩:=F4.o;exact⟨F',q1,q2,rfl,q3⟩
  . have dg:decide (k<(m:Int)+1)=false:=au a4;gi_wp2
    exact F3.o
 case done=>
  rintro D F V hD ag ⟨K',f⟩ ar av hK;have ho:=HO.o;have eL:L.length=Y:=by rw[aL.o];exact ak
  have i3:=em f.i;rw[eL] at i3
  have Z:∀j,w.heap.size<=j->j<Wc.heap.size->j≠ib->j≠sb->¬(j=ib\/j=sb\/K.own wb j\/∃q∈K.T,Blk q j):=λj E H h3 h4 e=>by
   rcases e with e|e|e|⟨p,d,e⟩
   . exact h3 e
   . exact h4 e
   . have:=M.o.own_lt e;omega
   . have:=(M.o.tp p d).n.blk_lt e;omega
  have n3:=em (f.b.same XX.o.2.1 (Z nb (by omega) (by omega) (by omega) (by omega)))
  rw[ak] at n3;have r3:=em f.r;have bv:=free_of_one f.r;have RR:=iJ f.r
  have aj:Hid (∀(vv:Bool) o,GoQ v w wb b rb col colR vw K N (.returned (.bool true)) ((V.setCell ⟨sb,0,none⟩ (.bool vv)).putObj D o)):=λvv o=>by
   have U:∀j,(j=sb\/j=D)->¬K'.own wb j/\(∀p∈K'.T,¬Blk p j)/\∀p∈K'.X,¬Blk p j:=λj hj=>by
    refine⟨λe=>?_,λp d e=>?_,λp d e=>?_⟩
    . rcases hj with rfl|rfl
      . rcases f.ow _ e with e|e
        . have:=M.o.own_lt e;omega
        . omega
      . exact ag ((f.fi _).2 (.inr (.inr (.inl e))))
    . rcases hj with rfl|rfl
      . rcases f.tk p d with hp2|hp2
        . have:=(M.o.tp p hp2).n.blk_lt e;omega
        . have:=hp2.2 _ e;omega
      . exact ag ((f.fi _).2 (.inr (.inr (.inr ⟨p,d,e⟩))))
    . have hl:j<w.heap.size:=by
       rcases f.xk p d with hp2|⟨z,t,rfl⟩
       . exact(M.o.xp p hp2).n.blk_lt e
       . exact(s.o.np z t).n.blk_lt e
      rcases hj with rfl|rfl<;>omega
   have b1:But (λj=>j=sb\/j=D) V ((V.setCell ⟨sb,0,none⟩ (.bool vv)).putObj D o):=((But.refl (λj=>j=sb\/j=D) V).setCell (p:=⟨sb,0,none⟩) (λ_=>.inl rfl) _).putObj (λ_=>.inr rfl) o
   have bo:=f.bo.but b1 (λj hj e=>(U j e).1 hj) (λp d j hj e=>(U j e).2.1 p d hj) (λp d j hj e=>(U j e).2.2 p d hj)
   have sW:w.heap.size<=Wc.heap.size:=BW.o.size;refine⟨rfl,K',bo,f.l4,f.eq,λq O=>(f.tk q O).imp id (λe=>⟨e.1,λj hj=>by have:=e.2 j hj;omega⟩),f.xk,λj hj=>(f.ow j hj).imp id (λe=>by omega),?_⟩
   have c1:But (λj=>K.own wb j\/∃q∈K.T,Blk q j) w V:=(But.ofBelow (S:=λj=>K.own wb j\/∃q∈K.T,Blk q j) BW.o).trans f.b (λj hj e=>by
    rcases e with e|e|e|e
    . omega
    . omega
    . exact .inl e
    . exact .inr e)
   exact c1.trans b1 (λj hj e=>by rcases e with e|e<;>omega)
  have HK:=iJ hK;clear f ar av hK G0 SQ ag Z eL;have ze:(Y==Y)=true:=by simp
  have zi:(((Y:Nat):Int)==(Y:Int))=true:=by simp
  go_wp2;refine⟨by simp,.inl ⟨_,_,rfl,eO (((But.refl (λk=>k=sb) V).setCell (p:=⟨sb,0,none⟩) (λ_=>rfl) (.bool true)).same HK.o (λe=>by omega)),?_⟩⟩
  refine⟨_,pq rfl _ _ sb (.bool true) rfl ?_,aj.o true _⟩;have q1:(V.setCell ⟨sb,0,none⟩ (.bool true)).heap[sb]?=_:=one_setCell (u:=.bool true) RR.o;rw[ay _ _ _ _ _ _ ((dz (by omega)).trans q1)]
  rfl
 case stop=>
  rintro D c' F pre bz V hD ag aC ⟨rfl,K',f⟩ ar av hK;have ho:=HO.o;have i3:=em f.i
  have Z:∀j,w.heap.size<=j->j<Wc.heap.size->j≠ib->j≠sb->¬(j=ib\/j=sb\/K.own wb j\/∃q∈K.T,Blk q j):=λj E H h3 h4 e=>by
   rcases e with e|e|e|⟨p,d,e⟩
   . exact h3 e
   . exact h4 e
   . have:=M.o.own_lt e;omega
   . have:=(M.o.tp p d).n.blk_lt e;omega
  have n3:=em (f.b.same XX.o.2.1 (Z nb (by omega) (by omega) (by omega) (by omega)))
  rw[ak] at n3;have r3:=em f.r;have bv:=free_of_one f.r;have RR:=iJ f.r
  have aj:Hid (∀o,GoQ v w wb b rb col colR vw K N (.returned (.bool true)) (V.putObj D o)):=λo=>by
   have U:∀j,(j=sb\/j=D)->¬K'.own wb j/\(∀p∈K'.T,¬Blk p j)/\∀p∈K'.X,¬Blk p j:=λj hj=>by
    refine⟨λe=>?_,λp d e=>?_,λp d e=>?_⟩
    . rcases hj with rfl|rfl
      . rcases f.ow _ e with e|e
        . have:=M.o.own_lt e;omega
        . omega
      . exact ag ((f.fi _).2 (.inr (.inr (.inl e))))
    . rcases hj with rfl|rfl
      . rcases f.tk p d with hp2|hp2
        . have:=(M.o.tp p hp2).n.blk_lt e;omega
        . have:=hp2.2 _ e;omega
      . exact ag ((f.fi _).2 (.inr (.inr (.inr ⟨p,d,e⟩))))
    . have hl:j<w.heap.size:=by
       rcases f.xk p d with hp2|⟨z,t,rfl⟩
       . exact(M.o.xp p hp2).n.blk_lt e
       . exact(s.o.np z t).n.blk_lt e
      rcases hj with rfl|rfl<;>omega
   have b1:But (λj=>j=sb\/j=D) V (V.putObj D o):=(But.refl (λj=>j=sb\/j=D) V).putObj (λ_=>.inr rfl) o
   have bo:=f.bo.but b1 (λj hj e=>(U j e).1 hj) (λp d j hj e=>(U j e).2.1 p d hj) (λp d j hj e=>(U j e).2.2 p d hj)
   have sW:w.heap.size<=Wc.heap.size:=BW.o.size;refine⟨rfl,K',bo,f.l4,f.eq,λq O=>(f.tk q O).imp id (λe=>⟨e.1,λj hj=>by have:=e.2 j hj;omega⟩),f.xk,λj hj=>(f.ow j hj).imp id (λe=>by omega),?_⟩
   have c1:But (λj=>K.own wb j\/∃q∈K.T,Blk q j) w V:=(But.ofBelow (S:=λj=>K.own wb j\/∃q∈K.T,Blk q j) BW.o).trans f.b (λj hj e=>by
    rcases e with e|e|e|e
    . omega
    . omega
    . exact .inl e
    . exact .inr e)
   exact c1.trans b1 (λj hj e=>by rcases e with e|e<;>omega)
  have HK:=iJ hK;clear f ar av hK G0 SQ ag Z;refine gH.2 ?_;go_wp2;refine⟨by simp,.inl ⟨_,_,rfl,eO HK.o,?_⟩⟩
  refine⟨_,pq rfl _ _ sb (.bool true) rfl ?_,aj.o _⟩;rw[ay _ _ _ _ _ _ ((dz (by omega)).trans RR.o)]
  rfl
def Nz(w:World)(ob vb b:Nat)(g:Int->Pv)(F:Nat->Prop)(pre:List Int)(W:World):Prop:=
 ∃a c,(∀k,F k↔k=ob\/Q.InA a k)/\W.heap[ob]?=some (.cells #[.slice a pre.length c] 36 (0,0))/\Q.Gw 39 6 W a c pre.length (nms (pre.map λn=>(n,g n)))/\(∀x,a=some x->w.heap.size<=x.block/\x.block≠ob/\x.block≠vb)/\W.cell? ⟨vb,0,none⟩=some (.pointer (some ⟨b,0,none⟩))/\Below w.heap.size w W
theorem Nz.abid{b n:Nat}{g:Int->Pv}(t:w.heap.size<=ob)(y:vb<n)(C:w.heap.size<=n):Q.mq n (Nz w ob vb b g):=λF s A B q hb=>by
 obtain⟨a,c,d,i,j,l,f,m⟩:=q;refine⟨a,c,d,hb.same i (λh=>h.1 ((d ob).2 (.inl rfl))),j.but hb (λx r h=>h.1 ((d _).2 (.inr ⟨x,r,rfl⟩))),l,(hb.cell (p:=⟨vb,0,none⟩) (block_lt_of_cell f) (λh=>by have:=h.2;have e:({block:=vb,off:=0,spot:=none}:Addr).block=vb:=rfl;omega)).trans f,?_⟩
 exact((But.ofBelow (S:=λ_=>False) m).trans hb (λk D h=>by have:=h.2;omega)).below (λ_ _ h=>h)
theorem Nz.siz{b:Nat}{g:Int->Pv}:Q.oj (Nz w ob vb b g):=λF s A i k h=>by
 obtain⟨a,c,d,e,f,l,m,n⟩:=i;rcases (d k).1 h with rfl|⟨x,j,rfl⟩
 . exact(af.1 e).1
 . exact f.lt j
def PgH(vb b mb:Nat)(x:Int)(q:Pv)(W:World):Prop:=W.cell? ⟨vb,0,none⟩=some (.pointer (some ⟨b,0,none⟩))/\W.cell? ⟨b,1,none⟩=some (.map (some mb))/\(Instr.lookup 81 (.map (some mb)) (.int .i64 x) false).run prog W=.ok (.agg #[.int .i64 q.kind,.int .i64 q.level,.slice q.aI q.items.length q.cI,.slice q.aD q.data.length q.cD,.int .i64 q.next]) W
def VPg(w:World)(S:Vs)(z:Int)(e:Ending)(w':World):Prop:=
 ∃(tb:Nat)(a:Option Addr)(c:Nat),e=.returned (.func (.func 116) #[] #[.pointer (some ⟨tb,0,none⟩)])/\Below w.heap.size w w'/\w.heap.size<=tb/\w'.heap[tb]?=some (.cells #[.slice a (S.X.P.pages z).length c] 36 (0,0))/\Q.Gw 39 6 w' a c (S.X.P.pages z).length (nms ((S.X.P.pages z).map λn=>(n,S.X.on n)))/\∀x,a=some x->w.heap.size<=x.block
theorem sd(w:World)(b:Nat)(S:Vs)(pb M:Nat)(pc col:Nat->Nat)(h:Vw w b S pb M pc col)(z:Int):
 Calls prog 52 #[.pointer (some ⟨b,0,none⟩),.int .i64 z] w λe w'=>VPg w S z e w':=by
 obtain⟨ac,cc,aa,ca,H⟩:=h;refine(fj (n:=0)).1 ?_;refine fF func52 rfl trivial ?_ rfl;simp only[ntmps52,dm,bf,bj,Nat.reduceAdd,Nat.reduceSub,dG,dH,dY,dO,cY,dw];refine gH.2 ?_;have A0:=iJ (bt (al w (.cells #[.pointer (some ⟨b,0,none⟩)] 41)) (al (w.alloc (.cells #[.pointer (some ⟨b,0,none⟩)] 41)) (.cells #[.slice none 0 0] 36)))
 have X0:Hid (((w.alloc (.cells #[.pointer (some ⟨b,0,none⟩)] 41)).alloc (.cells #[.slice none 0 0] 36)).cell? ⟨w.heap.size,0,none⟩=some (.pointer (some ⟨b,0,none⟩))):=by
  have c:=Q.jd w (.pointer (some ⟨b,0,none⟩)) 41;exact((al _ _).cell (p:=⟨w.heap.size,0,none⟩) (block_lt_of_cell c)).trans c
 have O0:Hid (((w.alloc (.cells #[.pointer (some ⟨b,0,none⟩)] 41)).alloc (.cells #[.slice none 0 0] 36)).heap[w.heap.size+1]?=some (.cells #[.slice none 0 0] 36 (0,0))):=by
  have c:=aH (w.alloc (.cells #[.pointer (some ⟨b,0,none⟩)] 41)) (.cells #[.slice none 0 0] 36);rw[size_alloc] at c;exact c
 have aC:Hid (((w.alloc (.cells #[.pointer (some ⟨b,0,none⟩)] 41)).alloc (.cells #[.slice none 0 0] 36)).heap.size=w.heap.size+1+1):=by show _=_;rw[size_alloc,size_alloc]
 have HQ:=iJ H;have ak:=iJ (H.keep A0.o);have PG:=iJ (Q.t6 _ pb S.X.P pc ak.o.pool z)
 have aB:Hid ((S.X.P.pages z).length<=65536):=by
  obtain⟨_,k⟩:=H.pool;exact S.X.P.pages_len k.ok z
 obtain⟨c0,c1,c2,c3,c4⟩:=ak.o.cells;have x0:=X0.o;dsimp only at c0 c1;clear H c2 c3 c4;go_wp2_with fail
 generalize (w.alloc (.cells #[.pointer (some ⟨b,0,none⟩)] 41)).alloc (.cells #[.slice none 0 0] 36)=W0 at *;refine PG.o.mono ?_;rintro _ W1 ⟨gf,lb,aL,rfl,J⟩;have s:=iJ J;have B1:=iJ (bt A0.o J.bl);have s0:=aC.o;have s1:W0.heap.size<=W1.heap.size:=J.bl.size;have Z1:Hid (Nz w (w.heap.size+1) w.heap.size b S.X.on (λk=>k=w.heap.size+1\/Q.InA none k) [] W1):=⟨none,0,λk=>gF,(J.bl.block _ (af.1 O0.o).1).trans O0.o,Q.Gw.nil _ _ _,λx L=>(by cases L),(J.bl.cell (p:=⟨w.heap.size,0,none⟩) (block_lt_of_cell x0)).trans x0,B1.o⟩
 have sX:=J.nw;clear J PG c0 c1 x0;go_wp2_with fail
 refine(gH (n:=0)).1 ?_;obtain⟨ob,av⟩:∃ob,w.heap.size+1=ob:=⟨_,rfl⟩;rw[av] at Z1 s0;simp only[av]
 refine Q.wp_rangeF (gf:=gf) (lb:=lb) rfl s.o.en s.o.seq (But.refl _ _) (λk t=>(sX k t).2) (λ_=>rfl)
  (λk=>k=ob\/Q.InA none k)
  (λk t L=>by
    have:=(sX k L).1;rcases t with rfl|⟨y,f,rfl⟩
    . omega
    . cases f)
  (Nz w ob w.heap.size b S.X.on)
  (λc F pre W=>False)
  (Nz.abid (by omega) (by omega) (by omega))
  Nz.siz
  (λc F az A B hs hb=>hs)
  (λc F az A hs=>hs.elim)
  Z1.o ?round ?done ?stop
 case round=>
  rintro aM F pre x aK W aj P aI ai aq aE aF ag;unfold Q.enI;gi_wp2
  refine⟨Below.refl _ _,λd h3=>?_⟩
  have z3:Nz w ob w.heap.size b S.X.on F pre d:=Nz.abid (n:=W1.heap.size) (by omega) (by omega) (by omega) _ _ _ _ P (h3.mono λk _ t=>⟨λhf=>aq (by rw[t] at hf;exact hf),by omega⟩)
  obtain⟨a,c,E,U,V,C,e5,Y⟩:=z3;have lp:(pre++[x]).length=pre.length+1:=by simp
  have lx:pre.length+1<=65536:=by have:=aB.o;rw[aj,ae,bf] at this;omega
  obtain⟨m,hm⟩:∃m,pre.length=m:=⟨_,rfl⟩;obtain⟨q,H⟩:∃q,S.X.on x=q:=⟨_,rfl⟩
  have T:Hid (∀W:World,Below w.heap.size w W->W.cell? ⟨w.heap.size,0,none⟩=some (.pointer (some ⟨b,0,none⟩))->PgH w.heap.size b M x q W):=λW hb hv=>by
   have k:=HQ.o.keep hb;have k1:=k.cells.2.1;have k2:=sG k x;refine⟨hv,k1,?_⟩;have e:mO ⟨pb,M,S.X.f,ac,cc,S.X.ch,aa,ca,S.al⟩ x=q:=H;rw[e] at k2;exact k2
  have ad:Below w.heap.size w d.drew:=bt Y (dr2 d);have v3:d.drew.cell? ⟨w.heap.size,0,none⟩=some (.pointer (some ⟨b,0,none⟩)):=e5;have X:d.drew.heap[ob]?=some (.cells #[.slice a m c] 36 (0,0)):=by rw[<-hm];exact U
  have aw:w.heap.size<d.drew.heap.size:=block_lt_of_cell v3;have aJ:ob<d.drew.heap.size:=(af.1 X).1;have O:=iJ (al d.drew (.cells #[.int .i64 x,.int .i64 q.kind,.int .i64 q.level,.slice q.aI q.items.length q.cI,.slice q.aD q.data.length q.cD,.int .i64 q.next] 39));have X4:Hid ((d.drew.alloc (.cells #[.int .i64 x,.int .i64 q.kind,.int .i64 q.level,.slice q.aI q.items.length q.cI,.slice q.aD q.data.length q.cD,.int .i64 q.next] 39)).heap[d.drew.heap.size]?=some (.cells #[.int .i64 x,.int .i64 q.kind,.int .i64 q.level,.slice q.aI q.items.length q.cI,.slice q.aD q.data.length q.cD,.int .i64 q.next] 39 (0,0))):=aH _ _;have G4:Hid (Q.Gw 39 6 (d.drew.alloc (.cells #[.int .i64 x,.int .i64 q.kind,.int .i64 q.level,.slice q.aI q.items.length q.cI,.slice q.aD q.data.length q.cD,.int .i64 q.next] 39)) a c m (nms (pre.map λn=>(n,S.X.on n)))):=by rw[<-hm];exact(V.keep (dr2 d)).keep O.o
  have o4:(d.drew.alloc (.cells #[.int .i64 x,.int .i64 q.kind,.int .i64 q.level,.slice q.aI q.items.length q.cI,.slice q.aD q.data.length q.cD,.int .i64 q.next] 39)).cell? ⟨ob,0,none⟩=some (.slice a m c):=em ((O.o.block ob aJ).trans X);have aP:(d.alloc (.cells #[.int .i64 x,.int .i64 q.kind,.int .i64 q.level,.slice q.aI q.items.length q.cI,.slice q.aD q.data.length q.cD,.int .i64 q.next] 39)).drew.cell? ⟨ob,0,none⟩=some (.slice a m c):=o4;have v4:=(O.o.cell (p:=⟨w.heap.size,0,none⟩) aw).trans v3;have H3:=iJ (T.o _ ad v3);have H4:=iJ (T.o _ (bt ad O.o) v4)
  have ab:Hid (∀(g G:Nat)(i:World),Q.Gw 39 6 i (some ⟨g,0,none⟩) G (m+1) (nms (pre.map λn=>(n,S.X.on n))++nmc (x,q))->New (d.drew.alloc (.cells #[.int .i64 x,.int .i64 q.kind,.int .i64 q.level,.slice q.aI q.items.length q.cI,.slice q.aD q.data.length q.cD,.int .i64 q.next] 39)) a (some ⟨g,0,none⟩)->But (Q.InA a) (d.drew.alloc (.cells #[.int .i64 x,.int .i64 q.kind,.int .i64 q.level,.slice q.aI q.items.length q.cI,.slice q.aD q.data.length q.cD,.int .i64 q.next] 39)) i->
   (i.cell? ⟨ob,0,none⟩=some (.slice a m c)/\i.frozen? ⟨ob,0,none⟩=false)/\PgH w.heap.size b M x q i/\PgH w.heap.size b M x q (i.setCell ⟨ob,0,none⟩ (.slice (some ⟨g,0,none⟩) (m+1) G))/\∃F':Nat->Prop,But F d (i.setCell ⟨ob,0,none⟩ (.slice (some ⟨g,0,none⟩) (m+1) G))/\(∀k,F' k->F k\/d.heap.size<=k)/\Nz w ob w.heap.size b S.X.on F' (pre++[x]) (i.setCell ⟨ob,0,none⟩ (.slice (some ⟨g,0,none⟩) (m+1) G))):=λg G i hR hN hB=>by
   have r:But (Q.InA a) d.drew i:=(But.ofBelow (S:=Q.InA a) O.o).trans hB (λ_ _ h=>h)
   have o5:=r.same X (λ⟨y,f,e⟩=>(C y f).2.1 e)
   have v5:=(r.cell (p:=⟨w.heap.size,0,none⟩) aw (λ⟨y,f,e⟩=>(C y f).2.2 e)).trans v3
   have Z:w.heap.size<=g/\g≠ob/\g≠w.heap.size/\(F g\/d.heap.size<=g):=by
    rcases hN ⟨g,0,none⟩ rfl with⟨y,f,e⟩|h2
    . have e:y.block=g:=e;rw[<-e];exact⟨(C y f).1,(C y f).2.1,(C y f).2.2,.inl ((E _).2 (.inr ⟨y,f,rfl⟩))⟩
    . have h2:(d.drew.alloc (.cells #[.int .i64 x,.int .i64 q.kind,.int .i64 q.level,.slice q.aI q.items.length q.cI,.slice q.aD q.data.length q.cD,.int .i64 q.next] 39)).heap.size<=g:=h2;have h2:=aO O.o.size h2;have e0:d.drew.heap.size=d.heap.size:=rfl;exact⟨by omega,by omega,by omega,.inr (by omega)⟩
   have l:But (λk=>k=ob) i (i.setCell ⟨ob,0,none⟩ (.slice (some ⟨g,0,none⟩) (m+1) G)):=(But.refl (λk=>k=ob) i).setCell (p:=⟨ob,0,none⟩) (λ_=>rfl) _
   have o6:=one_setCell (u:=.slice (some ⟨g,0,none⟩) (m+1) G) o5;have v6:=(l.cell (p:=⟨w.heap.size,0,none⟩) (block_lt_of_cell v5) (λe=>by have e:w.heap.size=ob:=e;omega)).trans v5
   have am:Below w.heap.size w i:=((But.ofBelow (S:=λ_=>False) ad).trans r (λk t ⟨y,f,e⟩=>by have:=(C y f).1;omega)).below (λ_ _ h=>h)
   have an:Below w.heap.size w (i.setCell ⟨ob,0,none⟩ (.slice (some ⟨g,0,none⟩) (m+1) G)):=((But.ofBelow (S:=λ_=>False) am).trans l (λk t e=>by omega)).below (λ_ _ h=>h)
   have ax:(pre++[x]).length=m+1:=by rw[<-hm];exact lp
   refine⟨⟨em o5,free_of_one o5⟩,T.o _ am v5,T.o _ an v6,λk=>k=ob\/Q.InA (some ⟨g,0,none⟩) k,?_,?_,some ⟨g,0,none⟩,G,λk=>gF,by rw[ax];exact o6,?_,λy f=>by cases f;exact⟨Z.1,Z.2.1,Z.2.2.1⟩,v6,an⟩
   . have aD:But F d i:=((But.refl F d).drew).trans (r.mono (λk _ t=>(E k).2 (.inr t))) (λ_ _ h=>h)
     exact aD.trans l (λk _ t=>(E k).2 (.inl t))
   . rintro k (rfl|⟨y,f,rfl⟩)
     . exact .inl ((E _).2 (.inl rfl))
     . cases f;exact Z.2.2.2
   . have ay:=hR.but l (λy f=>by cases f;exact Z.2.1)
     rw[ax,bP,sA];show Q.Gw _ _ _ _ _ _ (_++nms [(x,S.X.on x)]);rw[xL,H];exact ay
  have aA:Hid (m+1<=65536):=by show _<=_;omega
  have aG:m+1<=maxLen:=by unfold maxLen;omega
  have aN:=em X;clear E U V C e5 Y h3 P aj ai ag s hm H lp lx X ad T aE aF aq aI s0 s1 sX;gi_wp2
  refine iI (by kernel_rfl) (Q.kZ (Q.mG (by kernel_rfl)) (λ⟨_,_,h⟩=>h) _ _ _ _ (wpAny_of_held (S:=λW=>W.cell? ⟨w.heap.size,0,none⟩=some (.pointer (some ⟨b,0,none⟩))/\W.cell? ⟨b,1,none⟩=some (.map (some M))/\(Instr.lookup 81 (.map (some M)) (.int .i64 x) false).run prog W=.ok (.agg #[.int .i64 q.kind,.int .i64 q.level,.slice q.aI q.items.length q.cI,.slice q.aD q.data.length q.cD,.int .i64 q.next]) W) _ _ _ _ ?_))
  have hHeld:=H3.o;change wpAnyH _ _ _ _ _ _ _ _ d.drew;refine tkd 1 2 3 4 ?_;refine tkd 5 6 7 8 ?_;refine fh (rs:=[0,9]) (by kernel_rfl) (by simp) ?_
  refine(AllReadyH.cons rfl (λR j=>?_) (AllReadyH.cons rfl (λR j=>?_) AllReadyH.nil))
  all_goals
   first
   |go_simp
    refine j.o _ _ (H3.o) (λhHeld=>?_)
    refine tw 9 λR j=>?_
    go_simp;refine j.o _ _ (H4.o) (λhHeld=>?_)
    try simp only[pt]
   |go_simp
    refine j.o _ _ (H4.o) (λhHeld=>?_)
    refine tw 0 λR j=>?_
    go_simp;refine j.o _ _ (H4.o) (λhHeld=>?_)
   refine tw 10 λR j=>?_
   refine kP underlying36 m7 rfl (by decide) rfl _ _ rfl a m c (nms (pre.map λn=>(n,S.X.on n))) (by first|(simp[Act.eval];done)|simp[Act.eval,Act.put]) G4.o ⟨d.drew.heap.size,0,none⟩ 1 (nmc (x,q)) (by first|(simp[Act.eval];done)|simp[Act.eval,Act.put]) rfl (ny X4.o) nj aG (by have:=aA.o;omega) ?_
   intro g5 c5 i ar au ap;obtain⟨⟨y5,z5⟩,k5,k6,ao⟩:=ab.o g5 c5 i ar au ap;have FI:=iJ ao;have K6:=iJ k6;clear ar au ap ao k6 ab;refine j.o _ _ k5 (λhHeld=>?_)
   clear k5;refine tw 11 λR j=>?_
   go_simp;refine j.o _ _ K6.o (λhHeld=>?_)
   refine td ?_;exact FI.o
 case done=>
  rintro D F I hD ah P ag ai j;obtain⟨a,c,E,U,V,C,e5,Y⟩:=P
  have ab:Hid (∀o,Below w.heap.size w (I.putObj D o)/\w.heap.size<=ob/\(I.putObj D o).heap[ob]?=some (.cells #[.slice a (S.X.P.pages z).length c] 36 (0,0))/\Q.Gw 39 6 (I.putObj D o) a c (S.X.P.pages z).length (nms ((S.X.P.pages z).map λn=>(n,S.X.on n)))/\∀x,a=some x->w.heap.size<=x.block):=λo=>by
   have bD:But (λk=>k=D) I (I.putObj D o):=(But.refl (λk=>k=D) I).putObj (λ_=>rfl) o
   exact⟨((But.ofBelow (S:=λ_=>False) Y).trans bD (λk t e=>by omega)).below (λ_ _ h=>h),by omega,bD.same U (λe=>ah ((E D).2 (.inl e.symm))),V.but bD (λx L e=>ah ((E D).2 (.inr ⟨x,L,e⟩))),λx L=>(C x L).1⟩
  have HK:=iJ j;clear E U V C e5 Y j ag ai s Z1;go_wp2;refine⟨by simp,.inl ⟨_,_,rfl,eO HK.o,?_⟩⟩
  exact⟨_,results_tmp rfl _ _ _,ob,a,c,rfl,ab.o _⟩
 case stop=>
  rintro D c' F pre aK I hD ah aj P;exact P.elim
end Go.Proofs.YtbdkogimlbnlmaaGreat
namespace Go.Proofs.YtbdkogimlbnlmaaGreat
open Go.Proofs.Tryz
open Go.RowKit
variable {c:Nat}{a:Option Addr}{w:World}
theorem pI{e:TypeId}{sz:Nat}{n:Nat}{C:List Value}(h:Q.Gw e sz w a c n C):n<=9223372036854775807:=by
 obtain⟨_,⟨_,h⟩|⟨g,cap,k,d,f,i,j,b,_⟩⟩:=h
 . omega
 . have:cap<=9223372036854775807:=b;omega
section
variable {v w w' w1:World} {wb b rb pb mb:Nat} {S:Vs} {D:Rd} {H:List Sn} {pc col colR:Nat->Nat} {aW:Option Addr} {cW:Nat} {W:List Wl} {K K':Bkk} {M N:Nat}
theorem Vw.on_pz(h:Vw w b S pb mb pc col)(z:Int):Pz (λk=>col k=6) w (S.X.on z):=by
 obtain⟨f,i,e,g,d⟩:=h;unfold Vm.on;cases hz:S.X.f z with
 |none=>exact Pz.zero _ _
 |some p=>exact d.fz z p hz
def nU(S:Vs)(z:Int):List (Int×Pv):=(S.X.P.pages z).map λn=>(n,S.X.on n)
theorem rE(h:Va v w b rb pb mb S D H pc col colR)(l:Tw S D H M){z:Int}{tb:Nat}{a:Option Addr}{c:Nat}(hb:Below w.heap.size w w')(i:w.heap.size<=tb)(j:w'.heap[tb]?=some (.cells #[.slice a (S.X.P.pages z).length c] 36 (0,0)))(k:Q.Gw 39 6 w' a c (S.X.P.pages z).length (nms (nU S z)))(d:∀x,a=some x->w.heap.size<=x.block):Wt v w' col colR tb a c (nU S z):=by
 have g:(nU S z).length=(S.X.P.pages z).length:=aZ _;have m:=h.bl.size;refine⟨by rw[g];exact j,⟨(h.z i).1,(h.z i).2,by omega⟩,by rw[g];exact k,λy f=>⟨(h.z (d y f)).1,(h.z (d y f)).2,by have:=d y f;omega⟩,λx e=>?_,λx e=>?_⟩
 . obtain⟨n,_,rfl⟩:=bH.1 e;exact(h.V.keep hb).on_pz n
 . obtain⟨n,_,rfl⟩:=bH.1 e;exact l.now.sm n
theorem oD(h:Va v w b rb pb mb S D H pc col colR){a:Option Addr}{c:Nat}{L:List (Int×Pv)}(d:Nn w w' a c L):Wn v w' col colR a c L:=by
 have l:=h.bl.size
 have i:∀y,a=some y->w.heap.size<=y.block:=λy f=>by
  rcases d.n y f with⟨_,e,_⟩|e
  . cases e
  . exact e
 exact⟨d.r,λy f=>⟨(h.z (i y f)).1,(h.z (i y f)).2,by have:=i y f;omega⟩,λx g=>⟨(d.p x g).1.pre l,(d.p x g).2,λk j=>h.z ((d.p x g).1.blk_new j)⟩⟩
theorem mL(e:Tw S D H M){z:Int}{L:List (Int×Pv)}(d:nmg L=D.listed z D.C.length):nmg (nU S z)=nmg L:=by
 rw[d,<-e.listed z];unfold nmg nU;rw[List.map_map];rfl
theorem Wo.gone(h:Wo v w wb b rb pb mb S D H pc col colR aW cW W K M){L:List (Int×Pv)}{e:Ending}(t:GoQ v w wb b rb col colR (.slice aW W.length cW) K L e w'):e=.returned (.bool true)/\∃K',Wo v w' wb b rb pb mb S D H pc col colR aW cW W K' M/\But (kN wb K) w w'/\∀n,n<=w.heap.size->(∀x∈L,∀k,k<n->Blk x.2 k->qr wb aW W K k)->Sb n wb aW W K aW W K':=by
 obtain⟨rfl,K',p,m,s,l,g,A,hb⟩:=t;refine⟨rfl,K',h.booked hb p m s (λq f=>(l q f).imp id (λe=>⟨e.1,λk d x g j y B=>?_⟩)),hb,λn C r=>Sb.book (λq f=>(l q f).imp id (λe k d i=>by have:=e.2 k i;omega)) (λq f=>(g q f).imp id (λ⟨x,g,e⟩ k d i=>r x g k d (e▸i))) (λk d=>(A k d).imp id (λe=>by omega))⟩
 have:=((h.wn k d).np x g).n.blk_lt B;have:=e.2 j y;omega
theorem Wo.up(h:Wo v w wb b rb pb mb S D H pc col colR aW cW W K M)(d:M<=N):Wo v w wb b rb pb mb S D H pc col colR aW cW W K N:=h.ws.wo h (h.tw.same (Rd.Al.refl _) d) d
end
section
variable (v w:World) (wb b rb pb mb:Nat) (S:Vs) (D:Rd) (H:List Sn) (pc col colR:Nat->Nat) (aW:Option Addr) (cW:Nat) (W:List Wl) (K:Bkk) (M:Nat)
theorem GM(h:Wo v w wb b rb pb mb S D H pc col colR aW cW W K M)(hM:M<=100000000000)(o:Oq)(g:o.kind=10):
 Calls prog 10 #[.pointer (some ⟨wb,0,none⟩),o.vl] w λe w'=>Nx v w wb b rb pb mb col colR aW W K M e w':=by
 have OV:Hid (o.vl=.agg o.cs):=rfl;rw[OV.o];have q:=iJ (al w (.cells o.cs 33));have l:=iJ (aH w (.cells o.cs 33));have Z0:=iJ (h.va.z (ai w.heap.size));have d:=iJ (h.ws.keep q.o);have r:=iJ h;have aj:M<=1000000000000:=by omega
 clear h;go_enter func10,ntmps10;obtain⟨c0,c1,c2,c3,c4,c5,U,c7⟩:=iK l.o;rw[g] at c0;go_upto_region 36 with fail
 generalize w.alloc (.cells o.cs 33)=w1 at *;clear g;obtain⟨B,Z⟩:∃B,w.heap.size=B:=⟨_,rfl⟩;simp only[Z] at l Z0 c0 c1 c2 c3 c4 c5 U c7 ⊢;clear Z;have y:=iJ (dr2 w1);have A:Hid (∀W:World,Below w1.heap.size w1 W->W.cell? ⟨wb,0,none⟩=some (.pointer (some ⟨b,0,none⟩))/\W.cell? ⟨wb,1,none⟩=some (.pointer (some ⟨rb,0,none⟩))/\W.cell? ⟨B,1,none⟩=some (.int .i64 o.n)/\W.cell? ⟨B,2,none⟩=some (.int .i64 o.k)):=λW hb=>⟨((d.o.keep hb).cells).1,((d.o.keep hb).cells).2.1,(iK (iQ l.o hb)).2.1,(iK (iQ l.o hb)).2.2.1⟩
 clear c0 c1 c2 c3 c4 c5 U c7;have O:=iJ λ(W:World)(hb:Below w1.heap.size w1 W)=>sd W b S pb mb pc col ((d.o.keep hb).va.V) o.n
 have P:=iJ λ(W:World)(hb:Below w1.heap.size w1 W)=>rR W rb D colR ((d.o.keep hb).va.R.q) o.n
 refine wrd A y.o λhHeld=>?_
 refine tkd 0 1 2 3 ?_;refine tkd 4 5 6 8 ?_;refine tkd 9 10 11 12 ?_;refine tkb 13 15 ?_;refine tk 16 ?_;refine tw 7 λJ s=>?_
 go_simp;refine(O.o _ y.o).mono ?_;rintro _ w2 ⟨tb,a,c,rfl,E,p,aa,X,V⟩;have i:=iJ (bt y.o E);have T2:=iJ (rE (d.o.keep y.o).va r.o.tw E p aa X V);clear E p aa X V O;go_wp2_with fail
 refine s.o _ _ (A.o _ i.o) (λhHeld=>?_)
 refine tw 14 λJ s=>?_
 go_simp;refine(P.o _ i.o).mono ?_;rintro _ w3 ⟨aN,cN,N,rfl,m,j⟩;have f:=iJ (bt i.o m.b);have R:=iJ (T2.o.keep m.b);have N3:=iJ (oD (d.o.keep i.o).va m);have E3:=iJ (mL r.o.tw j);have L:=iJ (pR v w3 wb b rb col colR (.slice aW W.length cW) K (d.o.keep f.o).wr.bo r.o.eq r.o.l4 (λk g=>(d.o.keep f.o).va.z g) (λk g=>eW λe=>g ((d.o.keep f.o).va.z (iu e)).1) (d.o.keep f.o).va.bl.size tb a c _ R.o aN cN N N3.o E3.o (λad hp x t ah h1 h2=>by have:=(d.o.wr.bo.tp ad hp).n.blk_lt h1;have:=(m.p x t).1.blk_new h2;have:=i.o.size;omega) (pI R.o.lr) o.k)
 have NW:Hid (∀x∈N,∀k,Blk x.2 k->w2.heap.size<=k):=λx t k g=>(m.p x t).1.blk_new g
 clear m j P;go_wp2_with fail
 refine s.o _ _ (A.o _ f.o) (λhHeld=>?_)
 refine tw 17 λJ s=>?_
 go_simp;refine(L.o).mono ?_;rintro e4 w4 Y;obtain⟨rfl,I,ac,G,ab⟩:=(r.o.keep (bt q.o f.o)).gone Y;have af:Hid (Sb w.heap.size wb aW W K aW W I):=ab _ (bt q.o f.o).size (λx t k g ag=>by have:=NW.o x t k ag;have:=(bt q.o i.o).size;omega)
 have C:=iJ ac;have ae:=iJ G;have T:=iJ (G.same (iQ l.o f.o) ((d.o.keep f.o).wr.bo.box_off (iQ l.o f.o) (by decide) (by decide) (by decide) (by decide)))
 clear Y ac G ab L;go_wp2_with fail
 refine s.o _ _ (⟨C.o.ws.cells.1,C.o.ws.cells.2.1,(iK T.o).2.1,(iK T.o).2.2.1⟩) (λhHeld=>?_)
 refine tk 18 ?_;refine td ?_;clear hHeld A;go_wp2_with fail
 go_ret;exact⟨rfl,S,D,H,pc,col,colR,aW,cW,W,I,C.o.up (by omega),(Fx.keep (bt q.o f.o)).trans (Fx.booked (aW:=aW) ae.o) (λ_ _ e=>e),af.o⟩
end
theorem sN:∀(W:List Wl)(i k:Nat)(x:Wl),W[i]?=some x->k<2->(wlv W)[i*2+k]?=x.cs[k]?
 | [],i,k,x,h,_=>by simp at h
 |y::W,0,k,x,h,hk=>by
  have d:(y.cs).length=2:=rfl;simp only[ij,aE] at h;subst h;simp only[wlv,bL,dZ,eE,bN];rw[br (by omega)]
 |y::W,i+1,k,x,h,hk=>by
  have d:(y.cs).length=2:=rfl;rw[eu] at h;have e:=sN W i k x h hk;simp only[wlv,bL,dZ] at e ⊢;rw[bg (by omega),d,show(i+1)*2+k-2=i*2+k by omega,e]
theorem no{W:List Wl}(h:Q.Gw 107 2 w a c W.length (wlv W)){i:Nat}{x:Wl}(d:W[i]?=some x):∃g,a=some ⟨g,0,none⟩/\w.cell? ⟨g,i*2,none⟩=some x.fn/\w.cell? ⟨g,i*2+1,none⟩=some (.slice x.aN x.N.length x.cN):=by
 have f:i<W.length:=(bz.1 d).1;obtain⟨g,e⟩:=h.addr (by omega)
 have r:=h;rw[e] at r;exact⟨g,e,r.cell (by have:=sN W i 0 x d (by decide);rw[bY] at this;rw[this];rfl),r.cell (by rw[sN W i 1 x d (by decide)];rfl)⟩
section
variable (v w:World) (wb b rb pb mb:Nat) (S:Vs) (D:Rd) (H:List Sn) (pc col colR:Nat->Nat) (aW:Option Addr) (cW:Nat) (W:List Wl) (K:Bkk) (M:Nat)
theorem Gm(h:Wo v w wb b rb pb mb S D H pc col colR aW cW W K M)(hM:M<=100000000000)(o:Oq)(q:o.kind=15):
 Calls prog 10 #[.pointer (some ⟨wb,0,none⟩),o.vl] w λe w'=>Nx v w wb b rb pb mb col colR aW W K M e w':=by
 have OV:Hid (o.vl=.agg o.cs):=rfl;rw[OV.o];have r:=iJ (al w (.cells o.cs 33));have R:=iJ (aH w (.cells o.cs 33));have Z0:=iJ (h.va.z (ai w.heap.size));have f:=iJ (h.ws.keep r.o);have m:=iJ h;have aE:M<=1000000000000:=by omega
 clear h;go_enter func10,ntmps10;obtain⟨c0,c1,c2,c3,c4,c5,c6,c7⟩:=iK R.o;rw[q] at c0;go_upto_region 49 with fail
 generalize w.alloc (.cells o.cs 33)=w1 at *;clear q;obtain⟨U,ae⟩:∃U,w.heap.size=U:=⟨_,rfl⟩;simp only[ae] at R Z0 c0 c1 c2 c3 c4 c5 c6 c7 ⊢;clear ae;have O:=iJ (dr2 w1);clear c0 c1 c3 c4 c5 c6 c7 O;obtain⟨n,Z⟩:∃n,W.length=n:=⟨_,rfl⟩;have P:=iJ Z;have aj:w1.cell? ⟨wb,2,none⟩=some (.slice aW n cW):=by rw[<-Z];exact f.o.cells.2.2.1
 clear Z;have ab:Hid (Nx v w wb b rb pb mb col colR aW W K M (.returned (.bool true)) w1):=⟨rfl,S,D,H,pc,col,colR,aW,cW,W,K,(m.o.keep r.o).up (by omega),Fx.keep r.o,λ_ _ e=>e⟩
 by_cases h0:n=0
 . subst h0;go_wp2_with fail
   go_ret;exact ab.o
 have av:¬((n:Int)=0):=by omega
 have aw:((n:Int)==0)=false:=by simp;omega
 have aA:(n==0)=false:=by simp;omega
 by_cases J:o.k<0
 . have T:decide (o.k<0)=true:=ax J;go_wp2_with fail
   go_ret;exact ab.o
 have T:decide (o.k<0)=false:=au J;obtain⟨l,aa⟩:∃l:Nat,o.k=(l:Int):=⟨o.k.toNat,by omega⟩
 rw[aa] at T J c2;have ao:=iJ aa;clear aa ab;obtain⟨i,C⟩:∃i,l%n=i:=⟨_,rfl⟩;have af:i<n:=by rw[<-C];exact fP _ (by omega)
 have aB:((l:Int)).tmod (n:Int)=(i:Int):=by rw[<-C];rfl
 have aC:((l:Int))%(n:Int)=(i:Int):=by rw[<-C];rfl
 have aq:(i:Int)<(n:Int):=by omega
 have HG:=iJ m.o.gw;have ag:=pI HG.o;rw[P.o] at ag;have az:IntKind.i64.wrap (i:Int)=(i:Int):=iT (by omega) (by omega)
 obtain⟨x,E⟩:∃x,W[i]?=some x:=⟨_,aR (by rw[P.o];exact af)⟩
 have HX:=iJ E;obtain⟨g,A⟩:∃g,aW=some ⟨g,0,none⟩:=⟨_,(no m.o.gw E).choose_spec.1⟩;have aD:=iJ A
 have t:Hid (∀V:World,Below w1.heap.size w1 V->V.cell? ⟨wb,2,none⟩=some (.slice (some ⟨g,0,none⟩) n cW)/\V.cell? ⟨U,2,none⟩=some (.int .i64 (l:Int))/\V.cell? ⟨g,i*2,none⟩=some (.func (.func 116) #[] #[.pointer (some ⟨x.tb,0,none⟩)])/\V.cell? ⟨g,i*2+1,none⟩=some (.slice x.aN x.N.length x.cN)):=λV hb=>by
  have c:=(f.o.keep hb).cells;obtain⟨g',e1,e2,e3⟩:=no (f.o.keep hb).wr.gw E;rw[A] at e1;cases e1;exact⟨by rw[c.2.2.1,A,P.o],by rw[<-ao.o];exact(iK (iQ R.o hb)).2.2.1,e2,e3⟩
 clear E C HG;rw[A] at aj;clear A;go_upto_region 51 with fail
 have O:=iJ (dr2 w1);refine wrd t O.o λhHeld=>?_
 refine tkd 0 1 2 3 ?_;refine tkd 4 5 6 7 ?_;refine tkd 8 9 10 11 ?_;refine tkb 12 13 ?_;refine tw 14 λKx X=>?_
 go_simp;have L:=iJ (bt (al w1 (.cells #[.nilFunc,.slice none 0 0] 107)) (dr2 (w1.alloc (.cells #[.nilFunc,.slice none 0 0] 107))));have B:Hid ((w1.alloc (.cells #[.nilFunc,.slice none 0 0] 107)).drew.heap[w1.heap.size]?=some (.cells #[.nilFunc,.slice none 0 0] 107 (0,0))):=aH w1 (.cells #[.nilFunc,.slice none 0 0] 107);refine X.o _ _ (t.o _ L.o) (λhHeld=>?_)
 try simp only[pt]
 generalize (w1.alloc (.cells #[.nilFunc,.slice none 0 0] 107)).drew=G at *;obtain⟨gk,I⟩:∃gk,w1.heap.size=gk:=⟨_,rfl⟩;have GK:Hid (w1.heap.size<=gk):=iF I;rw[I] at B;rw[I];clear I;refine tw 15 λKx X=>?_
 rw[if_pos (by rfl)]
 refine g9 107 _ _ rfl gk _ rfl rfl 107 _ B.o (by kernel_rfl) rfl (by simp[Value.oneCell']) ?_
 have d:Hid (Below w1.heap.size w1 (G.setRow gk #[.func (.func 116) #[] #[.pointer (some ⟨x.tb,0,none⟩)],.slice x.aN x.N.length x.cN])):=((But.ofBelow (S:=λ_=>False) L.o).trans (jz G gk #[.func (.func 116) #[] #[.pointer (some ⟨x.tb,0,none⟩)],.slice x.aN x.N.length x.cN]) (λk q e=>by have:=GK.o;omega)).below (λ_ _ e=>e)
 have XK:Hid ((G.setRow gk #[.func (.func 116) #[] #[.pointer (some ⟨x.tb,0,none⟩)],.slice x.aN x.N.length x.cN]).heap[gk]?=some (.cells #[.func (.func 116) #[] #[.pointer (some ⟨x.tb,0,none⟩)],.slice x.aN x.N.length x.cN] 107 (0,0))):=dc _ _ _ _ _ _ B.o;refine X.o _ _ (t.o _ d.o) (λhHeld=>?_)
 refine td ?_;clear hHeld L B;generalize G.setRow gk #[.func (.func 116) #[] #[.pointer (some ⟨x.tb,0,none⟩)],.slice x.aN x.N.length x.cN]=w3 at *;have aI:w3.cell? ⟨gk,0,none⟩=some (.func (.func 116) #[] #[.pointer (some ⟨x.tb,0,none⟩)]):=by rw[ay _ _ _ _ _ _ XK.o];rfl
 have aJ:w3.cell? ⟨gk,1,none⟩=some (.slice x.aN x.N.length x.cN):=by rw[ay _ _ _ _ _ _ XK.o];rfl
 obtain⟨j,Y⟩:∃j,l%5=j:=⟨_,rfl⟩;have aF:j<5:=by omega
 have aL:((l:Int)).tmod 5=(j:Int):=by rw[<-Y];rfl
 have aM:((l:Int))%5=(j:Int):=by rw[<-Y];rfl
 clear Y;have aG:IntKind.i64.wrap (j:Int)=(j:Int):=iT (by omega) (by omega)
 have aK:IntKind.i64.wrap (1+(j:Int))=1+(j:Int):=iT (by omega) (by omega)
 have s:x∈W:=bB HX.o;have ck:=(t.o _ d.o).2.1;have LG:=iJ (pR v w3 wb b rb col colR (.slice aW W.length cW) K (f.o.keep d.o).wr.bo m.o.eq m.o.l4 (λk q=>(f.o.keep d.o).va.z q) (λk q=>eW λe=>q ((f.o.keep d.o).va.z (iu e)).1) (f.o.keep d.o).va.bl.size x.tb x.a x.c x.L ((f.o.keep d.o).wr.wt x s) x.aN x.cN x.N ((f.o.keep d.o).wr.wn x s) (m.o.we x s) (λam hp y p=>m.o.tn am hp x s y p) (pI ((f.o.keep d.o).wr.wt x s).lr) (1+(j:Int)))
 clear s ag t aj aB aC aq az af av aw aA T J c2;go_wp2_with fail
 refine LG.o.mono ?_;rintro e4 w4 ad;obtain⟨rfl,K4,ak,ac,ah⟩:=(m.o.keep (bt r.o d.o)).gone ad;have ap:Hid (Sb w.heap.size wb aW W K aW W K4):=ah _ (bt r.o d.o).size (λy p k q ar=>.inr (.inr ⟨x,bB HX.o,.inr (.inr (.inr ⟨y,p,ar⟩))⟩))
 have WO:=iJ ak;have an:=iJ ac;clear ad ak ac ah LG;go_wp2_with fail
 go_ret;exact⟨rfl,S,D,H,pc,col,colR,aW,cW,W,K4,WO.o.up (by omega),(Fx.keep (bt r.o d.o)).trans (Fx.booked (aW:=aW) an.o) (λ_ _ e=>e),ap.o⟩
end
end Go.Proofs.YtbdkogimlbnlmaaGreat
