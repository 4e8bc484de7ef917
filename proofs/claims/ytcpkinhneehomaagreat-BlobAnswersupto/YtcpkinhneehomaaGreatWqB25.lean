import Derived.Test.YtcpkinhneehomaaGreatWqB24
set_option linter.unusedVariables false
set_option linter.unusedSimpArgs false
namespace Go.Proofs.YtcpkinhneehomaaGreat
open Go.RowKit
variable {r x:Int}{g:Int->Option Pg}{B:List Bool}{C:List Int}{cB gB i iB iC iL n rb w1s:Nat}{aB:Option Addr}{D:Rd}{W w wx wy:World}
theorem take_set_rep{α:Type}(C:List α)(n i:Nat)(d:α)(hn:C.length=n)(hi:i<n)(x:α)(hx:C.getD i d=x)(z:α):(C.take i++List.replicate (n-i) z).set i x=C.take (i+1)++List.replicate (n-(i+1)) z:=by
 have hl:(C.take i).length=i:=by rw[List.length_take];omega
 have e:C[i]'(by omega)=x:=by rw[<-hx];simp[show i<C.length by omega]
 rw[List.set_append_right _ _ (by omega),hl,Nat.sub_self,List.take_succ_eq_append_getElem (by omega:i<C.length),e,show n-i=(n-(i+1))+1 by omega,List.replicate_succ,List.set_cons_zero,List.append_assoc]
 rfl
structure La(w wx:World)(w1s rb:Nat)(r:Int)(C:List Int)(n i iL iB:Nat)(D:Rd)(aB:Option Addr)(cB:Nat):Prop where
 q:Rn w wx rb D
 hR:D.R=r
 hC:D.C=C.take i++List.replicate (n-i) 0
 hL:D.L=(C.map fun c=>decide (0<c)).take iL++List.replicate (n-iL) false
 hP:D.P=List.replicate n Pv.zero
 ha:D.aA=none/\D.nA=0/\D.cA=0/\D.fl=0/\D.hush=false
 lw:∀x,D.aL=some x->x.block<w1s
 hb:Q.Gw 4 1 wx aB cB iB (vbl (List.replicate iB false))
 bn:∀x,aB=some x->w1s<=x.block
 ok:∀j,j<iB->0<=C.getD j 0/\C.getD j 0<=r
 sz:w.heap.size<=w1s/\w1s<=wx.heap.size
theorem La.keep(h:La w wx w1s rb r C n i iL iB D aB cB)(hb:Below wx.heap.size wx wy):La w wy w1s rb r C n i iL iB D aB cB:=
 ⟨h.q.keep hb,h.hR,h.hC,h.hL,h.hP,h.ha,h.lw,h.hb.keep hb,h.bn,h.ok,⟨h.sz.1,Nat.le_trans h.sz.2 hb.size⟩⟩
theorem La.lens(h:La w wx w1s rb r C n i iL iB D aB cB)(hC:C.length=n)(hi:i<=n)(hl:iL<=n):D.C.length=n/\D.L.length=n/\D.P.length=n:=by
 rw[h.hC,h.hL,h.hP];simp;omega
theorem La.c1{gC:Nat}(h:La w W w1s rb r C n i iL iB D aB cB)(hC:C.length=n)(hi:i<n)(hg:D.aC=some ⟨gC,0,none⟩)(hx:C.getD i 0=x):
 La w (W.setCell ⟨gC,i,none⟩ (.int .i64 x)) w1s rb r C n (i+1) iL iB {D with C:=D.C.set i x} aB cB:=by
 obtain⟨cur,hcb⟩:=h.q.cr.blk hg;refine⟨h.q.setC hg i x,h.hR,?_,h.hL,h.hP,h.ha,h.lw,?_,h.bn,h.ok,⟨h.sz.1,?_⟩⟩
 · show D.C.set i _=_;rw[h.hC];exact take_set_rep C n i 0 hC hi _ hx 0
 · exact h.hb.but ((But.refl (fun k=>k=gC) W).setCell (p:=⟨gC,i,none⟩) (fun _=>rfl) (.int .i64 x)) (fun y hy e=>by
    obtain⟨c2,h2⟩:=h.hb.blk hy;exact blk_ty h2 hcb (by decide) e)
 · exact Nat.le_trans h.sz.2 ((But.refl (fun k=>k=gC) W).setCell (p:=⟨gC,i,none⟩) (fun _=>rfl) (.int .i64 x)).size
theorem La.c2{gL:Nat}(h:La w W w1s rb r C n iC i iB D aB cB)(hC:C.length=n)(hi:i<n)(hg:D.aL=some ⟨gL,0,none⟩)(hx:C.getD i 0=x):
 La w (W.setCell ⟨gL,i,none⟩ (.bool (decide (0<x)))) w1s rb r C n iC (i+1) iB {D with L:=D.L.set i (decide (0<x))} aB cB:=by
 have lw:=h.lw _ hg;refine⟨h.q.setL hg i _,h.hR,h.hC,?_,h.hP,h.ha,h.lw,?_,h.bn,h.ok,⟨h.sz.1,?_⟩⟩
 · show D.L.set i _=_;rw[h.hL];refine take_set_rep _ n i false (by rw[List.length_map];exact hC) hi _ ?_ false
   rw[<-hx];simp[show i<C.length by omega]
 · exact h.hb.but ((But.refl (fun k=>k=gL) W).setCell (p:=⟨gL,i,none⟩) (fun _=>rfl) _) (fun y hy e=>by
    have:=h.bn y hy;simp only at lw;omega)
 · exact Nat.le_trans h.sz.2 ((But.refl (fun k=>k=gL) W).setCell (p:=⟨gL,i,none⟩) (fun _=>rfl) (.bool (decide (0<x)))).size
theorem La.c3{w5:World}{g c:Nat}(h:La w W w1s rb r C n iC iL i D aB cB)(hx:0<=C.getD i 0/\C.getD i 0<=r)(hG:Q.Gw 4 1 w5 (some ⟨g,0,none⟩) c (i+1) (vbl (List.replicate i false)++[.bool false]))(hN:New W aB (some ⟨g,0,none⟩))(hB:But (Q.InA aB) W w5):
 La w w5 w1s rb r C n iC iL (i+1) D (some ⟨g,0,none⟩) c:=by
 have nI:∀{t:TypeId}{k:Nat}{cs:Array Value},W.heap[k]?=some (.cells cs t (0,0))->t≠4->¬Q.InA aB k:=fun hk ht ⟨y,hy,e⟩=>by
  obtain⟨cur,hc⟩:=h.hb.blk hy;exact blk_ty hk hc ht e.symm
 have g1:w1s<=g:=by
  rcases hN ⟨g,0,none⟩ rfl with⟨z,hz,e⟩|e
  · have e:z.block=g:=e;rw[<-e];exact h.bn z hz
  · exact Nat.le_trans h.sz.2 e
 refine⟨⟨hB.same h.q.box (nI h.q.box (by decide)),h.q.cr.but hB (fun y hy=>by obtain⟨cur,hc⟩:=h.q.cr.blk hy;exact nI hc (by decide)),h.q.lr.but hB (fun y hy ⟨z,hz,e⟩=>?_),h.q.pr.but hB (fun y hy=>by obtain⟨cur,hc⟩:=h.q.pr.blk hy;exact nI hc (by decide)),fun p hp=>(h.q.pn p hp).but hB (fun k ⟨y,hy,e⟩=>?_),h.q.ps,h.q.nb,h.q.nC,h.q.nl,h.q.np,?_⟩,h.hR,h.hC,h.hL,h.hP,h.ha,h.lw,by rw[vbl_snoc,rep_snoc] at hG;exact hG,fun y hy=>by cases hy;exact g1,fun j hj=>?_,⟨h.sz.1,Nat.le_trans h.sz.2 hB.size⟩⟩
 · have:=h.lw y hy;have:=h.bn z hz;omega
 · obtain⟨cur,hc⟩:=h.hb.blk hy;exact⟨4,cur,by rw[<-e];exact hc,by decide,by decide⟩
 · exact((But.ofBelow (S:=Q.InA aB) h.q.b).trans hB (fun _ _ e=>e)).below (fun k hk ⟨y,hy,e⟩=>by have:=h.bn y hy;have:=h.sz.1;omega)
 · by_cases e:j=i
   · rw[e];exact hx
   · exact h.ok j (by omega)
def blkOf(a:Option Addr)(k:Nat):Bool:=match a with
 |none=>false
 |some x=>decide (x.block=k)
theorem blkOf_iff{a:Option Addr}{k:Nat}:blkOf a k=true↔∃x,a=some x/\x.block=k:=by
 cases a with
 |none=>simp[blkOf]
 |some x=>simp[blkOf]
def rcol(w wx:World)(rb:Nat)(D:Rd)(k:Nat):Nat:=if k=rb then 1 else if blkOf D.aC k=true then 2 else if blkOf D.aL k=true then 3 else if blkOf D.aP k=true then 4 else if w.heap.size<=k/\k<wx.heap.size then 6 else 0
theorem Rn.rq(h:Rn w wx rb D)(hL:D.L.length=D.C.length)(hP:D.P.length=D.C.length)(h6:D.C.length<=65536):Rq wx rb D (rcol w wx rb D)/\∀k,rcol w wx rb D k≠0->w.heap.size<=k:=by
 have nrb:∀{t:TypeId}{k:Nat}{cs:Array Value},wx.heap[k]?=some (.cells cs t (0,0))->t≠99->k≠rb:=fun hk ht=>blk_ty hk h.box ht
 have nr:∀{t e:TypeId}{sz k:Nat}{cs:Array Value}{a:Option Addr}{cap n:Nat}{C:List Value},Q.Gw e sz wx a cap n C->wx.heap[k]?=some (.cells cs t (0,0))->t≠e->¬blkOf a k=true:=fun hg hk ht e=>by
  obtain⟨x,hx,e⟩:=blkOf_iff.1 e;obtain⟨cur,hc⟩:=hg.blk hx;exact blk_ty hk hc ht e.symm
 have six:∀{t:TypeId}{k:Nat}{cs:Array Value},wx.heap[k]?=some (.cells cs t (0,0))->t≠99->t≠3->t≠4->t≠31->w.heap.size<=k->rcol w wx rb D k=6:=fun hk h1 h2 h3 h4 h5=>by
  unfold rcol;rw[if_neg (nrb hk h1),if_neg (nr h.cr hk h2),if_neg (nr h.lr hk h3),if_neg (nr h.pr hk h4),if_pos ⟨h5,(Array.getElem?_eq_some_iff.1 hk).1⟩]
 have low:∀k,rcol w wx rb D k≠0->w.heap.size<=k/\k<wx.heap.size:=fun k hk=>by
  unfold rcol at hk;by_cases h1:k=rb
  · rw[h1];exact⟨h.nb,h.lb⟩
  · rw[if_neg h1] at hk;by_cases h2:blkOf D.aC k=true
    · obtain⟨x,hx,e⟩:=blkOf_iff.1 h2;rw[<-e];exact⟨vnew_at h.nC hx,h.cr.lt hx⟩
    · rw[if_neg h2] at hk;by_cases h3:blkOf D.aL k=true
      · obtain⟨x,hx,e⟩:=blkOf_iff.1 h3;rw[<-e];exact⟨vnew_at h.nl hx,h.lr.lt hx⟩
      · rw[if_neg h3] at hk;by_cases h4:blkOf D.aP k=true
        · obtain⟨x,hx,e⟩:=blkOf_iff.1 h4;rw[<-e];exact⟨vnew_at h.np hx,h.pr.lt hx⟩
        · rw[if_neg h4] at hk;by_cases h5:w.heap.size<=k/\k<wx.heap.size
          · exact h5
          · rw[if_neg h5] at hk;exact absurd rfl hk
 have pj:∀{a:Option Addr}{c:Nat}{L:List Iv},Jw wx a c L->New w none a->∀x,a=some x->¬ ¬(rcol w wx rb D x.block=6):=fun hj hn x hx e=>by
  rcases hj.cases with⟨h0,_⟩|⟨g,cur,h0,hg,_⟩
  · rw[h0] at hx;cases hx
  · rw[h0] at hx;cases hx;exact e (six hg (by decide) (by decide) (by decide) (by decide) (vnew_at hn h0))
 have pr:∀{a:Option Addr}{c:Nat}{l:List Nat},Rw wx a c l->New w none a->∀x,a=some x->¬ ¬(rcol w wx rb D x.block=6):=fun hr hn x hx e=>by
  rcases hr.cases with⟨h0,_⟩|⟨g,cur,h0,hg,_⟩
  · rw[h0] at hx;cases hx
  · rw[h0] at hx;cases hx;exact e (six hg (by decide) (by decide) (by decide) (by decide) (vnew_at hn h0))
 refine⟨⟨h.box,h.cr,h.lr,h.pr,fun p hp v hv=>?_,h.ps,if_pos rfl,fun x hx=>?_,fun x hx=>?_,fun x hx=>?_,fun k hk=>(low k hk).2,hL,hP,h6⟩,fun k hk=>(low k hk).1⟩
 · have q:=h.pn p hp;exact Pn.pi (v:=w) ⟨q.it.but hv (pj q.it q.itn),q.itn,q.d.but hv (pr q.d q.dn),q.dn,fun t ht=>⟨(q.fr t ht).1.but hv (pr (q.fr t ht).1 (q.fr t ht).2.1),(q.fr t ht).2⟩,q.dist,q.d8,q.ns,q.nk,q.nl,q.nn⟩ (Nat.le_trans (sml_ps (h.ps p hp)).2 (by decide))
 · obtain⟨cur,hc⟩:=h.cr.blk hx;unfold rcol;rw[if_neg (nrb hc (by decide)),if_pos (blkOf_iff.2 ⟨x,hx,rfl⟩)]
 · obtain⟨cur,hc⟩:=h.lr.blk hx;unfold rcol;rw[if_neg (nrb hc (by decide)),if_neg (nr h.cr hc (by decide)),if_pos (blkOf_iff.2 ⟨x,hx,rfl⟩)]
 · obtain⟨cur,hc⟩:=h.pr.blk hx;unfold rcol;rw[if_neg (nrb hc (by decide)),if_neg (nr h.cr hc (by decide)),if_neg (nr h.lr hc (by decide)),if_pos (blkOf_iff.2 ⟨x,hx,rfl⟩)]
structure Lb(w wx:World)(w1s rb:Nat)(r:Int)(C:List Int)(n:Nat)(D:Rd)(aB:Option Addr)(cB:Nat)(B:List Bool)(g:Int->Option Pg):Prop where
 q:Rn w wx rb D
 hR:D.R=r
 hC:D.C=C
 hL:D.L=C.map fun c=>decide (0<c)
 hP:D.P.length=n
 hg:∀i,i<n->(D.P.getD i Pv.zero).pg=(g ((i:Int)+1)).getD Pv.zero.pg
 ha:D.aA=none/\D.nA=0/\D.cA=0/\D.fl=0/\D.hush=false
 lw:∀x,D.aL=some x->x.block<w1s
 hb:Q.Gw 4 1 wx aB cB n (vbl B)
 hB:B.length=n
 hs:∀i,i<n->B.getD i false=(g ((i:Int)+1)).isSome
 bn:∀x,aB=some x->w1s<=x.block
 sz:w.heap.size<=w1s/\w1s<=wx.heap.size
theorem Lb.keep(h:Lb w wx w1s rb r C n D aB cB B g)(hb:Below wx.heap.size wx wy):Lb w wy w1s rb r C n D aB cB B g:=
 ⟨h.q.keep hb,h.hR,h.hC,h.hL,h.hP,h.hg,h.ha,h.lw,h.hb.keep hb,h.hB,h.hs,h.bn,⟨h.sz.1,Nat.le_trans h.sz.2 hb.size⟩⟩
theorem La.lb(h:La w wx w1s rb r C n n n n D aB cB)(hC:C.length=n):Lb w wx w1s rb r C n D aB cB (List.replicate n false) (fun _=>none):=by
 refine⟨h.q,h.hR,?_,?_,?_,fun i hi=>?_,h.ha,h.lw,h.hb,by simp,fun i hi=>?_,h.bn,h.sz⟩
 · rw[h.hC,Nat.sub_self,<-hC,List.take_length];simp
 · rw[h.hL,Nat.sub_self,<-hC,List.take_of_length_le (by rw[List.length_map];omega)];simp
 · rw[h.hP];simp
 · rw[h.hP];simp[hi]
 · simp[hi]
theorem Lb.cnt(h:Lb w wx w1s rb r C n D aB cB B g)(z:Int):D.count z=cntOf C z:=by
 unfold Rd.count Rd.has cntOf;rw[h.hC];by_cases hz:1<=z/\z<=C.length
 · rw[if_pos hz,if_pos (by simp[hz])]
 · rw[if_neg hz,if_neg (by simpa using hz)]
theorem Lb.rq(h:Lb w wx w1s rb r C n D aB cB B g)(hC:C.length=n)(h6:n<=65536):Rq wx rb D (rcol w wx rb D)/\∀k,rcol w wx rb D k≠0->w.heap.size<=k:=
 h.q.rq (by rw[h.hL,h.hC,List.length_map]) (by rw[h.hP,h.hC,hC]) (by rw[h.hC,hC];exact h6)
theorem Lb.mid(h:Lb w wx w1s rb r C n D (some ⟨gB,0,none⟩) cB B g):Rn w (wx.setCell ⟨gB,i,none⟩ (.bool true)) rb D:=by
 obtain⟨cur,hcb⟩:=h.hb.blk rfl
 exact h.q.foreign ((But.refl (fun k=>k=gB) wx).setCell (p:=⟨gB,i,none⟩) (fun _=>rfl) _) (Nat.le_trans h.sz.1 (h.bn _ rfl)) hcb (fun y hy e=>by
  have:=h.lw y hy;have:=h.bn _ rfl;simp only at this;omega)
theorem Lb.lay{W3:World}{gP:Nat}(h:Lb w wx w1s rb r C n D (some ⟨gB,0,none⟩) cB B g)(hi:i<n)(hp:D.aP=some ⟨gP,0,none⟩)(x:Pv){W2:World}(hW:W2=wx.setCell ⟨gB,i,none⟩ (.bool true))(hb:Below W2.heap.size W2 W3)(hx:Pn W2 W3 x)(hc:x.pg.check=0):
 ∃D',Lb w (W3.setCells gP (i*5) x.cs.toList) w1s rb r C n D' (some ⟨gB,0,none⟩) cB (B.set i true) (fun k=>if k=(i:Int)+1 then some x.pg else g k):=by
 obtain⟨cur,hcb⟩:=h.hb.blk rfl
 have nl:∀y,D.aL=some y->y.block≠gB:=fun y hy e=>by
  have:=h.lw y hy;have:=h.bn _ rfl;simp only at this;omega
 have b2:But (fun k=>k=gB) wx W2:=by rw[hW];exact(But.refl (fun k=>k=gB) wx).setCell (p:=⟨gB,i,none⟩) (fun _=>rfl) _
 have r2:=h.q.foreign b2 (Nat.le_trans h.sz.1 (h.bn _ rfl)) hcb nl;have g2:Q.Gw 4 1 W2 (some ⟨gB,0,none⟩) cB n (vbl (B.set i true)):=by rw[hW,<-vbl_set];exact h.hb.setc i _
 have r3:=r2.keep hb;have s2:W2.heap.size=wx.heap.size:=by rw[hW];simp[World.setCell]
 have x3:Pn w W3 x:=hx.pre (by rw[s2];exact Nat.le_trans h.sz.1 h.sz.2)
 have r4:=r3.setP hp i x x3 (.inl hc);have hil:i<D.P.length:=by rw[h.hP];exact hi
 refine⟨{D with P:=D.P.set i x},r4,h.hR,h.hC,h.hL,?_,fun j hj=>?_,h.ha,h.lw,?_,?_,fun j hj=>?_,h.bn,⟨h.sz.1,?_⟩⟩
 · show(D.P.set i x).length=n;rw[List.length_set,h.hP]
 · show((D.P.set i x).getD j Pv.zero).pg=_;by_cases e:j=i
   · subst e;rw[if_pos rfl];simp[hil]
   · rw[if_neg (by omega),<-h.hg j hj]
     simp[List.getElem?_set_ne (Ne.symm e)]
 · refine(g2.keep hb).but (but_setCells gP x.cs.toList W3 (i*5)) (fun y hy e=>?_)
   cases hy;obtain⟨c1,h1⟩:=(g2.keep hb).blk rfl;obtain⟨c2,h2⟩:=r3.pr.blk hp;exact blk_ty h1 h2 (by decide) e
 · rw[List.length_set,h.hB]
 · by_cases e:j=i
   · subst e;rw[if_pos rfl];simp[h.hB,hi]
   · rw[if_neg (by omega),<-h.hs j hj]
     simp[List.getElem?_set_ne (Ne.symm e)]
 · have k1:=hb.size;have k2:=(but_setCells gP x.cs.toList W3 (i*5)).size;have:=h.sz.2;omega
def badC(r:Int)(C:List Int):Bool:=C.any fun c=>decide (c<0)||decide (r<c)
def lacks(C:List Int)(g:Int->Option Pg):Bool:=(List.range C.length).any fun i=>decide (0<C.getD i 0)&&(g ((i:Int)+1)).isNone
def ldAll(r:Int)(C:List Int)(l:List (Int×Pg)):Nat×(Int->Option Pg):=
 if Q.fits C.length r=false then (1,fun _=>none) else if badC r C=true then (13,fun _=>none)
 else if (ldG (cntOf C) (fun _=>none) l).1≠0 then ldG (cntOf C) (fun _=>none) l
 else if lacks C (ldG (cntOf C) (fun _=>none) l).2=true then (9,(ldG (cntOf C) (fun _=>none) l).2) else (0,(ldG (cntOf C) (fun _=>none) l).2)
theorem badC_at(hi:i<C.length)(h:C.getD i 0<0\/r<C.getD i 0):badC r C=true:=by
 unfold badC;rw[List.any_eq_true];refine⟨C.getD i 0,by simp[hi],?_⟩
 simp only[Bool.or_eq_true,decide_eq_true_eq];exact h
theorem badC_no(h:∀j,j<C.length->0<=C.getD j 0/\C.getD j 0<=r):badC r C=false:=by
 unfold badC;rw[List.any_eq_false];intro c hc;obtain⟨i,hi,e⟩:=List.getElem_of_mem hc;have:=h i hi;have e2:C.getD i 0=c:=by simp[hi,e]
 rw[e2] at this;simp only[Bool.or_eq_true,decide_eq_true_eq];omega
theorem lacks_at(hi:i<C.length)(h1:0<C.getD i 0)(h2:(g ((i:Int)+1)).isSome=false):lacks C g=true:=by
 unfold lacks;rw[List.any_eq_true];refine⟨i,List.mem_range.2 hi,?_⟩;rw[decide_eq_true h1];simpa using h2
theorem lacks_no{C:List Int}{g:Int->Option Pg}(h:∀i,i<C.length->0<C.getD i 0->(g ((i:Int)+1)).isSome=true):lacks C g=false:=by
 unfold lacks;rw[List.any_eq_false];intro i hi;have:=h i (List.mem_range.1 hi);simp only[Bool.and_eq_true,decide_eq_true_eq];rintro⟨k1,k2⟩;have:=this k1;cases e:g ((i:Int)+1) with
 |none=>rw[e] at this;cases this
 |some v=>rw[e] at k2;cases k2
theorem nmg_drop{L:List (Int×Pv)}{j:Nat}(hj:j<L.length):nmg (L.drop j)=((L.getD j nm0).1,(L.getD j nm0).2.pg)::nmg (L.drop (j+1)):=by
 unfold nmg;have e:L.getD j nm0=L[j]:=by simp[hj]
 rw[List.drop_eq_getElem_cons hj,e,List.map_cons]
end Go.Proofs.YtcpkinhneehomaaGreat
