import Derived.Test.YtbdkogimlbnlmaaGreatWtB16
set_option linter.unusedVariables false
set_option linter.unusedSimpArgs false
set_option maxHeartbeats 8000000
set_option maxRecDepth 8000
namespace Go.Proofs.YtbdkogimlbnlmaaGreat
open Go.RowKit
variable {z:Int}{P:Q.Po}{X:Vm}
theorem im{W W':World}{g:Nat}{o:Obj}(h:W.heap[g]?=some o)(hb:Below W.heap.size W W'):W'.heap[g]?=some o:=(hb.block _ (af.1 h).1).trans h
theorem Vw.but13{S:Nat->Prop}{w w':World}{b:Nat}{T:Vs}{pb mb:Nat}{pc col:Nat->Nat}(h:Vw w b T pb mb pc col)(hb:But S w w')(hn:∀k,col k≠0->¬S k):Vw w' b T pb mb pc col:=by
 obtain⟨ac,cc,aa,ca,h⟩:=h;exact⟨ac,cc,aa,ca,h.but hb hn⟩
theorem oG(h0:P.alloc.1.2=0):∃i:Nat,i<P.pg.length/\Q.stt (P.pg.getD i Q.Pg.zero)=1/\P.alloc.1.1=(i:Int)+1/\P.alloc.2.pg=P.pg.set i (1,(P.pg.getD i Q.Pg.zero).2)/\P.alloc.2.rf=P.rf:=by
 unfold Q.Po.alloc at h0 ⊢;split at h0
 . cases h0
 . rename_i n T hp;have hn:n∈Q.iD P.pg 1:=by rw[hp];exact dN
   unfold Q.iD at hn;obtain⟨i,hi,e⟩:=bG.1 hn;have hl:=cQ.1 (fp.1 hi).1;have hs:Q.stt (P.pg.getD i Q.Pg.zero)=1:=by simpa using(fp.1 hi).2
   have et:n.toNat-1=i:=by omega
   refine⟨i,hl,hs,e.symm,?_,rfl⟩;show P.pg.set (n.toNat-1) (1,(P.pg.getD (n.toNat-1) Q.Pg.zero).2)=_;rw[et]
theorem vr{x:Q.Pg}(h:Q.stt x=1):x.1=0/\x.2=false:=by
 unfold Q.stt at h;split at h
 . split at h
   . omega
   . rename_i h1 h2;exact⟨h1,by simpa using h2⟩
 . split at h<;>omega
theorem ot{P':Q.Po}{i:Nat}{y:Q.Pg}(hi:i<P.pg.length)(e:P'.pg=P.pg.set i y)(z:Int):P'.count z=if z=(i:Int)+1 then y.1 else P.count z:=by
 unfold Q.Po.count Q.Po.has;rw[e,aS];by_cases hz:z=(i:Int)+1
 . subst hz;have e1:((i:Int)+1-1).toNat=i:=by omega
   rw[if_pos rfl,if_pos (by simp;omega),e1]
   simp[hi]
 . rw[if_neg hz];by_cases hh:(decide (1<=z)&&decide (z<=P.pg.length))=true
   . rw[if_pos hh,if_pos hh];simp only[bQ,bM] at hh;have ne:i≠(z-1).toNat:=by omega
     rw[aq,aq,bZ ne]
   . rw[if_neg hh,if_neg hh]
theorem uM(h0:P.alloc.1.2=0):P.count P.alloc.1.1=0/\∀z,P.alloc.2.count z=if z=P.alloc.1.1 then 1 else P.count z:=by
 obtain⟨i,hi,hs,en,eg,_⟩:=oG h0;rw[en];refine⟨?_,λz=>ot hi eg z⟩
 unfold Q.Po.count Q.Po.has;rw[if_pos (by simp;omega),show((i:Int)+1-1).toNat=i by omega]
 exact(vr hs).1
theorem Ve.fine{X':Vm}(h:Ve X X')(hf:mc X.f):mc X'.f:=by
 obtain⟨_,L,_,u⟩:=h;exact(u hf).1
theorem yT(h:P.state z=1):P.count z=0:=by
 unfold Q.Po.state at h;unfold Q.Po.count;split at h
 . rename_i hh;rw[if_pos hh];exact(vr h).1
 . cases h
theorem kh(P:Q.Po)(z:Int):(P.dec z).1=if P.count z=0 then (0,15) else (P.count z-1,0):=by
 unfold Q.Po.dec;split<;>rfl
theorem Ff(P:Q.Po)(z:Int):(P.dec z).2.rf=P.rf:=by
 unfold Q.Po.dec;split<;>rfl
theorem zx(P:Q.Po)(z:Int):(P.dec z).2.mark=P.mark+(if P.count z=0 then 0 else 1):=by
 unfold Q.Po.dec;split
 . rfl
 . simp[Q.Po.act,Q.Po.mark];omega
theorem s7(P:Q.Po)(z:Int):(P.dec z).2.pg=if P.count z=0 then P.pg else P.pg.set (z.toNat-1) (P.count z-1,(P.pg.getD (z.toNat-1) Q.Pg.zero).2):=by
 unfold Q.Po.dec;split<;>rfl
theorem rN(P:Q.Po)(z y:Int):(P.dec z).2.count y=if y=z/\P.count z≠0 then P.count z-1 else P.count y:=by
 by_cases hc:P.count z=0
 . rw[if_neg (λe=>e.2 hc)]
   unfold Q.Po.count Q.Po.has;rw[s7,if_pos hc]
 . obtain⟨h1,h2⟩:=Q.Po.count_has hc;have e:=s7 P z;rw[if_neg hc] at e;rw[ot (by omega) e y]
   by_cases hy:y=z
   . subst hy;rw[if_pos (by omega),if_pos ⟨rfl,hc⟩]
   . rw[if_neg (by omega),if_neg (λe=>hy e.1)]
theorem Vm.less_on{y:Int}(h:(X.less z).P.count y≠0):X.P.count y≠0/\(X.less z).on y=X.on y:=by
 rw[Vm.less_P,rN] at h;constructor
 . by_cases hy:y=z/\X.P.count z≠0
   . rw[hy.1];exact hy.2
   . rw[if_neg hy] at h;exact h
 . unfold Vm.less;split
   . rename_i hc
     have ne:y≠z:=λe=>by
      have k:=yT hc.2;rw[rN] at k;subst e;by_cases hq:X.P.count y=0
      . rw[if_neg (λq=>q.2 hq)] at h;exact h hq
      . rw[if_pos ⟨rfl,hq⟩] at h k;exact h k
     unfold Vm.on;simp[iQ,ne]
   . rfl
theorem uA(h:P.Ok)(h0:P.alloc.1.2=0):P.alloc.2.Ok:=by
 unfold Q.Po.alloc at h0 ⊢;split at h0
 . cases h0
 . rename_i n T hp;have hn:n∈Q.iD P.pg 1:=by rw[hp];exact dN
   unfold Q.iD at hn;obtain⟨i,hi,e⟩:=bG.1 hn;have hl:=cQ.1 (fp.1 hi).1;have:=h.r1;exact h.act (by omega) (by omega) ⟨by omega,by omega⟩
theorem vF{α:Type}(g:α->Nat)(B:Nat):∀L:List α,(∀x∈L,g x<=B)->(L.map g).sum<=L.length*B
 | [],_=>by simp
 |x::T,h=>by
  have h1:=h x dN;have h2:=vF g B T (λy hy=>h y (dY _ hy))
  simp only[bC,List.sum_cons,bg,Nat.succ_mul];omega
end Go.Proofs.YtbdkogimlbnlmaaGreat
namespace Go.Proofs.YtbdkogimlbnlmaaGreat.Q
open Go.RowKit Go.Shelf
attribute [local go_sem] Oper.semAt_some
variable {L:List Int}{n:Nat}{P:Po}
def fil(L:List Int)(n:Nat):List Int:=L++List.replicate (n-L.length) 0
theorem wE(h:L.length<=n):(fil L n).length=n:=by unfold fil;rw[ae,be];omega
theorem DH(h:L.length<n)(x:Int):(fil L n).set L.length x=fil (L++[x]) n:=by
 unfold fil;rw[d9 _ _ (ai _),dv];obtain⟨m,hm⟩:∃m,n-L.length=m+1:=⟨n-L.length-1,by omega⟩
 rw[hm,List.replicate_succ,eY,ae,List.length_singleton,show n-(L.length+1)=m by omega,aR]
 rfl
theorem u9{i:Nat}(h:i<P.pg.length):(P.counts.take (i+1))=P.counts.take i++[(P.pg.getD i Pg.zero).1]:=by
 have hl:i<P.counts.length:=by unfold Po.counts;rw[a7];exact h
 rw[jt P.counts 0 hl];congr 2
 unfold Po.counts;simp[h]
theorem xJ(w:World)(b:Nat)(P:Po)(col:Nat->Nat)(h:Pl w b P col):Calls Tryz.prog 26 #[.pointer (some ⟨b,0,none⟩)] w λe w'=>∃a c,e=.returned (.slice a P.counts.length c)/\IOwn w w' a c P.counts:=by
 obtain⟨D,h⟩:=h;have h2:=h.ok.l2;have HQ:=ig h.q;obtain⟨n,hn⟩:∃n,P.pg.length=n:=⟨_,rfl⟩;have HN:=ig hn;have c1:=h.q.c1;rw[hn] at c1 h2;have hcl:P.counts.length=n:=by unfold Po.counts;rw[a7];exact hn
 rw[hcl];have HCL:=ig hcl;have hmk:=uy n (by omega) w
 rw[oO] at hmk;have aw:=al w (.cells (vi (List.replicate n 0)).toArray 3)
 have G0:=ig (show Ig (w.alloc (.cells (vi (List.replicate n 0)).toArray 3)) (some ⟨w.heap.size,0,none⟩) n (fil [] n) by
  have e:fil [] n=List.replicate n 0:=by unfold fil;simp
  rw[e];exact Ig.mk (az w _) (by simp) (by unfold maxLen;omega) (by simp[vi]) (by simp[vi]))
 have AW:=ig aw;have ca:(w.alloc (.cells (vi (List.replicate n 0)).toArray 3)).cell? ⟨b,1,none⟩=_:=(aw.cell (p:=⟨b,1,none⟩) (block_lt_of_cell c1)).trans c1;clear h hn hcl aw;go_enter Tryz.func26,Tryz.ntmps26;go_wp2_with fail
 generalize w.alloc (.cells (vi (List.replicate n 0)).toArray 3)=W1 at *;go_loopw [17] (λi wr=>∃k:Nat,k<=n/\i=.int .i64 (k:Int)/\Ig wr (some ⟨w.heap.size,0,none⟩) n (fil (P.counts.take k) n)/\Below w.heap.size w wr) (λi _=>n-(intOf i).toNat)
 case atStart=>exact⟨0,aF _,rfl,G0.o,AW.o⟩
 case round=>
  obtain⟨i,hi,rfl,hg,hb⟩:=hrel;have HG:=ig hg;have HB:=ig hb;clear hg hb G0 AW;by_cases hlt:i<n
  . have hil:i<P.pg.length:=by rw[HN.o];exact hlt
    obtain⟨d1,d2⟩:=(HQ.o.keep HB.o).pgAt hil;have SN:=ig (u9 hil);obtain⟨x,hx⟩:∃x,P.pg.getD i Pg.zero=x:=⟨_,rfl⟩;rw[hx] at d1 d2 SN;obtain⟨x0,x1⟩:=x;simp only at d1 d2 SN;have tl:(P.counts.take i).length=i:=by rw[bi,HCL.o];omega
    have hiI:(i:Int)<(n:Int):=by omega
    have aw:=al wr (.cells #[.int .i64 x0,.bool x1] 133);have g1:=HG.o.keep aw;have cg:(wr.alloc (.cells #[.int .i64 x0,.bool x1] 133)).cell? ⟨w.heap.size,i,none⟩=_:=g1.cell (i:=i) (by rw[wE (by rw[tl];exact hi)];exact hlt)
    have fg:(wr.alloc (.cells #[.int .i64 x0,.bool x1] 133)).frozen? ⟨w.heap.size,i,none⟩=false:=by
     rcases g1.cases with⟨h0,_⟩|⟨g',cur,h0,hg,_⟩
     . cases h0
     . cases h0;simp[World.frozen?,hg]
    have hws:w.heap.size<wr.heap.size:=HG.o.lt rfl
    have G2:=ig (show Ig ((wr.setCell ⟨w.heap.size,i,none⟩ (.int .i64 x0)).alloc (.cells #[.int .i64 x0,.bool x1] 133)) (some ⟨w.heap.size,0,none⟩) n (fil (P.counts.take (i+1)) n) by
     have s:=HG.o.set i x0;have f:=DH (L:=P.counts.take i) (n:=n) (by rw[tl];exact hlt) x0
     rw[tl] at f;rw[f,<-SN.o] at s;exact s.keep (al _ _))
    have B2:=ig (show Below w.heap.size w ((wr.setCell ⟨w.heap.size,i,none⟩ (.int .i64 x0)).alloc (.cells #[.int .i64 x0,.bool x1] 133)) from bt ((But.setCell (S:=λ_=>False) (But.ofBelow HB.o) (p:=⟨w.heap.size,i,none⟩) (λh=>by have h:w.heap.size<w.heap.size:=h;omega) _).below (λ_ _ h=>h)) (al _ _))
    clear hx aw g1 tl;go_wp2;go_roundw
    case rel=>exact⟨i+1,by omega,by go_num,G2.o,B2.o⟩
    case measure=>simp[intOf];omega
  . obtain rfl:i=n:=by omega
    go_wp2;go_ret;refine⟨_,_,rfl,?_,λx hx=>.inr (by cases hx;exact ai _),HB.o⟩
    have g:=HG.o;rw[show P.counts.take i=P.counts by rw[<-HCL.o,cU]] at g
    have e:fil P.counts i=P.counts:=by unfold fil;rw[HCL.o,dv];simp
    rwa [e] at g
theorem zV(w:World):xF Tryz.prog 151 #[] enI [] w (λ_=>False):=by
 intro l J Jx W F0 hW hS aJ sJ hY h0;refine gh Tryz.func151 rfl trivial ?_ rfl;simp only[Tryz.ntmps151,da,bg,bh,Nat.reduceAdd,Nat.reduceSub,dw,dy,dG,dA,cO,dl];gi_wp2
 go_end0
 exact⟨⟨_,rfl⟩,But.refl _ _,F0,λk hk=>.inl hk,.inl h0⟩
structure Wlk(w w':World)(gf:Nat)(lb:Array Value)(xs:List Int)(X:Nat->Prop):Prop where
 seq:xF Tryz.prog gf lb enI xs w' X
 en:∀args w,(callFunc gf args).run Tryz.prog w=.ok (.enter gf args) w
 nw:∀k,X k->w.heap.size<=k/\k<w'.heap.size
 bl:Below w.heap.size w w'
theorem Pm.rn{w:World}{b:Nat}{col:Nat->Nat}{D:Pd}(h:Pm w b P col D){s:Nat}(hs:s<5):∀r∈D.L s,r.1<=r.2/\Nm r.1/\Nm r.2:=λr hr=>⟨(h.q.set s hs).can.1 r hr,(h.q.set s hs).bnd r hr⟩
theorem sg(w:World)(b:Nat)(P:Po)(col:Nat->Nat)(h:Pl w b P col)(z:Int):Calls Tryz.prog 115 #[.pointer (some ⟨b,0,none⟩),.int .i64 z] w λe w'=>∃gf lb X,e=.returned (.func (.func gf) #[] lb)/\Wlk w w' gf lb (P.pages z) X:=by
 obtain⟨D,h⟩:=h;have C:=ig (pH w z);unfold Po.pages;by_cases h1:1<=z/\z<=4
 . rw[if_pos h1];rw[ay h1.1,ay h1.2] at C;obtain⟨s,rfl⟩:∃s:Nat,z=(s:Int):=⟨z.toNat,by omega⟩
   rw[c9];have ci:=h.q.cin (s:=s) (by omega)
   have np:=kX (h.q.set s (by omega)).can (h.mem s (by omega))
   have AL:=ig (vy w (D.s s) (D.a s) (D.c s) (D.L s) (h.q.set s (by omega)))
   have RN:=ig (h.rn (s:=s) (by omega))
   have FE:=ig (h.few (s:=s) (by omega))
   rw[<-np];clear h np;simp only[Bool.and_self] at C;go_enter Tryz.func115,Tryz.ntmps115;go_wp2_with fail
   refine C.o.mono ?_;rintro _ wq ⟨rfl,hwq⟩;obtain rfl:=hwq.symm;go_wp2_with fail
   refine AL.o.mono ?_;rintro _ w1 ⟨E,g,rfl,hE,hg,hcE,hV,hgl,hb⟩
   have HW:=ig (show Wlk w w1 170 #[.pointer (some ⟨E,0,none⟩)] (i9 (D.L s)) _ from⟨ue w1 E (some ⟨g,0,none⟩) (D.L s).length (D.L s) hcE hV (by have:=FE.o;omega) RN.o,enters_of Tryz.func170 (by kernel_rfl) rfl,λk hk=>by
    rcases hk with rfl|⟨x,hx,rfl⟩
    . exact⟨hE,block_lt_of_cell hcE⟩
    . cases hx;exact⟨hg,hgl⟩,hb⟩)
   clear hE hg hcE hV hgl hb;go_wp2;go_ret;exact⟨_,_,_,rfl,HW.o⟩
 . rw[if_neg h1]
   have e:(decide (1<=z)&&decide (z<=4))=false:=by
    by_cases a:1<=z
    . rw[ax (show ¬z<=4 by omega)];simp
    . rw[ax a];simp
   rw[e] at C;clear h h1 e;go_enter Tryz.func115,Tryz.ntmps115;go_wp2_with fail
   refine C.o.mono ?_;rintro _ wq ⟨rfl,hwq⟩;obtain rfl:=hwq.symm;go_wp2;go_ret;exact⟨_,_,_,rfl,zV w,enters_of Tryz.func151 (by kernel_rfl) rfl,λk hk=>hk.elim,Below.refl _ _⟩
end Go.Proofs.YtbdkogimlbnlmaaGreat.Q
namespace Go.Proofs.YtbdkogimlbnlmaaGreat
open Go.RowKit
variable {z:Int}{c g i rb sz:Nat}{col:Nat->Nat}{a:Option Addr}{W w w' w5 wx:World}
structure Rd where
 R:Int
 aC:Option Addr
 cC:Nat
 C:List Int
 aL:Option Addr
 cL:Nat
 L:List Bool
 aP:Option Addr
 cP:Nat
 P:List Pv
 aA:Option Addr
 nA:Nat
 cA:Nat
 fl:Int
 hush:Bool
def Rd.box(D:Rd):Array Value:=#[.int .i64 D.R,.slice D.aC D.C.length D.cC,.slice D.aL D.L.length D.cL,.slice D.aP D.P.length D.cP,.slice D.aA D.nA D.cA,.int .i64 D.fl,.bool D.hush]
def vbl(L:List Bool):List Value:=L.map Value.bool
def vpg(P:List Pv):List Value:=(P.map λp=>p.cs.toList).flatten
theorem qN(A B:List Pv):vpg (A++B)=vpg A++vpg B:=by simp[vpg]
theorem m7:∀(L:List Pv),(vpg L).length=L.length*5
 | []=>rfl
 |x::L=>by
  have:=m7 L;simp only[vpg,bC,dH,ae,bg,Pv.cs] at this ⊢;simp only[bh] at this ⊢;omega
theorem mu:∀(L:List Pv)(i k:Nat),i<L.length->k<5->(vpg L)[i*5+k]?=(L.getD i Pv.zero).cs.toList[k]?
 | [],i,k,h,_=>absurd h (dO _)
 |x::L,0,k,h,hk=>by
  have hl:x.cs.toList.length=5:=rfl;simp only[vpg,bC,dH,dX,bH];rw[br (by omega)]
  rfl
 |x::L,i+1,k,h,hk=>by
  have hl:x.cs.toList.length=5:=rfl;have ih:=mu L i k (by simpa using h) hk
  simp only[vpg,bC,dH] at ih ⊢;rw[bj (by omega),hl,show(i+1)*5+k-5=i*5+k by omega,ih]
  rfl
structure Rq(w:World)(rb:Nat)(D:Rd)(col:Nat->Nat):Prop where
 box:w.heap[rb]?=some (.cells D.box 99 (0,0))
 cr:Q.Ig w D.aC D.cC D.C
 lr:Q.Gw 4 1 w D.aL D.cL D.L.length (vbl D.L)
 pr:Q.Gw 31 5 w D.aP D.cP D.P.length (vpg D.P)
 pz:∀p∈D.P,Pz (λk=>col k=6) w p
 ps:∀p∈D.P,p.pg.check=0\/p=Pv.zero
 cb:col rb=1
 cc:∀x,D.aC=some x->col x.block=2
 cl:∀x,D.aL=some x->col x.block=3
 cp:∀x,D.aP=some x->col x.block=4
 lt:∀k,col k≠0->k<w.heap.size
 nL:D.L.length=D.C.length
 nP:D.P.length=D.C.length
 n6:D.C.length<=65536
theorem Rq.but{S:Nat->Prop}{D:Rd}(h:Rq w rb D col)(hb:But S w w')(hn:∀k,col k≠0->¬S k):Rq w' rb D col:=by
 have nz:∀{k c:Nat},col k=c+1->¬S k:=λe=>hn _ (by omega)
 exact⟨hb.same h.box (nz (c:=0) h.cb),h.cr.but hb (λx hx=>nz (c:=1) (h.cc x hx)),h.lr.but hb (λx hx=>nz (c:=2) (h.cl x hx)),h.pr.but hb (λx hx=>nz (c:=3) (h.cp x hx)),λp hp=>(h.pz p hp).but hb (λk _ e=>nz (c:=5) e),h.ps,h.cb,h.cc,h.cl,h.cp,λk hk=>aZ (h.lt k hk) hb.size,h.nL,h.nP,h.n6⟩
theorem Rq.keep{D:Rd}(h:Rq w rb D col)(hb:Below w.heap.size w w'):Rq w' rb D col:=h.but (S:=λ_=>False) (But.ofBelow hb) (λ_ _ h=>h)
theorem Rq.lb{D:Rd}(h:Rq w rb D col):rb<w.heap.size:=(af.1 h.box).1
theorem Rq.cells{w:World}{rb:Nat}{D:Rd}{col:Nat->Nat}(h:Rq w rb D col):w.cell? ⟨rb,0,none⟩=some (.int .i64 D.R)/\w.cell? ⟨rb,1,none⟩=some (.slice D.aC D.C.length D.cC)/\w.cell? ⟨rb,2,none⟩=some (.slice D.aL D.L.length D.cL)/\w.cell? ⟨rb,3,none⟩=some (.slice D.aP D.P.length D.cP)/\w.cell? ⟨rb,6,none⟩=some (.bool D.hush):=by
 rw[au _ _ _ _ _ _ h.box,au _ _ _ _ _ _ h.box,au _ _ _ _ _ _ h.box,au _ _ _ _ _ _ h.box,au _ _ _ _ _ _ h.box];exact⟨rfl,rfl,rfl,rfl,rfl⟩
def Rd.has(D:Rd)(z:Int):Bool:=decide (1<=z)&&decide (z<=D.C.length)
def Rd.count(D:Rd)(z:Int):Int:=if D.has z then D.C.getD (z-1).toNat 0 else 0
def Rd.lasts(D:Rd)(z:Int):Bool:=D.L.getD (z-1).toNat false
def Rd.on(D:Rd)(z:Int):Pv:=D.P.getD (z-1).toNat Pv.zero
def Rd.state(D:Rd)(z:Int):Nat:=if D.has z then Q.stt (D.C.getD (z-1).toNat 0,D.lasts z) else 0
theorem Rd.has_iff{D:Rd}:D.has z=true↔1<=z/\z<=D.C.length:=by unfold Rd.has;simp
theorem Rq.cAt{D:Rd}(h:Rq w rb D col)(hi:i<D.C.length):∃g,D.aC=some ⟨g,0,none⟩/\w.cell? ⟨g,i,none⟩=some (.int .i64 (D.C.getD i 0)):=by
 rcases h.cr.cases with⟨_,_,e⟩|⟨g,cur,e,_⟩
 . rw[e] at hi;exact absurd hi (dO _)
 . refine⟨g,e,?_⟩;have k:=h.cr;rw[e] at k;exact k.cell hi
theorem Rq.lAt{D:Rd}(h:Rq w rb D col)(hi:i<D.C.length):∃g,D.aL=some ⟨g,0,none⟩/\w.cell? ⟨g,i,none⟩=some (.bool (D.L.getD i false)):=by
 have hl:i<D.L.length:=by rw[h.nL];exact hi
 obtain⟨g,e⟩:=h.lr.addr (by omega)
 refine⟨g,e,?_⟩;have k:=h.lr;rw[e] at k;exact k.cell (by simp[vbl,hl])
theorem Rq.pAt{D:Rd}(h:Rq w rb D col)(hi:i<D.C.length):∃g,D.aP=some ⟨g,0,none⟩/\∀k u,k<5->(D.P.getD i Pv.zero).cs.toList[k]?=some u->w.cell? ⟨g,i*5+k,none⟩=some u:=by
 have hl:i<D.P.length:=by rw[h.nP];exact hi
 obtain⟨g,e⟩:=h.pr.addr (by omega)
 refine⟨g,e,λk u hk hu=>?_⟩
 have r:=h.pr;rw[e] at r;exact r.cell (by rw[mu D.P i k hl hk];exact hu)
theorem Rd.on_mem{D:Rd}(h:Rq w rb D col)(hz:D.has z=true):D.on z∈D.P:=by
 obtain⟨h1,h2⟩:=Rd.has_iff.1 hz;have:(z-1).toNat<D.P.length:=by rw[h.nP];omega
 unfold Rd.on;generalize (z-1).toNat=k at this;simp[this]
theorem jY{p:Pv}(h:p.pg.check=0\/p=Pv.zero):Sml p/\p.items.length<=1048576:=by
 rcases h with h|rfl
 . obtain⟨h1,h2,h3,h4⟩:=Pg.check_zero.1 h;unfold Pg.form at h2;have hi:p.pg.items.length=p.items.length:=a7 _;have hdat:p.pg.data=p.data:=rfl
   have hil:p.items.length<=8/\p.data.length<=480:=by
    rw[hi,hdat] at h2;split at h2
    all_goals
     simp only[bQ,bM] at h2;omega
   refine⟨⟨by omega,λx hx=>?_⟩,by omega⟩
   obtain⟨i,hl,e⟩:=List.getElem_of_mem hx
   have hat:p.pg.at i=x.it:=by
    unfold Pg.at;show(p.items.map Iv.it).getD i It.zero=x.it;simp[aq,hl,e]
   have k:=h3 i (by rw[hi];exact hl)
   unfold Pg.itemE at k
   have a1:p.pg.keyOk i=true:=by
    cases e:p.pg.keyOk i with
    |true=>rfl
    |false=>rw[if_pos e] at k;cases k
   rw[if_neg (by rw[a1];decide)] at k
   have a2:p.pg.ordOk i=true:=by
    cases e:p.pg.ordOk i with
    |true=>rfl
    |false=>rw[if_pos e] at k;cases k
   rw[if_neg (by rw[a2];decide)] at k
   have a3:(p.pg.at i).valOk p.pg.kind=true:=by
    cases e:(p.pg.at i).valOk p.pg.kind with
    |true=>rfl
    |false=>rw[if_pos e] at k;cases k
   rw[hat] at a3;unfold Pg.keyOk at a1;rw[hat] at a1;unfold It.valOk at a3;have e1:x.it.key=x.key:=rfl;have e2:x.it.val=x.val:=rfl;rw[e1] at a1;rw[e2] at a3;constructor
   . split at a1
     . simp at a1;rw[a1];exact aF _
     . simp only[bQ,bM] at a1;omega
   . split at a3
     . simp only[bQ,bM] at a3;omega
     . split at a3
       . cases a3
       . split at a3
         all_goals
          simp only[bM] at a3;omega
 . exact⟨⟨aF _,λx hx=>absurd hx (bB)⟩,aF _⟩
theorem pC(w:World)(r:Int):Calls Tryz.prog 91 #[.int .i64 r] w λe w'=>e=.returned (.bool (decide (2<=r)&&decide (r<65536)))/\w'=w:=by
 by_cases h:2<=r
 . go_enter Tryz.func91,Tryz.ntmps91;go_wp2;go_ret;exact⟨by simp[h],rfl⟩
 . go_enter Tryz.func91,Tryz.ntmps91;go_wp2;go_ret;exact⟨by rw[ax (show ¬(2<=r) by omega)];rfl,rfl⟩
theorem rE(w:World)(rb:Nat)(D:Rd)(col:Nat->Nat)(h:Rq w rb D col)(n:Int):Calls Tryz.prog 111 #[.pointer (some ⟨rb,0,none⟩),.int .i64 n] w λe w'=>e=.returned (.bool (D.has n))/\w'=w:=by
 obtain⟨c0,c1,c2,c3,c6⟩:=h.cells;unfold Rd.has;generalize D.C.length=m at *;by_cases h1:1<=n
 . go_enter Tryz.func111,Tryz.ntmps111;go_wp2;go_ret;exact⟨by simp[h1],rfl⟩
 . go_enter Tryz.func111,Tryz.ntmps111;go_wp2;go_ret;exact⟨by rw[ax (show ¬(1<=n) by omega)];rfl,rfl⟩
theorem jS(w:World)(rb:Nat)(D:Rd)(col:Nat->Nat)(h:Rq w rb D col)(n:Int):Calls Tryz.prog 67 #[.pointer (some ⟨rb,0,none⟩),.int .i64 n] w λe w'=>e=.returned (.bool (decide (0<D.count n)))/\w'=w:=by
 obtain⟨c0,c1,c2,c3,c6⟩:=h.cells;have IS:=ig (rE w rb D col h n);by_cases hh:D.has n=true
 . obtain⟨h1,h2⟩:=Rd.has_iff.1 hh;obtain⟨i,hi⟩:∃i:Nat,n=(i:Int)+1:=⟨(n-1).toNat,by omega⟩
   subst hi;have hi:i<D.C.length:=by omega
   obtain⟨g,e,cA⟩:=h.cAt hi;have hc:D.count ((i:Int)+1)=D.C.getD i 0:=by unfold Rd.count;rw[if_pos hh];simp
   rw[hc];rw[hh] at IS;rw[e] at c1;have hs:(i:Int)+1-1=(i:Int):=by omega
   have hii:(i:Int)<(D.C.length:Int):=by omega
   have h6:=h.n6;clear h hc hh;generalize D.C.length=m at *;generalize D.C.getD i 0=x at *;go_enter Tryz.func67,Tryz.ntmps67;go_wp2_with fail
   refine IS.o.mono ?_;rintro _ wq ⟨rfl,hwq⟩;obtain rfl:=hwq.symm;go_wp2;go_ret;exact⟨rfl,rfl⟩
 . have hh2:D.has n=false:=by simpa using hh
   have hc:D.count n=0:=by unfold Rd.count;rw[if_neg hh]
   rw[hc];rw[hh2] at IS;clear h hc hh hh2;go_enter Tryz.func67,Tryz.ntmps67;go_wp2_with fail
   refine IS.o.mono ?_;rintro _ wq ⟨rfl,hwq⟩;obtain rfl:=hwq.symm;go_wp2;go_ret;exact⟨rfl,rfl⟩
theorem kC(w:World)(rb:Nat)(D:Rd)(col:Nat->Nat)(h:Rq w rb D col)(n:Int):Calls Tryz.prog 48 #[.pointer (some ⟨rb,0,none⟩),.int .i64 n] w λe w'=>e=.returned (.int .i64 ((D.state n:Nat):Int))/\w'=w:=by
 obtain⟨c0,c1,c2,c3,c6⟩:=h.cells;have IS:=ig (rE w rb D col h n);by_cases hh:D.has n=true
 . obtain⟨h1,h2⟩:=Rd.has_iff.1 hh;obtain⟨i,hi⟩:∃i:Nat,n=(i:Int)+1:=⟨(n-1).toNat,by omega⟩
   subst hi;have hi:i<D.C.length:=by omega
   obtain⟨g,e,cA⟩:=h.cAt hi;obtain⟨g2,e2,cB⟩:=h.lAt hi;have hc:D.state ((i:Int)+1)=Q.stt (D.C.getD i 0,D.L.getD i false):=by unfold Rd.state Rd.lasts;rw[if_pos hh];simp
   rw[hc];rw[hh] at IS;rw[e] at c1;rw[e2,h.nL] at c2;have hs:(i:Int)+1-1=(i:Int):=by omega
   have hii:(i:Int)<(D.C.length:Int):=by omega
   have h6:=h.n6;clear h hc hh e e2;generalize D.C.length=m at *;generalize D.C.getD i 0=x at *;generalize D.L.getD i false=y at *;unfold Q.stt;by_cases hx:x=0
   . subst hx;cases y
     all_goals
      go_enter Tryz.func48,Tryz.ntmps48;go_wp2_with fail
      refine IS.o.mono ?_;rintro _ wq ⟨rfl,hwq⟩;obtain rfl:=hwq.symm;go_wp2;go_ret;exact⟨rfl,rfl⟩
   . have ex:(x==0)=false:=by simpa using hx
     simp only[if_neg hx];clear hx;cases y
     all_goals
      go_enter Tryz.func48,Tryz.ntmps48;go_wp2_with fail
      refine IS.o.mono ?_;rintro _ wq ⟨rfl,hwq⟩;obtain rfl:=hwq.symm;go_wp2;go_ret;exact⟨rfl,rfl⟩
 . have hh2:D.has n=false:=by simpa using hh
   have hc:D.state n=0:=by unfold Rd.state;rw[if_neg hh]
   rw[hc];rw[hh2] at IS;clear h hc hh hh2;go_enter Tryz.func48,Tryz.ntmps48;go_wp2_with fail
   refine IS.o.mono ?_;rintro _ wq ⟨rfl,hwq⟩;obtain rfl:=hwq.symm;go_wp2;go_ret;exact⟨rfl,rfl⟩
theorem yn(w:World)(rb:Nat)(D:Rd)(col:Nat->Nat)(h:Rq w rb D col)(n:Int):
 Calls Tryz.prog 45 #[.pointer (some ⟨rb,0,none⟩),.int .i64 n] w λx w'=>∃q:Pv,x=.returned (.tuple #[q.vl,.int .i64 (if 0<D.count n then 0 else 15)])/\Pn w w' q/\q.items.length<=1048576/\q.pg=(if 0<D.count n then (D.on n).pg else Pv.zero.pg)/\Below w.heap.size w w':=by
 have aB:=al w (.cells Pv.zero.cs 31);have TH:=ig (jS _ rb D col (h.keep aB) n);have HX:=ig (az w (.cells Pv.zero.cs 31));have AB:=ig aB;have hbl:=h.lb;by_cases h1:0<D.count n
 . simp only[if_pos h1]
   have hh:D.has n=true:=by
    unfold Rd.count at h1;split at h1
    . assumption
    . omega
   obtain⟨k1,k2⟩:=Rd.has_iff.1 hh;obtain⟨i,hi⟩:∃i:Nat,n=(i:Int)+1:=⟨(n-1).toNat,by omega⟩
   subst hi;have hi:i<D.C.length:=by omega
   obtain⟨g,e,hc⟩:=h.pAt hi;obtain⟨c0,c1,c2,c3,c6⟩:=h.cells;rw[e,h.nP] at c3;have hon:D.on ((i:Int)+1)=D.P.getD i Pv.zero:=by unfold Rd.on;simp
   have hm:=Rd.on_mem h hh;obtain⟨sm,si⟩:=jY (h.ps _ hm);have CO:=ig (jZ _ (D.on ((i:Int)+1)) ((h.keep aB).pz _ hm).pi sm.1 si sm.2);have SI:=ig si;have hs:(i:Int)+1-1=(i:Int):=by omega
   have hii:(i:Int)<(D.C.length:Int):=by omega
   have h6:=h.n6;rw[ay h1] at TH;rw[hon] at CO SI ⊢;clear h h1 hh hm sm si hon aB c0 c1 c2 c6 k1 k2;generalize D.C.length=m at *;obtain⟨q,hq⟩:∃q,D.P.getD i Pv.zero=q:=⟨_,rfl⟩;rw[hq] at CO hc SI ⊢;clear hq;obtain⟨kp,lp,aIp,cIp,itp,aDp,cDp,dap,nxp⟩:=q;have y0:=hc 0 _ (by decide) rfl
   have y1:=hc 1 _ (by decide) rfl
   have y2:=hc 2 _ (by decide) rfl
   have y3:=hc 3 _ (by decide) rfl
   have y4:=hc 4 _ (by decide) rfl
   rw[cE] at y0;have gl:g<w.heap.size:=block_lt_of_cell y0;clear hc;unfold Pv.vl at *;simp only[Pv.cs] at CO HX AB TH y0 y1 y2 y3 y4;simp only[Pv.zero,bh] at CO HX AB TH y0 y1 y2 y3 y4 c3;go_enter Tryz.func45,Tryz.ntmps45;go_wp2_with fail
   refine TH.o.mono ?_;rintro _ wq ⟨rfl,hwq⟩;obtain rfl:=hwq.symm;clear hwq;go_wp2_with fail
   refine CO.o.mono ?_;rintro _ w2 ⟨r,rfl,hP,hl,hg,hb⟩;have HP:=ig (hP.pre AB.o.size);have HG:=ig hg;have HL:=ig hl;have HB:=ig (bt AB.o hb);have HX2:=ig ((hb.block w.heap.size (af.1 HX.o).1).trans HX.o);clear hP hg hb CO TH y0 y1 y2 y3 y4 c3 hl;go_wp2_with (first|(refine cu rfl 31 _ _ rfl w.heap.size _ rfl rfl 31 _ HX2.o iq rfl (by simp[Value.oneCell']) ?_)|fail)
   refine bU (v:=.tuple #[.agg _,_]) (iJ Tryz.results45 _ _ w.heap.size 31 _ (0,0) _ rfl (cY _ _ _ _ _ _ HX2.o) Tryz.underlying31 rfl iq) rfl ?_;exact⟨r,rfl,HP.o.row HX2.o (by decide) (by decide) _,by rw[HL.o];exact SI.o,HG.o,((But.ofBelow (S:=λk=>k=w.heap.size) HB.o).trans (Q.iK _ _ _) (λ_ _ e=>e)).below (λk hk e=>by omega)⟩
 . simp only[if_neg h1];rw[ax h1] at TH;clear h1 h;unfold Pv.vl at *;simp only[Pv.cs] at HX AB TH;simp only[Pv.zero,bh] at HX AB TH;go_enter Tryz.func45,Tryz.ntmps45;go_wp2_with fail
   refine TH.o.mono ?_;rintro _ wq ⟨rfl,hwq⟩;obtain rfl:=hwq.symm;clear hwq;go_wp2_with (first|(refine cu rfl 31 _ _ rfl w.heap.size _ rfl rfl 31 _ HX.o iq rfl (by simp[Value.oneCell']) ?_)|fail)
   refine bU (v:=.tuple #[.agg _,_]) (iJ Tryz.results45 _ _ w.heap.size 31 _ (0,0) _ rfl (cY _ _ _ _ _ _ HX.o) Tryz.underlying31 rfl iq) rfl ?_;exact⟨Pv.zero,rfl,Pn.zero _ _,aF _,rfl,((But.ofBelow (S:=λk=>k=w.heap.size) AB.o).trans (Q.iK _ _ _) (λ_ _ e=>e)).below (λk hk e=>by omega)⟩
theorem Q.Gw.blk{e:TypeId}{cap n:Nat}{C:List Value}(h:Q.Gw e sz w a cap n C){x:Addr}(hx:a=some x):∃cur,w.heap[x.block]?=some (.cells cur e (0,0)):=by
 rcases h.cases with⟨e1,_⟩|⟨g,cur,e1,hg,_⟩
 . rw[e1] at hx;cases hx
 . rw[e1] at hx;cases hx;exact⟨cur,hg⟩
theorem je{k k':Nat}{c c':Array Value}{t t':TypeId}(h:w.heap[k]?=some (.cells c t (0,0)))(h':w.heap[k']?=some (.cells c' t' (0,0)))(hn:t≠t'):k≠k':=λe=>by
 rw[e,h'] at h;simp only[aE,dP] at h;exact hn h.2.1.symm
theorem pk{ts te:TypeId}{bs:Nat}{z:Value}(hu:Tryz.prog.underlying ts=some (.slice te))(hinfo:(Tryz.prog.info? te).map (λi=>(i.zero,i.size,i.bytes))=some (some z,sz,bs))(hz:z.cells.size=sz)(h0:0<sz)(w:World)(ty:TypeId)(a:Option Addr)(n cap:Nat)(C:List Value)(hR:Q.Gw te sz w a cap n C)(ad:Addr)(c:Nat)(xs:List Value)(hl:xs.length=1*sz)(hc:∀j u,xs[j]?=some u->w.cell? (ad.add j)=some u)(h1:∀u∈xs,u.oneCell'=true)(hm:n+1<=maxLen)(hlen:(n+1)*bs<=140737488355328):
 ∃g cap' w',(Builtin.append_ #[ts,ts] ty #[.slice a n cap,.slice (some ad) 1 c]).run Tryz.prog w=.ok (.slice (some ⟨g,0,none⟩) (n+1) cap') w'/\
  Q.Gw te sz w' (some ⟨g,0,none⟩) cap' (n+1) (C++xs)/\New w a (some ⟨g,0,none⟩)/\But (Q.InA a) w w':=by
 obtain⟨i0,hi,hz0,hz1,hz2⟩:=dc hinfo;obtain⟨g,cap',w',hr,k1,k2,k3,k4⟩:=dE (P:=Tryz.prog) w ts ty 0 te i0 z sz bs hu hi hz0 hz1 hz2 hz h0 (.slice a n cap) n C hR ad 1 c xs hl hc h1 (by decide) hm hlen (aF _) w.heap.size rfl
 rw[jN] at k2 k3;refine⟨g,cap',w',hr,k1,?_,But.inA k2⟩;intro y hy;simp only[aE] at hy;subst hy;rcases k3 with k3|k3
 . obtain⟨z,hz,e⟩:=map_some k3;exact .inl ⟨z,hz,e⟩
 . exact .inr (by show _<=g;omega)
theorem jv{ts te:TypeId}{sz bs:Nat}{z:Value}(hu:Tryz.prog.underlying ts=some (.slice te))(hinfo:(Tryz.prog.info? te).map (λi=>(i.zero,i.size,i.bytes))=some (some z,sz,bs))(hz:z.cells.size=sz)(h0:0<sz){w:World}{ops:Array Oper}{rest:List Oper}{o:Oper}{a:Act}{Q':Exit->Act->World->Prop}(hgd:o.guard=none)(s x:Operand)
 (ho:o.op=.call {callee:=.builtin .append,args:=#[s,x],argTypes:=#[ts,ts]}) (ao:Option Addr) (n cap:Nat) (C:List Value) (hs:a.eval s=.slice ao n cap) (hR:Q.Gw te sz w ao cap n C)
 (ad:Addr) (c:Nat) (xs:List Value) (hx:a.eval x=.slice (some ad) 1 c) (hl:xs.length=1*sz) (hc:∀j u,xs[j]?=some u->w.cell? (ad.add j)=some u) (h1:∀u∈xs,u.oneCell'=true) (hm:n+1<=maxLen) (hlen:(n+1)*bs<=140737488355328)
 (h:∀g cap' w',Q.Gw te sz w' (some ⟨g,0,none⟩) cap' (n+1) (C++xs)->New w ao (some ⟨g,0,none⟩)->But (Q.InA ao) w w'->wpList Tryz.prog ops Q' rest (a.put o.dst (.slice (some ⟨g,0,none⟩) (n+1) cap')) w'):wpList Tryz.prog ops Q' (o::rest) a w:=
 eH hgd λK hK=>by
  obtain⟨g,cap',w',hr,k1,k2,k3⟩:=pk hu hinfo hz h0 w o.type ao n cap C hR ad c xs hl hc h1 hm hlen;unfold Oper.wp execOp;simp only[ho,resolve,invoke,builtin,dt,du,bO,cJ,bC,cZ,hs,hx,hr];exact hK _ _ (h g cap' w' k1 k2 k3)
theorem Bp:(Tryz.prog.info? 4).map (λi=>(i.zero,i.size,i.bytes))=some (some (.bool false),1,1):=by kernel_rfl
theorem kO:(Tryz.prog.info? 31).map (λi=>(i.zero,i.size,i.bytes))=some (some (.agg Pv.zero.cs),5,72):=by kernel_rfl
theorem zL:(Tryz.prog.info? 3).map (λi=>(i.zero,i.size,i.bytes))=some (some (.int .i64 0),1,8):=by kernel_rfl
theorem DL(l:List Int)(x:Int):Q.vi l++[.int .i64 x]=Q.vi (l++[x]):=by simp[Q.vi]
theorem AS(l:List Bool)(x:Bool):vbl l++[.bool x]=vbl (l++[x]):=by simp[vbl]
theorem uj(l:List Pv)(x:Pv):vpg l++x.cs.toList=vpg (l++[x]):=by simp[vpg]
structure Rn(w wx:World)(rb:Nat)(D:Rd):Prop where
 box:wx.heap[rb]?=some (.cells D.box 99 (0,0))
 cr:Q.Gw 3 1 wx D.aC D.cC D.C.length (Q.vi D.C)
 lr:Q.Gw 4 1 wx D.aL D.cL D.L.length (vbl D.L)
 pr:Q.Gw 31 5 wx D.aP D.cP D.P.length (vpg D.P)
 pn:∀p∈D.P,Pn w wx p
 ps:∀p∈D.P,p.pg.check=0\/p=Pv.zero
 nb:w.heap.size<=rb
 nC:New w none D.aC
 nl:New w none D.aL
 np:New w none D.aP
 b:Below w.heap.size w wx
theorem Rn.keep{wy:World}{D:Rd}(h:Rn w wx rb D)(hb:Below wx.heap.size wx wy):Rn w wy rb D:=
 ⟨im h.box hb,h.cr.keep hb,h.lr.keep hb,h.pr.keep hb,λp hp=>(h.pn p hp).keep hb,h.ps,h.nb,h.nC,h.nl,h.np,bt h.b hb⟩
theorem Rn.lb{D:Rd}(h:Rn w wx rb D):rb<wx.heap.size:=(af.1 h.box).1
theorem Rn.cells{w wx:World}{rb:Nat}{D:Rd}(h:Rn w wx rb D):wx.cell? ⟨rb,0,none⟩=some (.int .i64 D.R)/\wx.cell? ⟨rb,1,none⟩=some (.slice D.aC D.C.length D.cC)/\wx.cell? ⟨rb,2,none⟩=some (.slice D.aL D.L.length D.cL)/\wx.cell? ⟨rb,3,none⟩=some (.slice D.aP D.P.length D.cP)/\wx.frozen? ⟨rb,1,none⟩=false/\wx.frozen? ⟨rb,2,none⟩=false/\wx.frozen? ⟨rb,3,none⟩=false:=by
 rw[au _ _ _ _ _ _ h.box,au _ _ _ _ _ _ h.box,au _ _ _ _ _ _ h.box,au _ _ _ _ _ _ h.box];exact⟨rfl,rfl,rfl,rfl,by simp[World.frozen?,h.box],by simp[World.frozen?,h.box],by simp[World.frozen?,h.box]⟩
theorem nj(h:New w none a)(hN:New W a (some ⟨g,0,none⟩))(hs:w.heap.size<=W.heap.size):New w none (some ⟨g,0,none⟩):=λy hy=>by
 cases hy;refine .inr ?_;rcases hN ⟨g,0,none⟩ rfl with⟨z,hz,e⟩|e
 . have e:z.block=g:=e;show _<=g;rw[<-e];exact iG h hz
 . exact aO hs e
theorem Rn.low{v:Value}(hb:Below w.heap.size w W)(hn:New w none a)(hB:But (Q.InA a) W w5)(hr:w.heap.size<=rb):Below w.heap.size w (w5.setCell ⟨rb,i,none⟩ v):=by
 have b1:But (λk=>k=rb\/Q.InA a k) w w5:=(But.ofBelow (S:=λk=>k=rb\/Q.InA a k) hb).trans hB (λ_ _ e=>.inr e)
 exact(b1.setCell (p:=⟨rb,i,none⟩) (λ_=>.inl rfl) v).below (λk hk e=>by
  rcases e with e|⟨y,hy,e⟩
  . omega
  . have:=iG hn hy;omega)
theorem Rn.apC{D:Rd}(h:Rn w W rb D){x:Int}(hR:Q.Gw 3 1 w5 (some ⟨g,0,none⟩) c (D.C.length+1) (Q.vi D.C++[Value.int .i64 x]))(hN:New W D.aC (some ⟨g,0,none⟩))(hB:But (Q.InA D.aC) W w5):
 Rn w (w5.setCell ⟨rb,1,none⟩ (.slice (some ⟨g,0,none⟩) (D.C.length+1) c)) rb {D with aC:=some ⟨g,0,none⟩,cC:=c,C:=D.C++[x]}:=by
 have nI:∀{t:TypeId}{k:Nat}{cs:Array Value},W.heap[k]?=some (.cells cs t (0,0))->t≠3->¬Q.InA D.aC k:=λhk ht ⟨y,hy,e⟩=>by
  obtain⟨cur,hc⟩:=h.cr.blk hy;exact je hk hc ht e.symm
 have b5:w5.heap[rb]?=some (.cells D.box 99 (0,0)):=hB.same h.box (nI h.box (by decide))
 have bs:But (λk=>k=rb) w5 (w5.setCell ⟨rb,1,none⟩ (.slice (some ⟨g,0,none⟩) (D.C.length+1) c)):=(But.refl (λk=>k=rb) w5).setCell (p:=⟨rb,1,none⟩) (λ_=>rfl) _
 have nb:∀{t:TypeId}{k:Nat}{cs:Array Value},w5.heap[k]?=some (.cells cs t (0,0))->t≠99->¬(k=rb):=λhk ht e=>je hk b5 ht e
 have mv:∀{e:TypeId}{sz:Nat}{a:Option Addr}{cap n:Nat}{C:List Value},e≠3->e≠99->Q.Gw e sz W a cap n C->Q.Gw e sz (w5.setCell ⟨rb,1,none⟩ (.slice (some ⟨g,0,none⟩) (D.C.length+1) c)) a cap n C:=λh1 h2 hg=>by
  have k5:=hg.but hB (λy hy=>by obtain⟨cur,hc⟩:=hg.blk hy;exact nI hc h1)
  exact k5.but bs (λy hy=>by obtain⟨cur,hc⟩:=k5.blk hy;exact nb hc h2)
 have mp:∀p:Pv,Pn w W p->Pn w (w5.setCell ⟨rb,1,none⟩ (.slice (some ⟨g,0,none⟩) (D.C.length+1) c)) p:=λp hp=>by
  have p5:=hp.but hB (λk ⟨y,hy,e⟩=>by obtain⟨cur,hc⟩:=h.cr.blk hy;exact⟨3,cur,by rw[<-e];exact hc,by decide,by decide⟩)
  exact p5.but bs (λk e=>⟨99,D.box,by rw[e];exact b5,by decide,by decide⟩)
 refine⟨?_,(by show Q.Gw _ _ _ _ _ (D.C++[x]).length _;rw[ae,<-DL];exact hR.but bs (λy hy=>by obtain⟨cur,hc⟩:=hR.blk hy;exact nb hc (by decide))),mv (by decide) (by decide) h.lr,mv (by decide) (by decide) h.pr,λp hp=>mp p (h.pn p hp),h.ps,h.nb,nj h.nC hN h.b.size,h.nl,h.np,Rn.low h.b h.nC hB h.nb⟩
 rw[aM _ _ _ _ _ _ b5];show some (Obj.cells _ _ _)=some (Obj.cells (Rd.box _) _ _);unfold Rd.box;rw[ae];rfl
theorem Rn.apL{D:Rd}(h:Rn w W rb D){x:Bool}(hR:Q.Gw 4 1 w5 (some ⟨g,0,none⟩) c (D.L.length+1) (vbl D.L++[Value.bool x]))(hN:New W D.aL (some ⟨g,0,none⟩))(hB:But (Q.InA D.aL) W w5):
 Rn w (w5.setCell ⟨rb,2,none⟩ (.slice (some ⟨g,0,none⟩) (D.L.length+1) c)) rb {D with aL:=some ⟨g,0,none⟩,cL:=c,L:=D.L++[x]}:=by
 have nI:∀{t:TypeId}{k:Nat}{cs:Array Value},W.heap[k]?=some (.cells cs t (0,0))->t≠4->¬Q.InA D.aL k:=λhk ht ⟨y,hy,e⟩=>by
  obtain⟨cur,hc⟩:=h.lr.blk hy;exact je hk hc ht e.symm
 have b5:w5.heap[rb]?=some (.cells D.box 99 (0,0)):=hB.same h.box (nI h.box (by decide))
 have bs:But (λk=>k=rb) w5 (w5.setCell ⟨rb,2,none⟩ (.slice (some ⟨g,0,none⟩) (D.L.length+1) c)):=(But.refl (λk=>k=rb) w5).setCell (p:=⟨rb,2,none⟩) (λ_=>rfl) _
 have nb:∀{t:TypeId}{k:Nat}{cs:Array Value},w5.heap[k]?=some (.cells cs t (0,0))->t≠99->¬(k=rb):=λhk ht e=>je hk b5 ht e
 have mv:∀{e:TypeId}{sz:Nat}{a:Option Addr}{cap n:Nat}{C:List Value},e≠4->e≠99->Q.Gw e sz W a cap n C->Q.Gw e sz (w5.setCell ⟨rb,2,none⟩ (.slice (some ⟨g,0,none⟩) (D.L.length+1) c)) a cap n C:=λh1 h2 hg=>by
  have k5:=hg.but hB (λy hy=>by obtain⟨cur,hc⟩:=hg.blk hy;exact nI hc h1)
  exact k5.but bs (λy hy=>by obtain⟨cur,hc⟩:=k5.blk hy;exact nb hc h2)
 have mp:∀p:Pv,Pn w W p->Pn w (w5.setCell ⟨rb,2,none⟩ (.slice (some ⟨g,0,none⟩) (D.L.length+1) c)) p:=λp hp=>by
  have p5:=hp.but hB (λk ⟨y,hy,e⟩=>by obtain⟨cur,hc⟩:=h.lr.blk hy;exact⟨4,cur,by rw[<-e];exact hc,by decide,by decide⟩)
  exact p5.but bs (λk e=>⟨99,D.box,by rw[e];exact b5,by decide,by decide⟩)
 refine⟨?_,mv (by decide) (by decide) h.cr,(by show Q.Gw _ _ _ _ _ (D.L++[x]).length _;rw[ae,<-AS];exact hR.but bs (λy hy=>by obtain⟨cur,hc⟩:=hR.blk hy;exact nb hc (by decide))),mv (by decide) (by decide) h.pr,λp hp=>mp p (h.pn p hp),h.ps,h.nb,h.nC,nj h.nl hN h.b.size,h.np,Rn.low h.b h.nl hB h.nb⟩
 rw[aM _ _ _ _ _ _ b5];show some (Obj.cells _ _ _)=some (Obj.cells (Rd.box _) _ _);unfold Rd.box;rw[ae];rfl
theorem Rn.apP{D:Rd}(h:Rn w W rb D){x:Pv}(hx:Pn w W x)(hxs:x.pg.check=0\/x=Pv.zero)(hR:Q.Gw 31 5 w5 (some ⟨g,0,none⟩) c (D.P.length+1) (vpg D.P++x.cs.toList))(hN:New W D.aP (some ⟨g,0,none⟩))(hB:But (Q.InA D.aP) W w5):
 Rn w (w5.setCell ⟨rb,3,none⟩ (.slice (some ⟨g,0,none⟩) (D.P.length+1) c)) rb {D with aP:=some ⟨g,0,none⟩,cP:=c,P:=D.P++[x]}:=by
 have nI:∀{t:TypeId}{k:Nat}{cs:Array Value},W.heap[k]?=some (.cells cs t (0,0))->t≠31->¬Q.InA D.aP k:=λhk ht ⟨y,hy,e⟩=>by
  obtain⟨cur,hc⟩:=h.pr.blk hy;exact je hk hc ht e.symm
 have b5:w5.heap[rb]?=some (.cells D.box 99 (0,0)):=hB.same h.box (nI h.box (by decide))
 have bs:But (λk=>k=rb) w5 (w5.setCell ⟨rb,3,none⟩ (.slice (some ⟨g,0,none⟩) (D.P.length+1) c)):=(But.refl (λk=>k=rb) w5).setCell (p:=⟨rb,3,none⟩) (λ_=>rfl) _
 have nb:∀{t:TypeId}{k:Nat}{cs:Array Value},w5.heap[k]?=some (.cells cs t (0,0))->t≠99->¬(k=rb):=λhk ht e=>je hk b5 ht e
 have mv:∀{e:TypeId}{sz:Nat}{a:Option Addr}{cap n:Nat}{C:List Value},e≠31->e≠99->Q.Gw e sz W a cap n C->Q.Gw e sz (w5.setCell ⟨rb,3,none⟩ (.slice (some ⟨g,0,none⟩) (D.P.length+1) c)) a cap n C:=λh1 h2 hg=>by
  have k5:=hg.but hB (λy hy=>by obtain⟨cur,hc⟩:=hg.blk hy;exact nI hc h1)
  exact k5.but bs (λy hy=>by obtain⟨cur,hc⟩:=k5.blk hy;exact nb hc h2)
 have mp:∀p:Pv,Pn w W p->Pn w (w5.setCell ⟨rb,3,none⟩ (.slice (some ⟨g,0,none⟩) (D.P.length+1) c)) p:=λp hp=>by
  have p5:=hp.but hB (λk ⟨y,hy,e⟩=>by obtain⟨cur,hc⟩:=h.pr.blk hy;exact⟨31,cur,by rw[<-e];exact hc,by decide,by decide⟩)
  exact p5.but bs (λk e=>⟨99,D.box,by rw[e];exact b5,by decide,by decide⟩)
 refine⟨?_,mv (by decide) (by decide) h.cr,mv (by decide) (by decide) h.lr,(by show Q.Gw _ _ _ _ _ (D.P++[x]).length _;rw[ae,<-uj];exact hR.but bs (λy hy=>by obtain⟨cur,hc⟩:=hR.blk hy;exact nb hc (by decide))),(λp hp=>by
  rcases bm.1 hp with hp|hp
  . exact mp p (h.pn p hp)
  . rw[aQ.1 hp];exact mp x hx),(λp hp=>by
  rcases bm.1 hp with hp|hp
  . exact h.ps p hp
  . rw[aQ.1 hp];exact hxs),h.nb,h.nC,h.nl,nj h.np hN h.b.size,Rn.low h.b h.np hB h.nb⟩
 rw[aM _ _ _ _ _ _ b5];show some (Obj.cells _ _ _)=some (Obj.cells (Rd.box _) _ _);unfold Rd.box;rw[ae];rfl
end Go.Proofs.YtbdkogimlbnlmaaGreat
