import Derived.Test.YtbdkogimlbnlmaaGreatWtB11
import Derived.Test.YtbdkogimlbnlmaaGreatWtB12
import Derived.Defers
import Derived.Recover
import Derived.Lib.SlBytesConst
import Derived.ProofKit
import Derived.OpenShut
import Derived.ShutString
import Derived.ChangeOld
import Derived.Deep.Slices
import Derived.SizedLaws
import Derived.JoinedCond
import Derived.Deep.CutRange
set_option linter.unusedVariables false
set_option linter.unusedSimpArgs false
set_option maxHeartbeats 12800000
set_option maxRecDepth 16000
namespace Go.Proofs.YtbdkogimlbnlmaaGreat
section
open Go.RowKit
variable {T:TypeId} {w w':World} {b:Nat} {a:Option Addr} {cap:Nat}
theorem But.cell1(w:World)(b i:Nat)(u:Value):But (λk=>k=b) w (w.setCell ⟨b,i,none⟩ u):=(But.refl (λk=>k=b) w).setCell (p:=⟨b,i,none⟩) (λ_=>rfl) u
end
section
open Go.RowKit
variable {w w':World} {b:Nat} {a:Option Addr} {cap:Nat} {s:RS}
end
section
open Go.RowKit
variable {v w:World} {G:Nat->Prop} {b:Nat} {l:List Nat}
end
section
open Go.RowKit
variable {v w w':World} {b:Nat} {s s':RS}
end
section
open Go.RowKit
theorem bx2(w:World)(t1 t2:TypeId)(c1 c2:Array Value):Bx ((w.alloc (.cells c1 t1)).alloc (.cells c2 t2)) t1 w.heap.size c1/\Bx ((w.alloc (.cells c1 t1)).alloc (.cells c2 t2)) t2 (w.heap.size+1) c2:=by
 refine⟨(Bx.new w t1 c1).keep (al _ _),?_⟩;have:=Bx.new (w.alloc (.cells c1 t1)) t2 c2;rwa [size_alloc] at this
end
section
open Go.RowKit
structure Jo(w w':World)(x:Iv):Prop where
 k:Rw w' x.aK x.cK x.key
 kn:New w none x.aK
 v:Rw w' x.aV x.cV x.val
 vn:New w none x.aV
 ap:∀p q,x.aK=some p->x.aV=some q->p.block≠q.block
 k8:B8 x.key
 v8:B8 x.val
 nc:N64 x.child
 ns:N64 x.size
theorem Bx.setc{w:World}{t:TypeId}{g:Nat}{cs:Array Value}(h:Bx w t g cs)(i:Nat)(u:Value):Bx (w.setCell ⟨g,i,none⟩ u) t g (cs.setIfInBounds i u):=aM w g i _ _ _ h
theorem Rw.nty{w:World}{a:Option Addr}{c:Nat}{l:List Nat}(h:Rw w a c l){t:TypeId}{g:Nat}{cs:Array Value}(hg:Bx w t g cs)(ht:t≠5){x:Addr}(hx:a=some x):x.block≠g:=by
 intro e;rcases h.cases with⟨rfl,_⟩|⟨g',cur,rfl,hg',_⟩
 . cases hx
 . cases hx;dsimp only at e;subst e;unfold Bx at hg;rw[hg'] at hg;simp only[aE,dP] at hg;exact absurd hg.2.1.symm ht
theorem qS(w:World)(g:Nat)(cs:Array Value):But (λk=>k=g) w (w.setRow g cs):=by
 have h:=tI (Below.refl 0 w) (aF g) cs;exact⟨h.os,h.tape,h.output,h.size,λk _ hn=>setRow_other _ _ _ _ hn⟩
end
section
open Go.RowKit
theorem ta(n:Nat):∀i,i<n*4->(Jc (List.replicate n Iv.zero))[i]?=Iv.zero.cs.toList[i%4]?:=by
 intro i hi;have h:=lG (List.replicate n Iv.zero) (i/4) (i%4) (by rw[be];omega) (by omega)
 rw[show i/4*4+i%4=i by omega] at h
 rw[h];congr 1
 have:(List.replicate n Iv.zero).getD (i/4) Iv.zero=Iv.zero:=by
  rw[aq,gA];split<;>rfl
 rw[this]
theorem zj(n:Nat):(madeCells Iv.zero.cs (n*4)).toList=Jc (List.replicate n Iv.zero):=by
 apply dS;intro i;by_cases hi:i<n*4
 . rw[ta n i hi,eV];unfold madeCells;simp[hi,Iv.zero,Iv.cs];have:i%4=0\/i%4=1\/i%4=2\/i%4=3:=by omega
   rcases this with h|h|h|h<;>rw[h]<;>rfl
 . rw[dz (by simp[fT];omega),dz (by rw[jQ,be];omega)]
theorem Jw.start{W:World}{n:Nat}(hn:n<=1048579):Jw (W.alloc (.cells (madeCells Iv.zero.cs (n*4)) 51)) (some ⟨W.heap.size,0,none⟩) n (List.replicate n Iv.zero):=by
 refine Jw.mk (aH _ _) (by simp) (by unfold maxLen;omega) (by simp[fT]) ?_
 rw[be,df (by simp[fT]),zj]
theorem xD(n:Nat)(hn:n<=1048579)(w:World):(Instr.makeSlice 28 (.int .i64 (n:Int)) (.int .i64 (n:Int))).run Tryz.prog w=.ok (.slice (some ⟨w.heap.size,0,none⟩) n n) (w.alloc (.cells (madeCells Iv.zero.cs (n*4)) 51)):=by
 obtain⟨i0,hi,hz0,hz1,hz2⟩:=dc lu;have hr:=run_make (P:=Tryz.prog) w 28 51 i0 (.agg Iv.zero.cs) Tryz.underlying28 hi hz0 .i64 .i64 n n (by omega) (by omega) (by rw[hz2];omega) (by omega)
 simp only[c9,hz1] at hr;exact hr
theorem Bi{D:List Iv}{n j:Nat}(hD:D.length=j)(hj:j<n)(v:Iv):(D++List.replicate (n-j) Iv.zero).set j v=(D++[v])++List.replicate (n-(j+1)) Iv.zero:=by
 subst hD;rw[d9 _ _ (ai _),dv,show n-D.length=(n-(D.length+1))+1 by omega,List.replicate_succ,eY,aR]
 rfl
theorem Jw.four{w:World}{g cap:Nat}{L:List Iv}(h:Jw w (some ⟨g,0,none⟩) cap L){k:Nat}(hk:k<L.length):w.there g (k*4) 4:=by
 have:=h.there;intro i hi;have h2:=this (k*4+i) (by have:(k+1)*4<=L.length*4:=dB _ hk;omega)
 simpa using h2
theorem i8(g:Nat):∀(vs:List Value)(w:World)(o:Nat),But (λk=>k=g) w (w.setCells g o vs)
 | [],_,_=>But.refl _ _
 |v::vs,w,o=>((But.refl (λk=>k=g) w).setCell (p:=⟨g,o,none⟩) (λ_=>rfl) v).trans (i8 g vs _ (o+1)) λ_ _ h=>h
end
section
open Go.RowKit
structure Pn(v wx:World)(P:Pv):Prop where
 it:Jw wx P.aI P.cI P.items
 itn:New v none P.aI
 d:Rw wx P.aD P.cD P.data
 dn:New v none P.aD
 fr:∀t∈iB P.items,Rw wx t.a t.c t.l/\New v none t.a/\B8 t.l
 dist:((⟨P.aD,P.cD,P.data⟩:Br)::iB P.items).Pairwise kH
 d8:B8 P.data
 ns:∀r∈P.items,N64 r.child/\N64 r.size
 nk:N64 P.kind
 nl:N64 P.level
 nn:N64 P.next
theorem Jw.nty{w:World}{a:Option Addr}{c:Nat}{L:List Iv}(h:Jw w a c L){t:TypeId}{g:Nat}{cs:Array Value}(hg:Bx w t g cs)(ht:t≠51){x:Addr}(hx:a=some x):x.block≠g:=by
 intro e;rcases h.cases with⟨rfl,_⟩|⟨g',cur,rfl,hg',_⟩
 . cases hx
 . cases hx;dsimp only at e;subst e;unfold Bx at hg;rw[hg'] at hg;simp only[aE,dP] at hg;exact absurd hg.2.1.symm ht
theorem Pn.but{S:Nat->Prop}{v wx wy:World}{P:Pv}(h:Pn v wx P)(hb:But S wx wy)(hS:∀k,S k->∃t cs,Bx wx t k cs/\t≠5/\t≠51):Pn v wy P:=by
 have hr:∀{a c l},Rw wx a c l->Rw wy a c l:=λhr=>hr.but hb λx hx hs=>by
  obtain⟨t,cs,h1,h2,h3⟩:=hS _ hs;exact hr.nty h1 h2 hx rfl
 exact⟨h.it.but hb λx hx hs=>by
  obtain⟨t,cs,h1,h2,h3⟩:=hS _ hs;exact h.it.nty h1 h3 hx rfl,h.itn,hr h.d,h.dn,λt ht=>⟨hr (h.fr t ht).1,(h.fr t ht).2⟩,h.dist,h.d8,h.ns,h.nk,h.nl,h.nn⟩
theorem Pn.keep{v wx wy:World}{P:Pv}(h:Pn v wx P)(hb:Below wx.heap.size wx wy):Pn v wy P:=h.but (S:=λ_=>False) (But.ofBelow hb) λ_ h=>h.elim
theorem dr2(w:World):Below w.heap.size w w.drew:=(Below.refl _ _).drew
theorem uo{L:List Iv}{k:Nat}(hk:k<L.length)(x:Iv):(iB (L.set k x)).Perm (x.rows++iB (L.take k++L.drop (k+1))):=by
 have e:L.set k x=L.take k++x::L.drop (k+1):=by
  rw[List.set_eq_take_append_cons_drop,if_pos hk]
 rw[e,iW,kJ,iW,<-aR,<-aR];exact List.Perm.append_right _ List.perm_append_comm
theorem oy{L:List Iv}{k:Nat}(hk:k<L.length):(iB (L.take k++L.drop (k+1))).Sublist (iB L):=by
 conv=>rhs;rw[<-cR k L,cM hk,iW,kJ]
 rw[iW];exact List.Sublist.append (List.Sublist.refl _) (List.sublist_append_right _ _)
theorem Pn.item{v w wx:World}{kind level next:Int}{g n:Nat}{L:List Iv}{aD:Option Addr}{cD:Nat}{data:List Nat}{x:Iv}{k:Nat}(h0:Pn v w ⟨kind,level,some ⟨g,0,none⟩,n,L,aD,cD,data,next⟩)(h:Pn v wx ⟨kind,level,some ⟨g,0,none⟩,n,L,aD,cD,data,next⟩)(hv:v.heap.size<=w.heap.size)(hJ:Jo w wx x)(hk:k<L.length):
 Pn v (wx.setCells g (k*4) x.cs.toList) ⟨kind,level,some ⟨g,0,none⟩,n,L.set k x,aD,cD,data,next⟩:=by
 have hb:=i8 g x.cs.toList wx (k*4);have hrow:∀{a c l},Rw wx a c l->Rw (wx.setCells g (k*4) x.cs.toList) a c l:=λhr=>hr.but hb λy hy e=>h.it.ne hr rfl hy e.symm
 have hmem:∀t,t∈iB (L.set k x)->t∈x.rows\/t∈iB L:=λt ht=>by
  rcases bm.1 ((uo hk x).subset ht) with h1|h1
  . exact .inl h1
  . exact .inr ((oy hk).subset h1)
 have hxr:∀t∈x.rows,Rw wx t.a t.c t.l/\New w none t.a/\B8 t.l:=λt ht=>by
  simp only[Iv.rows,bT,bB,gd] at ht;rcases ht with rfl|rfl
  . exact⟨hJ.k,hJ.kn,hJ.k8⟩
  . exact⟨hJ.v,hJ.vn,hJ.v8⟩
 refine⟨h.it.setv k x,h.itn,hrow h.d,h.dn,λt ht=>?_,?_,h.d8,λr hr=>?_,h.nk,h.nl,h.nn⟩
 . rcases hmem t ht with h1|h1
   . obtain⟨a1,a2,a3⟩:=hxr t h1;exact⟨hrow a1,a2.mono hv,a3⟩
   . obtain⟨a1,a2,a3⟩:=h.fr t h1;exact⟨hrow a1,a2,a3⟩
 . have hap:∀t∈x.rows,∀u:Br,(∃c l,Rw w u.a c l)->kH u t:=λt ht u ⟨c,l,hu⟩ p q hp hq e=>by
    have h1:=hu.lt hp;rcases (hxr t ht).2.1 q hq with⟨_,h,_⟩|h2
    . cases h
    . omega
   obtain⟨d1,d2⟩:=cH.1 h.dist;refine cH.2 ⟨λt ht=>?_,?_⟩
   . rcases hmem t ht with h1|h1
     . exact hap t h1 _ ⟨cD,data,h0.d⟩
     . exact d1 t h1
   . refine((uo hk x).pairwise_iff λh=>kH.symm h).2 (dh.2 ⟨?_,d2.sublist (oy hk),λt ht u hu=>(hap t ht u ?_).symm⟩)
     . exact cH.2 ⟨λt ht=>by rw[aQ.1 ht];exact hJ.ap,dF _ _⟩
     . obtain⟨a1,_⟩:=h0.fr u ((oy hk).subset hu);exact⟨_,_,a1⟩
 . rcases fB hr with h1|rfl
   . exact h.ns r h1
   . exact⟨hJ.nc,hJ.ns⟩
end
section
open Go.RowKit
theorem Pn.zero(v w:World):Pn v w Pv.zero:=⟨Jw.nil _,New.none _ _,Rw.nil _,New.none _ _,(λ_ h=>by cases h),dF _ _,B8.nil,(λ_ h=>by cases h),by simp[N64,Pv.zero],by simp[N64,Pv.zero],by simp[N64,Pv.zero]⟩
theorem Pn.pre{v v' w:World}{P:Pv}(h:Pn v w P)(hv:v'.heap.size<=v.heap.size):Pn v' w P:=⟨h.it,h.itn.mono hv,h.d,h.dn.mono hv,λt ht=>⟨(h.fr t ht).1,(h.fr t ht).2.1.mono hv,(h.fr t ht).2.2⟩,h.dist,h.d8,h.ns,h.nk,h.nl,h.nn⟩
theorem Pn.row{v w:World}{P:Pv}(h:Pn v w P){t:TypeId}{g:Nat}{cs:Array Value}(hg:Bx w t g cs)(h1:t≠5)(h2:t≠51)(cs':Array Value):Pn v (w.setRow g cs') P:=
 h.but (qS _ _ _) λk hk=>by subst hk;exact⟨t,cs,hg,h1,h2⟩
theorem Pn.pi{v w:World}{P:Pv}(h:Pn v w P)(hl:P.items.length<=2199023255489):Pi w P:=by
 have hc:P.items.length<=P.cI:=by
  rcases h.it.cases with⟨_,h1,h2⟩|⟨g,cur,_,_,h1,_⟩
  . rw[h1,h2];simp
  . exact h1
 have hi:∀r∈P.items,Ii w r:=λr hr=>by
  have hs:=(kd hr).subset;obtain⟨k1,k2,k3⟩:=h.fr ⟨r.aK,r.cK,r.key⟩ (hs (by simp[Iv.rows]))
  obtain⟨v1,v2,v3⟩:=h.fr ⟨r.aV,r.cV,r.val⟩ (hs (by simp[Iv.rows]))
  exact⟨k1.bs k3 k1.len_le,k1.cap,v1.bs v3 v1.len_le,v1.cap,(h.ns r hr).1,(h.ns r hr).2⟩
 exact⟨h.it.qs hi hl,hc,h.d.bs h.d8 h.d.len_le,h.d.cap,h.nk,h.nl,h.nn⟩
end
section
open Go.RowKit
theorem uR(w:World)(x y:Iv)(hx:Ii w x)(hy:Ii w y)(he:x.it=y.it):Calls Tryz.prog 28 #[x.vl,y.vl] w λe w'=>e=.returned (.bool true)/\Below w.heap.size w w':=by
 obtain⟨aK,cK,key,aV,cV,val,child,size⟩:=x;obtain⟨bK,dK,key2,bV,dV,val2,child2,size2⟩:=y;simp only[Iv.it,It.mk.injEq] at he;obtain⟨rfl,rfl,rfl,rfl⟩:=he;have E1:=ig λ(w1:World)(hb:Below w.heap.size w w1)=>ky w1 aK bK key.length key.length cK dK key (hx.bk.keep hb) (hy.bk.keep hb) rfl rfl
 have E2:=ig λ(w1:World)(hb:Below w.heap.size w w1)=>ky w1 aV bV val.length val.length cV dV val (hx.bv.keep hb) (hy.bv.keep hb) rfl rfl
 obtain⟨q1,q2⟩:=bx2 w 51 51 (Iv.cs ⟨aK,cK,key,aV,cV,val,child,size⟩) (Iv.cs ⟨bK,dK,key,bV,dV,val,child,size⟩);have CC:=ig λ(w1:World)(hb:Below ((w.alloc (.cells (Iv.cs ⟨aK,cK,key,aV,cV,val,child,size⟩) 51)).alloc (.cells (Iv.cs ⟨bK,dK,key,bV,dV,val,child,size⟩) 51)).heap.size ((w.alloc (.cells (Iv.cs ⟨aK,cK,key,aV,cV,val,child,size⟩) 51)).alloc (.cells (Iv.cs ⟨bK,dK,key,bV,dV,val,child,size⟩) 51)) w1)=>And.intro (Bx.item (q1.keep hb)) (Bx.item (q2.keep hb))
 clear hx hy q1 q2;unfold Iv.vl;simp only[Iv.cs] at *;go_enter Tryz.func28,Tryz.ntmps28;go_wp2_with fail
 refine(E1.o _ (bt (al _ _) (al _ _))).mono ?_;rintro y w1 ⟨rfl,hb1⟩;obtain⟨⟨c0,c1,c2,c3⟩,d0,d1,d2,d3⟩:=CC.o _ hb1;have T1:=ig (bt (bt (al w _) (al _ _)) hb1);clear hb1;go_wp2_with fail
 refine(E2.o _ T1.o).mono ?_;rintro y w2 ⟨rfl,hb2⟩;have T2:=ig (bt T1.o hb2);clear hb2;go_wp2;go_ret;exact⟨by simp,T2.o⟩
theorem lW(w:World)(p q:Pv)(hp:Pi w p)(hq:Pi w q)(he:p.pg=q.pg):Calls Tryz.prog 69 #[p.vl,q.vl] w λe w'=>e=.returned (.bool true)/\Below w.heap.size w w':=by
 have hin:p.items.length<=2199023255489:=hp.it.2.1;have HP:=ig hp;have HQ:=ig hq;obtain⟨q1,q2⟩:=bx2 w 31 31 p.cs q.cs;have HW:=ig (bt (al w (.cells p.cs 31)) (al _ (.cells q.cs 31)));obtain⟨v,hv⟩:∃v,(w.alloc (.cells p.cs 31)).alloc (.cells q.cs 31)=v:=⟨_,rfl⟩;rw[hv] at q1 q2 HW;have CC:=ig λ(w1:World)(hb:Below v.heap.size v w1)=>And.intro (Bx.page (q1.keep hb)) (Bx.page (q2.keep hb))
 have HIT:Hid (p.items.map Iv.it=q.items.map Iv.it):=aY Pg.items he;have hlen:q.items.length=p.items.length:=by have:=aY List.length HIT.o;simpa using this.symm
 have HEI:=ig λ(k:Nat)(hk:k<p.items.length)(w1:World)(hb:Below v.heap.size v w1)=>uR w1 (p.items.getD k Iv.zero) (q.items.getD k Iv.zero) ((HP.o.it.keep (bt HW.o hb)).1 _ (iE hk)) ((HQ.o.it.keep (bt HW.o hb)).1 _ (iE (by omega))) (by
  have h1:=aY (λL=>L.getD k It.zero) HIT.o
  have e1:=Pv.at p k;have e2:=Pv.at q k;unfold Pg.at at e1 e2;rw[<-e1,<-e2];exact h1)
 have HRA:=ig λ(w1:World)(hb:Below v.heap.size v w1)=>HP.o.it.keep (bt HW.o hb)
 have HRB:=ig λ(w1:World)(hb:Below v.heap.size v w1)=>HQ.o.it.keep (bt HW.o hb)
 have hd:q.data=p.data:=(aY Pg.data he).symm;have ED:=ig λ(w1:World)(hb:Below v.heap.size v w1)=>ky w1 p.aD q.aD p.data.length q.data.length p.cD q.cD p.data (HP.o.bd.keep (bt HW.o hb)) (hd▸HQ.o.bd.keep (bt HW.o hb)) rfl (by rw[hd])
 have h1:q.kind=p.kind:=(aY Pg.kind he).symm;have h2:q.level=p.level:=(aY Pg.level he).symm;have h3:q.next=p.next:=(aY Pg.next he).symm;clear he hp hq q1 q2 HIT hd HP HQ;obtain⟨kind,level,aI,cI,items,aD,cD,data,next⟩:=p
 obtain⟨kind',level',bIa,dI,items',bD,dD,data',next'⟩:=q;unfold Pv.vl;simp only[Pv.cs] at *;subst h1 h2 h3;rw[hlen] at hv CC ⊢;obtain⟨⟨b0,b1,b2,b3,b4⟩,e0,e1,e2,e3,e4⟩:=CC.o _ (Below.refl _ _);go_enter Tryz.func69,Tryz.ntmps69;go_wp2_with fail
 refine(ED.o _ (Below.refl _ _)).mono ?_;rintro y w1 ⟨rfl,hb1⟩;have T1:=ig hb1;clear hb1 hv b0 b1 b2 b3 b4 e0 e1 e2 e3 e4;obtain⟨⟨c0,c1,c2,c3,c4⟩,d0,d1,d2,d3,d4⟩:=CC.o _ T1.o;go_wp2;go_loopw [5] (λi wx=>∃k:Nat,k<=items.length/\i=.int .i64 k/\Below v.heap.size v wx) (λi _=>items.length-(intOf i).toNat)
 case atStart=>exact⟨0,aF _,rfl,T1.o⟩
 case round=>
  clear T1 c0 c1 c2 c3 c4 d0 d1 d2 d3 d4;obtain⟨k,hk,rfl,hT⟩:=hrel;have T1:=ig hT;clear hT;obtain⟨⟨c0,c1,c2,c3,c4⟩,d0,d1,d2,d3,d4⟩:=CC.o _ T1.o;by_cases hlt:k<items.length
  . have hlti:(k:Int)<(items.length:Int):=by omega
    have hj1:=w64 (j:=k) (by omega)
    have EI:=ig (HEI.o k hlt);obtain⟨bI,oI,rfl⟩:∃bI oI,aI=some ⟨bI,oI,none⟩:=by obtain⟨b2,o2,e2,_⟩:=(HRA.o _ (Below.refl _ _)).at hlt;exact⟨b2,o2,e2⟩
    obtain⟨bJ,oJ,rfl⟩:∃bI oI,bIa=some ⟨bI,oI,none⟩:=by obtain⟨b2,o2,e2,_⟩:=(HRB.o _ (Below.refl _ _)).at (r:=k) (by omega);exact⟨b2,o2,e2⟩
    have HA:=ig λ(w1:World)(hb:Below v.heap.size v w1)=>sY (HRA.o w1 hb) hlt
    have HB:=ig λ(w1:World)(hb:Below v.heap.size v w1)=>sY (HRB.o w1 hb) (k:=k) (by omega)
    clear HEI HRA HRB;generalize items.getD k Iv.zero=x at *;generalize items'.getD k Iv.zero=y at *;generalize items.length=n at *;obtain⟨aK,cK,key,aV,cV,val,child,size⟩:=x;obtain⟨bK,dK,key2,bV,dV,val2,child2,size2⟩:=y;simp only[Iv.vl,Iv.cs] at EI HA HB;go_wp2;have T1:=ig (bt T1.o (dr2 _));have S1:=And.intro (And.intro (CC.o _ T1.o).1.2.2.1 (CC.o _ T1.o).2.2.2.1) (And.intro (HA.o _ T1.o) (HB.o _ T1.o));refine bu (S:=λw'=>(w'.cell? ⟨w.heap.size,2,none⟩=some (.slice (some ⟨bI,oI,none⟩) n cI)/\w'.cell? ⟨w.heap.size+1,2,none⟩=some (.slice (some ⟨bJ,oJ,none⟩) n dI))/\(w'.cell? ⟨bI,oI+k*4,none⟩=some (.slice aK key.length cK)/\w'.cell? ⟨bI,oI+k*4+1,none⟩=some (.slice aV val.length cV)/\w'.cell? ⟨bI,oI+k*4+2,none⟩=some (.int .i64 child)/\w'.cell? ⟨bI,oI+k*4+3,none⟩=some (.int .i64 size))/\(w'.cell? ⟨bJ,oJ+k*4,none⟩=some (.slice bK key2.length dK)/\w'.cell? ⟨bJ,oJ+k*4+1,none⟩=some (.slice bV val2.length dV)/\w'.cell? ⟨bJ,oJ+k*4+2,none⟩=some (.int .i64 child2)/\w'.cell? ⟨bJ,oJ+k*4+3,none⟩=some (.int .i64 size2))) (by kernel_rfl) (by exact S1) (λhHeld=>?_)
    refine tkd 0 1 2 3 ?_;refine tkd 4 5 6 7 ?_;refine tkb 8 9 ?_;refine tw 10 λK hK=>?_
    go_simp;refine(EI.o _ T1.o).mono ?_;rintro e w9 ⟨rfl,hb⟩;have T1:=ig (bt T1.o hb);have S1:=And.intro (And.intro (CC.o _ T1.o).1.2.2.1 (CC.o _ T1.o).2.2.2.1) (And.intro (HA.o _ T1.o) (HB.o _ T1.o));clear hb;go_wp2_with fail
    refine hK.o _ _ (by exact S1) (λhHeld=>?_)
    clear hK K;try simp only[pt]
    refine tk 11 ?_;refine td ?_;clear S1;go_wp2;go_roundw
    case rel=>exact⟨k+1,by omega,by first|(go_num;done)|exact aY (Value.int IntKind.i64) (by omega),T1.o⟩
    case measure=>first|exact iF _ _ _ hj1 hlt|exact iF _ _ _ rfl hlt|(simp[intOf];omega)
  . obtain rfl:k=items.length:=by omega
    go_wp2;go_ret;exact⟨rfl,bt HW.o T1.o⟩
end
section
open Go.RowKit
theorem Jw.butg{w1 w2:World}{a:Option Addr}{c:Nat}{L:List Iv}(_:Jw w1 a c L)(hg:w1.grownBy w2 (a.map Addr.block)):But (λk=>∃x,a=some x/\x.block=k) w1 w2:=
 (But.refl _ _).grown hg λk hk _=>by
   obtain⟨x,hx,e⟩:=map_some hk;exact⟨x,hx,e⟩
end
section
open Go.RowKit
end
section
open Go.RowKit
def rp(p:Pv):List Br:=⟨p.aD,p.cD,p.data⟩::iB p.items
theorem zh{w:World}{a:Option Addr}(h:New w none a){x:Addr}(hx:a=some x):w.heap.size<=x.block:=by
 rcases h x hx with⟨y,hy,_⟩|h
 . cases hy
 . exact h
end
section
open Go.RowKit
theorem ik(w:World)(o p:Obj){w1:World}(hb:Below ((w.alloc o).alloc p).heap.size ((w.alloc o).alloc p) w1):w1.heap[w.heap.size]?=some o/\w1.heap[w.heap.size+1]?=some p/\Below w.heap.size w w1/\w.heap.size+2<=w1.heap.size:=by
 have hs:((w.alloc o).alloc p).heap.size=w.heap.size+2:=by rw[size_alloc,size_alloc]
 refine⟨(hb.block _ (by rw[hs];omega)).trans ?_,(hb.block _ (by rw[hs];omega)).trans ?_,bt (bt (al _ _) (al _ _)) hb,by have:=hb.size;omega⟩
 . rw[gz _ _ (by rw[size_alloc];omega)];exact aH _ _
 . have:=aH (w.alloc o) p;rw[size_alloc] at this;exact this
theorem kE(w:World)(aa:Option Addr)(n capa:Nat)(p:List Nat)(hB:Bs w aa p)(hn:n=p.length)(hlen:p.length<=140737488355264):
 Calls Tryz.prog 64 #[.slice aa n capa] w λx w'=>∃a' cap',x=.returned (.slice a' p.length cap')/\Own w w' a' cap' p:=by
 subst hn;exact(sN w aa p.length capa p hB rfl (by omega)).mono λ_ _ ⟨a',c',h1,h2,h3,h4⟩=>⟨a',c',h1,h2,h3,h4⟩
theorem pQ(g:Nat)(w:World)(a b c d:Value):But (λk=>k=g) w ((((w.setCell ⟨g,0,none⟩ a).setCell ⟨g,1,none⟩ b).setCell ⟨g,2,none⟩ c).setCell ⟨g,3,none⟩ d):=
 ((((But.refl (λk=>k=g) w).setCell (p:=⟨g,0,none⟩) (λ_=>rfl) a).setCell (p:=⟨g,1,none⟩) (λ_=>rfl) b).setCell (p:=⟨g,2,none⟩) (λ_=>rfl) c).setCell (p:=⟨g,3,none⟩) (λ_=>rfl) d
theorem kF(g:Nat)(w:World)(a b c d e:Value):But (λk=>k=g) w (((((w.setCell ⟨g,0,none⟩ a).setCell ⟨g,1,none⟩ b).setCell ⟨g,2,none⟩ c).setCell ⟨g,3,none⟩ d).setCell ⟨g,4,none⟩ e):=
 (pQ g w a b c d).setCell (p:=⟨g,4,none⟩) (λ_=>rfl) e
theorem DG{w:World}{g:Nat}{t:TypeId}{o0 o1 o2 o3:Value}(h:Bx w t g #[o0,o1,o2,o3])(a b c d:Value):Bx ((((w.setCell ⟨g,0,none⟩ a).setCell ⟨g,1,none⟩ b).setCell ⟨g,2,none⟩ c).setCell ⟨g,3,none⟩ d) t g #[a,b,c,d]:=by
 have h4:=(((h.setc 0 a).setc 1 b).setc 2 c).setc 3 d;have e:(((#[o0,o1,o2,o3].setIfInBounds 0 a).setIfInBounds 1 b).setIfInBounds 2 c).setIfInBounds 3 d=#[a,b,c,d]:=by simp
 rw[e] at h4;exact h4
theorem o7{w:World}{g:Nat}{t:TypeId}{o0 o1 o2 o3 o4:Value}(h:Bx w t g #[o0,o1,o2,o3,o4])(a b c d f:Value):Bx (((((w.setCell ⟨g,0,none⟩ a).setCell ⟨g,1,none⟩ b).setCell ⟨g,2,none⟩ c).setCell ⟨g,3,none⟩ d).setCell ⟨g,4,none⟩ f) t g #[a,b,c,d,f]:=by
 have h4:=((((h.setc 0 a).setc 1 b).setc 2 c).setc 3 d).setc 4 f;have e:((((#[o0,o1,o2,o3,o4].setIfInBounds 0 a).setIfInBounds 1 b).setIfInBounds 2 c).setIfInBounds 3 d).setIfInBounds 4 f=#[a,b,c,d,f]:=by simp
 rw[e] at h4;exact h4
theorem fr4{w:World}{g:Nat}{t:TypeId}{cs:Array Value}(h:Bx w t g cs):w.frozen? ⟨g,0,none⟩=false/\w.frozen? ⟨g,1,none⟩=false/\w.frozen? ⟨g,2,none⟩=false/\w.frozen? ⟨g,3,none⟩=false/\w.frozen? ⟨g,4,none⟩=false:=
 ⟨bq _ _ _ _ _ h,bq _ _ _ _ _ h,bq _ _ _ _ _ h,bq _ _ _ _ _ h,bq _ _ _ _ _ h⟩
theorem ub(w:World)(r:Iv)(hR:Ii w r)(hl:r.key.length<=140737488355264)(hh:r.val.length<=140737488355264):
 Calls Tryz.prog 121 #[r.vl] w λe w'=>∃q:Iv,e=.returned q.vl/\Io w w' q/\q.it=r.it:=by
 have S1:=ig λw1 (hb:Below w.heap.size w w1)=>kE w1 r.aK r.key.length r.cK r.key (hR.bk.keep hb) rfl hl
 have S2:=ig λw1 (hb:Below w.heap.size w w1)=>kE w1 r.aV r.val.length r.cV r.val (hR.bv.keep hb) rfl hh
 have L8:=ig hR.bk.1;have H8:=ig hR.bv.1;clear hR;unfold Iv.vl;obtain⟨aK,cK,key,aV,cV,val,child,size⟩:=r;have IT:=ig λ(W:World)(h:W.heap[w.heap.size]?=some (.cells (Iv.cs ⟨aK,cK,key,aV,cV,val,child,size⟩) 51))=>Bx.item (p:=⟨aK,cK,key,aV,cV,val,child,size⟩) h
 have IS:=ig λ(W:World)(h:W.heap[w.heap.size]?=some (.cells (Iv.cs ⟨aK,cK,key,aV,cV,val,child,size⟩) 51))(a b c d:Value)=>Bx.item (p:=⟨aK,cK,key,aV,cV,val,child,size⟩) ((show Bx W 51 w.heap.size _ from h).but (pQ (w.heap.size+1) W a b c d) (by omega))
 have TZ:=ig λ(W:World)(h:W.heap[w.heap.size+1]?=some (.cells (Iv.cs Iv.zero) 51))=>And.intro (Bx.item (p:=Iv.zero) h) (fr4 (show Bx W 51 (w.heap.size+1) _ from h))
 have TM:=ig λ(W:World)(h:W.heap[w.heap.size+1]?=some (.cells (Iv.cs Iv.zero) 51))(a b c d:Value)=>DG (show Bx W 51 (w.heap.size+1) _ from h) a b c d
 dsimp only[Iv.cs,Iv.zero,bh] at *;go_enter Tryz.func121,Tryz.ntmps121;go_wp2;have T0:Hid (Below ((w.alloc (.cells #[.slice aK key.length cK,.slice aV val.length cV,.int .i64 child,.int .i64 size] 51)).alloc (.cells #[.slice none 0 0,.slice none 0 0,.int .i64 0,.int .i64 0] 51)).heap.size ((w.alloc (.cells #[.slice aK key.length cK,.slice aV val.length cV,.int .i64 child,.int .i64 size] 51)).alloc (.cells #[.slice none 0 0,.slice none 0 0,.int .i64 0,.int .i64 0] 51)) ((w.alloc (.cells #[.slice aK key.length cK,.slice aV val.length cV,.int .i64 child,.int .i64 size] 51)).alloc (.cells #[.slice none 0 0,.slice none 0 0,.int .i64 0,.int .i64 0] 51)).drew):=(Below.refl _ _).drew;have C0:=IT.o _ (ik w _ _ T0.o).1;have hn:w.heap.size+1≠w.heap.size:=by omega
 go_region_held3 (λw'=>w'.cell? ⟨w.heap.size,0,none⟩=some (.slice aK key.length cK)/\w'.cell? ⟨w.heap.size,1,none⟩=some (.slice aV val.length cV)/\w'.cell? ⟨w.heap.size,2,none⟩=some (.int .i64 child)/\w'.cell? ⟨w.heap.size,3,none⟩=some (.int .i64 size))
  (first|with_reducible exact C0|with_reducible exact IS.o _ (ik w _ _ T0.o).1 _ _ _ _)
  (first|(go_at_call 64;with_reducible refine(S1.o _ (ik w _ _ T0.o).2.2.1).mono ?_;rintro e w1 ⟨g1,d1,rfl,o1⟩;have hb1:=o1.b;have Z1:=ig (λx (hx:g1=some x)=>aO (ik w _ _ T0.o).2.2.2 (o1.fresh hx));have L1:=ig (λx (hx:g1=some x)=>o1.r.lt hx);have T0:=ig (bt T0.o hb1);have C0:=IT.o _ (ik w _ _ T0.o).1;have R1:=ig o1.r;clear hb1 o1)|(go_at_call 64;with_reducible refine(S2.o _ (ik w _ _ T0.o).2.2.1).mono ?_;rintro e w2 ⟨g2,d2,rfl,o2⟩;have hb2:=o2.b;have Z2:=ig (λx y (hx:g1=some x)(hy:g2=some y)=>aZ (L1.o x hx) (o2.fresh hy));have Z3:=ig (λy (hy:g2=some y)=>aO (ik w _ _ T0.o).2.2.2 (o2.fresh hy));have T0:=ig (bt T0.o hb2);have C0:=IT.o _ (ik w _ _ T0.o).1;obtain⟨⟨y0,y1,y2,y3⟩,f0,f1,f2,f3,f4⟩:=TZ.o _ (ik w _ _ T0.o).2.1;have R1:=ig (R1.o.keep hb2);have R2:=ig o2.r;clear hb2 o2))
 clear C0;have M1:=ig (TM.o _ (ik w _ _ T0.o).2.1 (.slice g1 key.length d1) (.slice g2 val.length d2) (.int .i64 child) (.int .i64 size));have BB:=ig (pQ (w.heap.size+1) w2 (.slice g1 key.length d1) (.slice g2 val.length d2) (.int .i64 child) (.int .i64 size));have TB:=ig (ik w _ _ T0.o).2.2.1;clear y0 y1 y2 y3 f0 f1 f2 f3 f4 T0;go_wp2;refine bU (v:=.agg _) (fh Tryz.results121 _ _ (w.heap.size+1) 51 _ (0,0) _ rfl M1.o Tryz.underlying51 rfl Bk) rfl ?_;have bel:Below w.heap.size w _:=((But.ofBelow (S:=λk=>k=w.heap.size+1) TB.o).trans BB.o λ_ _ e=>e).below λk hk e=>by omega
 have w1:=R1.o.but BB.o λx hx e=>by have:=Z1.o x hx;omega
 have w2':=R2.o.but BB.o λx hx e=>by have:=Z3.o x hx;omega
 exact⟨⟨g1,d1,key,g2,d2,val,child,size⟩,rfl,⟨⟨w1,λx hx=>.inr (by have:=Z1.o x hx;omega),bel⟩,⟨w2',λx hx=>.inr (by have:=Z3.o x hx;omega),bel⟩,λx y hx hy e=>by have:=Z2.o x y hx hy;omega,L8.o,H8.o⟩,rfl⟩
end
section
open Go.RowKit
theorem Fam.grown{w W1 W2:World}{T:List Br}{a:Option Addr}{c:Nat}{L:List Iv}(f:Fam w W1 T)(hJ:Jw W1 a c L)(hg:W1.grownBy W2 (a.map Addr.block))(hw:Below w.heap.size w W2):Fam w W2 T:=
 f.but (hJ.butg hg) hw λt ht _ hx ⟨_,hy,e⟩=>hJ.ne (f.own t ht).1.r hy hx e
structure Ck(w W:World)(a:Option Addr)(c:Nat)(M:List Iv)(L:List Iv):Prop where
 j:JOwn w W a c M
 f:Fam w W (iB M)
 e:M.map Iv.it=L.map Iv.it
 n:∀r∈M,N64 r.child/\N64 r.size
theorem Ck.len{w W:World}{a:Option Addr}{c:Nat}{M L:List Iv}(h:Ck w W a c M L):M.length=L.length:=by have:=aY List.length h.e;simpa using this
theorem Ck.keep{w W W':World}{a:Option Addr}{c:Nat}{M L:List Iv}(h:Ck w W a c M L)(hb:Below W.heap.size W W'):Ck w W' a c M L:=⟨h.j.keep hb,h.f.keep hb,h.e,h.n⟩
theorem Ck.nil(w:World){W:World}(hb:Below w.heap.size w W):Ck w W none 0 [] []:=⟨JOwn.nil w hb,Fam.nil _ _,rfl,(λ_ h=>by cases h)⟩
theorem Ay(w:World)(x:Iv)(g:Nat)(hg:g=w.heap.size):∀j u,x.cs.toList[j]?=some u->(w.alloc (.cells x.cs 51)).cell? ((⟨g,0,none⟩:Addr).add j)=some u:=by
 subst hg;intro j u h;rw[Addr.add_mid,bH,au _ _ _ _ _ _ (aH _ _)];simpa using h
theorem Ck.push{w W W0 W1 W2:World}{a:Option Addr}{c g c2:Nat}{M L:List Iv}{q x:Iv}(h:Ck w W a c M L)(hq:Io W W0 q)(he:q.it=x.it)(hn:N64 q.child/\N64 q.size)(hb:Below W0.heap.size W0 W1)(hJ:Jw W2 (some ⟨g,0,none⟩) c2 (M++[q]))(hN:New W1 a (some ⟨g,0,none⟩))(hg:W1.grownBy W2 (a.map Addr.block)):
 Ck w W2 (some ⟨g,0,none⟩) c2 (M++[q]) (L++[x]):=by
 have b1:Below W.heap.size W W1:=bt hq.k.b hb;have j2:=h.j.step b1 hJ hN hg;have f1:Fam w W1 (iB M++q.rows):=h.f.add (hq.fam.keep hb) b1 h.j.b;refine⟨j2,?_,by rw[bL,bL,h.e];simp[he],λr hr=>?_⟩
 . rw[iW,kT];exact f1.grown (h.j.r.keep b1) hg j2.b
 . rcases bm.1 hr with hr|hr
   . exact h.n r hr
   . rw[aQ.1 hr];exact hn
theorem it_n{q x:Iv}(h:q.it=x.it)(hx:N64 x.child/\N64 x.size):N64 q.child/\N64 q.size:=by
 have h1:q.child=x.child:=aY It.child h;have h2:q.size=x.size:=aY It.size h;rw[h1,h2];exact hx
theorem nH(w:World)(a:Option Addr)(n c:Nat)(L:List Iv)(hJ:Js w a L)(hn:n=L.length)(hL:L.length<=1048576)(hs:∀r∈L,r.key.length<=140737488355264/\r.val.length<=140737488355264):
 Calls Tryz.prog 63 #[.slice a n c] w λe w'=>∃a' c' M,e=.returned (.slice a' L.length c')/\Ck w w' a' c' M L:=by
 subst hn;have HR:=ig λ(w1:World)(hb:Below w.heap.size w w1)(k:Nat)(hk:k<L.length)=>(hJ.keep hb).at hk
 have CI:=ig λ(w1:World)(hb:Below w.heap.size w w1)(k:Nat)(hk:k<L.length)=>ub w1 (L.getD k Iv.zero) ((hJ.1 _ (iE hk)).keep hb) (hs _ (iE hk)).1 (hs _ (iE hk)).2
 have HN:=ig λ(k:Nat)(hk:k<L.length)=>And.intro (hJ.1 _ (iE hk)).nc (hJ.1 _ (iE hk)).ns
 have HT:=ig λ(k:Nat)(hk:k<L.length)=>(show L.take (k+1)=L.take k++[L.getD k Iv.zero] from by rw[dQ hk];simp[hk])
 clear hJ hs;go_enter Tryz.func63,Tryz.ntmps63;go_wp2;go_loopw [3,4] (λo i wx=>∃(k:Nat)(ak:Option Addr)(ck:Nat)(M:List Iv),k<=L.length/\i=.int .i64 k/\o=.slice ak k ck/\Ck w wx ak ck M (L.take k)) (λ_ i _=>L.length-(intOf i).toNat)
 case atStart=>exact⟨0,none,0,[],aF _,rfl,rfl,Ck.nil w (Below.refl _ _)⟩
 case round=>
  obtain⟨k,ak,ck,M,hk,rfl,rfl,hO⟩:=hrel;have O0:=ig hO;have HM:Hid (k=M.length):=by show _=_;rw[hO.len,bi];omega
  clear hO;by_cases hlt:k<L.length
  . have hlti:(k:Int)<(L.length:Int):=by omega
    have hk1:k+1<=L.length:=by omega
    obtain⟨bI,off,rfl,hr⟩:=HR.o _ O0.o.j.b k hlt;obtain⟨k0,k1,k2,k3⟩:=jc hr;have C1:=ig (CI.o _ O0.o.j.b k hlt);have N1:=ig (HN.o k hlt);have T1:=ig (HT.o k hlt);have hml:M.length+1<=2199023255489:=by have:=HM.o;omega
    clear hr HR CI HN HT;generalize L.getD k Iv.zero=x at *;have INQ:=ig λ(q:Iv)(h:q.it=x.it)=>it_n h N1.o
    obtain⟨aK,cK,key,aV,cV,val,child,size⟩:=x;simp only[Iv.vl,Iv.cs] at C1 k0 k1 k2 k3;go_wp2_with fail
    refine C1.o.mono ?_;rintro e w2 ⟨q,rfl,hq,he⟩;have Q1:=ig hq;have Q2:=ig he;have Q3:=ig (INQ.o q he);have J2:=ig ((O0.o.j.keep hq.k.b).r.keep (al w2 (.cells q.cs 51)));have BX:=ig (Ay w2 q w2.heap.size rfl);clear hq he C1 k0 k1 k2 k3;obtain⟨qK,dK,kq,qV,dV,vq,cq,sq⟩:=q;simp only[Iv.cs] at J2 BX ⊢;go_wp2_with (at_builtin;refine xS rfl _ _ rfl ak k ck M rfl HM.o J2.o ⟨_,0,none⟩ 1 ⟨qK,dK,kq,qV,dV,vq,cq,sq⟩ rfl BX.o hml ?_)
    intro g2 c2 w5 hJ hN hg;have O5:=ig (O0.o.push Q1.o Q2.o Q3.o (al _ _) hJ hN hg);rw[<-T1.o] at O5;clear hJ hN hg;go_wp2;go_roundw
    case rel=>exact⟨k+1,_,c2,_,hk1,by first|(go_num;done)|exact aY (Value.int IntKind.i64) (by omega),rfl,O5.o⟩
    case measure=>first|exact iF _ _ _ rfl hlt|(simp[intOf];omega)
  . obtain rfl:k=L.length:=by omega
    rw[cU] at O0;go_wp2;go_ret;exact⟨ak,ck,M,rfl,O0.o⟩
theorem CopyPage_any(w:World)(r:Pv)(hR:Pi w r)(hd:r.data.length<=140737488355264)(hi:r.items.length<=1048576)(hs:∀x∈r.items,x.key.length<=140737488355264/\x.val.length<=140737488355264):
 Calls Tryz.prog 14 #[r.vl] w λe w'=>∃q:Pv,e=.returned q.vl/\Pi w' q/\q.pg=r.pg/\Below w.heap.size w w':=by
 have S1:=ig λw1 (hb:Below w.heap.size w w1)=>nH w1 r.aI r.items.length r.cI r.items (hR.it.keep hb) rfl hi hs
 have S2:=ig λw1 (hb:Below w.heap.size w w1)=>kE w1 r.aD r.data.length r.cD r.data (hR.bd.keep hb) rfl hd
 have L8:=ig hR.bd.1;have NK:=ig (And.intro hR.nk (And.intro hR.nl hR.nn));clear hR;unfold Pv.vl;obtain⟨kind,level,aI,cI,items,aD,cD,data,next⟩:=r
 have IT:=ig λ(W:World)(h:W.heap[w.heap.size]?=some (.cells (Pv.cs ⟨kind,level,aI,cI,items,aD,cD,data,next⟩) 31))=>Bx.page (p:=⟨kind,level,aI,cI,items,aD,cD,data,next⟩) h
 have IS:=ig λ(W:World)(h:W.heap[w.heap.size]?=some (.cells (Pv.cs ⟨kind,level,aI,cI,items,aD,cD,data,next⟩) 31))(a b c d f:Value)=>Bx.page (p:=⟨kind,level,aI,cI,items,aD,cD,data,next⟩) ((show Bx W 31 w.heap.size _ from h).but (kF (w.heap.size+1) W a b c d f) (by omega))
 have TZ:=ig λ(W:World)(h:W.heap[w.heap.size+1]?=some (.cells (Pv.cs Pv.zero) 31))=>And.intro (Bx.page (p:=Pv.zero) h) (fr4 (show Bx W 31 (w.heap.size+1) _ from h))
 have TM:=ig λ(W:World)(h:W.heap[w.heap.size+1]?=some (.cells (Pv.cs Pv.zero) 31))(a b c d f:Value)=>o7 (show Bx W 31 (w.heap.size+1) _ from h) a b c d f
 dsimp only[Pv.cs,Pv.zero,bh] at *;go_enter Tryz.func14,Tryz.ntmps14;go_wp2;have T0:Hid (Below ((w.alloc (.cells #[.int .i64 kind,.int .i64 level,.slice aI items.length cI,.slice aD data.length cD,.int .i64 next] 31)).alloc (.cells #[.int .i64 0,.int .i64 0,.slice none 0 0,.slice none 0 0,.int .i64 0] 31)).heap.size ((w.alloc (.cells #[.int .i64 kind,.int .i64 level,.slice aI items.length cI,.slice aD data.length cD,.int .i64 next] 31)).alloc (.cells #[.int .i64 0,.int .i64 0,.slice none 0 0,.slice none 0 0,.int .i64 0] 31)) ((w.alloc (.cells #[.int .i64 kind,.int .i64 level,.slice aI items.length cI,.slice aD data.length cD,.int .i64 next] 31)).alloc (.cells #[.int .i64 0,.int .i64 0,.slice none 0 0,.slice none 0 0,.int .i64 0] 31)).drew):=(Below.refl _ _).drew
 have C0:=IT.o _ (ik w _ _ T0.o).1;have hn:w.heap.size+1≠w.heap.size:=by omega
 go_region_held3 (λw'=>w'.cell? ⟨w.heap.size,0,none⟩=some (.int .i64 kind)/\w'.cell? ⟨w.heap.size,1,none⟩=some (.int .i64 level)/\w'.cell? ⟨w.heap.size,2,none⟩=some (.slice aI items.length cI)/\w'.cell? ⟨w.heap.size,3,none⟩=some (.slice aD data.length cD)/\w'.cell? ⟨w.heap.size,4,none⟩=some (.int .i64 next))
  (first|with_reducible exact C0|with_reducible exact IS.o _ (ik w _ _ T0.o).1 _ _ _ _ _)
  (first|(go_at_call 63;with_reducible refine(S1.o _ (ik w _ _ T0.o).2.2.1).mono ?_;rintro e w1 ⟨g1,d1,M,rfl,o1⟩;have hb1:=o1.j.b;have T0:=ig (bt T0.o hb1);have C0:=IT.o _ (ik w _ _ T0.o).1;have R1:=ig o1;clear hb1 o1)|(go_at_call 64;with_reducible refine(S2.o _ (ik w _ _ T0.o).2.2.1).mono ?_;rintro e w2 ⟨g2,d2,rfl,o2⟩;have hb2:=o2.b;have T0:=ig (bt T0.o hb2);have C0:=IT.o _ (ik w _ _ T0.o).1;obtain⟨⟨y0,y1,y2,y3,y4⟩,f0,f1,f2,f3,f4⟩:=TZ.o _ (ik w _ _ T0.o).2.1;have R1:=ig (R1.o.keep hb2);have R2:=ig o2.r;clear hb2 o2))
 clear C0;have M1:=ig (TM.o _ (ik w _ _ T0.o).2.1 (.int .i64 kind) (.int .i64 level) (.slice g1 items.length d1) (.slice g2 data.length d2) (.int .i64 next))
 have BB:=ig (kF (w.heap.size+1) w2 (.int .i64 kind) (.int .i64 level) (.slice g1 items.length d1) (.slice g2 data.length d2) (.int .i64 next))
 have TB:=ig (ik w _ _ T0.o).2.2.1;have X1:Hid (Bx w2 31 (w.heap.size+1) _):=(ik w _ _ T0.o).2.1;clear y0 y1 y2 y3 y4 f0 f1 f2 f3 f4 T0;go_wp2;refine bU (v:=.agg _) (fh Tryz.results14 _ _ (w.heap.size+1) 31 _ (0,0) _ rfl M1.o Tryz.underlying31 rfl iq) rfl ?_;have bel:Below w.heap.size w _:=((But.ofBelow (S:=λk=>k=w.heap.size+1) TB.o).trans BB.o λ_ _ e=>e).below λk hk e=>by omega
 have r2:=R2.o.but BB.o λx hx e=>R2.o.nty X1.o (by decide) hx e
 have j2:=R1.o.j.r.but BB.o λx hx e=>R1.o.j.r.nty X1.o (by decide) hx e
 have hml:=R1.o.len
 have ii:∀r∈M,Ii _ r:=λr hr=>by
  have k:=Fam.io (R1.o.f.sub (kd hr));have kk:=k.k.r.but BB.o λx hx e=>k.k.r.nty X1.o (by decide) hx e
  have kv:=k.v.r.but BB.o λx hx e=>k.v.r.nty X1.o (by decide) hx e
  exact⟨kk.bs k.k8 kk.len_le,kk.cap,kv.bs k.v8 kv.len_le,kv.cap,(R1.o.n r hr).1,(R1.o.n r hr).2⟩
 have hc1:M.length<=d1:=by
  rcases j2.cases with⟨_,h1,h2⟩|⟨g,cur,_,_,h1,_⟩
  . rw[h1,h2];simp
  . exact h1
 refine⟨⟨kind,level,g1,d1,M,g2,d2,data,next⟩,by rw[<-hml],⟨j2.qs ii (by omega),hc1,r2.bs L8.o r2.len_le,r2.cap,NK.o.1,NK.o.2.1,NK.o.2.2⟩,?_,bel⟩
 unfold Pv.pg;dsimp only;rw[R1.o.e]
end
section
open Go.RowKit
variable {v0 W W2:World} {p:Pv} {g3 gD g j:Nat} {D:List Iv}
structure Sl(W:World)(a:Option Addr)(c:Nat)(l:List Nat):Prop where
 at':∃g,a=some ⟨g,0,none⟩/\W.rowIs g 5 (l.length+64) (spF l)
 c:c=l.length+64
 n:l.length<=140737488355264
 l8:B8 l
theorem Sl.but{S:Nat->Prop}{W W':World}{a:Option Addr}{c:Nat}{l:List Nat}(h:Sl W a c l)(hb:But S W W')(hn:∀x,a=some x->¬S x.block):Sl W' a c l:=by
 obtain⟨⟨g,e,hr⟩,h2,h3,h4⟩:=h;exact⟨⟨g,e,yd hr hb (hn _ e)⟩,h2,h3,h4⟩
theorem Sl.keep{W W':World}{a:Option Addr}{c:Nat}{l:List Nat}(h:Sl W a c l)(hb:Below W.heap.size W W'):Sl W' a c l:=h.but (S:=λ_=>False) (But.ofBelow hb) λ_ _ h=>h
theorem Sl.rw'{W:World}{a:Option Addr}{c:Nat}{l:List Nat}(h:Sl W a c l):Rw W a c l:=by
 obtain⟨⟨g,rfl,cs,hg,hs,hc⟩,rfl,h3,h4⟩:=h;refine Rw.mk hg (by omega) (by unfold maxLen;omega) hs ?_
 apply dS;intro i;rw[cw];by_cases hi:i<l.length
 . rw[if_pos hi,tR l i hi];have:=hc i (by omega)
   rw[eV,this];unfold spF;rw[if_pos hi]
 . rw[if_neg hi];symm;rw[List.getElem?_eq_none_iff,ki];omega
theorem pS(w:World)(aa:Option Addr)(n capa:Nat)(l:List Nat)(hB:Bs w aa l)(hn:n=l.length)(hlen:l.length<=140737488355264):
 Calls Tryz.prog 62 #[.slice aa n capa] w λx w'=>∃g,x=.returned (.slice (some ⟨g,0,none⟩) l.length (l.length+64))/\Sl w' (some ⟨g,0,none⟩) (l.length+64) l/\w.heap.size<=g/\g<w'.heap.size/\Below w.heap.size w w':=
 (y9 w aa n capa l hB hn (by omega)).mono λ_ _ ⟨h1,h2,h3⟩=>⟨w.heap.size,h1,⟨⟨_,rfl,h2⟩,rfl,hlen,hB.1⟩,ai _,h2.lt,h3⟩
theorem Dh(w:World)(a ab:Option Addr)(c cb:Nat)(l:List Nat)(h:Sl w a c l)(hB:Bs w ab l):Calls Tryz.prog 70 #[.slice a l.length c,.slice ab l.length cb] w λe w'=>e=.returned (.bool true)/\Below w.heap.size w w':=by
 obtain⟨⟨g,rfl,hr⟩,rfl,hn,_⟩:=h;exact Ac w g (l.length+64) ab l.length l.length cb l hr hB rfl rfl rfl (by omega)
structure Sf(w W:World)(T:List Br):Prop where
 s:∀t∈T,Sl W t.a t.c t.l
 f:Fam w W T
theorem Sf.keep{w W W':World}{T:List Br}(h:Sf w W T)(hb:Below W.heap.size W W'):Sf w W' T:=⟨λt ht=>(h.s t ht).keep hb,h.f.keep hb⟩
theorem Sf.but{S:Nat->Prop}{w W W':World}{T:List Br}(h:Sf w W T)(hb:But S W W')(hw:Below w.heap.size w W')(hn:∀t∈T,∀x,t.a=some x->¬S x.block):Sf w W' T:=⟨λt ht=>(h.s t ht).but hb (hn t ht),h.f.but hb hw hn⟩
theorem Sf.one{w W:World}{g c:Nat}{l:List Nat}(h:Sl W (some ⟨g,0,none⟩) c l)(hg:w.heap.size<=g)(hb:Below w.heap.size w W):Sf w W [⟨some ⟨g,0,none⟩,c,l⟩]:=
 ⟨λt ht=>by rw[aQ.1 ht];exact h,⟨λt ht=>by rw[aQ.1 ht];exact⟨⟨h.rw',λx hx=>.inr (by cases hx;exact hg),hb⟩,h.l8⟩,dF _ _⟩⟩
theorem Sf.add{w W W':World}{T U:List Br}(h:Sf w W T)(k:Sf W W' U)(hb:Below W.heap.size W W')(hw:Below w.heap.size w W):Sf w W' (T++U):=
 ⟨λt ht=>by
   rcases bm.1 ht with ht|ht
   . exact(h.s t ht).keep hb
   . exact k.s t ht,h.f.add k.f hb hw⟩
theorem Sf.pre{w w0 W:World}{T:List Br}(hb:Below w.heap.size w w0)(h:Sf w0 W T):Sf w W T:=⟨h.s,Fam.pre hb h.f⟩
def mark(i:Nat):Iv:=⟨none,0,[],none,0,[],-5-(i:Int),-9⟩
structure Sw(v0 W:World)(p:Pv)(g3 gD g:Nat)(j:Nat)(D:List Iv):Prop where
 b:Below v0.heap.size v0 W
 rs:Bx W 31 v0.heap.size Pv.zero.cs
 o3:Bx W 31 g3 (Pv.mk p.kind p.level none 0 [] (some ⟨gD,0,none⟩) (p.data.length+64) p.data p.next).cs
 n3:v0.heap.size<g3
 jw:Jw W (some ⟨g,0,none⟩) (p.items.length+2) (D++List.replicate (p.items.length+2-j) Iv.zero)
 gn:v0.heap.size<g
 len:D.length=j
 it:∀i,i<j->i<p.items.length->(D.getD i Iv.zero).it=(p.items.getD i Iv.zero).it
 mr:∀i,i<j->p.items.length<=i->D.getD i Iv.zero=mark i
 f:Sf v0 W (⟨some ⟨gD,0,none⟩,p.data.length+64,p.data⟩::iB (D.take p.items.length))
theorem sd{D:List Iv}{j i:Nat}{v:Iv}(hl:D.length=j)(hi:i<j+1):(D++[v]).getD i Iv.zero=if i<j then D.getD i Iv.zero else v:=by
 subst hl;by_cases h:i<D.length
 . rw[if_pos h];simp[br h]
 . obtain rfl:i=D.length:=by omega
   rw[if_neg (by omega)];simp
theorem Cc(W:World)(g o:Nat)(x:Iv):W.setCells g o x.cs.toList=(((W.setCell ⟨g,o,none⟩ (.slice x.aK x.key.length x.cK)).setCell ⟨g,o+1,none⟩ (.slice x.aV x.val.length x.cV)).setCell ⟨g,o+2,none⟩ (.int .i64 x.child)).setCell ⟨g,o+3,none⟩ (.int .i64 x.size):=rfl
theorem Sw.keep(h:Sw v0 W p g3 gD g j D)(hb:Below W.heap.size W W2):Sw v0 W2 p g3 gD g j D:=⟨bt h.b hb,h.rs.keep hb,h.o3.keep hb,h.n3,h.jw.keep hb,h.gn,h.len,h.it,h.mr,h.f.keep hb⟩
theorem Sw.lay(h:Sw v0 W p g3 gD g j D)(hj:j<p.items.length+2)(x:Iv)(hit:j<p.items.length->x.it=(p.items.getD j Iv.zero).it)(hmk:p.items.length<=j->x=mark j)(hb:Below W.heap.size W W2)
 (hf:Sf v0 W2 (⟨some ⟨gD,0,none⟩,p.data.length+64,p.data⟩::iB ((D++[x]).take p.items.length))):Sw v0 (W2.setCells g (j*4) x.cs.toList) p g3 gD g (j+1) (D++[x]):=by
 have k:=h.keep hb;have hB:=i8 g x.cs.toList W2 (j*4);have hw:Below v0.heap.size v0 (W2.setCells g (j*4) x.cs.toList):=((But.ofBelow (S:=λ_=>False) k.b).trans hB λy hy e=>by have:=h.gn;omega).below λ_ _ h=>h
 have j2:=k.jw.setv j x;rw[Bi h.len (by omega)] at j2
 refine⟨hw,k.rs.but hB (by have:=h.gn;omega),k.o3.but hB λe=>k.jw.nty k.o3 (by decide) rfl e.symm,h.n3,j2,h.gn,by rw[ae,h.len];rfl,λi hi hin=>?_,λi hi hin=>?_,hf.but hB hw λt ht y hy e=>k.jw.ne (hf.f.own t ht).1.r rfl hy e.symm⟩
 . rw[sd h.len hi];split
   . exact h.it i (by omega) hin
   . obtain rfl:i=j:=by omega
     exact hit hin
 . rw[sd h.len hi];split
   . exact h.mr i (by omega) hin
   . obtain rfl:i=j:=by omega
     exact hmk hin
theorem Sw.spare{gK gV:Nat}{cK cV:Nat}{W1:World}{key val:List Nat}{child size:Int}(h:Sw v0 W p g3 gD g j D)(hj:j<p.items.length)(hx:(p.items.getD j Iv.zero).it=⟨key,val,child,size⟩)(s1:Sl W1 (some ⟨gK,0,none⟩) cK key)(n1:W.heap.size<=gK)(b1:Below W.heap.size W W1)(s2:Sl W2 (some ⟨gV,0,none⟩) cV val)(n2:W1.heap.size<=gV)(b2:Below W1.heap.size W1 W2):
 Sw v0 (W2.setCells g (j*4) (Iv.cs ⟨some ⟨gK,0,none⟩,cK,key,some ⟨gV,0,none⟩,cV,val,child,size⟩).toList) p g3 gD g (j+1) (D++[⟨some ⟨gK,0,none⟩,cK,key,some ⟨gV,0,none⟩,cV,val,child,size⟩]):=by
 refine h.lay (by omega) _ (λ_=>hx.symm) (λh1=>by omega) (bt b1 b2) ?_
 have e0:D.take p.items.length=D:=df (by have:=h.len;omega)
 have e1:∀x:Iv,(D++[x]).take p.items.length=D++[x]:=λx=>df (by rw[ae,h.len];simp;omega)
 have f0:=h.f;rw[e0] at f0;rw[e1,iW,kT];have f1:=(f0.add (Sf.one s1 n1 b1) b1 h.b).add (Sf.one s2 n2 b2) b2 (bt h.b b1);rw[aR,dl] at f1;exact f1
theorem Sw.tail(h:Sw v0 W p g3 gD g j D)(hj:p.items.length<=j)(hn:j<p.items.length+2):Sw v0 (W.setCells g (j*4) (Iv.cs (mark j)).toList) p g3 gD g (j+1) (D++[mark j]):=by
 refine h.lay hn _ (λh1=>by omega) (λ_=>rfl) (Below.refl _ _) ?_
 rw[dJ (by have:=h.len;omega)]
 exact h.f
structure Sp(w W:World)(p q:Pv):Prop where
 e:q.pg=p.pg
 s:Sf w W (rp q)
 it:∃(g:Nat)(D:List Iv),q.aI=some ⟨g,0,none⟩/\q.cI=p.items.length+2/\Jw W (some ⟨g,0,none⟩) (p.items.length+2) (q.items++D)/\D=[mark p.items.length,mark (p.items.length+1)]/\w.heap.size<=g
 b:Below w.heap.size w W
theorem Sp.len{w W:World}{p q:Pv}(h:Sp w W p q):q.items.length=p.items.length:=by have:=aY (λx=>x.items.length) h.e;simpa[Pv.pg] using this
theorem Sp.keep{w W W':World}{p q:Pv}(h:Sp w W p q)(hb:Below W.heap.size W W'):Sp w W' p q:=by
 obtain⟨g,D,e1,e2,e3,e4,e5⟩:=h.it;exact⟨h.e,h.s.keep hb,⟨g,D,e1,e2,e3.keep hb,e4,e5⟩,bt h.b hb⟩
theorem pg_n{p q:Pv}(h:q.pg=p.pg){W:World}(hp:Pi W p):N64 q.kind/\N64 q.level/\N64 q.next/\∀r∈q.items,N64 r.child/\N64 r.size:=by
 have h1:q.kind=p.kind:=aY Pg.kind h;have h2:q.level=p.level:=aY Pg.level h;have h3:q.next=p.next:=aY Pg.next h;have h4:q.items.map Iv.it=p.items.map Iv.it:=aY Pg.items h;refine⟨h1▸hp.nk,h2▸hp.nl,h3▸hp.nn,λr hr=>?_⟩
 have hm:r.it∈p.items.map Iv.it:=h4▸bG.2 ⟨r,hr,rfl⟩;obtain⟨x,hx,e⟩:=bG.1 hm;exact it_n e.symm ⟨(hp.it.1 x hx).nc,(hp.it.1 x hx).ns⟩
theorem Sp.jw{w W:World}{p q:Pv}(h:Sp w W p q):Jw W q.aI q.cI q.items:=by
 obtain⟨g,D,e1,e2,e3,e4,e5⟩:=h.it;rw[e1,e2];rcases e3.front with k|k
 . exact k
 . cases k
theorem Sp.pi{w W W':World}{p q:Pv}(h:Sp w W p q)(hp:Pi W' p)(hl:p.items.length<=1048576):Pi W q:=by
 obtain⟨n1,n2,n3,n4⟩:=pg_n h.e hp;have hlen:=h.len;have f2:Fam w W (iB q.items):=h.s.f.sub (List.sublist_cons_self _ _);have d:=h.s.f.own ⟨q.aD,q.cD,q.data⟩ (by simp[rp])
 obtain⟨g,D,e1,e2,e3,e4,e5⟩:=h.it;exact⟨h.jw.qs (f2.ii n4) (by omega),by rw[e2];omega,d.1.bs d.2,d.1.r.cap,n1,n2,n3⟩
theorem Sw.done{v0 w W W2:World}{p:Pv}{g3 gD g:Nat}{D:List Iv}(h:Sw v0 W p g3 gD g (p.items.length+2) D)(hb:Below w.heap.size w v0)(hB:But (λk=>k=v0.heap.size\/k=g3) W W2)(hg:v0.heap.size<=g3):Sp w W2 p ⟨p.kind,p.level,some ⟨g,0,none⟩,p.items.length+2,D.take p.items.length,some ⟨gD,0,none⟩,p.data.length+64,p.data,p.next⟩:=by
 have hw:Below w.heap.size w W2:=((But.ofBelow (S:=λ_=>False) (bt hb h.b)).trans hB λy hy e=>by have:=hb.size;omega).below λ_ _ h=>h
 have hl:=h.len
 have ne:∀t∈(⟨some ⟨gD,0,none⟩,p.data.length+64,p.data⟩::iB (D.take p.items.length):List Br),∀x,t.a=some x->¬(x.block=v0.heap.size\/x.block=g3):=λt ht x hx e=>by
  have o:=(h.f.f.own t ht).1;rcases e with e|e
  . exact o.r.nty h.rs (by decide) hx e
  . exact o.r.nty h.o3 (by decide) hx e
 have hjl:=h.jw;rw[dv,List.replicate_zero,cF] at hjl
 have hd:D=D.take p.items.length++[mark p.items.length,mark (p.items.length+1)]:=by
  have m0:=h.mr p.items.length (by omega) (ai _)
  have m1:=h.mr (p.items.length+1) (by omega) (by omega)
  conv=>lhs;rw[<-cR p.items.length D]
  congr 1
  rw[cM (by omega),cM (by omega),dC (by omega)]
  rw[aq,aU (by omega)] at m0 m1
  simp only[Option.getD_some] at m0 m1;rw[m0,m1]
 refine⟨?_,(⟨(h.f.but hB (((But.ofBelow (S:=λ_=>False) h.b).trans hB λy hy e=>by omega).below λ_ _ h=>h) ne).s,Fam.pre hb ((h.f.but hB (((But.ofBelow (S:=λ_=>False) h.b).trans hB λy hy e=>by omega).below λ_ _ h=>h) ne).f)⟩:Sf w W2 _),⟨g,_,rfl,rfl,?_,rfl,by have:=h.gn;have:=hb.size;omega⟩,hw⟩
 . unfold Pv.pg;dsimp only;congr 1
   apply dS;intro i;rw[dm,dm,cw];by_cases hi:i<p.items.length
   . have:=h.it i (by omega) hi
     rw[aq,aq,aU (show i<D.length by omega),aU hi] at this
     rw[if_pos hi,aU (show i<D.length by omega),aU hi]
     simpa using this
   . rw[if_neg hi,dz (by omega)]
 . dsimp only;rw[<-hd]
   exact hjl.but hB λx hx e=>by
    rcases e with e|e
    . exact hjl.nty h.rs (by decide) hx e
    . exact hjl.nty h.o3 (by decide) hx e
end
section
open Go.RowKit
theorem nW:(Tryz.prog.info? 29).map (λi=>(i.zero,i.size,i.bytes))=some (some (.slice none 0 0),1,24):=by kernel_rfl
theorem BP(w:World)(ty:TypeId)(a:Option Addr)(n cap:Nat)(l:List Nat)(hn:n=l.length)(hR:Rw w a cap l)(ad:Addr)(c x:Nat)(hc:w.cell? ad=some (.int .u8 ((x:Nat):Int)))(hlen:l.length+1<=140737488355328):
 ∃g cap' w',(Builtin.append_ #[29,29] ty #[.slice a n cap,.slice (some ad) 1 c]).run Tryz.prog w=.ok (.slice (some ⟨g,0,none⟩) (n+1) cap') w'/\
  Rw w' (some ⟨g,0,none⟩) cap' (l++[x])/\New w a (some ⟨g,0,none⟩)/\w.grownBy w' (a.map Addr.block)/\(a=some ⟨g,0,none⟩\/w.heap.size<=g/\Below w.heap.size w w'):=by
 obtain⟨g,cap',w',hr,h1,h2,h3,h4⟩:=vS w ty a n cap l hn hR ad c x hc hlen;refine⟨g,cap',w',hr,h1,h2,h3,?_⟩;subst hn;obtain⟨i0,hi,hz0,hz1,hz2⟩:=dc qr
 have hnews:∀j u,([.int .u8 ((x:Nat):Int)]:List Value)[j]?=some u->w.cell? (ad.add j)=some u:=by
  intro j u hj;match j,hj with
  |0,hj=>simp at hj;subst hj;simpa[Addr.add] using hc
 rcases hR.cases with⟨rfl,rfl,rfl⟩|⟨g',cur,rfl,hg,k1,k2,k3,k4⟩
 . have hr2:=run_append_nil (P:=Tryz.prog) w 29 ty 5 i0 (.int .u8 0) Tryz.underlying29 hi hz0 ad 1 c [.int .u8 ((x:Nat):Int)] (by rw[hz1];rfl) hnews (by decide) (by decide) (by rw[hz2];decide)
   rw[show([]:List Nat).length=0 from rfl,hr2] at hr
   simp only[fK,bE,aE,Addr.mk.injEq] at hr;obtain⟨⟨⟨rfl,_⟩,_⟩,rfl⟩:=hr;exact .inr ⟨ai _,⟨rfl,rfl,rfl,by simp,λk hk=>gz w.drew _ hk⟩⟩
 . by_cases hroom:l.length+1<=cap
   . have hr2:=run_append_room (P:=Tryz.prog) w 29 ty 5 i0 Tryz.underlying29 hi g' l.length cap cur hg ad 1 c [.int .u8 ((x:Nat):Int)] (by rw[hz1];rfl) hnews (by intro u hu;simp at hu;subst hu;rfl) hroom (by rw[hz1];show l.length*1+1<=cur.size;omega)
     rw[hr2] at hr;simp only[fK,bE,aE,Addr.mk.injEq] at hr;obtain⟨⟨⟨rfl,_⟩,_⟩,rfl⟩:=hr;exact .inl rfl
   . have holds:∀j u,(vb l)[j]?=some u->w.cell? ((⟨g',0,none⟩:Addr).add j)=some u:=hR.cells (g:=g') rfl;have hr2:=run_append_grow (P:=Tryz.prog) w 29 ty 5 i0 (.int .u8 0) Tryz.underlying29 hi hz0 ⟨g',0,none⟩ l.length cap (vb l) (by rw[ki,hz1,dR]) holds ad 1 c [.int .u8 ((x:Nat):Int)] (by rw[hz1];rfl) hnews (by omega) (by omega) (growslice_fits (by omega) (by rw[hz2];omega))
     rw[hr2] at hr;simp only[fK,bE,aE,Addr.mk.injEq] at hr;obtain⟨⟨⟨rfl,_⟩,_⟩,rfl⟩:=hr;exact .inr ⟨ai _,⟨rfl,rfl,rfl,by simp,λk hk=>gz w.drew _ hk⟩⟩
theorem uY{w:World}{ops:Array Oper}{rest:List Oper}{o:Oper}{a:Act}{Q:Exit->Act->World->Prop}(hgd:o.guard=none)(s x:Operand)
 (ho:o.op=.call {callee:=.builtin .append,args:=#[s,x],argTypes:=#[29,29]}) (ao:Option Addr) (n cap:Nat) (l:List Nat) (hs:a.eval s=.slice ao n cap) (hn:n=l.length) (hR:Rw w ao cap l)
 (ad:Addr) (c xx:Nat) (hx:a.eval x=.slice (some ad) 1 c) (hc:w.cell? ad=some (.int .u8 ((xx:Nat):Int))) (hlen:l.length+1<=140737488355328)
 (h:∀g cap' w',Rw w' (some ⟨g,0,none⟩) cap' (l++[xx])->New w ao (some ⟨g,0,none⟩)->w.grownBy w' (ao.map Addr.block)->(ao=some ⟨g,0,none⟩\/w.heap.size<=g/\Below w.heap.size w w')->wpList Tryz.prog ops Q rest (a.put o.dst (.slice (some ⟨g,0,none⟩) (n+1) cap')) w'):wpList Tryz.prog ops Q (o::rest) a w:=by
 refine eH hgd λK hK=>?_
 obtain⟨g,cap',w',hr,h1,h2,h3,h4⟩:=BP w o.type ao n cap l hn hR ad c xx hc hlen;unfold Oper.wp execOp;simp only[ho,resolve,invoke,builtin,dt,du,bO,cJ,bC,cZ,hs,hx,hr];exact hK _ _ (h g cap' w' h1 h2 h3 h4)
def Ar(w:World)(at':Option Addr)(ct:Nat)(vs:List Value):Prop:=w.ownsRow 0 29 1 (.slice at' vs.length ct) vs.length vs
theorem Ar.nil(w:World):Ar w none 0 []:=e7 w 0 29 1
theorem Ar.cases{w:World}{a:Option Addr}{cap:Nat}{vs:List Value}(h:Ar w a cap vs):(a=none/\cap=0/\vs=[])\/
 ∃g cur,a=some ⟨g,0,none⟩/\w.heap[g]?=some (.cells cur 29 (0,0))/\vs.length<=cap/\cap<=maxLen/\cur.size=cap/\cur.toList.take vs.length=vs:=by
 obtain⟨_,h2⟩:=h;rcases h2 with⟨hv,h0⟩|⟨g,cap',cur,hv,_,hg,hn,hm,hs,ht⟩
 . simp only[bE] at hv;exact .inl ⟨hv.1,hv.2.2,bY.1 h0⟩
 . simp only[bE] at hv;obtain⟨h1,_,rfl⟩:=hv;exact .inr ⟨g,cur,h1,hg,hn,hm,by omega,by rw[dR] at ht;exact ht⟩
theorem Ar.mk{w:World}{g cap:Nat}{cur:Array Value}{vs:List Value}(hg:w.heap[g]?=some (.cells cur 29 (0,0)))(hn:vs.length<=cap)(hm:cap<=maxLen)(hs:cur.size=cap)(ht:cur.toList.take vs.length=vs):Ar w (some ⟨g,0,none⟩) cap vs:=
 ⟨by rw[dR],.inr ⟨g,cap,cur,rfl,aF _,hg,hn,hm,by omega,by rw[dR];exact ht⟩⟩
theorem Ar.but{S:Nat->Prop}{w w':World}{a:Option Addr}{cap:Nat}{vs:List Value}(h:Ar w a cap vs)(hb:But S w w')(hn:∀x,a=some x->¬S x.block):Ar w' a cap vs:=by
 rcases h.cases with⟨rfl,rfl,rfl⟩|⟨g,cur,rfl,hg,h1,h2,h3,h4⟩
 . exact Ar.nil w'
 . exact Ar.mk ((hb.block g (af.1 hg).1 (hn _ rfl)).trans hg) h1 h2 h3 h4
theorem Ar.keep{w w':World}{a:Option Addr}{cap:Nat}{vs:List Value}(h:Ar w a cap vs)(hb:Below w.heap.size w w'):Ar w' a cap vs:=
 h.but (S:=λ_=>False) (But.ofBelow hb) (λ_ _ hf=>hf)
theorem Ar.cell{w:World}{a:Option Addr}{cap:Nat}{vs:List Value}(h:Ar w a cap vs){i:Nat}{v:Value}(hi:vs[i]?=some v):∃g,a=some ⟨g,0,none⟩/\w.cell? ⟨g,i,none⟩=some v:=by
 rcases h.cases with⟨rfl,rfl,rfl⟩|⟨g,cur,rfl,hg,h1,h2,h3,h4⟩
 . cases hi
 . refine⟨g,rfl,?_⟩;have hlt:=(bz.1 hi).1;have e:(cur.toList.take vs.length)[i]?=some v:=by rw[h4];exact hi
   rw[cw,if_pos hlt] at e;rw[au _ _ _ _ _ _ hg,<-e];simp
theorem Ar.ne{w:World}{a a':Option Addr}{cap cap':Nat}{vs:List Value}{l:List Nat}(h:Ar w a cap vs)(hR:Rw w a' cap' l){x y:Addr}(hx:a=some x)(hy:a'=some y):x.block≠y.block:=by
 rcases h.cases with⟨rfl,_⟩|⟨g,cur,rfl,hg,_⟩
 . cases hx
 rcases hR.cases with⟨rfl,_⟩|⟨g',cur',rfl,hg',_⟩
 . cases hy
 simp only[aE] at hx hy;subst hx hy;show g≠g';intro e;subst e;rw[hg] at hg';simp at hg'
theorem wP(w:World)(ty:TypeId)(a:Option Addr)(n cap:Nat)(vs:List Value)(hn:n=vs.length)(hR:Ar w a cap vs)(ad:Addr)(c:Nat)(v:Value)(hc:w.cell? ad=some v)(h1:v.oneCell'=true)(hlen:(vs.length+1)*24<=140737488355328):
 ∃g cap' w',(Builtin.append_ #[76,76] ty #[.slice a n cap,.slice (some ad) 1 c]).run Tryz.prog w=.ok (.slice (some ⟨g,0,none⟩) (n+1) cap') w'/\
  Ar w' (some ⟨g,0,none⟩) cap' (vs++[v])/\New w a (some ⟨g,0,none⟩)/\w.grownBy w' (a.map Addr.block):=by
 subst hn;obtain⟨i0,hi,hz0,hz1,hz2⟩:=dc nW
 obtain⟨g,cap',w',hr,k1,k2,k3,k4⟩:=dE (P:=Tryz.prog) w 76 ty 0 29 i0 (.slice none 0 0) 1 24 Tryz.underlying76 hi hz0 hz1 hz2 rfl (by decide) (.slice a vs.length cap) vs.length vs hR ad 1 c [v] rfl
  (by intro j u hj
      match j,hj with
      |0,hj=>simp at hj;subst hj;simpa[Addr.add] using hc) (by intro u hu;simp at hu;subst hu;exact h1) (by decide) (by unfold maxLen;omega) hlen (aF _) w.heap.size rfl
 rw[jN] at k2 k3;refine⟨g,cap',w',hr,?_,?_,k2⟩
 . unfold Ar;rw[ae];exact k1
 . intro y hy;simp only[aE] at hy;subst hy;rcases k3 with k3|k3
   . obtain⟨z,hz,e⟩:=map_some k3;exact .inl ⟨z,hz,e⟩
   . exact .inr (by show _<=g;omega)
theorem sM{w:World}{ops:Array Oper}{rest:List Oper}{o:Oper}{a:Act}{Q:Exit->Act->World->Prop}(hgd:o.guard=none)(s x:Operand)
 (ho:o.op=.call {callee:=.builtin .append,args:=#[s,x],argTypes:=#[76,76]}) (ao:Option Addr) (n cap:Nat) (vs:List Value) (hs:a.eval s=.slice ao n cap) (hn:n=vs.length) (hR:Ar w ao cap vs)
 (ad:Addr) (c:Nat) (v:Value) (hx:a.eval x=.slice (some ad) 1 c) (hc:w.cell? ad=some v) (h1:v.oneCell'=true) (hlen:(vs.length+1)*24<=140737488355328)
 (h:∀g cap' w',Ar w' (some ⟨g,0,none⟩) cap' (vs++[v])->New w ao (some ⟨g,0,none⟩)->w.grownBy w' (ao.map Addr.block)->wpList Tryz.prog ops Q rest (a.put o.dst (.slice (some ⟨g,0,none⟩) (n+1) cap')) w'):wpList Tryz.prog ops Q (o::rest) a w:=by
 refine eH hgd λK hK=>?_
 obtain⟨g,cap',w',hr,k1,k2,k3⟩:=wP w o.type ao n cap vs hn hR ad c v hc h1 hlen;unfold Oper.wp execOp;simp only[ho,resolve,invoke,builtin,dt,du,bO,cJ,bC,cZ,hs,hx,hr];exact hK _ _ (h g cap' w' k1 k2 k3)
theorem Rw.front{w:World}{a:Option Addr}{cap:Nat}{l m:List Nat}(h:Rw w a cap (l++m)):Rw w a cap l\/a=none:=by
 rcases h.cases with⟨rfl,rfl,hn⟩|⟨g,cur,rfl,hg,h1,h2,h3,h4⟩
 . exact .inr rfl
 . refine .inl (Rw.mk hg (by rw[ae] at h1;omega) h2 h3 ?_)
   have e:=aY (List.take l.length) h4;rw[fd,ae,db (by omega),ov,eZ (ki l)] at e
   exact e
theorem Rw.addr2{w:World}{a:Option Addr}{cap:Nat}{l:List Nat}(h:Rw w a cap l)(hl:0<l.length):∃g,a=some ⟨g,0,none⟩/\l.length<=cap/\cap<=maxLen:=by
 rcases h.cases with⟨rfl,rfl,rfl⟩|⟨g,cur,rfl,hg,h1,h2,h3,h4⟩
 . simp at hl
 . exact⟨g,rfl,h1,h2⟩
theorem yq(w:World)(ty:TypeId)(a:Option Addr)(n cap:Nat)(vs:List Value)(hn:n=vs.length)(hR:Ar w a cap vs)(ad:Addr)(m c:Nat)(us:List Value)(hm:m=us.length)(hc:∀j u,us[j]?=some u->w.cell? (ad.add j)=some u)(h1:∀u∈us,u.oneCell'=true)(hp:0<us.length)(hlen:(vs.length+us.length)*24<=140737488355328):
 ∃g cap' w',(Builtin.append_ #[76,76] ty #[.slice a n cap,.slice (some ad) m c]).run Tryz.prog w=.ok (.slice (some ⟨g,0,none⟩) (n+m) cap') w'/\
  Ar w' (some ⟨g,0,none⟩) cap' (vs++us)/\New w a (some ⟨g,0,none⟩)/\w.grownBy w' (a.map Addr.block):=by
 subst hn hm;obtain⟨i0,hi,hz0,hz1,hz2⟩:=dc nW
 obtain⟨g,cap',w',hr,k1,k2,k3,k4⟩:=dE (P:=Tryz.prog) w 76 ty 0 29 i0 (.slice none 0 0) 1 24 Tryz.underlying76 hi hz0 hz1 hz2 rfl (by decide) (.slice a vs.length cap) vs.length vs hR ad us.length c us (by rw[dR])
  hc h1 hp (by unfold maxLen;omega) hlen (aF _) w.heap.size rfl
 rw[jN] at k2 k3;refine⟨g,cap',w',hr,?_,?_,k2⟩
 . unfold Ar;rw[ae];exact k1
 . intro y hy;simp only[aE] at hy;subst hy;rcases k3 with k3|k3
   . obtain⟨z,hz,e⟩:=map_some k3;exact .inl ⟨z,hz,e⟩
   . exact .inr (by show _<=g;omega)
theorem zF{w:World}{o:Oper}{a:Act}{K:Act->World->Prop}{Q:Exit->Act->World->Prop}(s x:Operand)
 (ho:o.op=.call {callee:=.builtin .append,args:=#[s,x],argTypes:=#[76,76]}) (ao:Option Addr) (n cap:Nat) (vs:List Value) (hs:a.eval s=.slice ao n cap) (hn:n=vs.length) (hR:Ar w ao cap vs)
 (ad:Addr) (m c:Nat) (us:List Value) (hx:a.eval x=.slice (some ad) m c) (hm:m=us.length) (hc:∀j u,us[j]?=some u->w.cell? (ad.add j)=some u) (h1:∀u∈us,u.oneCell'=true) (hp:0<us.length) (hlen:(vs.length+us.length)*24<=140737488355328)
 (h:∀g cap' w',Ar w' (some ⟨g,0,none⟩) cap' (vs++us)->New w ao (some ⟨g,0,none⟩)->w.grownBy w' (ao.map Addr.block)->K (a.put o.dst (.slice (some ⟨g,0,none⟩) (n+m) cap')) w'):o.wp Tryz.prog a w K Q:=by
 obtain⟨g,cap',w',hr,k1,k2,k3⟩:=yq w o.type ao n cap vs hn hR ad m c us hm hc h1 hp hlen;unfold Oper.wp execOp;simp only[ho,resolve,invoke,builtin,dt,du,bO,cJ,bC,cZ,hs,hx,hr];exact h g cap' w' k1 k2 k3
theorem Ba{W W':World}{g:Nat}{o:Obj}(h:W.heap[g]?=some o)(hb:Below W.heap.size W W'):W'.heap[g]?=some o:=(hb.block _ (af.1 h).1).trans h
theorem xK{w:World}{ops:Array Oper}{o:Oper}{a:Act}{K:Act->World->Prop}{Q:Exit->Act->World->Prop}{E:Prop}(hgd:o.guard=none)(s x:Operand)
 (ho:o.op=.call {callee:=.builtin .append,args:=#[s,x],argTypes:=#[76,76]}) (ao:Option Addr) (n cap:Nat) (vs:List Value) (hs:a.eval s=.slice ao n cap) (hn:n=vs.length) (hR:Ar w ao cap vs)
 (ad:Addr) (m c:Nat) (us:List Value) (hx:a.eval x=.slice (some ad) m c) (hm:m=us.length) (hc:∀j u,us[j]?=some u->w.cell? (ad.add j)=some u) (h1:∀u∈us,u.oneCell'=true) (hp:0<us.length) (hlen:(vs.length+us.length)*24<=140737488355328)
 (h:∀g cap' w',Ar w' (some ⟨g,0,none⟩) cap' (vs++us)->New w ao (some ⟨g,0,none⟩)->w.grownBy w' (ao.map Addr.block)->K (a.put o.dst (.slice (some ⟨g,0,none⟩) (n+m) cap')) w'):
 if Region.wanted o (yielded ops a.tmps)=true then Oper.wp Tryz.prog o a w K Q else E:=by
 have hw:Region.wanted o (yielded ops a.tmps)=true:=by simp[Region.wanted,hgd]
 rw[if_pos hw];exact zF s x ho ao n cap vs hs hn hR ad m c us hx hm hc h1 hp hlen h
def bv(t:Br):Value:=.slice t.a t.l.length t.c
structure Ax(w W:World)(a:Option Addr)(c:Nat)(T:List Br):Prop where
 r:Ar W a c (T.map bv)
 n:New w none a
 b:Below w.heap.size w W
theorem Ax.step{w W W1 W2:World}{a:Option Addr}{c c' g:Nat}{T U:List Br}(h:Ax w W a c T)(hb:Below W.heap.size W W1)(hR:Ar W2 (some ⟨g,0,none⟩) c' (T.map bv++U.map bv))(hN:New W1 a (some ⟨g,0,none⟩))(hg:W1.grownBy W2 (a.map Addr.block)):Ax w W2 (some ⟨g,0,none⟩) c' (T++U):=by
 have b1:=bt h.b hb;refine⟨by rw[bL];exact hR,h.n.trans hN b1.size,?_⟩
 have hh:But (λ_=>False) w W2:=(But.ofBelow b1).grown hg λk hk hlt=>by
  obtain⟨y,hy,e⟩:=map_some hk;have:=zh h.n hy;omega
 exact hh.below λ_ _ h=>h
theorem Ax.but{w W W1 W2:World}{a:Option Addr}{c:Nat}{T:List Br}(h:Ax w W a c T)(hb:Below W.heap.size W W1)(hg:W1.grownBy W2 (a.map Addr.block)){k:Nat}{o:Obj}(hk:W.heap[k]?=some o)(hne:∀cs,o≠ .cells cs 29 (0,0)):W2.heap[k]?=some o:=by
 have hk1:=Ba hk hb;refine(hg.block k (af.1 hk1).1 λe=>?_).trans hk1
 obtain⟨y,hy,e2⟩:=map_some e.symm;rcases h.r.cases with⟨h0,_⟩|⟨g',cur,h0,hg',_⟩
 . rw[h0] at hy;cases hy
 . rw[h0,aE] at hy;subst hy;dsimp only at e2;subst e2;rw[hk] at hg';exact hne cur (Option.some.inj hg')
end
section
open Go.RowKit
theorem pT{M:List Iv}{j:Nat}(h:j<M.length):iB (M.take (j+1))=iB (M.take j)++(M.getD j Iv.zero).rows:=by
 rw[dQ h,iW,kT,show M[j]=M.getD j Iv.zero by simp[h]]
theorem qL(M:List Iv):(iB M).length=2*M.length:=by
 induction M with
 |nil=>rfl
 |cons r M ih=>rw[kJ,ae,ih,bg];simp[Iv.rows];omega
theorem vt{w w':World}{g b k j:Nat}{a1 b1 b2:Value}(hb:Below w.heap.size w w')(h:w.cell? ⟨g,2,none⟩=some a1/\w.cell? ⟨b,k+j*4,none⟩=some b1/\w.cell? ⟨b,k+j*4+1,none⟩=some b2):w'.cell? ⟨g,2,none⟩=some a1/\w'.cell? ⟨b,k+j*4,none⟩=some b1/\w'.cell? ⟨b,k+j*4+1,none⟩=some b2:=
 ⟨(hb.cell (block_lt_of_cell h.1)).trans h.1,(hb.cell (block_lt_of_cell h.2.1)).trans h.2.1,(hb.cell (block_lt_of_cell h.2.2)).trans h.2.2⟩
theorem Bw{w w':World}{g b k j:Nat}{a1 b1 b2:Value}(hb:Below w.heap.size w w')(h1:w'.cell? ⟨g,2,none⟩=some a1)(h:w.cell? ⟨b,k+j*4,none⟩=some b1/\w.cell? ⟨b,k+j*4+1,none⟩=some b2):w'.cell? ⟨g,2,none⟩=some a1/\w'.cell? ⟨b,k+j*4,none⟩=some b1/\w'.cell? ⟨b,k+j*4+1,none⟩=some b2:=
 ⟨h1,(hb.cell (block_lt_of_cell h.1)).trans h.1,(hb.cell (block_lt_of_cell h.2)).trans h.2⟩
theorem BI(W:World)(u v:Value):∀j x,[u,v][j]?=some x->(W.alloc (.cells #[u,v] 29)).drew.cell? ((⟨W.heap.size,0,none⟩:Addr).add j)=some x:=by
 intro j x hx;have hg:(W.alloc (.cells #[u,v] 29)).drew.heap[W.heap.size]?=some (.cells #[u,v] 29 (0,0)):=aH _ _;rw[Addr.add_mid,bH,au _ _ _ _ _ _ hg];simpa using hx
theorem DX(w:World)(o p:Obj):((w.alloc o).alloc p).heap[w.heap.size]?=some o:=by
 rw[gz _ _ (by rw[size_alloc];omega)];exact aH _ _
theorem yl(u v:Br):∀x∈[bv u,bv v],x.oneCell'=true:=by
 intro x hx;simp only[bT,bB,gd] at hx;rcases hx with rfl|rfl<;>rfl
set_option maxRecDepth 100000 in
theorem qt(w:World)(kind level:Int)(aI:Option Addr)(cI:Nat)(M:List Iv)(aD:Option Addr)(cD:Nat)(data:List Nat)(next:Int)(hm:Js w aI M)(hl:M.length<=1048576):
 Calls Tryz.prog 120 #[.agg #[.int .i64 kind,.int .i64 level,.slice aI M.length cI,.slice aD data.length cD,.int .i64 next]] w λe w'=>∃at' ct,e=.returned (.slice at' (1+2*M.length) ct)/\Ax w w' at' ct (⟨aD,cD,data⟩::iB M):=by
 have HM:=ig hm;clear hm;have IT:=ig λ(W:World)(h:W.heap[w.heap.size]?=some (.cells (Pv.cs ⟨kind,level,aI,cI,M,aD,cD,data,next⟩) 31))=>Bx.page (p:=⟨kind,level,aI,cI,M,aD,cD,data,next⟩) h
 dsimp only[Pv.cs] at IT;go_enter Tryz.func120,Tryz.ntmps120;go_wp2;go_loopw [3,4] (λv i wx=>∃(j:Nat)(at':Option Addr)(ct:Nat),j<=M.length/\i=.int .i64 j/\v=.slice at' (1+2*j) ct/\(Ax w wx at' ct (⟨aD,cD,data⟩::iB (M.take j))/\wx.heap[w.heap.size]?=some (.cells #[.int .i64 kind,.int .i64 level,.slice aI M.length cI,.slice aD data.length cD,.int .i64 next] 31 (0,0)))) (λ_ i _=>M.length-(intOf i).toNat)
 case atStart=>
  refine⟨0,some ⟨w.heap.size+1,0,none⟩,1,aF _,rfl,rfl,⟨?_,DW w _ (by omega),bt (al _ _) (al _ _)⟩,DX w _ _⟩
  refine Ar.mk (cur:=#[.slice aD data.length cD]) ?_ (by simp[iB]) (by unfold maxLen;omega) rfl rfl
  have:=aH (w.alloc (.cells #[.int .i64 kind,.int .i64 level,.slice aI M.length cI,.slice aD data.length cD,.int .i64 next] 31)) (.cells #[.slice aD data.length cD] 29)
  rw[size_alloc] at this;exact this
 case round=>
  obtain⟨j,at',ct,hj,rfl,rfl,hG⟩:=hrel;have HG:=ig hG;clear hG;obtain⟨k0,k1,k2,k3,k4⟩:=IT.o _ HG.o.2;have hj1:=w64 (j:=j) (by omega)
  by_cases hlt:j<M.length
  . have hi:(j:Int)<(M.length:Int):=by omega
    obtain⟨b,off,hab,hr0⟩:=HM.o.at hlt;obtain⟨o0,o1,_,_⟩:=jc hr0;obtain⟨m0,m1,m2,m3⟩:=jc (pD hr0 HG.o.1.b);have HTL:=ig (pT hlt)
    have HLEN:Hid (1+2*j=((⟨aD,cD,data⟩::iB (M.take j):List Br).map bv).length):=by
     show _=_;rw[a7,bg,qL,bi];omega
    generalize M.getD j Iv.zero=r at *;subst hab;clear hr0;obtain⟨r1,r2,rl,r3,r4,rh,rc,rz⟩:=r;dsimp only at m0 m1 m2 m3 o0 o1
    have HSZ:Hid ((((⟨aD,cD,data⟩::iB (M.take j):List Br).map bv).length+2)*24<=140737488355328):=by
     show _<=_;rw[<-HLEN.o];omega
    have MO:=ig (And.intro o0 o1);clear o0 o1;generalize hTT:(⟨aD,cD,data⟩::iB (M.take j):List Br)=TT at *;go_wp2;have S0:=vt ((Below.refl wr.heap.size wr).drew) (And.intro k2 (And.intro m0 m1));have S0a:=λo=>vt ((al wr o).drew) (And.intro k2 (And.intro m0 m1))
    clear k0 k1 k2 k3 k4 m0 m1 m2 m3
    go_region_held3 (λw'=>w'.cell? ⟨w.heap.size,2,none⟩=some (.slice (some ⟨b,off,none⟩) M.length cI)/\w'.cell? ⟨b,off+j*4,none⟩=some (.slice r1 rl.length r2)/\w'.cell? ⟨b,off+j*4+1,none⟩=some (.slice r3 rh.length r4))
     (first|with_reducible exact S0|with_reducible exact S0a _|with_reducible exact S2)
     ((refine xK rfl _ _ rfl at' (1+2*j) ct (TT.map bv) (by simp[Act.eval]) HLEN.o (HG.o.1.r.keep ((al wr _).drew)) ⟨wr.heap.size,0,none⟩ 2 2 [bv ⟨r1,r2,rl⟩,bv ⟨r3,r4,rh⟩] (by simp[Act.eval]) rfl (BI wr _ _) (yl _ _) (Nat.succ_pos 1) HSZ.o ?_;intro g cap' w2 hR hN hg;have HX:=ig (HG.o.1.step (U:=[⟨r1,r2,rl⟩,⟨r3,r4,rh⟩]) ((al wr _).drew) hR hN hg);have HB:=ig (HG.o.1.but ((al wr _).drew) hg HG.o.2 (by intro cs h;cases h));have S2:=Bw HX.o.b (IT.o _ HB.o).2.2.1 MO.o;clear hR hN hg))
    clear S0 S0a S2;go_wp2;go_roundw
    case rel=>exact⟨j+1,_,cap',by omega,by first|(go_num;done)|exact aY (Value.int IntKind.i64) (by omega),by rw[show 1+2*(j+1)=1+2*j+2 by omega],by rw[HTL.o];subst hTT;exact HX.o,HB.o⟩
    case measure=>first|exact iF _ _ _ hj1 hlt|exact iF _ _ _ rfl hlt|(simp[intOf];omega)
  . obtain rfl:j=M.length:=by omega
    rw[cU] at HG;go_wp2;go_ret;exact⟨at',ct,rfl,HG.o.1⟩
theorem Ar.at0{w:World}{a:Option Addr}{c:Nat}{vs:List Value}(h:Ar w a c vs)(hp:0<vs.length):∃g,a=some ⟨g,0,none⟩:=by
 rcases h.cases with⟨rfl,rfl,rfl⟩|⟨g,cur,rfl,_⟩
 . simp at hp
 . exact⟨g,rfl⟩
theorem qy(w:World)(p:Pv)(hm:Js w p.aI p.items)(hl:p.items.length<=1048576):Calls Tryz.prog 120 #[p.vl] w λe w'=>∃g ct,e=.returned (.slice (some ⟨g,0,none⟩) (1+2*p.items.length) ct)/\Ax w w' (some ⟨g,0,none⟩) ct (rp p):=by
 refine(qt w p.kind p.level p.aI p.cI p.items p.aD p.cD p.data p.next hm hl).mono ?_;rintro e w' ⟨at',ct,rfl,hx⟩;obtain⟨g,rfl⟩:=hx.r.at0 (by simp)
 exact⟨g,ct,rfl,hx⟩
end
section
open Go.RowKit
theorem Jw.item4{w:World}{g cap:Nat}{L:List Iv}(h:Jw w (some ⟨g,0,none⟩) cap L){k:Nat}(hk:k<L.length):(w.cell? ⟨g,k*4,none⟩=some (.slice (L.getD k Iv.zero).aK (L.getD k Iv.zero).key.length (L.getD k Iv.zero).cK)/\w.cell? ⟨g,k*4+1,none⟩=some (.slice (L.getD k Iv.zero).aV (L.getD k Iv.zero).val.length (L.getD k Iv.zero).cV)/\w.cell? ⟨g,k*4+2,none⟩=some (.int .i64 (L.getD k Iv.zero).child)/\w.cell? ⟨g,k*4+3,none⟩=some (.int .i64 (L.getD k Iv.zero).size))/\
 w.frozen? ⟨g,k*4,none⟩=false/\w.frozen? ⟨g,k*4+1,none⟩=false/\w.frozen? ⟨g,k*4+2,none⟩=false/\w.frozen? ⟨g,k*4+3,none⟩=false:=by
 have hc:∀j u,j<4->(L.getD k Iv.zero).cs.toList[j]?=some u->w.cell? ⟨g,k*4+j,none⟩=some u:=λj u hj hu=>by
  have:=h.cells (k*4+j) u (by rw[lG L k j hk hj];exact hu)
  rw[Addr.add_mid,bH] at this;exact this
 have hf:=h.four hk;exact⟨⟨hc 0 _ (by decide) rfl,hc 1 _ (by decide) rfl,hc 2 _ (by decide) rfl,hc 3 _ (by decide) rfl⟩,(hf 0 (by decide)).2,(hf 1 (by decide)).2,(hf 2 (by decide)).2,(hf 3 (by decide)).2⟩
theorem yQ{D:List Iv}{n j:Nat}(hl:D.length=j):(D++List.replicate n Iv.zero).getD j Iv.zero=Iv.zero:=by
 subst hl;rw[aq,bj (ai _),dv];cases n<;>simp
theorem nN(w:World):w.drew.heap=w.heap:=rfl
theorem As{w W:World}{o p q:Obj}(hb:Below (((w.alloc o).alloc p).alloc q).drew.heap.size (((w.alloc o).alloc p).alloc q).drew W):W.heap[w.heap.size+1+1]?=some q:=by
 have e:(((w.alloc o).alloc p).alloc q).heap.size=w.heap.size+3:=by rw[size_alloc,size_alloc,size_alloc]
 refine(hb.block _ (by rw[nN,e];omega)).trans ?_
 rw[nN];have:=aH ((w.alloc o).alloc p) q;rw[size_alloc,size_alloc] at this;exact this
theorem yr(g o:Nat)(w:World)(a b c d:Value):But (λk=>k=g) w ((((w.setCell ⟨g,o,none⟩ a).setCell ⟨g,o+1,none⟩ b).setCell ⟨g,o+2,none⟩ c).setCell ⟨g,o+3,none⟩ d):=
 ((((But.refl (λk=>k=g) w).setCell (p:=⟨g,o,none⟩) (λ_=>rfl) a).setCell (p:=⟨g,o+1,none⟩) (λ_=>rfl) b).setCell (p:=⟨g,o+2,none⟩) (λ_=>rfl) c).setCell (p:=⟨g,o+3,none⟩) (λ_=>rfl) d
theorem uN{v W:World}(h:Below v.heap.size v W){g:Nat}(hg:v.heap.size<=g)(o:Nat)(a b c d:Value):Below v.heap.size v ((((W.setCell ⟨g,o,none⟩ a).setCell ⟨g,o+1,none⟩ b).setCell ⟨g,o+2,none⟩ c).setCell ⟨g,o+3,none⟩ d):=
 ((But.ofBelow (S:=λ_=>False) h).trans (yr g o W a b c d) λy hy e=>by omega).below λ_ _ h=>h
structure Sq(w wx:World)(pc:Array Value)(p:Pv)(g3 gD:Nat):Prop where
 b:Below (w.alloc (.cells pc 31)).heap.size (w.alloc (.cells pc 31)) wx
 rs:Bx wx 31 (w.heap.size+1) Pv.zero.cs
 o3:Bx wx 31 g3 (Pv.mk p.kind p.level none 0 [] (some ⟨gD,0,none⟩) (p.data.length+64) p.data p.next).cs
 n3:w.heap.size+1<g3
 f:Sf (w.alloc (.cells pc 31)) wx [⟨some ⟨gD,0,none⟩,p.data.length+64,p.data⟩]
theorem Sq.a{w w1:World}{pc:Array Value}{p:Pv}{gD:Nat}(T1:Below ((w.alloc (.cells pc 31)).alloc (.cells Pv.zero.cs 31)).heap.size ((w.alloc (.cells pc 31)).alloc (.cells Pv.zero.cs 31)) w1)(hs:Sl w1 (some ⟨gD,0,none⟩) (p.data.length+64) p.data)(hg:w.heap.size+2<=gD):
 Sq w (w1.alloc (.cells (Pv.mk p.kind p.level none 0 [] (some ⟨gD,0,none⟩) (p.data.length+64) p.data p.next).cs 31)) pc p w1.heap.size gD:=by
 obtain⟨_,k2,_,k4⟩:=ik w _ _ T1;have hb:=bt (al (w.alloc (.cells pc 31)) (.cells Pv.zero.cs 31)) (bt T1 (al w1 (.cells (Pv.mk p.kind p.level none 0 [] (some ⟨gD,0,none⟩) (p.data.length+64) p.data p.next).cs 31)));exact⟨hb,(show Bx w1 31 (w.heap.size+1) _ from k2).keep (al _ _),Bx.new _ _ _,by omega,Sf.one (hs.keep (al _ _)) (by rw[size_alloc];omega) hb⟩
theorem Sq.c{w w1:World}{pc:Array Value}{p:Pv}{gD:Nat}(T1:Below ((w.alloc (.cells pc 31)).alloc (.cells Pv.zero.cs 31)).heap.size ((w.alloc (.cells pc 31)).alloc (.cells Pv.zero.cs 31)) w1)(X3:Bx w1 31 (w.heap.size+1+1) Pv.zero.cs)(hs:Sl w1 (some ⟨gD,0,none⟩) (p.data.length+64) p.data)(hg:w.heap.size+3<=gD):
 Sq w (((((w1.setCell ⟨w.heap.size+1+1,0,none⟩ (.int .i64 p.kind)).setCell ⟨w.heap.size+1+1,1,none⟩ (.int .i64 p.level)).setCell ⟨w.heap.size+1+1,2,none⟩ (.slice none 0 0)).setCell ⟨w.heap.size+1+1,3,none⟩ (.slice (some ⟨gD,0,none⟩) p.data.length (p.data.length+64))).setCell ⟨w.heap.size+1+1,4,none⟩ (.int .i64 p.next)) pc p (w.heap.size+1+1) gD:=by
 obtain⟨_,k2,_,k4⟩:=ik w _ _ T1;have hB:=kF (w.heap.size+1+1) w1 (.int .i64 p.kind) (.int .i64 p.level) (.slice none 0 0) (.slice (some ⟨gD,0,none⟩) p.data.length (p.data.length+64)) (.int .i64 p.next);have hb:=((But.ofBelow (S:=λ_=>False) (bt (al (w.alloc (.cells pc 31)) (.cells Pv.zero.cs 31)) T1)).trans hB λy hy e=>by rw[size_alloc] at hy;omega).below λ_ _ h=>h
 exact⟨hb,(show Bx w1 31 (w.heap.size+1) _ from k2).but hB (by omega),o7 X3 _ _ _ _ _,by omega,Sf.one (hs.but hB λx hx e=>by cases hx;simp only at e;omega) (by rw[size_alloc];omega) hb⟩
theorem Sq.sw{w W:World}{pc:Array Value}{p:Pv}{g3 gD n:Nat}(h:Sq w W pc p g3 gD)(hn:n=p.items.length+2)(hl:n<=1048579):Sw (w.alloc (.cells pc 31)) (W.alloc (.cells (madeCells Iv.zero.cs (n*4)) 51)) p g3 gD W.heap.size 0 []:=by
 subst hn;have e:(w.alloc (.cells pc 31)).heap.size=w.heap.size+1:=size_alloc _ _;have k:=h.rs.lt;exact⟨bt h.b (al _ _),by rw[e];exact h.rs.keep (al _ _),h.o3.keep (al _ _),by rw[e];exact h.n3,by simpa using Jw.start hl,by rw[e];omega,rfl,λ_ h=>absurd h (by omega),λ_ h=>absurd h (by omega),by simpa[iB] using h.f.keep (al _ _)⟩
theorem sG(w:World)(kind level:Int)(aI:Option Addr)(cI:Nat)(items:List Iv)(aD:Option Addr)(cD:Nat)(data:List Nat)(next:Int)(hR:Pi w ⟨kind,level,aI,cI,items,aD,cD,data,next⟩)(hd:data.length<=140737488355264)(hi:items.length<=1048576)(hs:∀x∈items,x.key.length<=140737488355264/\x.val.length<=140737488355264):
 Calls Tryz.prog 13 #[.agg #[.int .i64 kind,.int .i64 level,.slice aI items.length cI,.slice aD data.length cD,.int .i64 next]] w λe w'=>∃q:Pv,e=.returned q.vl/\Sp w w' ⟨kind,level,aI,cI,items,aD,cD,data,next⟩ q:=by
 have SA:=ig λw1 (hb:Below w.heap.size w w1)=>pS w1 aD data.length cD data (hR.bd.keep hb) rfl hd
 have HI:=ig λw1 (hb:Below w.heap.size w w1)(k:Nat)(hk:k<items.length)=>(hR.it.keep hb).at hk
 have SK:=ig λ(k:Nat)(hk:k<items.length) w1 (hb:Below w.heap.size w w1)=>pS w1 (items.getD k Iv.zero).aK (items.getD k Iv.zero).key.length (items.getD k Iv.zero).cK (items.getD k Iv.zero).key ((hR.it.1 _ (iE hk)).bk.keep hb) rfl (hs _ (iE hk)).1
 have SV:=ig λ(k:Nat)(hk:k<items.length) w1 (hb:Below w.heap.size w w1)=>pS w1 (items.getD k Iv.zero).aV (items.getD k Iv.zero).val.length (items.getD k Iv.zero).cV (items.getD k Iv.zero).val ((hR.it.1 _ (iE hk)).bv.keep hb) rfl (hs _ (iE hk)).2
 have IT:=ig λ(W:World)(h:W.heap[w.heap.size]?=some (.cells (Pv.cs ⟨kind,level,aI,cI,items,aD,cD,data,next⟩) 31))=>Bx.page (p:=⟨kind,level,aI,cI,items,aD,cD,data,next⟩) h
 have TZ:=ig λ(W:World)(k:Nat)(h:W.heap[k]?=some (.cells (Pv.cs Pv.zero) 31))=>And.intro (Bx.page (p:=Pv.zero) h) (fr4 (show Bx W 31 k _ from h))
 have TM:=ig λ(W:World)(k:Nat)(h:W.heap[k]?=some (.cells (Pv.cs Pv.zero) 31))(a b c d f:Value)=>o7 (show Bx W 31 k _ from h) a b c d f
 have IS:=ig λ(W:World)(h:W.heap[w.heap.size]?=some (.cells (Pv.cs ⟨kind,level,aI,cI,items,aD,cD,data,next⟩) 31))(a b c d f:Value)=>Bx.page (p:=⟨kind,level,aI,cI,items,aD,cD,data,next⟩) ((show Bx W 31 w.heap.size _ from h).but (kF (w.heap.size+1+1) W a b c d f) (by omega))
 clear hR hs;dsimp only[Pv.cs,Pv.zero,bh] at *;go_enter Tryz.func13,Tryz.ntmps13;go_wp2;have T0:Hid (Below ((w.alloc (.cells #[.int .i64 kind,.int .i64 level,.slice aI items.length cI,.slice aD data.length cD,.int .i64 next] 31)).alloc (.cells #[.int .i64 0,.int .i64 0,.slice none 0 0,.slice none 0 0,.int .i64 0] 31)).heap.size ((w.alloc (.cells #[.int .i64 kind,.int .i64 level,.slice aI items.length cI,.slice aD data.length cD,.int .i64 next] 31)).alloc (.cells #[.int .i64 0,.int .i64 0,.slice none 0 0,.slice none 0 0,.int .i64 0] 31)) ((w.alloc (.cells #[.int .i64 kind,.int .i64 level,.slice aI items.length cI,.slice aD data.length cD,.int .i64 next] 31)).alloc (.cells #[.int .i64 0,.int .i64 0,.slice none 0 0,.slice none 0 0,.int .i64 0] 31)).drew):=(Below.refl _ _).drew
 have T0b:Hid (Below ((w.alloc (.cells #[.int .i64 kind,.int .i64 level,.slice aI items.length cI,.slice aD data.length cD,.int .i64 next] 31)).alloc (.cells #[.int .i64 0,.int .i64 0,.slice none 0 0,.slice none 0 0,.int .i64 0] 31)).heap.size ((w.alloc (.cells #[.int .i64 kind,.int .i64 level,.slice aI items.length cI,.slice aD data.length cD,.int .i64 next] 31)).alloc (.cells #[.int .i64 0,.int .i64 0,.slice none 0 0,.slice none 0 0,.int .i64 0] 31)) (((w.alloc (.cells #[.int .i64 kind,.int .i64 level,.slice aI items.length cI,.slice aD data.length cD,.int .i64 next] 31)).alloc (.cells #[.int .i64 0,.int .i64 0,.slice none 0 0,.slice none 0 0,.int .i64 0] 31)).alloc (.cells #[.int .i64 0,.int .i64 0,.slice none 0 0,.slice none 0 0,.int .i64 0] 31)).drew):=(al _ _).drew
 have C0:=IT.o _ (ik w _ _ T0.o).1;have C0b:=IT.o _ (ik w _ _ T0b.o).1;go_cut [3] from 6 to 15 (λp wx=>∃(g3 gD:Nat),p=.pointer (some ⟨g3,0,none⟩)/\Sq w wx #[.int .i64 kind,.int .i64 level,.slice aI items.length cI,.slice aD data.length cD,.int .i64 next] ⟨kind,level,aI,cI,items,aD,cD,data,next⟩ g3 gD)
 case first=>
  go_region_held3 (λw'=>w'.cell? ⟨w.heap.size,0,none⟩=some (.int .i64 kind)/\w'.cell? ⟨w.heap.size,1,none⟩=some (.int .i64 level)/\w'.cell? ⟨w.heap.size,2,none⟩=some (.slice aI items.length cI)/\w'.cell? ⟨w.heap.size,3,none⟩=some (.slice aD data.length cD)/\w'.cell? ⟨w.heap.size,4,none⟩=some (.int .i64 next))
   (first|with_reducible exact C0|with_reducible exact C0b|with_reducible exact CC|with_reducible exact CA _|with_reducible exact CS _ _ _ _ _)
   (first|(go_at_call 62;with_reducible refine(SA.o _ (ik w _ _ T0.o).2.2.1).mono ?_;rintro e w1 ⟨gD,rfl,hs,hg,hl,hb⟩;have T1:=ig (bt T0.o hb);have CC:=IT.o _ (ik w _ _ T1.o).1;have CA:=λo=>IT.o _ (ik w _ _ (bt T1.o (al _ o))).1)|(go_at_call 62;with_reducible refine(SA.o _ (ik w _ _ T0b.o).2.2.1).mono ?_;rintro e w1 ⟨gD,rfl,hs,hg,hl,hb⟩;have T1:=ig (bt T0b.o hb);have CC:=IT.o _ (ik w _ _ T1.o).1;have X3:=ig (As (w:=w) hb);obtain⟨⟨y0,y1,y2,y3,y4⟩,f0,f1,f2,f3,f4⟩:=TZ.o _ _ X3.o;have CS:=λ(a b c d f:Value)=>IS.o _ (ik w _ _ T1.o).1 a b c d f))
  . go_wp2_with fail
    go_meet
    case rel=>exact⟨w1.heap.size,gD,rfl,Sq.a (p:=⟨kind,level,aI,cI,items,aD,cD,data,next⟩) T1.o hs (by have h:=(ik w _ _ T0.o).2.2.2;omega)⟩
  . clear y0 y1 y2 y3 y4 f0 f1 f2 f3 f4;go_wp2_with fail
    go_meet
    case rel=>exact⟨w.heap.size+1+1,gD,rfl,Sq.c (p:=⟨kind,level,aI,cI,items,aD,cD,data,next⟩) T1.o X3.o hs (by have h:(((w.alloc (.cells #[.int .i64 kind,.int .i64 level,.slice aI items.length cI,.slice aD data.length cD,.int .i64 next] 31)).alloc (.cells #[.int .i64 0,.int .i64 0,.slice none 0 0,.slice none 0 0,.int .i64 0] 31)).alloc (.cells #[.int .i64 0,.int .i64 0,.slice none 0 0,.slice none 0 0,.int .i64 0] 31)).drew.heap.size=w.heap.size+3:=(by rw[nN,size_alloc,size_alloc,size_alloc]);omega)⟩
 case rest=>
  obtain⟨g3,gD,rfl,hW⟩:=hcut;have HW:=ig hW;clear hW C0 C0b T0 T0b SA IS TM;have V0:=ig (al w (.cells #[.int .i64 kind,.int .i64 level,.slice aI items.length cI,.slice aD data.length cD,.int .i64 next] 31))
  have B0:=ig (Bx.new w 31 #[.int .i64 kind,.int .i64 level,.slice aI items.length cI,.slice aD data.length cD,.int .i64 next])
  have BK:=ig λ(W:World)(hb:Below (w.alloc (.cells #[.int .i64 kind,.int .i64 level,.slice aI items.length cI,.slice aD data.length cD,.int .i64 next] 31)).heap.size (w.alloc (.cells #[.int .i64 kind,.int .i64 level,.slice aI items.length cI,.slice aD data.length cD,.int .i64 next] 31)) W)=>(IT.o W (B0.o.keep hb)).2.2.1
  have hk2:=BK.o _ HW.o.b;have hmk:=xD (items.length+2) (by omega)
  have hadd:IntKind.i64.wrap ((items.length:Int)+2)=((items.length+2:Nat):Int):=by rw[iw (by omega) (by omega)];omega
  obtain⟨n,hn⟩:∃n,n=items.length+2:=⟨_,rfl⟩;rw[<-hn] at hmk hadd;have hn3:items.length<=n:=by omega
  have hn4:n<=1048579:=by omega
  have HN:=ig hn;have SW0:=ig (HW.o.sw hn hn4);have OUT:=ig λ(W:World)(D:List Iv)(j:Nat)(hj:¬j<n)(hj2:j<=n)(h:Sw (w.alloc (.cells #[.int .i64 kind,.int .i64 level,.slice aI items.length cI,.slice aD data.length cD,.int .i64 next] 31)) W ⟨kind,level,aI,cI,items,aD,cD,data,next⟩ g3 gD wc.heap.size j D)=>(show Sw (w.alloc (.cells #[.int .i64 kind,.int .i64 level,.slice aI items.length cI,.slice aD data.length cD,.int .i64 next] 31)) W ⟨kind,level,aI,cI,items,aD,cD,data,next⟩ g3 gD wc.heap.size (items.length+2) D by rw[show items.length+2=j by omega];exact h)
  clear hn;obtain⟨v0,hv0⟩:∃v0,w.alloc (.cells #[.int .i64 kind,.int .i64 level,.slice aI items.length cI,.slice aD data.length cD,.int .i64 next] 31)=v0:=⟨_,rfl⟩
  have hvs:v0.heap.size=w.heap.size+1:=by rw[<-hv0];exact size_alloc _ _
  rw[hv0] at SW0 BK V0 OUT;clear hv0;go_wp2;go_loopw [5] (λi wx=>∃(j:Nat)(D:List Iv),j<=n/\i=.int .i64 j/\Sw v0 wx ⟨kind,level,aI,cI,items,aD,cD,data,next⟩ g3 gD wc.heap.size j D) (λi _=>n-(intOf i).toNat)
  case atStart=>exact⟨0,[],aF _,rfl,SW0.o⟩
  case round=>
   obtain⟨j,D,hj,rfl,hG⟩:=hrel;have HG:=ig hG;clear hG SW0 HW hk2 hmk hadd;have hk2:=BK.o _ HG.o.b;have GN:=ig HG.o.gn;by_cases hlt:j<n
   . have hi1:(j:Int)<(n:Int):=by omega
     have hj1:j+1<=n:=by omega
     have HLN:Hid (j<(D++List.replicate (items.length+2-j) Iv.zero).length):=by show _<_;have:=HN.o;rw[ae,be,HG.o.len];omega
     have ROW:=ig (show ∀W,Below wr.heap.size wr W->(W.cell? ⟨wc.heap.size,j*4,none⟩=some (.slice none 0 0)/\W.cell? ⟨wc.heap.size,j*4+1,none⟩=some (.slice none 0 0)/\W.cell? ⟨wc.heap.size,j*4+2,none⟩=some (.int .i64 0)/\W.cell? ⟨wc.heap.size,j*4+3,none⟩=some (.int .i64 0))/\W.frozen? ⟨wc.heap.size,j*4,none⟩=false/\W.frozen? ⟨wc.heap.size,j*4+1,none⟩=false/\W.frozen? ⟨wc.heap.size,j*4+2,none⟩=false/\W.frozen? ⟨wc.heap.size,j*4+3,none⟩=false from λW hb=>by
      have h:=(HG.o.jw.keep hb).item4 HLN.o;rw[yQ HG.o.len] at h;exact h)
     by_cases hm:j<items.length
     . have hi2:(j:Int)<(items.length:Int):=by omega
       obtain⟨bI,off,hab,_⟩:=HI.o _ (bt V0.o HG.o.b) j hm;subst hab
       have SKK:=ig (show ∀W,Below v0.heap.size v0 W->(W.cell? ⟨w.heap.size,2,none⟩=some (.slice (some ⟨bI,off,none⟩) items.length cI)/\W.cell? ⟨bI,off+j*4,none⟩=some (.slice (items.getD j Iv.zero).aK (items.getD j Iv.zero).key.length (items.getD j Iv.zero).cK)/\W.cell? ⟨bI,off+j*4+1,none⟩=some (.slice (items.getD j Iv.zero).aV (items.getD j Iv.zero).val.length (items.getD j Iv.zero).cV)/\W.cell? ⟨bI,off+j*4+2,none⟩=some (.int .i64 (items.getD j Iv.zero).child)/\W.cell? ⟨bI,off+j*4+3,none⟩=some (.int .i64 (items.getD j Iv.zero).size)) from λW hb=>by
        obtain⟨b',o',e,h⟩:=HI.o W (bt V0.o hb) j hm;cases e;exact⟨BK.o W hb,jc h⟩)
       have SK1:=ig (SK.o j hm);have SV1:=ig (SV.o j hm);have STP:=ig λ(W1 W2:World)(gK gV cK cV:Nat)(s1:Sl W1 (some ⟨gK,0,none⟩) cK (items.getD j Iv.zero).key)(n1:wr.heap.size<=gK)(b1:Below wr.heap.size wr W1)(s2:Sl W2 (some ⟨gV,0,none⟩) cV (items.getD j Iv.zero).val)(n2:W1.heap.size<=gV)(b2:Below W1.heap.size W1 W2)=>HG.o.spare (child:=(items.getD j Iv.zero).child) (size:=(items.getD j Iv.zero).size) hm rfl s1 n1 b1 s2 n2 b2
       clear SK SV HI;generalize items.getD j Iv.zero=r at *;obtain⟨r1,r2,rk,r3,r4,rv,rc,rz⟩:=r;dsimp only at SKK SK1 SV1 STP;have BD:=ig (bt HG.o.b (dr2 wr));have C0:=SKK.o _ BD.o;go_wp2
       go_region_held3 (λw'=>w'.cell? ⟨w.heap.size,2,none⟩=some (.slice (some ⟨bI,off,none⟩) items.length cI)/\w'.cell? ⟨bI,off+j*4,none⟩=some (.slice r1 rk.length r2)/\w'.cell? ⟨bI,off+j*4+1,none⟩=some (.slice r3 rv.length r4)/\w'.cell? ⟨bI,off+j*4+2,none⟩=some (.int .i64 rc)/\w'.cell? ⟨bI,off+j*4+3,none⟩=some (.int .i64 rz))
        (first|with_reducible exact C0|with_reducible exact C1|with_reducible exact C2|with_reducible exact CS _ _ _ _)
        (first|(go_at_call 62;with_reducible refine(SK1.o _ (bt V0.o BD.o)).mono ?_;rintro e w1 ⟨gK,rfl,hs1,hg1,hl1,hb1⟩;have B1:=ig (bt BD.o hb1);have C1:=SKK.o _ B1.o;have H1:=ig (And.intro hs1 (And.intro hg1 (bt (dr2 wr) hb1))))|(go_at_call 62;with_reducible refine(SV1.o _ (bt V0.o B1.o)).mono ?_;rintro e w2 ⟨gV,rfl,hs2,hg2,hl2,hb2⟩;have B2:=ig (bt B1.o hb2);have C2:=SKK.o _ B2.o;have H2:=ig (And.intro hs2 (And.intro hg2 hb2));obtain⟨⟨p0,p1,p2,p3⟩,f0,f1,f2,f3⟩:=ROW.o _ (bt H1.o.2.2 hb2);have CS:=λ(a b c d:Value)=>SKK.o _ (uN B2.o (fP GN.o) (j*4) a b c d)))
       have HST:=ig (STP.o w1 w2 gK gV _ _ H1.o.1 H1.o.2.1 H1.o.2.2 H2.o.1 H2.o.2.1 H2.o.2.2);rw[Cc] at HST;clear C0 C1 C2 CS p0 p1 p2 p3 f0 f1 f2 f3;dsimp only at HST;go_wp2;go_roundw
       case rel=>exact⟨j+1,_,hj1,by first|(go_num;done)|exact aY (Value.int IntKind.i64) (by omega),HST.o⟩
       case measure=>first|exact iF _ _ _ rfl hlt|(simp[intOf];omega)
     . have hi2:¬(j:Int)<(items.length:Int):=by omega
       have hi3:decide ((j:Int)<(items.length:Int))=false:=by simpa using hi2
       obtain⟨⟨p0,p1,p2,p3⟩,f0,f1,f2,f3⟩:=ROW.o _ (Below.refl _ _);have HST:=ig (HG.o.tail (by show items.length<=j;omega) (by show j<items.length+2;have:=HN.o;omega))
       rw[Cc] at HST;unfold mark at HST;dsimp only[bh] at HST;go_wp2;clear p0 p1 p2 p3 f0 f1 f2 f3;go_roundw
       case rel=>exact⟨j+1,_,hj1,by first|(go_num;done)|exact aY (Value.int IntKind.i64) (by omega),HST.o⟩
       case measure=>first|exact iF _ _ _ rfl hlt|(simp[intOf];omega)
   . have HG2:=ig (OUT.o _ D j hlt hj HG.o);obtain rfl:j=n:=by omega
     obtain⟨x0,x1,x2,x3,x4⟩:=Bx.page HG.o.o3;have gf:=bq _ _ 2 _ _ HG.o.o3;dsimp only[bh] at x0 x1 x2 x3 x4;have M1:Hid (∀v,Bx (wr.setCell ⟨g3,2,none⟩ v) 31 (w.heap.size+1) #[.int .i64 0,.int .i64 0,.slice none 0 0,.slice none 0 0,.int .i64 0]):=λv=>(by have h:=HG.o.rs;rw[hvs] at h;exact h.but ((But.refl (λk=>k=g3) wr).setCell (p:=⟨g3,2,none⟩) (λ_=>rfl) v) (by have:=HG.o.n3;omega))
     have HB:=ig λ(v:Value)(cs:Array Value)=>(show But (λk=>k=v0.heap.size\/k=g3) wr ((wr.setCell ⟨g3,2,none⟩ v).setRow (w.heap.size+1) cs) from((But.refl (λk=>k=v0.heap.size\/k=g3) wr).setCell (p:=⟨g3,2,none⟩) (λ_=>.inr rfl) v).trans (qS _ _ _) λx _ e=>.inl (by omega))
     have hle:(items.length:Int)<=(j:Int):=by omega
     have HDL:Hid ((D.take items.length).length=items.length):=by show _=_;rw[bi,HG.o.len];omega
     go_wp2_with (refine cu rfl 31 _ _ rfl (w.heap.size+1) _ rfl rfl 31 _ (M1.o _) iq rfl (by simp[Value.oneCell']) ?_)
     refine bU (v:=.agg _) (fh Tryz.results13 _ _ (w.heap.size+1) 31 _ (0,0) _ rfl (cY _ _ _ _ _ _ (M1.o _)) Tryz.underlying31 rfl iq) rfl ?_;refine⟨_,?_,HG2.o.done V0.o (HB.o _ _) (fP HG2.o.n3)⟩;show Ending.returned (Value.agg _)=.returned (Value.agg (Pv.cs _));unfold Pv.cs;dsimp only;rw[HDL.o,<-HN.o]
theorem sO(w:World)(p:Pv)(hR:Pi w p)(hd:p.data.length<=140737488355264)(hi:p.items.length<=1048576)(hs:∀x∈p.items,x.key.length<=140737488355264/\x.val.length<=140737488355264):
 Calls Tryz.prog 13 #[p.vl] w λe w'=>∃q:Pv,e=.returned q.vl/\Sp w w' p q:=by
 obtain⟨kind,level,aI,cI,items,aD,cD,data,next⟩:=p
 exact sG w kind level aI cI items aD cD data next hR hd hi hs
end
section
open Go.RowKit
theorem Du{P M:List Iv}(h:P.map Iv.it=M.map Iv.it){j:Nat}(hj:j<M.length):(P.getD j Iv.zero).it=(M.getD j Iv.zero).it:=by
 have hl:P.length=M.length:=by have:=aY List.length h;simpa using this
 have e:=aY (λl=>l[j]?) h
 simp only[dm] at e;rw[aU (show j<P.length by omega),aU hj] at e
 simp only[gm,aE] at e;rw[aq,aq,aU (show j<P.length by omega),aU hj]
 exact e
theorem yK{P D:List Iv}{j:Nat}(h:j<P.length):(P++D).getD j Iv.zero=P.getD j Iv.zero:=by simp[br h]
theorem rJ{W:World}{a b:Option Addr}{c d:Nat}{l k:List Nat}(e:l=k)(h:Sl W a c l)(hB:Bs W b k):Calls Tryz.prog 70 #[.slice a l.length c,.slice b k.length d] W λe w'=>e=.returned (.bool true)/\Below W.heap.size W w':=by
 subst e;exact Dh W a b c d l h hB
theorem zR{P:List Iv}{n j:Nat}(h:P.length=n)(h1:n<=j)(h2:j<n+2):(P++[mark n,mark (n+1)]).getD j Iv.zero=mark j:=by
 subst h;rcases (show j=P.length\/j=P.length+1 by omega) with rfl|rfl
 all_goals
  simp
theorem uC(w w0:World)(kind level:Int)(aI:Option Addr)(cI:Nat)(items:List Iv)(aD:Option Addr)(cD:Nat)(data:List Nat)(next:Int)(kind2 level2:Int)(g:Nat)(items2:List Iv)(aD2:Option Addr)(cD2:Nat)(data2:List Nat)(next2:Int)
 (hP:Pi w ⟨kind,level,aI,cI,items,aD,cD,data,next⟩) (hQ:Pi w ⟨kind2,level2,some ⟨g,0,none⟩,items.length+2,items2,aD2,cD2,data2,next2⟩) (hS:Sp w0 w ⟨kind,level,aI,cI,items,aD,cD,data,next⟩ ⟨kind2,level2,some ⟨g,0,none⟩,items.length+2,items2,aD2,cD2,data2,next2⟩) (hi:items.length<=1048576):
 Calls Tryz.prog 18 #[.agg #[.int .i64 kind2,.int .i64 level2,.slice (some ⟨g,0,none⟩) items2.length (items.length+2),.slice aD2 data2.length cD2,.int .i64 next2],.agg #[.int .i64 kind,.int .i64 level,.slice aI items.length cI,.slice aD data.length cD,.int .i64 next]] w λe w'=>e=.returned (.bool true)/\Below w.heap.size w w':=by
 have hlen:items2.length=items.length:=hS.len;have hE:=hS.e;have eD:data2=data:=aY Pg.data hE;have eI:items2.map Iv.it=items.map Iv.it:=aY Pg.items hE;have EQ:=ig λw1 (hb:Below w.heap.size w w1)=>lW w1 ⟨kind2,level2,some ⟨g,0,none⟩,items.length+2,items2,aD2,cD2,data2,next2⟩ ⟨kind,level,aI,cI,items,aD,cD,data,next⟩ (hQ.keep hb) (hP.keep hb) hE
 have KD:=ig λw1 (hb:Below w.heap.size w w1)=>rJ (d:=cD) eD ((hS.s.s ⟨aD2,cD2,data2⟩ (by simp[rp])).keep hb) (hP.bd.keep hb)
 have GI:=ig λ(j:Nat)(hj:j<items.length)=>Du eI hj
 have SL:=ig λ(j:Nat)(hj:j<items.length)=>And.intro (hS.s.s ⟨(items2.getD j Iv.zero).aK,(items2.getD j Iv.zero).cK,(items2.getD j Iv.zero).key⟩ (dY _ ((kd (iE (L:=items2) (r:=j) (by omega))).subset (by simp[Iv.rows])))) (hS.s.s ⟨(items2.getD j Iv.zero).aV,(items2.getD j Iv.zero).cV,(items2.getD j Iv.zero).val⟩ (dY _ ((kd (iE (L:=items2) (r:=j) (by omega))).subset (by simp[Iv.rows]))))
 have II:=ig λ(j:Nat)(hj:j<items.length)=>hP.it.1 _ (iE hj)
 have HI:=ig λw1 (hb:Below w.heap.size w w1)(k:Nat)(hk:k<items.length)=>(hP.it.keep hb).at hk
 have JW:=ig (show Jw w (some ⟨g,0,none⟩) (items.length+2) (items2++[mark items.length,mark (items.length+1)]) from by
  obtain⟨g',D,e1,e2,e3,e4,e5⟩:=hS.it;cases e1;rw[e4] at e3;exact e3)
 have W1:=ig (bt (al w (.cells (Pv.cs ⟨kind2,level2,some ⟨g,0,none⟩,items.length+2,items2,aD2,cD2,data2,next2⟩) 31)) (al _ (.cells (Pv.cs ⟨kind,level,aI,cI,items,aD,cD,data,next⟩) 31)))
 have C1:=ig λ(W:World)(hb:Below ((w.alloc (.cells (Pv.cs ⟨kind2,level2,some ⟨g,0,none⟩,items.length+2,items2,aD2,cD2,data2,next2⟩) 31)).alloc (.cells (Pv.cs ⟨kind,level,aI,cI,items,aD,cD,data,next⟩) 31)).heap.size ((w.alloc (.cells (Pv.cs ⟨kind2,level2,some ⟨g,0,none⟩,items.length+2,items2,aD2,cD2,data2,next2⟩) 31)).alloc (.cells (Pv.cs ⟨kind,level,aI,cI,items,aD,cD,data,next⟩) 31)) W)=>And.intro (Bx.page (p:=⟨kind2,level2,some ⟨g,0,none⟩,items.length+2,items2,aD2,cD2,data2,next2⟩) (ik w _ _ hb).1) (Bx.page (p:=⟨kind,level,aI,cI,items,aD,cD,data,next⟩) (ik w _ _ hb).2.1)
 clear hP hQ hS hE eD eI;unfold Pv.vl at EQ;dsimp only[Pv.cs] at *;have MK:=ig (show ∀(W:World)(j:Nat),Below w.heap.size w W->items.length<=j->j<items.length+2->_ from λW j hb h1 h2=>(by have h:=(JW.o.keep hb).item4 (k:=j) (by rw[ae];simp;omega);rw[zR hlen h1 h2] at h;exact h.1))
 have RW:=ig (show ∀(W:World)(j:Nat),Below w.heap.size w W->j<items.length->_ from λW j hb h1=>(by have h:=(JW.o.keep hb).item4 (k:=j) (by rw[ae];omega);rw[yK (by omega)] at h;exact h.1))
 have HAD:=ig (show IntKind.i64.wrap ((items.length:Int)+2)=((items.length+2:Nat):Int) from by rw[iw (by omega) (by omega)];omega)
 generalize hn:items.length+2=n at *;have hn4:n<=1048579:=by omega
 have HN:=ig hn;have HLN:=ig hlen;clear hn hlen;obtain⟨⟨q0,q1,q2,q3,q4⟩,p0,p1,p2,p3,p4⟩:=C1.o _ (Below.refl _ _);go_enter Tryz.func18,Tryz.ntmps18;go_wp2_with fail
 generalize World.alloc (World.alloc _ _) _=v at *;refine(EQ.o _ W1.o).mono ?_;rintro e w1 ⟨rfl,hb1⟩;have V1:=ig hb1;clear hb1 q0 q1 q2 q3 q4 p0 p1 p2 p3 p4 EQ;obtain⟨⟨q0,q1,q2,q3,q4⟩,p0,p1,p2,p3,p4⟩:=C1.o _ V1.o;go_wp2_with fail
 refine(KD.o _ (bt W1.o V1.o)).mono ?_;rintro e w2 ⟨rfl,hb2⟩;have V2:=ig (bt V1.o hb2);clear hb2 q0 q1 q2 q3 q4 p0 p1 p2 p3 p4 KD V1;obtain⟨⟨q0,q1,q2,q3,q4⟩,p0,p1,p2,p3,p4⟩:=C1.o _ V2.o;have hadd:=HAD.o;have HLE:=ig HLN.o;go_wp2;clear hadd q0 q1 q2 q3 q4 p0 p1 p2 p3 p4;go_loopw [6] (λi wx=>∃j:Nat,j<=n/\i=.int .i64 j/\Below v.heap.size v wx) (λi _=>n-(intOf i).toNat)
 case atStart=>exact⟨0,aF _,rfl,V2.o⟩
 case round=>
  obtain⟨j,hj,rfl,hV⟩:=hrel;have VX:=ig hV;clear hV V2;obtain⟨⟨q0,q1,q2,q3,q4⟩,p0,p1,p2,p3,p4⟩:=C1.o _ VX.o;by_cases hlt:j<n
  . have hi1:(j:Int)<(n:Int):=by omega
    have hj1:j+1<=n:=by omega
    by_cases hm:j<items.length
    . have hi2:decide ((items.length:Int)<=(j:Int))=false:=by simp;omega
      have hi3:(j:Int)<(items.length:Int):=by omega
      have hi4:(j:Int)<(items2.length:Int):=by have:=HLE.o;omega
      obtain⟨bI,off,hab,_⟩:=HI.o _ (bt W1.o VX.o) j hm;subst hab
      have SKK:=ig (show ∀W,Below v.heap.size v W->(W.cell? ⟨w.heap.size,2,none⟩=some (.slice (some ⟨g,0,none⟩) items2.length n)/\W.cell? ⟨w.heap.size+1,2,none⟩=some (.slice (some ⟨bI,off,none⟩) items.length cI)/\W.cell? ⟨g,j*4,none⟩=some (.slice (items2.getD j Iv.zero).aK (items2.getD j Iv.zero).key.length (items2.getD j Iv.zero).cK)/\W.cell? ⟨g,j*4+1,none⟩=some (.slice (items2.getD j Iv.zero).aV (items2.getD j Iv.zero).val.length (items2.getD j Iv.zero).cV)/\W.cell? ⟨bI,off+j*4,none⟩=some (.slice (items.getD j Iv.zero).aK (items.getD j Iv.zero).key.length (items.getD j Iv.zero).cK)/\W.cell? ⟨bI,off+j*4+1,none⟩=some (.slice (items.getD j Iv.zero).aV (items.getD j Iv.zero).val.length (items.getD j Iv.zero).cV)) from λW hb=>by
       obtain⟨b',o',e,h⟩:=HI.o W (bt W1.o hb) j hm;cases e;obtain⟨⟨_,_,z2,_,_⟩,_,_,z3,_,_⟩:=C1.o W hb;obtain⟨z4,z5,_,_⟩:=RW.o W j (bt W1.o hb) hm;obtain⟨z6,z7,_,_⟩:=jc h;exact⟨z2,z3,z4,z5,z6,z7⟩)
      have hit:=GI.o j hm;have K1:=ig λ(W:World)(hb:Below v.heap.size v W)=>rJ (d:=(items.getD j Iv.zero).cK) (aY It.key hit) ((SL.o j hm).1.keep (bt W1.o hb)) ((II.o j hm).bk.keep (bt W1.o hb))
      have K2:=ig λ(W:World)(hb:Below v.heap.size v W)=>rJ (d:=(items.getD j Iv.zero).cV) (aY It.val hit) ((SL.o j hm).2.keep (bt W1.o hb)) ((II.o j hm).bv.keep (bt W1.o hb))
      dsimp only[Iv.it] at K1 K2;clear hit SL II GI HI RW MK q0 q1 q2 q3 q4 p0 p1 p3 p4;generalize items.getD j Iv.zero=y at *;generalize items2.getD j Iv.zero=x at *;obtain⟨x1,x2,xk,x3,x4,xv,xc,xz⟩:=x;obtain⟨y1,y2,yk,y3,y4,yv,yc,yz⟩:=y;dsimp only at SKK K1 K2;have BD:=ig (bt VX.o (dr2 wr));have C0:=SKK.o _ BD.o;go_wp2
      go_region_held3 (λw'=>w'.cell? ⟨w.heap.size,2,none⟩=some (.slice (some ⟨g,0,none⟩) items2.length n)/\w'.cell? ⟨w.heap.size+1,2,none⟩=some (.slice (some ⟨bI,off,none⟩) items.length cI)/\w'.cell? ⟨g,j*4,none⟩=some (.slice x1 xk.length x2)/\w'.cell? ⟨g,j*4+1,none⟩=some (.slice x3 xv.length x4)/\w'.cell? ⟨bI,off+j*4,none⟩=some (.slice y1 yk.length y2)/\w'.cell? ⟨bI,off+j*4+1,none⟩=some (.slice y3 yv.length y4))
       (first|with_reducible exact C0|with_reducible exact D1|with_reducible exact D2)
       (first|(go_at_call 70;with_reducible refine(K1.o _ BD.o).mono ?_;rintro e w5 ⟨rfl,hb5⟩;have B5:=ig (bt BD.o hb5);have D1:=SKK.o _ B5.o)|(go_at_call 70;with_reducible refine(K2.o _ B5.o).mono ?_;rintro e w6 ⟨rfl,hb6⟩;have B6:=ig (bt B5.o hb6);have D2:=SKK.o _ B6.o))
      clear C0 D1 D2;go_wp2;go_roundw
      case rel=>exact⟨j+1,hj1,by first|(go_num;done)|exact aY (Value.int IntKind.i64) (by omega),B6.o⟩
      case measure=>first|exact iF _ _ _ rfl hlt|(simp[intOf];omega)
    . have hge:(items.length:Int)<=(j:Int):=by omega
      obtain⟨m0,m1,m2,m3⟩:=MK.o wr j (bt W1.o VX.o) (by omega) (by have:=HN.o;omega)
      unfold mark at m0 m1 m2 m3;dsimp only[bh] at m0 m1 m2 m3;clear q0 q1 q3 q4 p0 p1 p3 p4;go_wp2;go_roundw
      case rel=>exact⟨j+1,hj1,by first|(go_num;done)|exact aY (Value.int IntKind.i64) (by omega),VX.o⟩
      case measure=>first|exact iF _ _ _ rfl hlt|(simp[intOf];omega)
  . obtain rfl:j=n:=by omega
    go_wp2;go_ret;exact⟨rfl,bt W1.o VX.o⟩
theorem tB(w w0:World)(p q:Pv)(hP:Pi w p)(hS:Sp w0 w p q)(hi:p.items.length<=1048576):Calls Tryz.prog 18 #[q.vl,p.vl] w λe w'=>e=.returned (.bool true)/\Below w.heap.size w w':=by
 have hQ:=hS.pi hP hi;obtain⟨kind,level,aI,cI,items,aD,cD,data,next⟩:=p
 obtain⟨kind2,level2,aI2,cI2,items2,aD2,cD2,data2,next2⟩:=q;have hS':=hS;obtain⟨g,D,e1,e2,_⟩:=hS'.it;dsimp only at e1 e2;subst e1 e2;exact uC w w0 kind level aI cI items aD cD data next kind2 level2 g items2 aD2 cD2 data2 next2 hP hQ hS hi
end
section
open Go.RowKit
def mkA(i k:Nat):Nat:=(i*31+k*7+1)%256
def fl(i n:Nat):List Nat:=(List.range n).map (mkA i)
theorem ju(i n:Nat):(fl i n).length=n:=by simp[fl]
theorem wg(i n:Nat):fl i (n+1)=fl i n++[mkA i n]:=by simp[fl,fM]
theorem yy(i n k:Nat)(h:k<n):(fl i n).getD k 0=mkA i k:=by simp[fl,h]
theorem Ch(i n:Nat):∀x∈fl i n,x<256:=by
 intro x hx;obtain⟨k,_,rfl⟩:=bG.1 hx;exact fu _ (by decide)
theorem zY(i k:Nat)(l:List Nat)(h:k<l.length):(fl i k++l.drop k).set k (mkA i k)=fl i (k+1)++l.drop (k+1):=by
 rw[d9 _ _ (by rw[ju];exact ai _),ju,dv,cM h,eY,wg,aR]
 rfl
def mV(w:World)(n:Nat)(A:Nat->Option Addr)(C:Nat->Nat)(G:Nat->List Nat):Prop:=∀i,i<n->Rw w (A i) (C i) (G i)
def xg(n:Nat)(A:Nat->Option Addr):Prop:=∀i j,i<n->j<n->i≠j->∀x y,A i=some x->A j=some y->x.block≠y.block
def oP(n:Nat)(A:Nat->Option Addr)(k:Nat):Prop:=∃i,i<n/\∃x,A i=some x/\x.block=k
theorem mV.congr{w:World}{n:Nat}{A:Nat->Option Addr}{C:Nat->Nat}{G G':Nat->List Nat}(h:mV w n A C G)(e:∀i,i<n->G i=G' i):mV w n A C G':=λi hi=>by rw[<-e i hi];exact h i hi
theorem mV.set{w:World}{n:Nat}{A:Nat->Option Addr}{C:Nat->Nat}{G:Nat->List Nat}(h:mV w n A C G)(hd:xg n A){j g:Nat}(hj:j<n)(hA:A j=some ⟨g,0,none⟩)(k v:Nat):
 mV (w.setCell ⟨g,k,none⟩ (.int .u8 ((v:Nat):Int))) n A C (λi=>if i=j then (G j).set k v else G i):=by
 intro i hi;by_cases e:i=j
 . subst e;dsimp only;rw[if_pos rfl,hA];have:=h i hi;rw[hA] at this;exact this.set k v
 . dsimp only;rw[if_neg e];exact(h i hi).but (But.cell1 w g k _) λx hx=>hd i j hi hj e x _ hx hA
def P2(w wx:World)(n:Nat)(A:Nat->Option Addr)(C:Nat->Nat)(N:Nat->Nat)(j:Nat)(ag:Option Addr)(cg:Nat)(B:Nat->Option Addr)(D:Nat->Nat):Prop:=
 Ar wx ag cg ((List.range j).map λi=>Value.slice (B i) (N i+20) (D i))/\
 (∀i,i<j->Rw wx (B i) (D i) (fl i (N i+20))/\Bs wx (A i) (fl i (N i))/\New w (A i) (B i))/\
 (∀i,j<=i->i<n->Rw wx (A i) (C i) (fl i (N i)))/\
 (∀i i',i<i'->i'<j->∀x y,B i=some x->B i'=some y->x.block≠y.block)/\
 But (oP n A) w wx/\New w none ag
theorem nY{w w2:World}{a:Option Addr}(h:w.grownBy w2 (a.map Addr.block)):But (λq=>∃x,a=some x/\x.block=q) w w2:=
 (But.refl _ _).grown h λ_ hk _=>map_some hk
theorem P2.next{w wx w3 wr:World}{n:Nat}{A:Nat->Option Addr}{C N:Nat->Nat}{j:Nat}{ag ag' gj:Option Addr}{cg cg' cj:Nat}{B:Nat->Option Addr}{D:Nat->Nat}{o:Obj}
 (hd:xg n A) (hA0:∀i,i<n->∀x,A i=some x->x.block<w.heap.size) (hj:j<n) (h:P2 w wr n A C N j ag cg B D) (hin:But (λq=>∃x,A j=some x/\x.block=q) wr wx)
 (hRg:Rw wx gj cj (fl j (N j+20))) (hBs:Bs wx (A j) (fl j (N j))) (hgj:gj=A j\/∀x,gj=some x->wr.heap.size<=x.block)
 (hAr:Ar w3 ag' cg' (((List.range j).map λi=>Value.slice (B i) (N i+20) (D i))++[.slice gj (N j+20) cj])) (hN:New (wx.alloc o) ag ag') (hg:(wx.alloc o).grownBy w3 (ag.map Addr.block)):
 P2 w w3 n A C N (j+1) ag' cg' (λi=>if i=j then gj else B i) (λi=>if i=j then cj else D i):=by
 obtain⟨h1,h2,h3,h4,h5,h6⟩:=h;have hsz:=h5.size;have hsz2:=hin.size;have hagx:Ar wx ag cg ((List.range j).map λi=>Value.slice (B i) (N i+20) (D i)):=h1.but hin λx hx ⟨y,hy,e⟩=>h1.ne (h3 j (ai _) hj) hx hy e.symm
 have step:But (λq=>∃x,ag=some x/\x.block=q) wx w3:=((But.refl _ wx).alloc o).trans (nY hg) λ_ _ h=>h
 have row:∀{a c l},Rw wx a c l->Rw w3 a c l:=λhr=>hr.but step λx hx ⟨y,hy,e⟩=>hagx.ne hr hy hx e
 have bs:∀{a:Option Addr}{l:List Nat},Bs wx a l->(∀x,a=some x->x.block<w.heap.size)->Bs w3 a l:=λhb hlt=>hb.but step λx hx _ ⟨y,hy,e⟩=>by
  have h7:=hlt x hx;rcases h6 y hy with⟨z,hz,_⟩|h8
  . cases hz
  . omega
 have hBold:∀i,i<j->∀x,B i=some x->¬ ∃y,A j=some y/\y.block=x.block:=by
  rintro i hi x hx ⟨y,hy,e⟩;rcases (h2 i hi).2.2 x hx with⟨z,hz,e2⟩|h7
  . exact hd i j (by omega) hj (by omega) z y hz hy (e2.trans e.symm)
  . have:=hA0 j hj y hy;omega
 refine⟨?_,?_,?_,?_,?_,?_⟩
 . rw[fM,bL]
   have e:((List.range j).map λi=>Value.slice (if i=j then gj else B i) (N i+20) (if i=j then cj else D i))=(List.range j).map λi=>Value.slice (B i) (N i+20) (D i):=by
    apply List.map_congr_left;intro i hi;have:=cQ.1 hi;simp[show i≠j by omega]
   rw[e];simpa using hAr
 . intro i hi;by_cases e:i=j
   . subst e;dsimp only;rw[if_pos rfl,if_pos rfl];refine⟨row hRg,bs hBs (hA0 i hj),?_⟩;intro x hx;rcases hgj with h7|h7
     . exact .inl ⟨x,by rw[<-h7];exact hx,rfl⟩
     . exact .inr (by have:=h7 x hx;omega)
   . dsimp only;rw[if_neg e,if_neg e];obtain⟨k1,k2,k3⟩:=h2 i (by omega)
     refine⟨row (k1.but hin λx hx=>hBold i (by omega) x hx),bs (k2.but hin λx hx _ ⟨y,hy,e2⟩=>hd i j (by omega) hj e x y hx hy e2.symm) (hA0 i (by omega)),k3⟩
 . intro i hi hin';exact row ((h3 i (by omega) hin').but hin λx hx ⟨y,hy,e2⟩=>hd i j hin' hj (by omega) x y hx hy e2.symm)
 . intro i i' hii hi' x y hx hy;dsimp only at hx hy;rw[if_neg (by omega)] at hx
   by_cases e:i'=j
   . rw[if_pos e] at hy;subst e;rcases hgj with h7|h7
     . rw[h7] at hy;exact λe2=>hBold i hii x hx ⟨y,hy,e2.symm⟩
     . have h8:=h7 y hy;have h9:=(h2 i hii).1.lt hx;omega
   . rw[if_neg e] at hy;exact h4 i i' hii (by omega) x y hx hy
 . refine(h5.trans hin λx _ ⟨y,hy,e⟩=>⟨j,hj,y,hy,e⟩).trans step ?_
   rintro x hx ⟨y,hy,e⟩;rcases h6 y hy with⟨z,hz,_⟩|h8
   . cases hz
   . omega
 . exact h6.trans hN (by rw[size_alloc];omega)
theorem xV{wr wx w2:World}{aj gj:Option Addr}{g:Nat}{cap':Nat}{l m:List Nat}{x:Nat}{o:Obj}(hlt:∀y,aj=some y->y.block<wr.heap.size)(hb8:∀z∈l++m++[x],z<256)(hlen:l.length<=9223372036854775807)
 (hin:But (λq=>∃y,aj=some y/\y.block=q) wr wx) (hBs:Bs wx aj l) (hgj:gj=aj\/∀y,gj=some y->wr.heap.size<=y.block)
 (hR:Rw w2 (some ⟨g,0,none⟩) cap' (l++m++[x])) (hg:(wx.alloc o).grownBy w2 (gj.map Addr.block)) (hc:gj=some ⟨g,0,none⟩\/(wx.alloc o).heap.size<=g/\Below (wx.alloc o).heap.size (wx.alloc o) w2):
 But (λq=>∃y,aj=some y/\y.block=q) wr w2/\Bs w2 aj l/\(some ⟨g,0,none⟩=aj\/∀y,some (⟨g,0,none⟩:Addr)=some y->wr.heap.size<=y.block):=by
 have hsz:=hin.size;refine⟨?_,?_,?_⟩
 . refine(hin.alloc o).trans (nY hg) ?_;rintro q hq ⟨y,hy,e⟩;rcases hgj with h|h
   . exact⟨y,by rw[<-h];exact hy,e⟩
   . have:=h y hy;omega
 . rcases hc with hc|⟨_,hb⟩
   . rcases hgj with h|h
     . rw[<-h,hc];rw[aR] at hR hb8;rcases hR.front with h7|h7
       . exact h7.bs (λz hz=>hb8 z (fZ _ hz)) hlen
       . cases h7
     . refine(hBs.keep ((Below.refl _ _).alloc (ai _) o)).but (nY hg) ?_;rintro y hy _ ⟨z,hz,e⟩;have h8:=h z hz;have h9:=hlt y hy;omega
   . exact(hBs.keep ((Below.refl _ _).alloc (ai _) o)).keep hb
 . rcases hc with hc|⟨hc,_⟩
   . rw[<-hc];rcases hgj with h|h
     . exact .inl h
     . exact .inr h
   . refine .inr λy hy=>?_
     simp only[aE] at hy;subst hy;rw[size_alloc] at hc;show _<=g;omega
set_option maxRecDepth 100000 in
theorem x7(w:World)(at':Option Addr)(ct n:Nat)(A:Nat->Option Addr)(C:Nat->Nat)(L:Nat->List Nat)(hAr:Ar w at' ct ((List.range n).map λi=>Value.slice (A i) (L i).length (C i)))(hR:mV w n A C L)(hd:xg n A)(hn:n<=2932031007410)(hl:∀i,i<n->(L i).length+20<=140737488355328):
 Calls Tryz.prog 30 #[.slice at' n ct] w λx w'=>x=.returned (.bool true)/\But (oP n A) w w':=by
 have HA:=ig hAr;have HR:=ig hR;have HD:=ig hd;have HL:=ig hl
 have arr:∀wx,But (oP n A) w wx->∀i,i<n->∃g,at'=some ⟨g,0,none⟩/\wx.cell? ⟨g,i,none⟩=some (.slice (A i) (L i).length (C i)):=by
  intro wx hb i hi;refine(HA.o.but hb ?_).cell (by simp[hi])
  rintro x hx ⟨q,hq,y,hy,e⟩;exact HA.o.ne (HR.o q hq) hx hy e.symm
 have ARR:=ig arr;clear hAr hR hd hl arr;go_enter Tryz.func30,Tryz.ntmps30;go_wp2;go_loopw [3,4] (λi _ wx=>∃j:Nat,j<=n/\i=.int .i64 j/\(mV wx n A C (λi=>if i<j then fl i (L i).length else L i)/\But (oP n A) w wx)) (λi _ _=>n-(intOf i).toNat)
 case atStart=>exact⟨0,aF _,rfl,HR.o.congr λi _=>by simp,But.refl _ _⟩
 case round=>
  obtain⟨j,hj,rfl,hG⟩:=hrel;have HG:=ig hG;clear hG;by_cases hlt:j<n
  . have hi:(j:Int)<(n:Int):=by omega
    obtain⟨bt',hat,hc⟩:=ARR.o wr HG.o.2 j hlt;subst hat;have hlj:=HL.o j hlt;go_wp2;go_loopw [4] (λk' wx=>∃k:Nat,k<=(L j).length/\k'=.int .i64 k/\(mV wx n A C (λi=>if i<j then fl i (L i).length else if i=j then fl j k++(L j).drop k else L i)/\But (oP n A) w wx)) (λk' _=>(L j).length-(intOf k').toNat)
    case atStart=>
     refine⟨0,aF _,rfl,HG.o.1.congr λi _=>?_,HG.o.2⟩
     by_cases e:i=j
     . subst e;simp[fl]
     . simp[e]
    case round=>
     clear hc;obtain⟨k,hk,rfl,hG2⟩:=hrel;have HG2:=ig hG2;clear hG2;obtain⟨b2,e2,hc⟩:=ARR.o wr HG2.o.2 j hlt;simp only[aE,Addr.mk.injEq] at e2;obtain⟨rfl,_⟩:=e2;by_cases hlk:k<(L j).length
     . have hik:(k:Int)<((L j).length:Int):=by omega
       have hrow:=HG2.o.1 j hlt;simp only[em,if_false,if_true] at hrow;have hrl:(fl j k++(L j).drop k).length=(L j).length:=by rw[ae,ju,di];omega
       obtain⟨g,hAj,_,_⟩:=hrow.addr2 (by rw[hrl];omega)
       rw[hAj] at hc hrow;have hcg:=hrow.cell (i:=k) (by rw[hrl];exact hlk)
       have hfg:wr.frozen? ⟨g,k,none⟩=false:=by
        rcases hrow.cases with⟨h0,_⟩|⟨g',cur,h0,hg',_⟩
        . cases h0
        . simp only[aE,Addr.mk.injEq] at h0;obtain⟨rfl,_⟩:=h0;exact bq wr g k _ _ hg'
       have hmk:((j:Int)*31+(k:Int)*7+1)%256=((mkA j k:Nat):Int):=by unfold mkA;omega
       have HSS:=ig (zY j k (L j) hlk);have HAJ:=ig hAj;clear hAj hrow hrl;generalize hx:(fl j k++(L j).drop k).getD k 0=x at *;clear hx;generalize mkA j k=mm at *;go_wp2;go_roundw
       case rel=>
        refine⟨k+1,by omega,by go_num,(HG2.o.1.set HD.o hlt HAJ.o k mm).congr λi hi=>?_,HG2.o.2.setCell (p:=⟨g,k,none⟩) (λ_=>⟨j,hlt,_,HAJ.o,rfl⟩) _⟩
        by_cases e:i=j
        . subst e;simp only[if_true,em,if_false];exact HSS.o
        . simp only[e,if_false]
       case measure=>simp[intOf];omega
     . obtain rfl:k=(L j).length:=by omega
       go_wp2;go_roundw
       case rel=>
        refine⟨j+1,by omega,by go_num,HG2.o.1.congr λi hi=>?_,HG2.o.2⟩
        by_cases e:i=j
        . subst e;simp
        . by_cases e2:i<j
          . rw[if_pos e2,if_pos (by omega)]
          . rw[if_neg e2,if_neg e,if_neg (by omega)]
       case measure=>simp[intOf];omega
  . obtain rfl:n=j:=by omega
    have hA0:∀i,i<n->∀x,A i=some x->x.block<w.heap.size:=λi hi x hx=>(HR.o i hi).lt hx
    have HA0:=ig hA0;have H1:Hid (P2 w wr n A C (λi=>(L i).length) 0 none 0 (λ_=>none) (λ_=>0)):=⟨Ar.nil _,λi hi=>by omega,λi _ hi=>by have:=HG.o.1 i hi;dsimp only at this;rwa [if_pos hi] at this,λi i' _ hi'=>by omega,HG.o.2,New.none _ _⟩
    clear hA0 HG;go_wp2;go_loopw [5,6,7,8] (λgr i _ _ wx=>∃(j:Nat)(ag:Option Addr)(cg:Nat)(B:Nat->Option Addr)(D:Nat->Nat),j<=n/\i=.int .i64 j/\gr=.slice ag j cg/\P2 w wx n A C (λi=>(L i).length) j ag cg B D) (λ_ i _ _ _=>n-(intOf i).toNat)
    case atStart=>exact⟨0,none,0,_,_,aF _,rfl,rfl,H1.o⟩
    case round=>
     clear H1;obtain⟨j,ag,cg,B,D,hj,rfl,rfl,hP⟩:=hrel;have HP:=ig hP;clear hP;by_cases hlt:j<n
     . have hi:(j:Int)<(n:Int):=by omega
       have hlj:=HL.o j hlt;obtain⟨bt',hat,hc⟩:=ARR.o wr HP.o.2.2.2.2.1 j hlt;subst hat;have hrow0:=HP.o.2.2.1 j (ai _) hlt;have HROW0:=ig hrow0;have HBS0:=ig (hrow0.bs (Ch _ _) hrow0.len_le);have HLTJ:Hid (∀y,A j=some y->y.block<wr.heap.size):=λy hy=>hrow0.lt hy
       have HARW:Hid (∀wx,But (λq=>∃y,A j=some y/\y.block=q) wr wx->wx.cell? ⟨bt',j,none⟩=some (.slice (A j) (L j).length (C j))):=λwx hb=>by
        obtain⟨b2,e2,h2⟩:=ARR.o wx (HP.o.2.2.2.2.1.trans hb λx _ ⟨y,hy,e⟩=>⟨j,hlt,y,hy,e⟩) j hlt
        simp only[aE,Addr.mk.injEq] at e2;obtain⟨rfl,_⟩:=e2;exact h2
       clear hrow0;go_wp2;generalize hW:wr=W at *;go_loopw [7,8] (λgv k' wx=>∃(k:Nat)(gj:Option Addr)(cj:Nat),k<=20/\k'=.int .i64 k/\gv=.slice gj ((L j).length+k) cj/\(Rw wx gj cj (fl j ((L j).length+k))/\(But (λq=>∃y,A j=some y/\y.block=q) W wx/\Bs wx (A j) (fl j (L j).length)/\(gj=A j\/∀y,gj=some y->W.heap.size<=y.block)))) (λ_ k' _=>20-(intOf k').toNat)
       case atStart=>exact⟨0,A j,C j,by decide,rfl,rfl,HROW0.o,But.refl _ _,HBS0.o,.inl rfl⟩
       case round=>
        clear hc;obtain⟨k,gj,cj,hk,rfl,rfl,hG⟩:=hrel;have HG:=ig hG;clear hG;by_cases hlk:k<20
        . have hik:(k:Int)<20:=by omega
          have hc:=HARW.o wr HG.o.2.1;have hbt:=block_lt_of_cell hc;have hmk:((j:Int)*31+(((L j).length:Int)+(k:Int))*7+1)%256=((mkA j ((L j).length+k):Nat):Int):=by unfold mkA;omega
          have HS:Hid (fl j ((L j).length+k)++[mkA j ((L j).length+k)]=fl j ((L j).length+(k+1))):=(wg j ((L j).length+k)).symm
          have HSP:Hid (∃m,fl j ((L j).length+k)=fl j (L j).length++m):=⟨(fl j ((L j).length+k)).drop (L j).length,by
           have e:(fl j ((L j).length+k)).take (L j).length=fl j (L j).length:=by simp[fl,<-List.map_take,List.take_range]
           rw[<-e];exact(cR _ _).symm⟩
          have HM8:Hid (mkA j ((L j).length+k)<256):=fu _ (by decide)
          have HF8:=ig (Ch j ((L j).length+k));have hz:=ju j ((L j).length+k);have hzn:=ju j (L j).length;generalize mkA j ((L j).length+k)=mm at *;generalize fl j ((L j).length+k)=FL at *;go_wp2_with (at_builtin;refine uY rfl _ _ rfl gj ((L j).length+k) cj FL ?q1 hz.symm (HG.o.1.keep ((Below.refl _ _).alloc (ai _) _)) ⟨wr.heap.size,0,none⟩ 1 mm ?q2 ?q3 (by omega) ?_)
          try case q1=>rfl
          try case q2=>rfl
          try case q3=>simp
          intro g cap' w2 hR hN hg hcase;obtain⟨m,hm⟩:=HSP.o;have hst:=xV (m:=m) (x:=mm) HLTJ.o (by rw[<-hm];intro z hz';rcases bm.1 hz' with h|h;exact HF8.o z h;rw[aQ] at h;have:=HM8.o;omega) (by omega) HG.o.2.1 HG.o.2.2.1 HG.o.2.2.2 (by rw[<-hm];exact hR) hg (by rw[size_alloc];exact hcase)
          rw[HS.o] at hR;have HR2:=ig hR;have HST:=ig hst;clear hR hN hg hcase hst hm;go_wp2;go_roundw
          case rel=>exact⟨k+1,_,cap',by omega,by go_num,rfl,HR2.o,HST.o⟩
          case measure=>simp[intOf];omega
        . obtain rfl:k=20:=by omega
          have hAgx:Ar wr ag cg ((List.range j).map λi=>Value.slice (B i) ((L i).length+20) (D i)):=HP.o.1.but HG.o.2.1 λx hx ⟨y,hy,e⟩=>HP.o.1.ne HROW0.o hx hy e.symm
          have hvl:((List.range j).map λi=>Value.slice (B i) ((L i).length+20) (D i)).length=j:=by simp
          have HAG:=ig hAgx
          have HNX:Hid (∀w3 ag' cg' o,Ar w3 ag' cg' (((List.range j).map λi=>Value.slice (B i) ((L i).length+20) (D i))++[.slice gj ((L j).length+20) cj])->New (wr.alloc o) ag ag'->(wr.alloc o).grownBy w3 (ag.map Addr.block)->P2 w w3 n A C (λi=>(L i).length) (j+1) ag' cg' (λi=>if i=j then gj else B i) (λi=>if i=j then cj else D i)):=
           λw3 ag' cg' o h1 h2 h3=>HP.o.next HD.o HA0.o hlt HG.o.2.1 HG.o.1 HG.o.2.2.1 HG.o.2.2.2 h1 h2 h3
          clear hAgx;generalize ((List.range j).map λi=>Value.slice (B i) ((L i).length+20) (D i))=vs at*
          go_wp2_with (at_builtin;refine sM rfl _ _ rfl ag j cg vs ?r1 hvl.symm (HAG.o.keep ((Below.refl _ _).alloc (ai _) _)) ⟨wr.heap.size,0,none⟩ 1 (.slice gj ((L j).length+20) cj) ?r2 ?r3 rfl (by omega) ?_)
          try case r1=>rfl
          try case r2=>rfl
          try case r3=>simp
          intro g cap' w2 hR hN hg;have HQ:=ig (HNX.o w2 _ cap' _ hR hN hg);clear hR hN hg;go_wp2;go_roundw
          case rel=>exact⟨j+1,_,cap',_,_,by omega,by go_num,rfl,HQ.o⟩
          case measure=>simp[intOf];omega
     . obtain rfl:n=j:=by omega
       go_wp2;generalize hW:wr=W at *;go_loopw [9,10,11] (λi _ _ wx=>∃j:Nat,j<=n/\i=.int .i64 j/\wx=W) (λi _ _ _=>n-(intOf i).toNat)
       case atStart=>exact⟨0,aF _,rfl,rfl⟩
       case round=>
        obtain⟨j,hj,rfl,hwW⟩:=hrel;subst hwW;by_cases hlt:j<n
        . have hi:(j:Int)<(n:Int):=by omega
          have hlj:=HL.o j hlt;obtain⟨bt',hat,hc⟩:=ARR.o _ HP.o.2.2.2.2.1 j hlt;obtain⟨gg,hag,hcg⟩:=HP.o.1.cell (i:=j) (v:=.slice (B j) ((L j).length+20) (D j)) (by simp[hlt])
          subst hat hag;obtain⟨hrow,hbs,_⟩:=HP.o.2.1 j hlt;obtain⟨g,hBj,hle,hmx⟩:=hrow.addr2 (by rw[ju];omega)
          rw[hBj] at hcg hrow;have HROW:=ig hrow;have HBS:=ig hbs;clear hrow hbs hBj;unfold maxLen at hmx;rw[ju] at hle;go_wp2;go_loopw [10,11] (λk' _ wx=>∃k:Nat,k<=(L j).length+20/\k'=.int .i64 k/\wx=wr) (λk' _ _=>(L j).length+20-(intOf k').toNat)
          case atStart=>exact⟨0,aF _,rfl,rfl⟩
          case round=>
           obtain⟨k,hk,rfl,hwW⟩:=hrel;subst hwW;by_cases hlk:k<(L j).length+20
           . have hik:(k:Int)<((L j).length:Int)+20:=by omega
             have hcell:=HROW.o.cell (i:=k) (by rw[ju];exact hlk)
             rw[yy j _ k hlk] at hcell;have hmk:((j:Int)*31+(k:Int)*7+1)%256=((mkA j k:Nat):Int):=by unfold mkA;omega
             by_cases hkl:k<(L j).length
             . have hkl2:(k:Int)<((L j).length:Int):=by omega
               obtain⟨ba,oa,hAj,hca⟩:=HBS.o.at (j:=k) (by rw[ju];exact hkl)
               rw[yy j _ k hkl] at hca;rw[hAj] at hc;generalize mkA j k=mm at *;go_wp2;go_roundw
               case rel=>exact⟨k+1,by omega,by go_num,trivial⟩
               case measure=>simp[intOf];omega
             . have hkl2:¬(k:Int)<((L j).length:Int):=by omega
               generalize mkA j k=mm at *;go_wp2;go_roundw
               case rel=>exact⟨k+1,by omega,by go_num,trivial⟩
               case measure=>simp[intOf];omega
           . obtain rfl:k=(L j).length+20:=by omega
             go_wp2;go_roundw
             case rel=>exact⟨j+1,by omega,by go_num,trivial⟩
             case measure=>simp[intOf];omega
        . obtain rfl:n=j:=by omega
          go_wp2;go_ret;exact⟨rfl,HP.o.2.2.2.2.1⟩
end
section
open Go.RowKit
end
section
open Go.RowKit
end
section
open Go.RowKit
end
section
open Go.RowKit
theorem Sp.pre{w w0 W:World}{p q:Pv}(hb:Below w.heap.size w w0)(h:Sp w0 W p q):Sp w W p q:=by
 obtain⟨g,D,e1,e2,e3,e4,e5⟩:=h.it;exact⟨h.e,Sf.pre hb h.s,⟨g,D,e1,e2,e3,e4,by have:=hb.size;omega⟩,bt hb h.b⟩
theorem jZ(w:World)(r:Pv)(hR:Pi w r)(hd:r.data.length<=140737488355264)(hi:r.items.length<=1048576)(hs:∀x∈r.items,x.key.length<=140737488355264/\x.val.length<=140737488355264):
 Calls Tryz.prog 14 #[r.vl] w λe w'=>∃q:Pv,e=.returned q.vl/\Pn w w' q/\q.items.length=r.items.length/\q.pg=r.pg/\Below w.heap.size w w':=by
 have S1:=ig λw1 (hb:Below w.heap.size w w1)=>nH w1 r.aI r.items.length r.cI r.items (hR.it.keep hb) rfl hi hs
 have S2:=ig λw1 (hb:Below w.heap.size w w1)=>kE w1 r.aD r.data.length r.cD r.data (hR.bd.keep hb) rfl hd
 have L8:=ig hR.bd.1;have NK:=ig (And.intro hR.nk (And.intro hR.nl hR.nn));clear hR;unfold Pv.vl;obtain⟨kind,level,aI,cI,items,aD,cD,data,next⟩:=r
 have IT:=ig λ(W:World)(h:W.heap[w.heap.size]?=some (.cells (Pv.cs ⟨kind,level,aI,cI,items,aD,cD,data,next⟩) 31))=>Bx.page (p:=⟨kind,level,aI,cI,items,aD,cD,data,next⟩) h
 have IS:=ig λ(W:World)(h:W.heap[w.heap.size]?=some (.cells (Pv.cs ⟨kind,level,aI,cI,items,aD,cD,data,next⟩) 31))(a b c d f:Value)=>Bx.page (p:=⟨kind,level,aI,cI,items,aD,cD,data,next⟩) ((show Bx W 31 w.heap.size _ from h).but (kF (w.heap.size+1) W a b c d f) (by omega))
 have TZ:=ig λ(W:World)(h:W.heap[w.heap.size+1]?=some (.cells (Pv.cs Pv.zero) 31))=>And.intro (Bx.page (p:=Pv.zero) h) (fr4 (show Bx W 31 (w.heap.size+1) _ from h))
 have TM:=ig λ(W:World)(h:W.heap[w.heap.size+1]?=some (.cells (Pv.cs Pv.zero) 31))(a b c d f:Value)=>o7 (show Bx W 31 (w.heap.size+1) _ from h) a b c d f
 dsimp only[Pv.cs,Pv.zero,bh] at *;go_enter Tryz.func14,Tryz.ntmps14;go_wp2;have T0:Hid (Below ((w.alloc (.cells #[.int .i64 kind,.int .i64 level,.slice aI items.length cI,.slice aD data.length cD,.int .i64 next] 31)).alloc (.cells #[.int .i64 0,.int .i64 0,.slice none 0 0,.slice none 0 0,.int .i64 0] 31)).heap.size ((w.alloc (.cells #[.int .i64 kind,.int .i64 level,.slice aI items.length cI,.slice aD data.length cD,.int .i64 next] 31)).alloc (.cells #[.int .i64 0,.int .i64 0,.slice none 0 0,.slice none 0 0,.int .i64 0] 31)) ((w.alloc (.cells #[.int .i64 kind,.int .i64 level,.slice aI items.length cI,.slice aD data.length cD,.int .i64 next] 31)).alloc (.cells #[.int .i64 0,.int .i64 0,.slice none 0 0,.slice none 0 0,.int .i64 0] 31)).drew):=(Below.refl _ _).drew
 have C0:=IT.o _ (ik w _ _ T0.o).1;have hn:w.heap.size+1≠w.heap.size:=by omega
 go_region_held3 (λw'=>w'.cell? ⟨w.heap.size,0,none⟩=some (.int .i64 kind)/\w'.cell? ⟨w.heap.size,1,none⟩=some (.int .i64 level)/\w'.cell? ⟨w.heap.size,2,none⟩=some (.slice aI items.length cI)/\w'.cell? ⟨w.heap.size,3,none⟩=some (.slice aD data.length cD)/\w'.cell? ⟨w.heap.size,4,none⟩=some (.int .i64 next))
  (first|with_reducible exact C0|with_reducible exact IS.o _ (ik w _ _ T0.o).1 _ _ _ _ _)
  (first|(go_at_call 63;with_reducible refine(S1.o _ (ik w _ _ T0.o).2.2.1).mono ?_;rintro e w1 ⟨g1,d1,M,rfl,o1⟩;have hb1:=o1.j.b;have S0:=ig (aO (aO (eb _) (eb _)) (ik w _ _ T0.o).2.2.2);have RL:=ig (λt (ht:t∈iB M) x (hx:t.a=some x)=>(o1.f.own t ht).1.r.lt hx);have T0:=ig (bt T0.o hb1);have C0:=IT.o _ (ik w _ _ T0.o).1;have R1:=ig o1;clear hb1 o1)|(go_at_call 64;with_reducible refine(S2.o _ (ik w _ _ T0.o).2.2.1).mono ?_;rintro e w2 ⟨g2,d2,rfl,o2⟩;have hb2:=o2.b;have S1':=ig (aO S0.o R1.o.j.b.size);have RF:=ig (λy (hy:g2=some y)=>o2.fresh hy);have T0:=ig (bt T0.o hb2);have C0:=IT.o _ (ik w _ _ T0.o).1;obtain⟨⟨y0,y1,y2,y3,y4⟩,f0,f1,f2,f3,f4⟩:=TZ.o _ (ik w _ _ T0.o).2.1;have R1:=ig (R1.o.keep hb2);have R2:=ig o2.r;clear hb2 o2))
 clear C0;have M1:=ig (TM.o _ (ik w _ _ T0.o).2.1 (.int .i64 kind) (.int .i64 level) (.slice g1 items.length d1) (.slice g2 data.length d2) (.int .i64 next))
 have BB:=ig (kF (w.heap.size+1) w2 (.int .i64 kind) (.int .i64 level) (.slice g1 items.length d1) (.slice g2 data.length d2) (.int .i64 next))
 have TB:=ig (ik w _ _ T0.o).2.2.1;have X1:Hid (Bx w2 31 (w.heap.size+1) _):=(ik w _ _ T0.o).2.1;clear y0 y1 y2 y3 y4 f0 f1 f2 f3 f4 T0;go_wp2;refine bU (v:=.agg _) (fh Tryz.results14 _ _ (w.heap.size+1) 31 _ (0,0) _ rfl M1.o Tryz.underlying31 rfl iq) rfl ?_;have bel:Below w.heap.size w _:=((But.ofBelow (S:=λk=>k=w.heap.size+1) TB.o).trans BB.o λ_ _ e=>e).below λk hk e=>by omega
 have r2:=R2.o.but BB.o λx hx e=>R2.o.nty X1.o (by decide) hx e
 have j2:=R1.o.j.r.but BB.o λx hx e=>R1.o.j.r.nty X1.o (by decide) hx e
 have hml:=R1.o.len;have hrw:∀{a c l},Rw w2 a c l->Rw _ a c l:=λhr=>hr.but BB.o λx hx e=>hr.nty X1.o (by decide) hx e
 refine⟨⟨kind,level,g1,d1,M,g2,d2,data,next⟩,by rw[<-hml],⟨j2,R1.o.j.n.mono S0.o,r2,λy hy=>.inr (by have h1:=RF.o y hy;have h2:=S1'.o;omega),λt ht=>?_,?_,L8.o,R1.o.n,NK.o.1,NK.o.2.1,NK.o.2.2⟩,hml,?_,bel⟩
 . obtain⟨o,o8⟩:=R1.o.f.own t ht;exact⟨hrw o.r,o.n.mono S0.o,o8⟩
 . refine cH.2 ⟨λt ht x y hx hy e=>?_,R1.o.f.dist⟩
   have h1:=RF.o x hx;have h2:=RL.o t ht y hy;omega
 unfold Pv.pg;dsimp only;rw[R1.o.e]
end
end Go.Proofs.YtbdkogimlbnlmaaGreat
