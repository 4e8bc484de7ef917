import Derived.Test.YtcpkinhneehomaaGreatWqB15
import Derived.Test.YtcpkinhneehomaaGreatWqB16
import Derived.Defers
import Derived.Recover
import Derived.Lib.SlBytesConst
import Derived.ProofKit
import Derived.OpenShut
import Derived.ShutString
import Derived.ChangeOld
import Derived.Deep.Slices
import Derived.SizedLaws
import Derived.JoinedCond
import Derived.Deep.CutRange
set_option linter.unusedVariables false
set_option linter.unusedSimpArgs false
set_option maxHeartbeats 8000000
set_option maxRecDepth 8000
namespace Go.Proofs.YtcpkinhneehomaaGreat
section
open Go.RowKit
variable {T:TypeId} {w w':World} {b:Nat} {a:Option Addr} {cap:Nat}
theorem But.cell1(w:World)(b i:Nat)(u:Value):But (fun k=>k=b) w (w.setCell ⟨b,i,none⟩ u):=(But.refl (fun k=>k=b) w).setCell (p:=⟨b,i,none⟩) (fun _=>rfl) u
end
section
open Go.RowKit
variable {w w':World} {b:Nat} {a:Option Addr} {cap:Nat} {s:RS}
end
section
open Go.RowKit
variable {v w:World} {G:Nat->Prop} {b:Nat} {l:List Nat}
end
section
open Go.RowKit
variable {v w w':World} {b:Nat} {s s':RS}
end
section
open Go.RowKit
theorem bx2(w:World)(t1 t2:TypeId)(c1 c2:Array Value):Bx ((w.alloc (.cells c1 t1)).alloc (.cells c2 t2)) t1 w.heap.size c1/\Bx ((w.alloc (.cells c1 t1)).alloc (.cells c2 t2)) t2 (w.heap.size+1) c2:=by
 refine⟨(Bx.new w t1 c1).keep (al _ _),?_⟩;have:=Bx.new (w.alloc (.cells c1 t1)) t2 c2;rwa [size_alloc] at this
end
section
open Go.RowKit
structure Jo(w w':World)(x:Iv):Prop where
 k:Rw w' x.aK x.cK x.key
 kn:New w none x.aK
 v:Rw w' x.aV x.cV x.val
 vn:New w none x.aV
 ap:∀p q,x.aK=some p->x.aV=some q->p.block≠q.block
 k8:B8 x.key
 v8:B8 x.val
 nc:N64 x.child
 ns:N64 x.size
theorem Bx.setc{w:World}{t:TypeId}{g:Nat}{cs:Array Value}(h:Bx w t g cs)(i:Nat)(u:Value):Bx (w.setCell ⟨g,i,none⟩ u) t g (cs.setIfInBounds i u):=heap_setCell_same w g i _ _ _ h
theorem Rw.nty{w:World}{a:Option Addr}{c:Nat}{l:List Nat}(h:Rw w a c l){t:TypeId}{g:Nat}{cs:Array Value}(hg:Bx w t g cs)(ht:t≠5){x:Addr}(hx:a=some x):x.block≠g:=by
 intro e;rcases h.cases with⟨rfl,_⟩|⟨g',cur,rfl,hg',_⟩
 · cases hx
 · cases hx;dsimp only at e;subst e;unfold Bx at hg;rw[hg'] at hg;simp only[Option.some.injEq,Obj.cells.injEq] at hg;exact absurd hg.2.1.symm ht
theorem but_setRow(w:World)(g:Nat)(cs:Array Value):But (fun k=>k=g) w (w.setRow g cs):=by
 have h:=below_setRow (Below.refl 0 w) (Nat.zero_le g) cs;exact⟨h.os,h.tape,h.output,h.size,fun k _ hn=>setRow_other _ _ _ _ hn⟩
end
section
open Go.RowKit
theorem Jw.four{w:World}{g cap:Nat}{L:List Iv}(h:Jw w (some ⟨g,0,none⟩) cap L){k:Nat}(hk:k<L.length):w.there g (k*4) 4:=by
 have:=h.there;intro i hi;have h2:=this (k*4+i) (by have:(k+1)*4<=L.length*4:=Nat.mul_le_mul_right _ hk;omega)
 simpa using h2
theorem but_setCells(g:Nat):∀(vs:List Value)(w:World)(o:Nat),But (fun k=>k=g) w (w.setCells g o vs)
 | [],_,_=>But.refl _ _
 |v::vs,w,o=>((But.refl (fun k=>k=g) w).setCell (p:=⟨g,o,none⟩) (fun _=>rfl) v).trans (but_setCells g vs _ (o+1)) fun _ _ h=>h
end
section
open Go.RowKit
structure Pn(v wx:World)(P:Pv):Prop where
 it:Jw wx P.aI P.cI P.items
 itn:New v none P.aI
 d:Rw wx P.aD P.cD P.data
 dn:New v none P.aD
 fr:∀t∈rowsOf P.items,Rw wx t.a t.c t.l/\New v none t.a/\B8 t.l
 dist:((⟨P.aD,P.cD,P.data⟩:Br)::rowsOf P.items).Pairwise brApart
 d8:B8 P.data
 ns:∀r∈P.items,N64 r.child/\N64 r.size
 nk:N64 P.kind
 nl:N64 P.level
 nn:N64 P.next
theorem Jw.nty{w:World}{a:Option Addr}{c:Nat}{L:List Iv}(h:Jw w a c L){t:TypeId}{g:Nat}{cs:Array Value}(hg:Bx w t g cs)(ht:t≠51){x:Addr}(hx:a=some x):x.block≠g:=by
 intro e;rcases h.cases with⟨rfl,_⟩|⟨g',cur,rfl,hg',_⟩
 · cases hx
 · cases hx;dsimp only at e;subst e;unfold Bx at hg;rw[hg'] at hg;simp only[Option.some.injEq,Obj.cells.injEq] at hg;exact absurd hg.2.1.symm ht
theorem Pn.but{S:Nat->Prop}{v wx wy:World}{P:Pv}(h:Pn v wx P)(hb:But S wx wy)(hS:∀k,S k->∃t cs,Bx wx t k cs/\t≠5/\t≠51):Pn v wy P:=by
 have hr:∀{a c l},Rw wx a c l->Rw wy a c l:=fun hr=>hr.but hb fun x hx hs=>by
  obtain⟨t,cs,h1,h2,h3⟩:=hS _ hs;exact hr.nty h1 h2 hx rfl
 exact⟨h.it.but hb fun x hx hs=>by
  obtain⟨t,cs,h1,h2,h3⟩:=hS _ hs;exact h.it.nty h1 h3 hx rfl,h.itn,hr h.d,h.dn,fun t ht=>⟨hr (h.fr t ht).1,(h.fr t ht).2⟩,h.dist,h.d8,h.ns,h.nk,h.nl,h.nn⟩
theorem Pn.keep{v wx wy:World}{P:Pv}(h:Pn v wx P)(hb:Below wx.heap.size wx wy):Pn v wy P:=h.but (S:=fun _=>False) (But.ofBelow hb) fun _ h=>h.elim
theorem dr2(w:World):Below w.heap.size w w.drew:=(Below.refl _ _).drew
theorem rows_set{L:List Iv}{k:Nat}(hk:k<L.length)(x:Iv):(rowsOf (L.set k x)).Perm (x.rows++rowsOf (L.take k++L.drop (k+1))):=by
 have e:L.set k x=L.take k++x::L.drop (k+1):=by
  rw[List.set_eq_take_append_cons_drop,if_pos hk]
 rw[e,rowsOf_append,rowsOf_cons,rowsOf_append,<-List.append_assoc,<-List.append_assoc];exact List.Perm.append_right _ List.perm_append_comm
theorem rows_rest{L:List Iv}{k:Nat}(hk:k<L.length):(rowsOf (L.take k++L.drop (k+1))).Sublist (rowsOf L):=by
 conv=>rhs;rw[<-List.take_append_drop k L,List.drop_eq_getElem_cons hk,rowsOf_append,rowsOf_cons]
 rw[rowsOf_append];exact List.Sublist.append (List.Sublist.refl _) (List.sublist_append_right _ _)
theorem Pn.item{v w wx:World}{kind level next:Int}{g n:Nat}{L:List Iv}{aD:Option Addr}{cD:Nat}{data:List Nat}{x:Iv}{k:Nat}(h0:Pn v w ⟨kind,level,some ⟨g,0,none⟩,n,L,aD,cD,data,next⟩)(h:Pn v wx ⟨kind,level,some ⟨g,0,none⟩,n,L,aD,cD,data,next⟩)(hv:v.heap.size<=w.heap.size)(hJ:Jo w wx x)(hk:k<L.length):
 Pn v (wx.setCells g (k*4) x.cs.toList) ⟨kind,level,some ⟨g,0,none⟩,n,L.set k x,aD,cD,data,next⟩:=by
 have hb:=but_setCells g x.cs.toList wx (k*4);have hrow:∀{a c l},Rw wx a c l->Rw (wx.setCells g (k*4) x.cs.toList) a c l:=fun hr=>hr.but hb fun y hy e=>h.it.ne hr rfl hy e.symm
 have hmem:∀t,t∈rowsOf (L.set k x)->t∈x.rows\/t∈rowsOf L:=fun t ht=>by
  rcases List.mem_append.1 ((rows_set hk x).subset ht) with h1|h1
  · exact .inl h1
  · exact .inr ((rows_rest hk).subset h1)
 have hxr:∀t∈x.rows,Rw wx t.a t.c t.l/\New w none t.a/\B8 t.l:=fun t ht=>by
  simp only[Iv.rows,List.mem_cons,List.not_mem_nil,or_false] at ht;rcases ht with rfl|rfl
  · exact⟨hJ.k,hJ.kn,hJ.k8⟩
  · exact⟨hJ.v,hJ.vn,hJ.v8⟩
 refine⟨h.it.setv k x,h.itn,hrow h.d,h.dn,fun t ht=>?_,?_,h.d8,fun r hr=>?_,h.nk,h.nl,h.nn⟩
 · rcases hmem t ht with h1|h1
   · obtain⟨a1,a2,a3⟩:=hxr t h1;exact⟨hrow a1,a2.mono hv,a3⟩
   · obtain⟨a1,a2,a3⟩:=h.fr t h1;exact⟨hrow a1,a2,a3⟩
 · have hap:∀t∈x.rows,∀u:Br,(∃c l,Rw w u.a c l)->brApart u t:=fun t ht u ⟨c,l,hu⟩ p q hp hq e=>by
    have h1:=hu.lt hp;rcases (hxr t ht).2.1 q hq with⟨_,h,_⟩|h2
    · cases h
    · omega
   obtain⟨d1,d2⟩:=List.pairwise_cons.1 h.dist;refine List.pairwise_cons.2 ⟨fun t ht=>?_,?_⟩
   · rcases hmem t ht with h1|h1
     · exact hap t h1 _ ⟨cD,data,h0.d⟩
     · exact d1 t h1
   · refine((rows_set hk x).pairwise_iff fun h=>brApart.symm h).2 (List.pairwise_append.2 ⟨?_,d2.sublist (rows_rest hk),fun t ht u hu=>(hap t ht u ?_).symm⟩)
     · exact List.pairwise_cons.2 ⟨fun t ht=>by rw[List.mem_singleton.1 ht];exact hJ.ap,List.pairwise_singleton _ _⟩
     · obtain⟨a1,_⟩:=h0.fr u ((rows_rest hk).subset hu);exact⟨_,_,a1⟩
 · rcases List.mem_or_eq_of_mem_set hr with h1|rfl
   · exact h.ns r h1
   · exact⟨hJ.nc,hJ.ns⟩
end
section
open Go.RowKit
theorem Pn.zero(v w:World):Pn v w Pv.zero:=⟨Jw.nil _,New.none _ _,Rw.nil _,New.none _ _,(fun _ h=>by cases h),List.pairwise_singleton _ _,B8.nil,(fun _ h=>by cases h),by simp[N64,Pv.zero],by simp[N64,Pv.zero],by simp[N64,Pv.zero]⟩
theorem Pn.pre{v v' w:World}{P:Pv}(h:Pn v w P)(hv:v'.heap.size<=v.heap.size):Pn v' w P:=⟨h.it,h.itn.mono hv,h.d,h.dn.mono hv,fun t ht=>⟨(h.fr t ht).1,(h.fr t ht).2.1.mono hv,(h.fr t ht).2.2⟩,h.dist,h.d8,h.ns,h.nk,h.nl,h.nn⟩
theorem Pn.row{v w:World}{P:Pv}(h:Pn v w P){t:TypeId}{g:Nat}{cs:Array Value}(hg:Bx w t g cs)(h1:t≠5)(h2:t≠51)(cs':Array Value):Pn v (w.setRow g cs') P:=
 h.but (but_setRow _ _ _) fun k hk=>by subst hk;exact⟨t,cs,hg,h1,h2⟩
theorem Pn.pi{v w:World}{P:Pv}(h:Pn v w P)(hl:P.items.length<=2199023255489):Pi w P:=by
 have hc:P.items.length<=P.cI:=by
  rcases h.it.cases with⟨_,h1,h2⟩|⟨g,cur,_,_,h1,_⟩
  · rw[h1,h2];simp
  · exact h1
 have hi:∀r∈P.items,Ii w r:=fun r hr=>by
  have hs:=(rows_sub hr).subset;obtain⟨k1,k2,k3⟩:=h.fr ⟨r.aK,r.cK,r.key⟩ (hs (by simp[Iv.rows]))
  obtain⟨v1,v2,v3⟩:=h.fr ⟨r.aV,r.cV,r.val⟩ (hs (by simp[Iv.rows]))
  exact⟨k1.bs k3 k1.len_le,k1.cap,v1.bs v3 v1.len_le,v1.cap,(h.ns r hr).1,(h.ns r hr).2⟩
 exact⟨h.it.qs hi hl,hc,h.d.bs h.d8 h.d.len_le,h.d.cap,h.nk,h.nl,h.nn⟩
end
section
open Go.RowKit
theorem EqItem_same(w:World)(x y:Iv)(hx:Ii w x)(hy:Ii w y)(he:x.it=y.it):Calls Tryz.prog 28 #[x.vl,y.vl] w fun e w'=>e=.returned (.bool true)/\Below w.heap.size w w':=by
 obtain⟨aK,cK,key,aV,cV,val,child,size⟩:=x;obtain⟨bK,dK,key2,bV,dV,val2,child2,size2⟩:=y;simp only[Iv.it,It.mk.injEq] at he;obtain⟨rfl,rfl,rfl,rfl⟩:=he;have E1:=hide fun(w1:World)(hb:Below w.heap.size w w1)=>EqBytes_same w1 aK bK key.length key.length cK dK key (hx.bk.keep hb) (hy.bk.keep hb) rfl rfl
 have E2:=hide fun(w1:World)(hb:Below w.heap.size w w1)=>EqBytes_same w1 aV bV val.length val.length cV dV val (hx.bv.keep hb) (hy.bv.keep hb) rfl rfl
 obtain⟨q1,q2⟩:=bx2 w 51 51 (Iv.cs ⟨aK,cK,key,aV,cV,val,child,size⟩) (Iv.cs ⟨bK,dK,key,bV,dV,val,child,size⟩);have CC:=hide fun(w1:World)(hb:Below ((w.alloc (.cells (Iv.cs ⟨aK,cK,key,aV,cV,val,child,size⟩) 51)).alloc (.cells (Iv.cs ⟨bK,dK,key,bV,dV,val,child,size⟩) 51)).heap.size ((w.alloc (.cells (Iv.cs ⟨aK,cK,key,aV,cV,val,child,size⟩) 51)).alloc (.cells (Iv.cs ⟨bK,dK,key,bV,dV,val,child,size⟩) 51)) w1)=>And.intro (Bx.item (q1.keep hb)) (Bx.item (q2.keep hb))
 clear hx hy q1 q2;unfold Iv.vl;simp only[Iv.cs] at *;go_enter Tryz.func28,Tryz.ntmps28;go_wp2_with fail
 refine(E1.out _ (bt (al _ _) (al _ _))).mono ?_;rintro y w1 ⟨rfl,hb1⟩;obtain⟨⟨c0,c1,c2,c3⟩,d0,d1,d2,d3⟩:=CC.out _ hb1;have T1:=hide (bt (bt (al w _) (al _ _)) hb1);clear hb1;go_wp2_with fail
 refine(E2.out _ T1.out).mono ?_;rintro y w2 ⟨rfl,hb2⟩;have T2:=hide (bt T1.out hb2);clear hb2;go_wp2;go_ret;exact⟨by simp,T2.out⟩
theorem EqPage_same(w:World)(p q:Pv)(hp:Pi w p)(hq:Pi w q)(he:p.pg=q.pg):Calls Tryz.prog 69 #[p.vl,q.vl] w fun e w'=>e=.returned (.bool true)/\Below w.heap.size w w':=by
 have hin:p.items.length<=2199023255489:=hp.it.2.1;have HP:=hide hp;have HQ:=hide hq;obtain⟨q1,q2⟩:=bx2 w 31 31 p.cs q.cs;have HW:=hide (bt (al w (.cells p.cs 31)) (al _ (.cells q.cs 31)));obtain⟨v,hv⟩:∃v,(w.alloc (.cells p.cs 31)).alloc (.cells q.cs 31)=v:=⟨_,rfl⟩;rw[hv] at q1 q2 HW;have CC:=hide fun(w1:World)(hb:Below v.heap.size v w1)=>And.intro (Bx.page (q1.keep hb)) (Bx.page (q2.keep hb))
 have HIT:Hid (p.items.map Iv.it=q.items.map Iv.it):=congrArg Pg.items he;have hlen:q.items.length=p.items.length:=by have:=congrArg List.length HIT.out;simpa using this.symm
 have HEI:=hide fun(k:Nat)(hk:k<p.items.length)(w1:World)(hb:Below v.heap.size v w1)=>EqItem_same w1 (p.items.getD k Iv.zero) (q.items.getD k Iv.zero) ((HP.out.it.keep (bt HW.out hb)).1 _ (getD_memR hk)) ((HQ.out.it.keep (bt HW.out hb)).1 _ (getD_memR (by omega))) (by
  have h1:=congrArg (fun L=>L.getD k It.zero) HIT.out
  have e1:=Pv.at p k;have e2:=Pv.at q k;unfold Pg.at at e1 e2;rw[<-e1,<-e2];exact h1)
 have HRA:=hide fun(w1:World)(hb:Below v.heap.size v w1)=>HP.out.it.keep (bt HW.out hb)
 have HRB:=hide fun(w1:World)(hb:Below v.heap.size v w1)=>HQ.out.it.keep (bt HW.out hb)
 have hd:q.data=p.data:=(congrArg Pg.data he).symm;have ED:=hide fun(w1:World)(hb:Below v.heap.size v w1)=>EqBytes_same w1 p.aD q.aD p.data.length q.data.length p.cD q.cD p.data (HP.out.bd.keep (bt HW.out hb)) (hd▸HQ.out.bd.keep (bt HW.out hb)) rfl (by rw[hd])
 have h1:q.kind=p.kind:=(congrArg Pg.kind he).symm;have h2:q.level=p.level:=(congrArg Pg.level he).symm;have h3:q.next=p.next:=(congrArg Pg.next he).symm;clear he hp hq q1 q2 HIT hd HP HQ;obtain⟨kind,level,aI,cI,items,aD,cD,data,next⟩:=p
 obtain⟨kind',level',bIa,dI,items',bD,dD,data',next'⟩:=q;unfold Pv.vl;simp only[Pv.cs] at *;subst h1 h2 h3;rw[hlen] at hv CC ⊢;obtain⟨⟨b0,b1,b2,b3,b4⟩,e0,e1,e2,e3,e4⟩:=CC.out _ (Below.refl _ _);go_enter Tryz.func69,Tryz.ntmps69;go_wp2_with fail
 refine(ED.out _ (Below.refl _ _)).mono ?_;rintro y w1 ⟨rfl,hb1⟩;have T1:=hide hb1;clear hb1 hv b0 b1 b2 b3 b4 e0 e1 e2 e3 e4;obtain⟨⟨c0,c1,c2,c3,c4⟩,d0,d1,d2,d3,d4⟩:=CC.out _ T1.out;go_wp2;go_loopw [5] (fun i wx=>∃k:Nat,k<=items.length/\i=.int .i64 k/\Below v.heap.size v wx) (fun i _=>items.length-(intOf i).toNat)
 case atStart=>exact⟨0,Nat.zero_le _,rfl,T1.out⟩
 case round=>
  clear T1 c0 c1 c2 c3 c4 d0 d1 d2 d3 d4;obtain⟨k,hk,rfl,hT⟩:=hrel;have T1:=hide hT;clear hT;obtain⟨⟨c0,c1,c2,c3,c4⟩,d0,d1,d2,d3,d4⟩:=CC.out _ T1.out;by_cases hlt:k<items.length
  · have hlti:(k:Int)<(items.length:Int):=by omega
    have hj1:=w64 (j:=k) (by omega)
    have EI:=hide (HEI.out k hlt);obtain⟨bI,oI,rfl⟩:∃bI oI,aI=some ⟨bI,oI,none⟩:=by obtain⟨b2,o2,e2,_⟩:=(HRA.out _ (Below.refl _ _)).at hlt;exact⟨b2,o2,e2⟩
    obtain⟨bJ,oJ,rfl⟩:∃bI oI,bIa=some ⟨bI,oI,none⟩:=by obtain⟨b2,o2,e2,_⟩:=(HRB.out _ (Below.refl _ _)).at (r:=k) (by omega);exact⟨b2,o2,e2⟩
    have HA:=hide fun(w1:World)(hb:Below v.heap.size v w1)=>rowAt (HRA.out w1 hb) hlt
    have HB:=hide fun(w1:World)(hb:Below v.heap.size v w1)=>rowAt (HRB.out w1 hb) (k:=k) (by omega)
    clear HEI HRA HRB;generalize items.getD k Iv.zero=x at *;generalize items'.getD k Iv.zero=y at *;generalize items.length=n at *;obtain⟨aK,cK,key,aV,cV,val,child,size⟩:=x;obtain⟨bK,dK,key2,bV,dV,val2,child2,size2⟩:=y;simp only[Iv.vl,Iv.cs] at EI HA HB;go_wp2;have T1:=hide (bt T1.out (dr2 _));have S1:=And.intro (And.intro (CC.out _ T1.out).1.2.2.1 (CC.out _ T1.out).2.2.2.1) (And.intro (HA.out _ T1.out) (HB.out _ T1.out));refine wp_region_held_drew (S:=fun w'=>(w'.cell? ⟨w.heap.size,2,none⟩=some (.slice (some ⟨bI,oI,none⟩) n cI)/\w'.cell? ⟨w.heap.size+1,2,none⟩=some (.slice (some ⟨bJ,oJ,none⟩) n dI))/\(w'.cell? ⟨bI,oI+k*4,none⟩=some (.slice aK key.length cK)/\w'.cell? ⟨bI,oI+k*4+1,none⟩=some (.slice aV val.length cV)/\w'.cell? ⟨bI,oI+k*4+2,none⟩=some (.int .i64 child)/\w'.cell? ⟨bI,oI+k*4+3,none⟩=some (.int .i64 size))/\(w'.cell? ⟨bJ,oJ+k*4,none⟩=some (.slice bK key2.length dK)/\w'.cell? ⟨bJ,oJ+k*4+1,none⟩=some (.slice bV val2.length dV)/\w'.cell? ⟨bJ,oJ+k*4+2,none⟩=some (.int .i64 child2)/\w'.cell? ⟨bJ,oJ+k*4+3,none⟩=some (.int .i64 size2))) (by kernel_rfl) (by exact S1) (fun hHeld=>?_)
    refine tk 0 ?_;refine tk 1 ?_;refine tk 2 ?_;refine tk 3 ?_;refine tk 4 ?_;refine tk 5 ?_;refine tk 6 ?_;refine tk 7 ?_;refine tk 8 ?_;refine tk 9 ?_;refine tw 10 fun K hK=>?_
    go_simp;refine(EI.out _ T1.out).mono ?_;rintro e w9 ⟨rfl,hb⟩;have T1:=hide (bt T1.out hb);have S1:=And.intro (And.intro (CC.out _ T1.out).1.2.2.1 (CC.out _ T1.out).2.2.2.1) (And.intro (HA.out _ T1.out) (HB.out _ T1.out));clear hb;go_wp2_with fail
    refine hK.out _ _ (by exact S1) (fun hHeld=>?_)
    clear hK K;try simp only[pt]
    refine tk 11 ?_;refine td ?_;clear S1;go_wp2;go_roundw
    case rel=>exact⟨k+1,by omega,by first|(go_num;done)|exact congrArg (Value.int IntKind.i64) (by omega),T1.out⟩
    case measure=>first|exact meas_up _ _ _ hj1 hlt|exact meas_up _ _ _ rfl hlt|(simp[intOf];omega)
  · obtain rfl:k=items.length:=by omega
    go_wp2;go_ret;exact⟨rfl,bt HW.out T1.out⟩
end
section
open Go.RowKit
theorem Jw.butg{w1 w2:World}{a:Option Addr}{c:Nat}{L:List Iv}(_:Jw w1 a c L)(hg:w1.grownBy w2 (a.map Addr.block)):But (fun k=>∃x,a=some x/\x.block=k) w1 w2:=
 (But.refl _ _).grown hg fun k hk _=>by
   obtain⟨x,hx,e⟩:=map_some hk;exact⟨x,hx,e⟩
end
section
open Go.RowKit
end
section
open Go.RowKit
end
section
open Go.RowKit
theorem two_blocks(w:World)(o p:Obj){w1:World}(hb:Below ((w.alloc o).alloc p).heap.size ((w.alloc o).alloc p) w1):w1.heap[w.heap.size]?=some o/\w1.heap[w.heap.size+1]?=some p/\Below w.heap.size w w1/\w.heap.size+2<=w1.heap.size:=by
 have hs:((w.alloc o).alloc p).heap.size=w.heap.size+2:=by rw[size_alloc,size_alloc]
 refine⟨(hb.block _ (by rw[hs];omega)).trans ?_,(hb.block _ (by rw[hs];omega)).trans ?_,bt (bt (al _ _) (al _ _)) hb,by have:=hb.size;omega⟩
 · rw[heap_alloc_old _ _ (by rw[size_alloc];omega)];exact heap_alloc_new _ _
 · have:=heap_alloc_new (w.alloc o) p;rw[size_alloc] at this;exact this
theorem CopyBytes_at(w:World)(aa:Option Addr)(n capa:Nat)(p:List Nat)(hB:Bs w aa p)(hn:n=p.length)(hlen:p.length<=140737488355264):
 Calls Tryz.prog 64 #[.slice aa n capa] w fun x w'=>∃a' cap',x=.returned (.slice a' p.length cap')/\Own w w' a' cap' p:=by
 subst hn;exact(CopyBytes_any w aa p.length capa p hB rfl (by omega)).mono fun _ _ ⟨a',c',h1,h2,h3,h4⟩=>⟨a',c',h1,h2,h3,h4⟩
theorem but_set4(g:Nat)(w:World)(a b c d:Value):But (fun k=>k=g) w ((((w.setCell ⟨g,0,none⟩ a).setCell ⟨g,1,none⟩ b).setCell ⟨g,2,none⟩ c).setCell ⟨g,3,none⟩ d):=
 ((((But.refl (fun k=>k=g) w).setCell (p:=⟨g,0,none⟩) (fun _=>rfl) a).setCell (p:=⟨g,1,none⟩) (fun _=>rfl) b).setCell (p:=⟨g,2,none⟩) (fun _=>rfl) c).setCell (p:=⟨g,3,none⟩) (fun _=>rfl) d
theorem but_set5(g:Nat)(w:World)(a b c d e:Value):But (fun k=>k=g) w (((((w.setCell ⟨g,0,none⟩ a).setCell ⟨g,1,none⟩ b).setCell ⟨g,2,none⟩ c).setCell ⟨g,3,none⟩ d).setCell ⟨g,4,none⟩ e):=
 (but_set4 g w a b c d).setCell (p:=⟨g,4,none⟩) (fun _=>rfl) e
theorem bx_set4{w:World}{g:Nat}{t:TypeId}{o0 o1 o2 o3:Value}(h:Bx w t g #[o0,o1,o2,o3])(a b c d:Value):Bx ((((w.setCell ⟨g,0,none⟩ a).setCell ⟨g,1,none⟩ b).setCell ⟨g,2,none⟩ c).setCell ⟨g,3,none⟩ d) t g #[a,b,c,d]:=by
 have h4:=(((h.setc 0 a).setc 1 b).setc 2 c).setc 3 d;have e:(((#[o0,o1,o2,o3].setIfInBounds 0 a).setIfInBounds 1 b).setIfInBounds 2 c).setIfInBounds 3 d=#[a,b,c,d]:=by simp
 rw[e] at h4;exact h4
theorem bx_set5{w:World}{g:Nat}{t:TypeId}{o0 o1 o2 o3 o4:Value}(h:Bx w t g #[o0,o1,o2,o3,o4])(a b c d f:Value):Bx (((((w.setCell ⟨g,0,none⟩ a).setCell ⟨g,1,none⟩ b).setCell ⟨g,2,none⟩ c).setCell ⟨g,3,none⟩ d).setCell ⟨g,4,none⟩ f) t g #[a,b,c,d,f]:=by
 have h4:=((((h.setc 0 a).setc 1 b).setc 2 c).setc 3 d).setc 4 f;have e:((((#[o0,o1,o2,o3,o4].setIfInBounds 0 a).setIfInBounds 1 b).setIfInBounds 2 c).setIfInBounds 3 d).setIfInBounds 4 f=#[a,b,c,d,f]:=by simp
 rw[e] at h4;exact h4
theorem fr4{w:World}{g:Nat}{t:TypeId}{cs:Array Value}(h:Bx w t g cs):w.frozen? ⟨g,0,none⟩=false/\w.frozen? ⟨g,1,none⟩=false/\w.frozen? ⟨g,2,none⟩=false/\w.frozen? ⟨g,3,none⟩=false/\w.frozen? ⟨g,4,none⟩=false:=
 ⟨frozen_of_row _ _ _ _ _ h,frozen_of_row _ _ _ _ _ h,frozen_of_row _ _ _ _ _ h,frozen_of_row _ _ _ _ _ h,frozen_of_row _ _ _ _ _ h⟩
theorem CopyItem_any(w:World)(r:Iv)(hR:Ii w r)(hl:r.key.length<=140737488355264)(hh:r.val.length<=140737488355264):
 Calls Tryz.prog 121 #[r.vl] w fun e w'=>∃q:Iv,e=.returned q.vl/\Io w w' q/\q.it=r.it:=by
 have S1:=hide fun w1 (hb:Below w.heap.size w w1)=>CopyBytes_at w1 r.aK r.key.length r.cK r.key (hR.bk.keep hb) rfl hl
 have S2:=hide fun w1 (hb:Below w.heap.size w w1)=>CopyBytes_at w1 r.aV r.val.length r.cV r.val (hR.bv.keep hb) rfl hh
 have L8:=hide hR.bk.1;have H8:=hide hR.bv.1;clear hR;unfold Iv.vl;obtain⟨aK,cK,key,aV,cV,val,child,size⟩:=r;have IT:=hide fun(W:World)(h:W.heap[w.heap.size]?=some (.cells (Iv.cs ⟨aK,cK,key,aV,cV,val,child,size⟩) 51))=>Bx.item (p:=⟨aK,cK,key,aV,cV,val,child,size⟩) h
 have IS:=hide fun(W:World)(h:W.heap[w.heap.size]?=some (.cells (Iv.cs ⟨aK,cK,key,aV,cV,val,child,size⟩) 51))(a b c d:Value)=>Bx.item (p:=⟨aK,cK,key,aV,cV,val,child,size⟩) ((show Bx W 51 w.heap.size _ from h).but (but_set4 (w.heap.size+1) W a b c d) (by omega))
 have TZ:=hide fun(W:World)(h:W.heap[w.heap.size+1]?=some (.cells (Iv.cs Iv.zero) 51))=>And.intro (Bx.item (p:=Iv.zero) h) (fr4 (show Bx W 51 (w.heap.size+1) _ from h))
 have TM:=hide fun(W:World)(h:W.heap[w.heap.size+1]?=some (.cells (Iv.cs Iv.zero) 51))(a b c d:Value)=>bx_set4 (show Bx W 51 (w.heap.size+1) _ from h) a b c d
 dsimp only[Iv.cs,Iv.zero,List.length_nil] at *;go_enter Tryz.func121,Tryz.ntmps121;go_wp2;have T0:Hid (Below ((w.alloc (.cells #[.slice aK key.length cK,.slice aV val.length cV,.int .i64 child,.int .i64 size] 51)).alloc (.cells #[.slice none 0 0,.slice none 0 0,.int .i64 0,.int .i64 0] 51)).heap.size ((w.alloc (.cells #[.slice aK key.length cK,.slice aV val.length cV,.int .i64 child,.int .i64 size] 51)).alloc (.cells #[.slice none 0 0,.slice none 0 0,.int .i64 0,.int .i64 0] 51)) ((w.alloc (.cells #[.slice aK key.length cK,.slice aV val.length cV,.int .i64 child,.int .i64 size] 51)).alloc (.cells #[.slice none 0 0,.slice none 0 0,.int .i64 0,.int .i64 0] 51)).drew):=(Below.refl _ _).drew;have C0:=IT.out _ (two_blocks w _ _ T0.out).1;have hn:w.heap.size+1≠w.heap.size:=by omega
 go_region_held3 (fun w'=>w'.cell? ⟨w.heap.size,0,none⟩=some (.slice aK key.length cK)/\w'.cell? ⟨w.heap.size,1,none⟩=some (.slice aV val.length cV)/\w'.cell? ⟨w.heap.size,2,none⟩=some (.int .i64 child)/\w'.cell? ⟨w.heap.size,3,none⟩=some (.int .i64 size))
  (first|with_reducible exact C0|with_reducible exact IS.out _ (two_blocks w _ _ T0.out).1 _ _ _ _)
  (first|(go_at_call 64;with_reducible refine(S1.out _ (two_blocks w _ _ T0.out).2.2.1).mono ?_;rintro e w1 ⟨g1,d1,rfl,o1⟩;have hb1:=o1.b;have Z1:=hide (fun x (hx:g1=some x)=>Nat.le_trans (two_blocks w _ _ T0.out).2.2.2 (o1.fresh hx));have L1:=hide (fun x (hx:g1=some x)=>o1.r.lt hx);have T0:=hide (bt T0.out hb1);have C0:=IT.out _ (two_blocks w _ _ T0.out).1;have R1:=hide o1.r;clear hb1 o1)|(go_at_call 64;with_reducible refine(S2.out _ (two_blocks w _ _ T0.out).2.2.1).mono ?_;rintro e w2 ⟨g2,d2,rfl,o2⟩;have hb2:=o2.b;have Z2:=hide (fun x y (hx:g1=some x)(hy:g2=some y)=>Nat.lt_of_lt_of_le (L1.out x hx) (o2.fresh hy));have Z3:=hide (fun y (hy:g2=some y)=>Nat.le_trans (two_blocks w _ _ T0.out).2.2.2 (o2.fresh hy));have T0:=hide (bt T0.out hb2);have C0:=IT.out _ (two_blocks w _ _ T0.out).1;obtain⟨⟨y0,y1,y2,y3⟩,f0,f1,f2,f3,f4⟩:=TZ.out _ (two_blocks w _ _ T0.out).2.1;have R1:=hide (R1.out.keep hb2);have R2:=hide o2.r;clear hb2 o2))
 clear C0;have M1:=hide (TM.out _ (two_blocks w _ _ T0.out).2.1 (.slice g1 key.length d1) (.slice g2 val.length d2) (.int .i64 child) (.int .i64 size));have BB:=hide (but_set4 (w.heap.size+1) w2 (.slice g1 key.length d1) (.slice g2 val.length d2) (.int .i64 child) (.int .i64 size));have TB:=hide (two_blocks w _ _ T0.out).2.2.1;clear y0 y1 y2 y3 f0 f1 f2 f3 f4 T0;go_wp2;refine bodyPost_ret (v:=.agg _) (results_cell_row Tryz.results121 _ _ (w.heap.size+1) 51 _ (0,0) _ rfl M1.out Tryz.underlying51 rfl sizeItem) rfl ?_;have bel:Below w.heap.size w _:=((But.ofBelow (S:=fun k=>k=w.heap.size+1) TB.out).trans BB.out fun _ _ e=>e).below fun k hk e=>by omega
 have w1:=R1.out.but BB.out fun x hx e=>by have:=Z1.out x hx;omega
 have w2':=R2.out.but BB.out fun x hx e=>by have:=Z3.out x hx;omega
 exact⟨⟨g1,d1,key,g2,d2,val,child,size⟩,rfl,⟨⟨w1,fun x hx=>.inr (by have:=Z1.out x hx;omega),bel⟩,⟨w2',fun x hx=>.inr (by have:=Z3.out x hx;omega),bel⟩,fun x y hx hy e=>by have:=Z2.out x y hx hy;omega,L8.out,H8.out⟩,rfl⟩
end
section
open Go.RowKit
theorem Fam.grown{w W1 W2:World}{T:List Br}{a:Option Addr}{c:Nat}{L:List Iv}(f:Fam w W1 T)(hJ:Jw W1 a c L)(hg:W1.grownBy W2 (a.map Addr.block))(hw:Below w.heap.size w W2):Fam w W2 T:=
 f.but (hJ.butg hg) hw fun t ht _ hx ⟨_,hy,e⟩=>hJ.ne (f.own t ht).1.r hy hx e
structure Ck(w W:World)(a:Option Addr)(c:Nat)(M:List Iv)(L:List Iv):Prop where
 j:JOwn w W a c M
 f:Fam w W (rowsOf M)
 e:M.map Iv.it=L.map Iv.it
 n:∀r∈M,N64 r.child/\N64 r.size
theorem Ck.len{w W:World}{a:Option Addr}{c:Nat}{M L:List Iv}(h:Ck w W a c M L):M.length=L.length:=by have:=congrArg List.length h.e;simpa using this
theorem Ck.keep{w W W':World}{a:Option Addr}{c:Nat}{M L:List Iv}(h:Ck w W a c M L)(hb:Below W.heap.size W W'):Ck w W' a c M L:=⟨h.j.keep hb,h.f.keep hb,h.e,h.n⟩
theorem Ck.nil(w:World){W:World}(hb:Below w.heap.size w W):Ck w W none 0 [] []:=⟨JOwn.nil w hb,Fam.nil _ _,rfl,(fun _ h=>by cases h)⟩
theorem box_item(w:World)(x:Iv)(g:Nat)(hg:g=w.heap.size):∀j u,x.cs.toList[j]?=some u->(w.alloc (.cells x.cs 51)).cell? ((⟨g,0,none⟩:Addr).add j)=some u:=by
 subst hg;intro j u h;rw[Addr.add_mid,Nat.zero_add,cell_of_row _ _ _ _ _ _ (heap_alloc_new _ _)];simpa using h
theorem Ck.push{w W W0 W1 W2:World}{a:Option Addr}{c g c2:Nat}{M L:List Iv}{q x:Iv}(h:Ck w W a c M L)(hq:Io W W0 q)(he:q.it=x.it)(hn:N64 q.child/\N64 q.size)(hb:Below W0.heap.size W0 W1)(hJ:Jw W2 (some ⟨g,0,none⟩) c2 (M++[q]))(hN:New W1 a (some ⟨g,0,none⟩))(hg:W1.grownBy W2 (a.map Addr.block)):
 Ck w W2 (some ⟨g,0,none⟩) c2 (M++[q]) (L++[x]):=by
 have b1:Below W.heap.size W W1:=bt hq.k.b hb;have j2:=h.j.step b1 hJ hN hg;have f1:Fam w W1 (rowsOf M++q.rows):=h.f.add (hq.fam.keep hb) b1 h.j.b;refine⟨j2,?_,by rw[List.map_append,List.map_append,h.e];simp[he],fun r hr=>?_⟩
 · rw[rowsOf_append,rowsOf_one];exact f1.grown (h.j.r.keep b1) hg j2.b
 · rcases List.mem_append.1 hr with hr|hr
   · exact h.n r hr
   · rw[List.mem_singleton.1 hr];exact hn
theorem it_n{q x:Iv}(h:q.it=x.it)(hx:N64 x.child/\N64 x.size):N64 q.child/\N64 q.size:=by
 have h1:q.child=x.child:=congrArg It.child h;have h2:q.size=x.size:=congrArg It.size h;rw[h1,h2];exact hx
theorem CopyItems_any(w:World)(a:Option Addr)(n c:Nat)(L:List Iv)(hJ:Js w a L)(hn:n=L.length)(hL:L.length<=1048576)(hs:∀r∈L,r.key.length<=140737488355264/\r.val.length<=140737488355264):
 Calls Tryz.prog 63 #[.slice a n c] w fun e w'=>∃a' c' M,e=.returned (.slice a' L.length c')/\Ck w w' a' c' M L:=by
 subst hn;have HR:=hide fun(w1:World)(hb:Below w.heap.size w w1)(k:Nat)(hk:k<L.length)=>(hJ.keep hb).at hk
 have CI:=hide fun(w1:World)(hb:Below w.heap.size w w1)(k:Nat)(hk:k<L.length)=>CopyItem_any w1 (L.getD k Iv.zero) ((hJ.1 _ (getD_memR hk)).keep hb) (hs _ (getD_memR hk)).1 (hs _ (getD_memR hk)).2
 have HN:=hide fun(k:Nat)(hk:k<L.length)=>And.intro (hJ.1 _ (getD_memR hk)).nc (hJ.1 _ (getD_memR hk)).ns
 have HT:=hide fun(k:Nat)(hk:k<L.length)=>(show L.take (k+1)=L.take k++[L.getD k Iv.zero] from by rw[List.take_succ_eq_append_getElem hk];simp[hk])
 clear hJ hs;go_enter Tryz.func63,Tryz.ntmps63;go_wp2;go_loopw [3,4] (fun o i wx=>∃(k:Nat)(ak:Option Addr)(ck:Nat)(M:List Iv),k<=L.length/\i=.int .i64 k/\o=.slice ak k ck/\Ck w wx ak ck M (L.take k)) (fun _ i _=>L.length-(intOf i).toNat)
 case atStart=>exact⟨0,none,0,[],Nat.zero_le _,rfl,rfl,Ck.nil w (Below.refl _ _)⟩
 case round=>
  obtain⟨k,ak,ck,M,hk,rfl,rfl,hO⟩:=hrel;have O0:=hide hO;have HM:Hid (k=M.length):=by show _=_;rw[hO.len,List.length_take];omega
  clear hO;by_cases hlt:k<L.length
  · have hlti:(k:Int)<(L.length:Int):=by omega
    have hk1:k+1<=L.length:=by omega
    obtain⟨bI,off,rfl,hr⟩:=HR.out _ O0.out.j.b k hlt;obtain⟨k0,k1,k2,k3⟩:=range4 hr;have C1:=hide (CI.out _ O0.out.j.b k hlt);have N1:=hide (HN.out k hlt);have T1:=hide (HT.out k hlt);have hml:M.length+1<=2199023255489:=by have:=HM.out;omega
    clear hr HR CI HN HT;generalize L.getD k Iv.zero=x at *;have INQ:=hide fun(q:Iv)(h:q.it=x.it)=>it_n h N1.out
    obtain⟨aK,cK,key,aV,cV,val,child,size⟩:=x;simp only[Iv.vl,Iv.cs] at C1 k0 k1 k2 k3;go_wp2_with fail
    refine C1.out.mono ?_;rintro e w2 ⟨q,rfl,hq,he⟩;have Q1:=hide hq;have Q2:=hide he;have Q3:=hide (INQ.out q he);have J2:=hide ((O0.out.j.keep hq.k.b).r.keep (al w2 (.cells q.cs 51)));have BX:=hide (box_item w2 q w2.heap.size rfl);clear hq he C1 k0 k1 k2 k3;obtain⟨qK,dK,kq,qV,dV,vq,cq,sq⟩:=q;simp only[Iv.cs] at J2 BX ⊢;go_wp2_with (at_builtin;refine wpList_apJ rfl _ _ rfl ak k ck M rfl HM.out J2.out ⟨_,0,none⟩ 1 ⟨qK,dK,kq,qV,dV,vq,cq,sq⟩ rfl BX.out hml ?_)
    intro g2 c2 w5 hJ hN hg;have O5:=hide (O0.out.push Q1.out Q2.out Q3.out (al _ _) hJ hN hg);rw[<-T1.out] at O5;clear hJ hN hg;go_wp2;go_roundw
    case rel=>exact⟨k+1,_,c2,_,hk1,by first|(go_num;done)|exact congrArg (Value.int IntKind.i64) (by omega),rfl,O5.out⟩
    case measure=>first|exact meas_up _ _ _ rfl hlt|(simp[intOf];omega)
  · obtain rfl:k=L.length:=by omega
    rw[List.take_length] at O0;go_wp2;go_ret;exact⟨ak,ck,M,rfl,O0.out⟩
theorem CopyPage_any(w:World)(r:Pv)(hR:Pi w r)(hd:r.data.length<=140737488355264)(hi:r.items.length<=1048576)(hs:∀x∈r.items,x.key.length<=140737488355264/\x.val.length<=140737488355264):
 Calls Tryz.prog 14 #[r.vl] w fun e w'=>∃q:Pv,e=.returned q.vl/\Pi w' q/\q.pg=r.pg/\Below w.heap.size w w':=by
 have S1:=hide fun w1 (hb:Below w.heap.size w w1)=>CopyItems_any w1 r.aI r.items.length r.cI r.items (hR.it.keep hb) rfl hi hs
 have S2:=hide fun w1 (hb:Below w.heap.size w w1)=>CopyBytes_at w1 r.aD r.data.length r.cD r.data (hR.bd.keep hb) rfl hd
 have L8:=hide hR.bd.1;have NK:=hide (And.intro hR.nk (And.intro hR.nl hR.nn));clear hR;unfold Pv.vl;obtain⟨kind,level,aI,cI,items,aD,cD,data,next⟩:=r
 have IT:=hide fun(W:World)(h:W.heap[w.heap.size]?=some (.cells (Pv.cs ⟨kind,level,aI,cI,items,aD,cD,data,next⟩) 31))=>Bx.page (p:=⟨kind,level,aI,cI,items,aD,cD,data,next⟩) h
 have IS:=hide fun(W:World)(h:W.heap[w.heap.size]?=some (.cells (Pv.cs ⟨kind,level,aI,cI,items,aD,cD,data,next⟩) 31))(a b c d f:Value)=>Bx.page (p:=⟨kind,level,aI,cI,items,aD,cD,data,next⟩) ((show Bx W 31 w.heap.size _ from h).but (but_set5 (w.heap.size+1) W a b c d f) (by omega))
 have TZ:=hide fun(W:World)(h:W.heap[w.heap.size+1]?=some (.cells (Pv.cs Pv.zero) 31))=>And.intro (Bx.page (p:=Pv.zero) h) (fr4 (show Bx W 31 (w.heap.size+1) _ from h))
 have TM:=hide fun(W:World)(h:W.heap[w.heap.size+1]?=some (.cells (Pv.cs Pv.zero) 31))(a b c d f:Value)=>bx_set5 (show Bx W 31 (w.heap.size+1) _ from h) a b c d f
 dsimp only[Pv.cs,Pv.zero,List.length_nil] at *;go_enter Tryz.func14,Tryz.ntmps14;go_wp2;have T0:Hid (Below ((w.alloc (.cells #[.int .i64 kind,.int .i64 level,.slice aI items.length cI,.slice aD data.length cD,.int .i64 next] 31)).alloc (.cells #[.int .i64 0,.int .i64 0,.slice none 0 0,.slice none 0 0,.int .i64 0] 31)).heap.size ((w.alloc (.cells #[.int .i64 kind,.int .i64 level,.slice aI items.length cI,.slice aD data.length cD,.int .i64 next] 31)).alloc (.cells #[.int .i64 0,.int .i64 0,.slice none 0 0,.slice none 0 0,.int .i64 0] 31)) ((w.alloc (.cells #[.int .i64 kind,.int .i64 level,.slice aI items.length cI,.slice aD data.length cD,.int .i64 next] 31)).alloc (.cells #[.int .i64 0,.int .i64 0,.slice none 0 0,.slice none 0 0,.int .i64 0] 31)).drew):=(Below.refl _ _).drew
 have C0:=IT.out _ (two_blocks w _ _ T0.out).1;have hn:w.heap.size+1≠w.heap.size:=by omega
 go_region_held3 (fun w'=>w'.cell? ⟨w.heap.size,0,none⟩=some (.int .i64 kind)/\w'.cell? ⟨w.heap.size,1,none⟩=some (.int .i64 level)/\w'.cell? ⟨w.heap.size,2,none⟩=some (.slice aI items.length cI)/\w'.cell? ⟨w.heap.size,3,none⟩=some (.slice aD data.length cD)/\w'.cell? ⟨w.heap.size,4,none⟩=some (.int .i64 next))
  (first|with_reducible exact C0|with_reducible exact IS.out _ (two_blocks w _ _ T0.out).1 _ _ _ _ _)
  (first|(go_at_call 63;with_reducible refine(S1.out _ (two_blocks w _ _ T0.out).2.2.1).mono ?_;rintro e w1 ⟨g1,d1,M,rfl,o1⟩;have hb1:=o1.j.b;have T0:=hide (bt T0.out hb1);have C0:=IT.out _ (two_blocks w _ _ T0.out).1;have R1:=hide o1;clear hb1 o1)|(go_at_call 64;with_reducible refine(S2.out _ (two_blocks w _ _ T0.out).2.2.1).mono ?_;rintro e w2 ⟨g2,d2,rfl,o2⟩;have hb2:=o2.b;have T0:=hide (bt T0.out hb2);have C0:=IT.out _ (two_blocks w _ _ T0.out).1;obtain⟨⟨y0,y1,y2,y3,y4⟩,f0,f1,f2,f3,f4⟩:=TZ.out _ (two_blocks w _ _ T0.out).2.1;have R1:=hide (R1.out.keep hb2);have R2:=hide o2.r;clear hb2 o2))
 clear C0;have M1:=hide (TM.out _ (two_blocks w _ _ T0.out).2.1 (.int .i64 kind) (.int .i64 level) (.slice g1 items.length d1) (.slice g2 data.length d2) (.int .i64 next))
 have BB:=hide (but_set5 (w.heap.size+1) w2 (.int .i64 kind) (.int .i64 level) (.slice g1 items.length d1) (.slice g2 data.length d2) (.int .i64 next))
 have TB:=hide (two_blocks w _ _ T0.out).2.2.1;have X1:Hid (Bx w2 31 (w.heap.size+1) _):=(two_blocks w _ _ T0.out).2.1;clear y0 y1 y2 y3 y4 f0 f1 f2 f3 f4 T0;go_wp2;refine bodyPost_ret (v:=.agg _) (results_cell_row Tryz.results14 _ _ (w.heap.size+1) 31 _ (0,0) _ rfl M1.out Tryz.underlying31 rfl sizePage) rfl ?_;have bel:Below w.heap.size w _:=((But.ofBelow (S:=fun k=>k=w.heap.size+1) TB.out).trans BB.out fun _ _ e=>e).below fun k hk e=>by omega
 have r2:=R2.out.but BB.out fun x hx e=>R2.out.nty X1.out (by decide) hx e
 have j2:=R1.out.j.r.but BB.out fun x hx e=>R1.out.j.r.nty X1.out (by decide) hx e
 have hml:=R1.out.len
 have ii:∀r∈M,Ii _ r:=fun r hr=>by
  have k:=Fam.io (R1.out.f.sub (rows_sub hr));have kk:=k.k.r.but BB.out fun x hx e=>k.k.r.nty X1.out (by decide) hx e
  have kv:=k.v.r.but BB.out fun x hx e=>k.v.r.nty X1.out (by decide) hx e
  exact⟨kk.bs k.k8 kk.len_le,kk.cap,kv.bs k.v8 kv.len_le,kv.cap,(R1.out.n r hr).1,(R1.out.n r hr).2⟩
 have hc1:M.length<=d1:=by
  rcases j2.cases with⟨_,h1,h2⟩|⟨g,cur,_,_,h1,_⟩
  · rw[h1,h2];simp
  · exact h1
 refine⟨⟨kind,level,g1,d1,M,g2,d2,data,next⟩,by rw[<-hml],⟨j2.qs ii (by omega),hc1,r2.bs L8.out r2.len_le,r2.cap,NK.out.1,NK.out.2.1,NK.out.2.2⟩,?_,bel⟩
 unfold Pv.pg;dsimp only;rw[R1.out.e]
end
section
open Go.RowKit
variable {v0 W W2:World} {p:Pv} {g3 gD g j:Nat} {D:List Iv}
end
section
open Go.RowKit
theorem infoBytes:(Tryz.prog.info? 29).map (fun i=>(i.zero,i.size,i.bytes))=some (some (.slice none 0 0),1,24):=by kernel_rfl
theorem run_ap1'(w:World)(ty:TypeId)(a:Option Addr)(n cap:Nat)(l:List Nat)(hn:n=l.length)(hR:Rw w a cap l)(ad:Addr)(c x:Nat)(hc:w.cell? ad=some (.int .u8 ((x:Nat):Int)))(hlen:l.length+1<=140737488355328):
 ∃g cap' w',(Builtin.append_ #[29,29] ty #[.slice a n cap,.slice (some ad) 1 c]).run Tryz.prog w=.ok (.slice (some ⟨g,0,none⟩) (n+1) cap') w'/\
  Rw w' (some ⟨g,0,none⟩) cap' (l++[x])/\New w a (some ⟨g,0,none⟩)/\w.grownBy w' (a.map Addr.block)/\(a=some ⟨g,0,none⟩\/w.heap.size<=g/\Below w.heap.size w w'):=by
 obtain⟨g,cap',w',hr,h1,h2,h3,h4⟩:=run_ap1 w ty a n cap l hn hR ad c x hc hlen;refine⟨g,cap',w',hr,h1,h2,h3,?_⟩;subst hn;obtain⟨i0,hi,hz0,hz1,hz2⟩:=info_parts infoU8
 have hnews:∀j u,([.int .u8 ((x:Nat):Int)]:List Value)[j]?=some u->w.cell? (ad.add j)=some u:=by
  intro j u hj;match j,hj with
  |0,hj=>simp at hj;subst hj;simpa[Addr.add] using hc
 rcases hR.cases with⟨rfl,rfl,rfl⟩|⟨g',cur,rfl,hg,k1,k2,k3,k4⟩
 · have hr2:=run_append_nil (P:=Tryz.prog) w 29 ty 5 i0 (.int .u8 0) Tryz.underlying29 hi hz0 ad 1 c [.int .u8 ((x:Nat):Int)] (by rw[hz1];rfl) hnews (by decide) (by decide) (by rw[hz2];decide)
   rw[show([]:List Nat).length=0 from rfl,hr2] at hr
   simp only[Result.ok.injEq,Value.slice.injEq,Option.some.injEq,Addr.mk.injEq] at hr;obtain⟨⟨⟨rfl,_⟩,_⟩,rfl⟩:=hr;exact .inr ⟨Nat.le_refl _,⟨rfl,rfl,rfl,by simp,fun k hk=>heap_alloc_old w.drew _ hk⟩⟩
 · by_cases hroom:l.length+1<=cap
   · have hr2:=run_append_room (P:=Tryz.prog) w 29 ty 5 i0 Tryz.underlying29 hi g' l.length cap cur hg ad 1 c [.int .u8 ((x:Nat):Int)] (by rw[hz1];rfl) hnews (by intro u hu;simp at hu;subst hu;rfl) hroom (by rw[hz1];show l.length*1+1<=cur.size;omega)
     rw[hr2] at hr;simp only[Result.ok.injEq,Value.slice.injEq,Option.some.injEq,Addr.mk.injEq] at hr;obtain⟨⟨⟨rfl,_⟩,_⟩,rfl⟩:=hr;exact .inl rfl
   · have holds:∀j u,(vb l)[j]?=some u->w.cell? ((⟨g',0,none⟩:Addr).add j)=some u:=hR.cells (g:=g') rfl;have hr2:=run_append_grow (P:=Tryz.prog) w 29 ty 5 i0 (.int .u8 0) Tryz.underlying29 hi hz0 ⟨g',0,none⟩ l.length cap (vb l) (by rw[vb_length,hz1,Nat.mul_one]) holds ad 1 c [.int .u8 ((x:Nat):Int)] (by rw[hz1];rfl) hnews (by omega) (by omega) (growslice_fits (by omega) (by rw[hz2];omega))
     rw[hr2] at hr;simp only[Result.ok.injEq,Value.slice.injEq,Option.some.injEq,Addr.mk.injEq] at hr;obtain⟨⟨⟨rfl,_⟩,_⟩,rfl⟩:=hr;exact .inr ⟨Nat.le_refl _,⟨rfl,rfl,rfl,by simp,fun k hk=>heap_alloc_old w.drew _ hk⟩⟩
theorem wpList_ap1'{w:World}{ops:Array Oper}{rest:List Oper}{o:Oper}{a:Act}{Q:Exit->Act->World->Prop}(hgd:o.guard=none)(s x:Operand)
 (ho:o.op=.call {callee:=.builtin .append,args:=#[s,x],argTypes:=#[29,29]}) (ao:Option Addr) (n cap:Nat) (l:List Nat) (hs:a.eval s=.slice ao n cap) (hn:n=l.length) (hR:Rw w ao cap l)
 (ad:Addr) (c xx:Nat) (hx:a.eval x=.slice (some ad) 1 c) (hc:w.cell? ad=some (.int .u8 ((xx:Nat):Int))) (hlen:l.length+1<=140737488355328)
 (h:∀g cap' w',Rw w' (some ⟨g,0,none⟩) cap' (l++[xx])->New w ao (some ⟨g,0,none⟩)->w.grownBy w' (ao.map Addr.block)->(ao=some ⟨g,0,none⟩\/w.heap.size<=g/\Below w.heap.size w w')->wpList Tryz.prog ops Q rest (a.put o.dst (.slice (some ⟨g,0,none⟩) (n+1) cap')) w'):wpList Tryz.prog ops Q (o::rest) a w:=by
 refine wpList_plain hgd fun K hK=>?_
 obtain⟨g,cap',w',hr,h1,h2,h3,h4⟩:=run_ap1' w o.type ao n cap l hn hR ad c xx hc hlen;unfold Oper.wp execOp;simp only[ho,resolve,invoke,builtin,Sem.run_bind,Sem.run_pure,Result.andThen_ok,List.map_toArray,List.map_cons,List.map_nil,hs,hx,hr];exact hK _ _ (h g cap' w' h1 h2 h3 h4)
def Ar(w:World)(at':Option Addr)(ct:Nat)(vs:List Value):Prop:=w.ownsRow 0 29 1 (.slice at' vs.length ct) vs.length vs
theorem Ar.nil(w:World):Ar w none 0 []:=World.ownsRow_nil w 0 29 1
theorem Ar.cases{w:World}{a:Option Addr}{cap:Nat}{vs:List Value}(h:Ar w a cap vs):(a=none/\cap=0/\vs=[])\/
 ∃g cur,a=some ⟨g,0,none⟩/\w.heap[g]?=some (.cells cur 29 (0,0))/\vs.length<=cap/\cap<=maxLen/\cur.size=cap/\cur.toList.take vs.length=vs:=by
 obtain⟨_,h2⟩:=h;rcases h2 with⟨hv,h0⟩|⟨g,cap',cur,hv,_,hg,hn,hm,hs,ht⟩
 · simp only[Value.slice.injEq] at hv;exact .inl ⟨hv.1,hv.2.2,List.length_eq_zero_iff.1 h0⟩
 · simp only[Value.slice.injEq] at hv;obtain⟨h1,_,rfl⟩:=hv;exact .inr ⟨g,cur,h1,hg,hn,hm,by omega,by rw[Nat.mul_one] at ht;exact ht⟩
theorem Ar.mk{w:World}{g cap:Nat}{cur:Array Value}{vs:List Value}(hg:w.heap[g]?=some (.cells cur 29 (0,0)))(hn:vs.length<=cap)(hm:cap<=maxLen)(hs:cur.size=cap)(ht:cur.toList.take vs.length=vs):Ar w (some ⟨g,0,none⟩) cap vs:=
 ⟨by rw[Nat.mul_one],.inr ⟨g,cap,cur,rfl,Nat.zero_le _,hg,hn,hm,by omega,by rw[Nat.mul_one];exact ht⟩⟩
theorem Ar.lt{w:World}{a:Option Addr}{cap:Nat}{vs:List Value}(h:Ar w a cap vs){x:Addr}(hx:a=some x):x.block<w.heap.size:=by
 rcases h.cases with⟨rfl,_⟩|⟨g,cur,rfl,hg,_⟩
 · cases hx
 · cases hx;exact(Array.getElem?_eq_some_iff.1 hg).1
theorem Ar.but{S:Nat->Prop}{w w':World}{a:Option Addr}{cap:Nat}{vs:List Value}(h:Ar w a cap vs)(hb:But S w w')(hn:∀x,a=some x->¬S x.block):Ar w' a cap vs:=by
 rcases h.cases with⟨rfl,rfl,rfl⟩|⟨g,cur,rfl,hg,h1,h2,h3,h4⟩
 · exact Ar.nil w'
 · exact Ar.mk ((hb.block g (Array.getElem?_eq_some_iff.1 hg).1 (hn _ rfl)).trans hg) h1 h2 h3 h4
theorem Ar.keep{w w':World}{a:Option Addr}{cap:Nat}{vs:List Value}(h:Ar w a cap vs)(hb:Below w.heap.size w w'):Ar w' a cap vs:=
 h.but (S:=fun _=>False) (But.ofBelow hb) (fun _ _ hf=>hf)
theorem Ar.cell{w:World}{a:Option Addr}{cap:Nat}{vs:List Value}(h:Ar w a cap vs){i:Nat}{v:Value}(hi:vs[i]?=some v):∃g,a=some ⟨g,0,none⟩/\w.cell? ⟨g,i,none⟩=some v:=by
 rcases h.cases with⟨rfl,rfl,rfl⟩|⟨g,cur,rfl,hg,h1,h2,h3,h4⟩
 · cases hi
 · refine⟨g,rfl,?_⟩;have hlt:=(List.getElem?_eq_some_iff.1 hi).1;have e:(cur.toList.take vs.length)[i]?=some v:=by rw[h4];exact hi
   rw[List.getElem?_take,if_pos hlt] at e;rw[cell_of_row _ _ _ _ _ _ hg,<-e];simp
theorem Ar.ne{w:World}{a a':Option Addr}{cap cap':Nat}{vs:List Value}{l:List Nat}(h:Ar w a cap vs)(hR:Rw w a' cap' l){x y:Addr}(hx:a=some x)(hy:a'=some y):x.block≠y.block:=by
 rcases h.cases with⟨rfl,_⟩|⟨g,cur,rfl,hg,_⟩
 · cases hx
 rcases hR.cases with⟨rfl,_⟩|⟨g',cur',rfl,hg',_⟩
 · cases hy
 simp only[Option.some.injEq] at hx hy;subst hx hy;show g≠g';intro e;subst e;rw[hg] at hg';simp at hg'
theorem run_apRows(w:World)(ty:TypeId)(a:Option Addr)(n cap:Nat)(vs:List Value)(hn:n=vs.length)(hR:Ar w a cap vs)(ad:Addr)(c:Nat)(v:Value)(hc:w.cell? ad=some v)(h1:v.oneCell'=true)(hlen:(vs.length+1)*24<=140737488355328):
 ∃g cap' w',(Builtin.append_ #[76,76] ty #[.slice a n cap,.slice (some ad) 1 c]).run Tryz.prog w=.ok (.slice (some ⟨g,0,none⟩) (n+1) cap') w'/\
  Ar w' (some ⟨g,0,none⟩) cap' (vs++[v])/\New w a (some ⟨g,0,none⟩)/\w.grownBy w' (a.map Addr.block):=by
 subst hn;obtain⟨i0,hi,hz0,hz1,hz2⟩:=info_parts infoBytes
 obtain⟨g,cap',w',hr,k1,k2,k3,k4⟩:=run_append_lies (P:=Tryz.prog) w 76 ty 0 29 i0 (.slice none 0 0) 1 24 Tryz.underlying76 hi hz0 hz1 hz2 rfl (by decide) (.slice a vs.length cap) vs.length vs hR ad 1 c [v] rfl
  (by intro j u hj
      match j,hj with
      |0,hj=>simp at hj;subst hj;simpa[Addr.add] using hc) (by intro u hu;simp at hu;subst hu;exact h1) (by decide) (by unfold maxLen;omega) hlen (Nat.zero_le _) w.heap.size rfl
 rw[ob_eq] at k2 k3;refine⟨g,cap',w',hr,?_,?_,k2⟩
 · unfold Ar;rw[List.length_append];exact k1
 · intro y hy;simp only[Option.some.injEq] at hy;subst hy;rcases k3 with k3|k3
   · obtain⟨z,hz,e⟩:=map_some k3;exact .inl ⟨z,hz,e⟩
   · exact .inr (by show _<=g;omega)
theorem wpList_apRows{w:World}{ops:Array Oper}{rest:List Oper}{o:Oper}{a:Act}{Q:Exit->Act->World->Prop}(hgd:o.guard=none)(s x:Operand)
 (ho:o.op=.call {callee:=.builtin .append,args:=#[s,x],argTypes:=#[76,76]}) (ao:Option Addr) (n cap:Nat) (vs:List Value) (hs:a.eval s=.slice ao n cap) (hn:n=vs.length) (hR:Ar w ao cap vs)
 (ad:Addr) (c:Nat) (v:Value) (hx:a.eval x=.slice (some ad) 1 c) (hc:w.cell? ad=some v) (h1:v.oneCell'=true) (hlen:(vs.length+1)*24<=140737488355328)
 (h:∀g cap' w',Ar w' (some ⟨g,0,none⟩) cap' (vs++[v])->New w ao (some ⟨g,0,none⟩)->w.grownBy w' (ao.map Addr.block)->wpList Tryz.prog ops Q rest (a.put o.dst (.slice (some ⟨g,0,none⟩) (n+1) cap')) w'):wpList Tryz.prog ops Q (o::rest) a w:=by
 refine wpList_plain hgd fun K hK=>?_
 obtain⟨g,cap',w',hr,k1,k2,k3⟩:=run_apRows w o.type ao n cap vs hn hR ad c v hc h1 hlen;unfold Oper.wp execOp;simp only[ho,resolve,invoke,builtin,Sem.run_bind,Sem.run_pure,Result.andThen_ok,List.map_toArray,List.map_cons,List.map_nil,hs,hx,hr];exact hK _ _ (h g cap' w' k1 k2 k3)
theorem Rw.front{w:World}{a:Option Addr}{cap:Nat}{l m:List Nat}(h:Rw w a cap (l++m)):Rw w a cap l\/a=none:=by
 rcases h.cases with⟨rfl,rfl,hn⟩|⟨g,cur,rfl,hg,h1,h2,h3,h4⟩
 · exact .inr rfl
 · refine .inl (Rw.mk hg (by rw[List.length_append] at h1;omega) h2 h3 ?_)
   have e:=congrArg (List.take l.length) h4;rw[List.take_take,List.length_append,Nat.min_eq_left (by omega),vb_append,List.take_left' (vb_length l)] at e
   exact e
theorem Rw.addr2{w:World}{a:Option Addr}{cap:Nat}{l:List Nat}(h:Rw w a cap l)(hl:0<l.length):∃g,a=some ⟨g,0,none⟩/\l.length<=cap/\cap<=maxLen:=by
 rcases h.cases with⟨rfl,rfl,rfl⟩|⟨g,cur,rfl,hg,h1,h2,h3,h4⟩
 · simp at hl
 · exact⟨g,rfl,h1,h2⟩
theorem run_apArL(w:World)(ty:TypeId)(a:Option Addr)(n cap:Nat)(vs:List Value)(hn:n=vs.length)(hR:Ar w a cap vs)(ad:Addr)(m c:Nat)(us:List Value)(hm:m=us.length)(hc:∀j u,us[j]?=some u->w.cell? (ad.add j)=some u)(h1:∀u∈us,u.oneCell'=true)(hp:0<us.length)(hlen:(vs.length+us.length)*24<=140737488355328):
 ∃g cap' w',(Builtin.append_ #[76,76] ty #[.slice a n cap,.slice (some ad) m c]).run Tryz.prog w=.ok (.slice (some ⟨g,0,none⟩) (n+m) cap') w'/\
  Ar w' (some ⟨g,0,none⟩) cap' (vs++us)/\New w a (some ⟨g,0,none⟩)/\w.grownBy w' (a.map Addr.block):=by
 subst hn hm;obtain⟨i0,hi,hz0,hz1,hz2⟩:=info_parts infoBytes
 obtain⟨g,cap',w',hr,k1,k2,k3,k4⟩:=run_append_lies (P:=Tryz.prog) w 76 ty 0 29 i0 (.slice none 0 0) 1 24 Tryz.underlying76 hi hz0 hz1 hz2 rfl (by decide) (.slice a vs.length cap) vs.length vs hR ad us.length c us (by rw[Nat.mul_one])
  hc h1 hp (by unfold maxLen;omega) hlen (Nat.zero_le _) w.heap.size rfl
 rw[ob_eq] at k2 k3;refine⟨g,cap',w',hr,?_,?_,k2⟩
 · unfold Ar;rw[List.length_append];exact k1
 · intro y hy;simp only[Option.some.injEq] at hy;subst hy;rcases k3 with k3|k3
   · obtain⟨z,hz,e⟩:=map_some k3;exact .inl ⟨z,hz,e⟩
   · exact .inr (by show _<=g;omega)
theorem wp_apArL{w:World}{o:Oper}{a:Act}{K:Act->World->Prop}{Q:Exit->Act->World->Prop}(s x:Operand)
 (ho:o.op=.call {callee:=.builtin .append,args:=#[s,x],argTypes:=#[76,76]}) (ao:Option Addr) (n cap:Nat) (vs:List Value) (hs:a.eval s=.slice ao n cap) (hn:n=vs.length) (hR:Ar w ao cap vs)
 (ad:Addr) (m c:Nat) (us:List Value) (hx:a.eval x=.slice (some ad) m c) (hm:m=us.length) (hc:∀j u,us[j]?=some u->w.cell? (ad.add j)=some u) (h1:∀u∈us,u.oneCell'=true) (hp:0<us.length) (hlen:(vs.length+us.length)*24<=140737488355328)
 (h:∀g cap' w',Ar w' (some ⟨g,0,none⟩) cap' (vs++us)->New w ao (some ⟨g,0,none⟩)->w.grownBy w' (ao.map Addr.block)->K (a.put o.dst (.slice (some ⟨g,0,none⟩) (n+m) cap')) w'):o.wp Tryz.prog a w K Q:=by
 obtain⟨g,cap',w',hr,k1,k2,k3⟩:=run_apArL w o.type ao n cap vs hn hR ad m c us hm hc h1 hp hlen;unfold Oper.wp execOp;simp only[ho,resolve,invoke,builtin,Sem.run_bind,Sem.run_pure,Result.andThen_ok,List.map_toArray,List.map_cons,List.map_nil,hs,hx,hr];exact h g cap' w' k1 k2 k3
theorem step_apArL{w:World}{ops:Array Oper}{o:Oper}{a:Act}{K:Act->World->Prop}{Q:Exit->Act->World->Prop}{E:Prop}(hgd:o.guard=none)(s x:Operand)
 (ho:o.op=.call {callee:=.builtin .append,args:=#[s,x],argTypes:=#[76,76]}) (ao:Option Addr) (n cap:Nat) (vs:List Value) (hs:a.eval s=.slice ao n cap) (hn:n=vs.length) (hR:Ar w ao cap vs)
 (ad:Addr) (m c:Nat) (us:List Value) (hx:a.eval x=.slice (some ad) m c) (hm:m=us.length) (hc:∀j u,us[j]?=some u->w.cell? (ad.add j)=some u) (h1:∀u∈us,u.oneCell'=true) (hp:0<us.length) (hlen:(vs.length+us.length)*24<=140737488355328)
 (h:∀g cap' w',Ar w' (some ⟨g,0,none⟩) cap' (vs++us)->New w ao (some ⟨g,0,none⟩)->w.grownBy w' (ao.map Addr.block)->K (a.put o.dst (.slice (some ⟨g,0,none⟩) (n+m) cap')) w'):
 if Region.wanted o (yielded ops a.tmps)=true then Oper.wp Tryz.prog o a w K Q else E:=by
 have hw:Region.wanted o (yielded ops a.tmps)=true:=by simp[Region.wanted,hgd]
 rw[if_pos hw];exact wp_apArL s x ho ao n cap vs hs hn hR ad m c us hx hm hc h1 hp hlen h
def bv(t:Br):Value:=.slice t.a t.l.length t.c
end
section
open Go.RowKit
theorem lists_bs(W:World)(u v:Value):∀j x,[u,v][j]?=some x->(W.alloc (.cells #[u,v] 29)).drew.cell? ((⟨W.heap.size,0,none⟩:Addr).add j)=some x:=by
 intro j x hx;have hg:(W.alloc (.cells #[u,v] 29)).drew.heap[W.heap.size]?=some (.cells #[u,v] 29 (0,0)):=heap_alloc_new _ _;rw[Addr.add_mid,Nat.zero_add,cell_of_row _ _ _ _ _ _ hg];simpa using hx
theorem lists_one(u v:Br):∀x∈[bv u,bv v],x.oneCell'=true:=by
 intro x hx;simp only[List.mem_cons,List.not_mem_nil,or_false] at hx;rcases hx with rfl|rfl<;>rfl
end
section
open Go.RowKit
theorem Jw.item4{w:World}{g cap:Nat}{L:List Iv}(h:Jw w (some ⟨g,0,none⟩) cap L){k:Nat}(hk:k<L.length):(w.cell? ⟨g,k*4,none⟩=some (.slice (L.getD k Iv.zero).aK (L.getD k Iv.zero).key.length (L.getD k Iv.zero).cK)/\w.cell? ⟨g,k*4+1,none⟩=some (.slice (L.getD k Iv.zero).aV (L.getD k Iv.zero).val.length (L.getD k Iv.zero).cV)/\w.cell? ⟨g,k*4+2,none⟩=some (.int .i64 (L.getD k Iv.zero).child)/\w.cell? ⟨g,k*4+3,none⟩=some (.int .i64 (L.getD k Iv.zero).size))/\
 w.frozen? ⟨g,k*4,none⟩=false/\w.frozen? ⟨g,k*4+1,none⟩=false/\w.frozen? ⟨g,k*4+2,none⟩=false/\w.frozen? ⟨g,k*4+3,none⟩=false:=by
 have hc:∀j u,j<4->(L.getD k Iv.zero).cs.toList[j]?=some u->w.cell? ⟨g,k*4+j,none⟩=some u:=fun j u hj hu=>by
  have:=h.cells (k*4+j) u (by rw[Jc_get L k j hk hj];exact hu)
  rw[Addr.add_mid,Nat.zero_add] at this;exact this
 have hf:=h.four hk;exact⟨⟨hc 0 _ (by decide) rfl,hc 1 _ (by decide) rfl,hc 2 _ (by decide) rfl,hc 3 _ (by decide) rfl⟩,(hf 0 (by decide)).2,(hf 1 (by decide)).2,(hf 2 (by decide)).2,(hf 3 (by decide)).2⟩
end
section
open Go.RowKit
end
section
open Go.RowKit
def mkA(i k:Nat):Nat:=(i*31+k*7+1)%256
def fl(i n:Nat):List Nat:=(List.range n).map (mkA i)
theorem fl_length(i n:Nat):(fl i n).length=n:=by simp[fl]
theorem fl_succ(i n:Nat):fl i (n+1)=fl i n++[mkA i n]:=by simp[fl,List.range_succ]
theorem fl_get(i n k:Nat)(h:k<n):(fl i n).getD k 0=mkA i k:=by simp[fl,h]
theorem fl_lt(i n:Nat):∀x∈fl i n,x<256:=by
 intro x hx;obtain⟨k,_,rfl⟩:=List.mem_map.1 hx;exact Nat.mod_lt _ (by decide)
theorem set_step(i k:Nat)(l:List Nat)(h:k<l.length):(fl i k++l.drop k).set k (mkA i k)=fl i (k+1)++l.drop (k+1):=by
 rw[List.set_append_right _ _ (by rw[fl_length];exact Nat.le_refl _),fl_length,Nat.sub_self,List.drop_eq_getElem_cons h,List.set_cons_zero,fl_succ,List.append_assoc]
 rfl
def RowsG(w:World)(n:Nat)(A:Nat->Option Addr)(C:Nat->Nat)(G:Nat->List Nat):Prop:=∀i,i<n->Rw w (A i) (C i) (G i)
def Dist(n:Nat)(A:Nat->Option Addr):Prop:=∀i j,i<n->j<n->i≠j->∀x y,A i=some x->A j=some y->x.block≠y.block
def InRows(n:Nat)(A:Nat->Option Addr)(k:Nat):Prop:=∃i,i<n/\∃x,A i=some x/\x.block=k
theorem RowsG.congr{w:World}{n:Nat}{A:Nat->Option Addr}{C:Nat->Nat}{G G':Nat->List Nat}(h:RowsG w n A C G)(e:∀i,i<n->G i=G' i):RowsG w n A C G':=fun i hi=>by rw[<-e i hi];exact h i hi
theorem RowsG.set{w:World}{n:Nat}{A:Nat->Option Addr}{C:Nat->Nat}{G:Nat->List Nat}(h:RowsG w n A C G)(hd:Dist n A){j g:Nat}(hj:j<n)(hA:A j=some ⟨g,0,none⟩)(k v:Nat):
 RowsG (w.setCell ⟨g,k,none⟩ (.int .u8 ((v:Nat):Int))) n A C (fun i=>if i=j then (G j).set k v else G i):=by
 intro i hi;by_cases e:i=j
 · subst e;dsimp only;rw[if_pos rfl,hA];have:=h i hi;rw[hA] at this;exact this.set k v
 · dsimp only;rw[if_neg e];exact(h i hi).but (But.cell1 w g k _) fun x hx=>hd i j hi hj e x _ hx hA
def P2(w wx:World)(n:Nat)(A:Nat->Option Addr)(C:Nat->Nat)(N:Nat->Nat)(j:Nat)(ag:Option Addr)(cg:Nat)(B:Nat->Option Addr)(D:Nat->Nat):Prop:=
 Ar wx ag cg ((List.range j).map fun i=>Value.slice (B i) (N i+20) (D i))/\
 (∀i,i<j->Rw wx (B i) (D i) (fl i (N i+20))/\Bs wx (A i) (fl i (N i))/\New w (A i) (B i))/\
 (∀i,j<=i->i<n->Rw wx (A i) (C i) (fl i (N i)))/\
 (∀i i',i<i'->i'<j->∀x y,B i=some x->B i'=some y->x.block≠y.block)/\
 But (InRows n A) w wx/\New w none ag
theorem grown_but{w w2:World}{a:Option Addr}(h:w.grownBy w2 (a.map Addr.block)):But (fun q=>∃x,a=some x/\x.block=q) w w2:=
 (But.refl _ _).grown h fun _ hk _=>map_some hk
theorem P2.next{w wx w3 wr:World}{n:Nat}{A:Nat->Option Addr}{C N:Nat->Nat}{j:Nat}{ag ag' gj:Option Addr}{cg cg' cj:Nat}{B:Nat->Option Addr}{D:Nat->Nat}{o:Obj}
 (hd:Dist n A) (hA0:∀i,i<n->∀x,A i=some x->x.block<w.heap.size) (hj:j<n) (h:P2 w wr n A C N j ag cg B D) (hin:But (fun q=>∃x,A j=some x/\x.block=q) wr wx)
 (hRg:Rw wx gj cj (fl j (N j+20))) (hBs:Bs wx (A j) (fl j (N j))) (hgj:gj=A j\/∀x,gj=some x->wr.heap.size<=x.block)
 (hAr:Ar w3 ag' cg' (((List.range j).map fun i=>Value.slice (B i) (N i+20) (D i))++[.slice gj (N j+20) cj])) (hN:New (wx.alloc o) ag ag') (hg:(wx.alloc o).grownBy w3 (ag.map Addr.block)):
 P2 w w3 n A C N (j+1) ag' cg' (fun i=>if i=j then gj else B i) (fun i=>if i=j then cj else D i):=by
 obtain⟨h1,h2,h3,h4,h5,h6⟩:=h;have hsz:=h5.size;have hsz2:=hin.size;have hagx:Ar wx ag cg ((List.range j).map fun i=>Value.slice (B i) (N i+20) (D i)):=h1.but hin fun x hx ⟨y,hy,e⟩=>h1.ne (h3 j (Nat.le_refl _) hj) hx hy e.symm
 have step:But (fun q=>∃x,ag=some x/\x.block=q) wx w3:=((But.refl _ wx).alloc o).trans (grown_but hg) fun _ _ h=>h
 have row:∀{a c l},Rw wx a c l->Rw w3 a c l:=fun hr=>hr.but step fun x hx ⟨y,hy,e⟩=>hagx.ne hr hy hx e
 have bs:∀{a:Option Addr}{l:List Nat},Bs wx a l->(∀x,a=some x->x.block<w.heap.size)->Bs w3 a l:=fun hb hlt=>hb.but step fun x hx _ ⟨y,hy,e⟩=>by
  have h7:=hlt x hx;rcases h6 y hy with⟨z,hz,_⟩|h8
  · cases hz
  · omega
 have hBold:∀i,i<j->∀x,B i=some x->¬ ∃y,A j=some y/\y.block=x.block:=by
  rintro i hi x hx ⟨y,hy,e⟩;rcases (h2 i hi).2.2 x hx with⟨z,hz,e2⟩|h7
  · exact hd i j (by omega) hj (by omega) z y hz hy (e2.trans e.symm)
  · have:=hA0 j hj y hy;omega
 refine⟨?_,?_,?_,?_,?_,?_⟩
 · rw[List.range_succ,List.map_append]
   have e:((List.range j).map fun i=>Value.slice (if i=j then gj else B i) (N i+20) (if i=j then cj else D i))=(List.range j).map fun i=>Value.slice (B i) (N i+20) (D i):=by
    apply List.map_congr_left;intro i hi;have:=List.mem_range.1 hi;simp[show i≠j by omega]
   rw[e];simpa using hAr
 · intro i hi;by_cases e:i=j
   · subst e;dsimp only;rw[if_pos rfl,if_pos rfl];refine⟨row hRg,bs hBs (hA0 i hj),?_⟩;intro x hx;rcases hgj with h7|h7
     · exact .inl ⟨x,by rw[<-h7];exact hx,rfl⟩
     · exact .inr (by have:=h7 x hx;omega)
   · dsimp only;rw[if_neg e,if_neg e];obtain⟨k1,k2,k3⟩:=h2 i (by omega)
     refine⟨row (k1.but hin fun x hx=>hBold i (by omega) x hx),bs (k2.but hin fun x hx _ ⟨y,hy,e2⟩=>hd i j (by omega) hj e x y hx hy e2.symm) (hA0 i (by omega)),k3⟩
 · intro i hi hin';exact row ((h3 i (by omega) hin').but hin fun x hx ⟨y,hy,e2⟩=>hd i j hin' hj (by omega) x y hx hy e2.symm)
 · intro i i' hii hi' x y hx hy;dsimp only at hx hy;rw[if_neg (by omega)] at hx
   by_cases e:i'=j
   · rw[if_pos e] at hy;subst e;rcases hgj with h7|h7
     · rw[h7] at hy;exact fun e2=>hBold i hii x hx ⟨y,hy,e2.symm⟩
     · have h8:=h7 y hy;have h9:=(h2 i hii).1.lt hx;omega
   · rw[if_neg e] at hy;exact h4 i i' hii (by omega) x y hx hy
 · refine(h5.trans hin fun x _ ⟨y,hy,e⟩=>⟨j,hj,y,hy,e⟩).trans step ?_
   rintro x hx ⟨y,hy,e⟩;rcases h6 y hy with⟨z,hz,_⟩|h8
   · cases hz
   · omega
 · exact h6.trans hN (by rw[size_alloc];omega)
theorem inner_step{wr wx w2:World}{aj gj:Option Addr}{g:Nat}{cap':Nat}{l m:List Nat}{x:Nat}{o:Obj}(hlt:∀y,aj=some y->y.block<wr.heap.size)(hb8:∀z∈l++m++[x],z<256)(hlen:l.length<=9223372036854775807)
 (hin:But (fun q=>∃y,aj=some y/\y.block=q) wr wx) (hBs:Bs wx aj l) (hgj:gj=aj\/∀y,gj=some y->wr.heap.size<=y.block)
 (hR:Rw w2 (some ⟨g,0,none⟩) cap' (l++m++[x])) (hg:(wx.alloc o).grownBy w2 (gj.map Addr.block)) (hc:gj=some ⟨g,0,none⟩\/(wx.alloc o).heap.size<=g/\Below (wx.alloc o).heap.size (wx.alloc o) w2):
 But (fun q=>∃y,aj=some y/\y.block=q) wr w2/\Bs w2 aj l/\(some ⟨g,0,none⟩=aj\/∀y,some (⟨g,0,none⟩:Addr)=some y->wr.heap.size<=y.block):=by
 have hsz:=hin.size;refine⟨?_,?_,?_⟩
 · refine(hin.alloc o).trans (grown_but hg) ?_;rintro q hq ⟨y,hy,e⟩;rcases hgj with h|h
   · exact⟨y,by rw[<-h];exact hy,e⟩
   · have:=h y hy;omega
 · rcases hc with hc|⟨_,hb⟩
   · rcases hgj with h|h
     · rw[<-h,hc];rw[List.append_assoc] at hR hb8;rcases hR.front with h7|h7
       · exact h7.bs (fun z hz=>hb8 z (List.mem_append_left _ hz)) hlen
       · cases h7
     · refine(hBs.keep ((Below.refl _ _).alloc (Nat.le_refl _) o)).but (grown_but hg) ?_;rintro y hy _ ⟨z,hz,e⟩;have h8:=h z hz;have h9:=hlt y hy;omega
   · exact(hBs.keep ((Below.refl _ _).alloc (Nat.le_refl _) o)).keep hb
 · rcases hc with hc|⟨hc,_⟩
   · rw[<-hc];rcases hgj with h|h
     · exact .inl h
     · exact .inr h
   · refine .inr fun y hy=>?_
     simp only[Option.some.injEq] at hy;subst hy;rw[size_alloc] at hc;show _<=g;omega
set_option maxRecDepth 100000 in
theorem Apart_some(w:World)(at':Option Addr)(ct n:Nat)(A:Nat->Option Addr)(C:Nat->Nat)(L:Nat->List Nat)(hAr:Ar w at' ct ((List.range n).map fun i=>Value.slice (A i) (L i).length (C i)))(hR:RowsG w n A C L)(hd:Dist n A)(hn:n<=2932031007410)(hl:∀i,i<n->(L i).length+20<=140737488355328):
 Calls Tryz.prog 30 #[.slice at' n ct] w fun x w'=>x=.returned (.bool true)/\But (InRows n A) w w':=by
 have HA:=hide hAr;have HR:=hide hR;have HD:=hide hd;have HL:=hide hl
 have arr:∀wx,But (InRows n A) w wx->∀i,i<n->∃g,at'=some ⟨g,0,none⟩/\wx.cell? ⟨g,i,none⟩=some (.slice (A i) (L i).length (C i)):=by
  intro wx hb i hi;refine(HA.out.but hb ?_).cell (by simp[hi])
  rintro x hx ⟨q,hq,y,hy,e⟩;exact HA.out.ne (HR.out q hq) hx hy e.symm
 have ARR:=hide arr;clear hAr hR hd hl arr;go_enter Tryz.func30,Tryz.ntmps30;go_wp2;go_loopw [3,4] (fun i _ wx=>∃j:Nat,j<=n/\i=.int .i64 j/\(RowsG wx n A C (fun i=>if i<j then fl i (L i).length else L i)/\But (InRows n A) w wx)) (fun i _ _=>n-(intOf i).toNat)
 case atStart=>exact⟨0,Nat.zero_le _,rfl,HR.out.congr fun i _=>by simp,But.refl _ _⟩
 case round=>
  obtain⟨j,hj,rfl,hG⟩:=hrel;have HG:=hide hG;clear hG;by_cases hlt:j<n
  · have hi:(j:Int)<(n:Int):=by omega
    obtain⟨bt',hat,hc⟩:=ARR.out wr HG.out.2 j hlt;subst hat;have hlj:=HL.out j hlt;go_wp2;go_loopw [4] (fun k' wx=>∃k:Nat,k<=(L j).length/\k'=.int .i64 k/\(RowsG wx n A C (fun i=>if i<j then fl i (L i).length else if i=j then fl j k++(L j).drop k else L i)/\But (InRows n A) w wx)) (fun k' _=>(L j).length-(intOf k').toNat)
    case atStart=>
     refine⟨0,Nat.zero_le _,rfl,HG.out.1.congr fun i _=>?_,HG.out.2⟩
     by_cases e:i=j
     · subst e;simp[fl]
     · simp[e]
    case round=>
     clear hc;obtain⟨k,hk,rfl,hG2⟩:=hrel;have HG2:=hide hG2;clear hG2;obtain⟨b2,e2,hc⟩:=ARR.out wr HG2.out.2 j hlt;simp only[Option.some.injEq,Addr.mk.injEq] at e2;obtain⟨rfl,_⟩:=e2;by_cases hlk:k<(L j).length
     · have hik:(k:Int)<((L j).length:Int):=by omega
       have hrow:=HG2.out.1 j hlt;simp only[Nat.lt_irrefl,if_false,if_true] at hrow;have hrl:(fl j k++(L j).drop k).length=(L j).length:=by rw[List.length_append,fl_length,List.length_drop];omega
       obtain⟨g,hAj,_,_⟩:=hrow.addr2 (by rw[hrl];omega)
       rw[hAj] at hc hrow;have hcg:=hrow.cell (i:=k) (by rw[hrl];exact hlk)
       have hfg:wr.frozen? ⟨g,k,none⟩=false:=by
        rcases hrow.cases with⟨h0,_⟩|⟨g',cur,h0,hg',_⟩
        · cases h0
        · simp only[Option.some.injEq,Addr.mk.injEq] at h0;obtain⟨rfl,_⟩:=h0;exact frozen_of_row wr g k _ _ hg'
       have hmk:((j:Int)*31+(k:Int)*7+1)%256=((mkA j k:Nat):Int):=by unfold mkA;omega
       have HSS:=hide (set_step j k (L j) hlk);have HAJ:=hide hAj;clear hAj hrow hrl;generalize hx:(fl j k++(L j).drop k).getD k 0=x at *;clear hx;generalize mkA j k=mm at *;go_wp2;go_roundw
       case rel=>
        refine⟨k+1,by omega,by go_num,(HG2.out.1.set HD.out hlt HAJ.out k mm).congr fun i hi=>?_,HG2.out.2.setCell (p:=⟨g,k,none⟩) (fun _=>⟨j,hlt,_,HAJ.out,rfl⟩) _⟩
        by_cases e:i=j
        · subst e;simp only[if_true,Nat.lt_irrefl,if_false];exact HSS.out
        · simp only[e,if_false]
       case measure=>simp[intOf];omega
     · obtain rfl:k=(L j).length:=by omega
       go_wp2;go_roundw
       case rel=>
        refine⟨j+1,by omega,by go_num,HG2.out.1.congr fun i hi=>?_,HG2.out.2⟩
        by_cases e:i=j
        · subst e;simp
        · by_cases e2:i<j
          · rw[if_pos e2,if_pos (by omega)]
          · rw[if_neg e2,if_neg e,if_neg (by omega)]
       case measure=>simp[intOf];omega
  · obtain rfl:n=j:=by omega
    have hA0:∀i,i<n->∀x,A i=some x->x.block<w.heap.size:=fun i hi x hx=>(HR.out i hi).lt hx
    have HA0:=hide hA0;have H1:Hid (P2 w wr n A C (fun i=>(L i).length) 0 none 0 (fun _=>none) (fun _=>0)):=⟨Ar.nil _,fun i hi=>by omega,fun i _ hi=>by have:=HG.out.1 i hi;dsimp only at this;rwa [if_pos hi] at this,fun i i' _ hi'=>by omega,HG.out.2,New.none _ _⟩
    clear hA0 HG;go_wp2;go_loopw [5,6,7,8] (fun gr i _ _ wx=>∃(j:Nat)(ag:Option Addr)(cg:Nat)(B:Nat->Option Addr)(D:Nat->Nat),j<=n/\i=.int .i64 j/\gr=.slice ag j cg/\P2 w wx n A C (fun i=>(L i).length) j ag cg B D) (fun _ i _ _ _=>n-(intOf i).toNat)
    case atStart=>exact⟨0,none,0,_,_,Nat.zero_le _,rfl,rfl,H1.out⟩
    case round=>
     clear H1;obtain⟨j,ag,cg,B,D,hj,rfl,rfl,hP⟩:=hrel;have HP:=hide hP;clear hP;by_cases hlt:j<n
     · have hi:(j:Int)<(n:Int):=by omega
       have hlj:=HL.out j hlt;obtain⟨bt',hat,hc⟩:=ARR.out wr HP.out.2.2.2.2.1 j hlt;subst hat;have hrow0:=HP.out.2.2.1 j (Nat.le_refl _) hlt;have HROW0:=hide hrow0;have HBS0:=hide (hrow0.bs (fl_lt _ _) hrow0.len_le);have HLTJ:Hid (∀y,A j=some y->y.block<wr.heap.size):=fun y hy=>hrow0.lt hy
       have HARW:Hid (∀wx,But (fun q=>∃y,A j=some y/\y.block=q) wr wx->wx.cell? ⟨bt',j,none⟩=some (.slice (A j) (L j).length (C j))):=fun wx hb=>by
        obtain⟨b2,e2,h2⟩:=ARR.out wx (HP.out.2.2.2.2.1.trans hb fun x _ ⟨y,hy,e⟩=>⟨j,hlt,y,hy,e⟩) j hlt
        simp only[Option.some.injEq,Addr.mk.injEq] at e2;obtain⟨rfl,_⟩:=e2;exact h2
       clear hrow0;go_wp2;generalize hW:wr=W at *;go_loopw [7,8] (fun gv k' wx=>∃(k:Nat)(gj:Option Addr)(cj:Nat),k<=20/\k'=.int .i64 k/\gv=.slice gj ((L j).length+k) cj/\(Rw wx gj cj (fl j ((L j).length+k))/\(But (fun q=>∃y,A j=some y/\y.block=q) W wx/\Bs wx (A j) (fl j (L j).length)/\(gj=A j\/∀y,gj=some y->W.heap.size<=y.block)))) (fun _ k' _=>20-(intOf k').toNat)
       case atStart=>exact⟨0,A j,C j,by decide,rfl,rfl,HROW0.out,But.refl _ _,HBS0.out,.inl rfl⟩
       case round=>
        clear hc;obtain⟨k,gj,cj,hk,rfl,rfl,hG⟩:=hrel;have HG:=hide hG;clear hG;by_cases hlk:k<20
        · have hik:(k:Int)<20:=by omega
          have hc:=HARW.out wr HG.out.2.1;have hbt:=block_lt_of_cell hc;have hmk:((j:Int)*31+(((L j).length:Int)+(k:Int))*7+1)%256=((mkA j ((L j).length+k):Nat):Int):=by unfold mkA;omega
          have HS:Hid (fl j ((L j).length+k)++[mkA j ((L j).length+k)]=fl j ((L j).length+(k+1))):=(fl_succ j ((L j).length+k)).symm
          have HSP:Hid (∃m,fl j ((L j).length+k)=fl j (L j).length++m):=⟨(fl j ((L j).length+k)).drop (L j).length,by
           have e:(fl j ((L j).length+k)).take (L j).length=fl j (L j).length:=by simp[fl,<-List.map_take,List.take_range]
           rw[<-e];exact(List.take_append_drop _ _).symm⟩
          have HM8:Hid (mkA j ((L j).length+k)<256):=Nat.mod_lt _ (by decide)
          have HF8:=hide (fl_lt j ((L j).length+k));have hz:=fl_length j ((L j).length+k);have hzn:=fl_length j (L j).length;generalize mkA j ((L j).length+k)=mm at *;generalize fl j ((L j).length+k)=FL at *;go_wp2_with (at_builtin;refine wpList_ap1' rfl _ _ rfl gj ((L j).length+k) cj FL ?q1 hz.symm (HG.out.1.keep ((Below.refl _ _).alloc (Nat.le_refl _) _)) ⟨wr.heap.size,0,none⟩ 1 mm ?q2 ?q3 (by omega) ?_)
          try case q1=>rfl
          try case q2=>rfl
          try case q3=>simp
          intro g cap' w2 hR hN hg hcase;obtain⟨m,hm⟩:=HSP.out;have hst:=inner_step (m:=m) (x:=mm) HLTJ.out (by rw[<-hm];intro z hz';rcases List.mem_append.1 hz' with h|h;exact HF8.out z h;rw[List.mem_singleton] at h;have:=HM8.out;omega) (by omega) HG.out.2.1 HG.out.2.2.1 HG.out.2.2.2 (by rw[<-hm];exact hR) hg (by rw[size_alloc];exact hcase)
          rw[HS.out] at hR;have HR2:=hide hR;have HST:=hide hst;clear hR hN hg hcase hst hm;go_wp2;go_roundw
          case rel=>exact⟨k+1,_,cap',by omega,by go_num,rfl,HR2.out,HST.out⟩
          case measure=>simp[intOf];omega
        · obtain rfl:k=20:=by omega
          have hAgx:Ar wr ag cg ((List.range j).map fun i=>Value.slice (B i) ((L i).length+20) (D i)):=HP.out.1.but HG.out.2.1 fun x hx ⟨y,hy,e⟩=>HP.out.1.ne HROW0.out hx hy e.symm
          have hvl:((List.range j).map fun i=>Value.slice (B i) ((L i).length+20) (D i)).length=j:=by simp
          have HAG:=hide hAgx
          have HNX:Hid (∀w3 ag' cg' o,Ar w3 ag' cg' (((List.range j).map fun i=>Value.slice (B i) ((L i).length+20) (D i))++[.slice gj ((L j).length+20) cj])->New (wr.alloc o) ag ag'->(wr.alloc o).grownBy w3 (ag.map Addr.block)->P2 w w3 n A C (fun i=>(L i).length) (j+1) ag' cg' (fun i=>if i=j then gj else B i) (fun i=>if i=j then cj else D i)):=
           fun w3 ag' cg' o h1 h2 h3=>HP.out.next HD.out HA0.out hlt HG.out.2.1 HG.out.1 HG.out.2.2.1 HG.out.2.2.2 h1 h2 h3
          clear hAgx;generalize ((List.range j).map fun i=>Value.slice (B i) ((L i).length+20) (D i))=vs at*
          go_wp2_with (at_builtin;refine wpList_apRows rfl _ _ rfl ag j cg vs ?r1 hvl.symm (HAG.out.keep ((Below.refl _ _).alloc (Nat.le_refl _) _)) ⟨wr.heap.size,0,none⟩ 1 (.slice gj ((L j).length+20) cj) ?r2 ?r3 rfl (by omega) ?_)
          try case r1=>rfl
          try case r2=>rfl
          try case r3=>simp
          intro g cap' w2 hR hN hg;have HQ:=hide (HNX.out w2 _ cap' _ hR hN hg);clear hR hN hg;go_wp2;go_roundw
          case rel=>exact⟨j+1,_,cap',_,_,by omega,by go_num,rfl,HQ.out⟩
          case measure=>simp[intOf];omega
     · obtain rfl:n=j:=by omega
       go_wp2;generalize hW:wr=W at *;go_loopw [9,10,11] (fun i _ _ wx=>∃j:Nat,j<=n/\i=.int .i64 j/\wx=W) (fun i _ _ _=>n-(intOf i).toNat)
       case atStart=>exact⟨0,Nat.zero_le _,rfl,rfl⟩
       case round=>
        obtain⟨j,hj,rfl,hwW⟩:=hrel;subst hwW;by_cases hlt:j<n
        · have hi:(j:Int)<(n:Int):=by omega
          have hlj:=HL.out j hlt;obtain⟨bt',hat,hc⟩:=ARR.out _ HP.out.2.2.2.2.1 j hlt;obtain⟨gg,hag,hcg⟩:=HP.out.1.cell (i:=j) (v:=.slice (B j) ((L j).length+20) (D j)) (by simp[hlt])
          subst hat hag;obtain⟨hrow,hbs,_⟩:=HP.out.2.1 j hlt;obtain⟨g,hBj,hle,hmx⟩:=hrow.addr2 (by rw[fl_length];omega)
          rw[hBj] at hcg hrow;have HROW:=hide hrow;have HBS:=hide hbs;clear hrow hbs hBj;unfold maxLen at hmx;rw[fl_length] at hle;go_wp2;go_loopw [10,11] (fun k' _ wx=>∃k:Nat,k<=(L j).length+20/\k'=.int .i64 k/\wx=wr) (fun k' _ _=>(L j).length+20-(intOf k').toNat)
          case atStart=>exact⟨0,Nat.zero_le _,rfl,rfl⟩
          case round=>
           obtain⟨k,hk,rfl,hwW⟩:=hrel;subst hwW;by_cases hlk:k<(L j).length+20
           · have hik:(k:Int)<((L j).length:Int)+20:=by omega
             have hcell:=HROW.out.cell (i:=k) (by rw[fl_length];exact hlk)
             rw[fl_get j _ k hlk] at hcell;have hmk:((j:Int)*31+(k:Int)*7+1)%256=((mkA j k:Nat):Int):=by unfold mkA;omega
             by_cases hkl:k<(L j).length
             · have hkl2:(k:Int)<((L j).length:Int):=by omega
               obtain⟨ba,oa,hAj,hca⟩:=HBS.out.at (j:=k) (by rw[fl_length];exact hkl)
               rw[fl_get j _ k hkl] at hca;rw[hAj] at hc;generalize mkA j k=mm at *;go_wp2;go_roundw
               case rel=>exact⟨k+1,by omega,by go_num,trivial⟩
               case measure=>simp[intOf];omega
             · have hkl2:¬(k:Int)<((L j).length:Int):=by omega
               generalize mkA j k=mm at *;go_wp2;go_roundw
               case rel=>exact⟨k+1,by omega,by go_num,trivial⟩
               case measure=>simp[intOf];omega
           · obtain rfl:k=(L j).length+20:=by omega
             go_wp2;go_roundw
             case rel=>exact⟨j+1,by omega,by go_num,trivial⟩
             case measure=>simp[intOf];omega
        · obtain rfl:n=j:=by omega
          go_wp2;go_ret;exact⟨rfl,HP.out.2.2.2.2.1⟩
end
section
open Go.RowKit
end
section
open Go.RowKit
end
section
open Go.RowKit
end
section
open Go.RowKit
theorem CopyPage_pn(w:World)(r:Pv)(hR:Pi w r)(hd:r.data.length<=140737488355264)(hi:r.items.length<=1048576)(hs:∀x∈r.items,x.key.length<=140737488355264/\x.val.length<=140737488355264):
 Calls Tryz.prog 14 #[r.vl] w fun e w'=>∃q:Pv,e=.returned q.vl/\Pn w w' q/\q.items.length=r.items.length/\q.pg=r.pg/\Below w.heap.size w w':=by
 have S1:=hide fun w1 (hb:Below w.heap.size w w1)=>CopyItems_any w1 r.aI r.items.length r.cI r.items (hR.it.keep hb) rfl hi hs
 have S2:=hide fun w1 (hb:Below w.heap.size w w1)=>CopyBytes_at w1 r.aD r.data.length r.cD r.data (hR.bd.keep hb) rfl hd
 have L8:=hide hR.bd.1;have NK:=hide (And.intro hR.nk (And.intro hR.nl hR.nn));clear hR;unfold Pv.vl;obtain⟨kind,level,aI,cI,items,aD,cD,data,next⟩:=r
 have IT:=hide fun(W:World)(h:W.heap[w.heap.size]?=some (.cells (Pv.cs ⟨kind,level,aI,cI,items,aD,cD,data,next⟩) 31))=>Bx.page (p:=⟨kind,level,aI,cI,items,aD,cD,data,next⟩) h
 have IS:=hide fun(W:World)(h:W.heap[w.heap.size]?=some (.cells (Pv.cs ⟨kind,level,aI,cI,items,aD,cD,data,next⟩) 31))(a b c d f:Value)=>Bx.page (p:=⟨kind,level,aI,cI,items,aD,cD,data,next⟩) ((show Bx W 31 w.heap.size _ from h).but (but_set5 (w.heap.size+1) W a b c d f) (by omega))
 have TZ:=hide fun(W:World)(h:W.heap[w.heap.size+1]?=some (.cells (Pv.cs Pv.zero) 31))=>And.intro (Bx.page (p:=Pv.zero) h) (fr4 (show Bx W 31 (w.heap.size+1) _ from h))
 have TM:=hide fun(W:World)(h:W.heap[w.heap.size+1]?=some (.cells (Pv.cs Pv.zero) 31))(a b c d f:Value)=>bx_set5 (show Bx W 31 (w.heap.size+1) _ from h) a b c d f
 dsimp only[Pv.cs,Pv.zero,List.length_nil] at *;go_enter Tryz.func14,Tryz.ntmps14;go_wp2;have T0:Hid (Below ((w.alloc (.cells #[.int .i64 kind,.int .i64 level,.slice aI items.length cI,.slice aD data.length cD,.int .i64 next] 31)).alloc (.cells #[.int .i64 0,.int .i64 0,.slice none 0 0,.slice none 0 0,.int .i64 0] 31)).heap.size ((w.alloc (.cells #[.int .i64 kind,.int .i64 level,.slice aI items.length cI,.slice aD data.length cD,.int .i64 next] 31)).alloc (.cells #[.int .i64 0,.int .i64 0,.slice none 0 0,.slice none 0 0,.int .i64 0] 31)) ((w.alloc (.cells #[.int .i64 kind,.int .i64 level,.slice aI items.length cI,.slice aD data.length cD,.int .i64 next] 31)).alloc (.cells #[.int .i64 0,.int .i64 0,.slice none 0 0,.slice none 0 0,.int .i64 0] 31)).drew):=(Below.refl _ _).drew
 have C0:=IT.out _ (two_blocks w _ _ T0.out).1;have hn:w.heap.size+1≠w.heap.size:=by omega
 go_region_held3 (fun w'=>w'.cell? ⟨w.heap.size,0,none⟩=some (.int .i64 kind)/\w'.cell? ⟨w.heap.size,1,none⟩=some (.int .i64 level)/\w'.cell? ⟨w.heap.size,2,none⟩=some (.slice aI items.length cI)/\w'.cell? ⟨w.heap.size,3,none⟩=some (.slice aD data.length cD)/\w'.cell? ⟨w.heap.size,4,none⟩=some (.int .i64 next))
  (first|with_reducible exact C0|with_reducible exact IS.out _ (two_blocks w _ _ T0.out).1 _ _ _ _ _)
  (first|(go_at_call 63;with_reducible refine(S1.out _ (two_blocks w _ _ T0.out).2.2.1).mono ?_;rintro e w1 ⟨g1,d1,M,rfl,o1⟩;have hb1:=o1.j.b;have S0:=hide (Nat.le_trans (Nat.le_trans (Nat.le_succ _) (Nat.le_succ _)) (two_blocks w _ _ T0.out).2.2.2);have RL:=hide (fun t (ht:t∈rowsOf M) x (hx:t.a=some x)=>(o1.f.own t ht).1.r.lt hx);have T0:=hide (bt T0.out hb1);have C0:=IT.out _ (two_blocks w _ _ T0.out).1;have R1:=hide o1;clear hb1 o1)|(go_at_call 64;with_reducible refine(S2.out _ (two_blocks w _ _ T0.out).2.2.1).mono ?_;rintro e w2 ⟨g2,d2,rfl,o2⟩;have hb2:=o2.b;have S1':=hide (Nat.le_trans S0.out R1.out.j.b.size);have RF:=hide (fun y (hy:g2=some y)=>o2.fresh hy);have T0:=hide (bt T0.out hb2);have C0:=IT.out _ (two_blocks w _ _ T0.out).1;obtain⟨⟨y0,y1,y2,y3,y4⟩,f0,f1,f2,f3,f4⟩:=TZ.out _ (two_blocks w _ _ T0.out).2.1;have R1:=hide (R1.out.keep hb2);have R2:=hide o2.r;clear hb2 o2))
 clear C0;have M1:=hide (TM.out _ (two_blocks w _ _ T0.out).2.1 (.int .i64 kind) (.int .i64 level) (.slice g1 items.length d1) (.slice g2 data.length d2) (.int .i64 next))
 have BB:=hide (but_set5 (w.heap.size+1) w2 (.int .i64 kind) (.int .i64 level) (.slice g1 items.length d1) (.slice g2 data.length d2) (.int .i64 next))
 have TB:=hide (two_blocks w _ _ T0.out).2.2.1;have X1:Hid (Bx w2 31 (w.heap.size+1) _):=(two_blocks w _ _ T0.out).2.1;clear y0 y1 y2 y3 y4 f0 f1 f2 f3 f4 T0;go_wp2;refine bodyPost_ret (v:=.agg _) (results_cell_row Tryz.results14 _ _ (w.heap.size+1) 31 _ (0,0) _ rfl M1.out Tryz.underlying31 rfl sizePage) rfl ?_;have bel:Below w.heap.size w _:=((But.ofBelow (S:=fun k=>k=w.heap.size+1) TB.out).trans BB.out fun _ _ e=>e).below fun k hk e=>by omega
 have r2:=R2.out.but BB.out fun x hx e=>R2.out.nty X1.out (by decide) hx e
 have j2:=R1.out.j.r.but BB.out fun x hx e=>R1.out.j.r.nty X1.out (by decide) hx e
 have hml:=R1.out.len;have hrw:∀{a c l},Rw w2 a c l->Rw _ a c l:=fun hr=>hr.but BB.out fun x hx e=>hr.nty X1.out (by decide) hx e
 refine⟨⟨kind,level,g1,d1,M,g2,d2,data,next⟩,by rw[<-hml],⟨j2,R1.out.j.n.mono S0.out,r2,fun y hy=>.inr (by have h1:=RF.out y hy;have h2:=S1'.out;omega),fun t ht=>?_,?_,L8.out,R1.out.n,NK.out.1,NK.out.2.1,NK.out.2.2⟩,hml,?_,bel⟩
 · obtain⟨o,o8⟩:=R1.out.f.own t ht;exact⟨hrw o.r,o.n.mono S0.out,o8⟩
 · refine List.pairwise_cons.2 ⟨fun t ht x y hx hy e=>?_,R1.out.f.dist⟩
   have h1:=RF.out x hx;have h2:=RL.out t ht y hy;omega
 unfold Pv.pg;dsimp only;rw[R1.out.e]
end
end Go.Proofs.YtcpkinhneehomaaGreat
