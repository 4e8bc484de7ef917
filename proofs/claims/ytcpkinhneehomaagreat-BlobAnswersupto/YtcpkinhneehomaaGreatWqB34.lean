import Derived.Test.YtcpkinhneehomaaGreatWqB23
set_option linter.unusedVariables false
set_option linter.unusedSimpArgs false
set_option maxHeartbeats 2000000
namespace Go.Proofs.YtcpkinhneehomaaGreat.Q
open Go.RowKit
theorem run_apRR(w:World)(ty:TypeId)(a:Option Addr)(n cap:Nat)(L:List Rn)(hn:n=L.length)(hR:Vw w a cap L)(av:Option Addr)(m c:Nat)(V:List Rn)(hm:m=V.length)(hV:Vs w av V)(hlen:L.length+V.length<=14000000000000):
 ∃a' cap' w',(Builtin.append_ #[169,169] ty #[.slice a n cap,.slice av m c]).run Tryz.prog w=.ok (.slice a' (n+m) cap') w'/\Vw w' a' cap' (L++V)/\New w a a'/\w.grownBy w' (a.map Addr.block):=by
 by_cases h0:V=[]
 · subst hn hm;subst h0;obtain⟨i0,hi,hz0,hz1,hz2⟩:=info_parts infoRun
   have hfc:∀z:Option Addr,(Builtin.firstCells 2 0 (.slice z 0 c)).run Tryz.prog w=.ok #[] w:=by
    intro z;cases z with
    |none=>rfl
    |some z=>simp[Builtin.firstCells,loadCells,loadCellsFrom]
   refine⟨a,cap,w,?_,by simpa using hR,New.refl _ _,⟨rfl,rfl,rfl,Nat.le_refl _,fun _ _ _=>rfl⟩⟩
   rcases hR.cases with⟨rfl,rfl,rfl⟩|⟨g,Y,rfl,hg,h1,h2,h3⟩
   · simp[Builtin.append_,run_underlying Tryz.underlying169,sizeOf,typeInfo,hi,hz1,Builtin.lenOf,hfc]
   · have h1':=hR.len.1;simp[Builtin.append_,run_underlying Tryz.underlying169,sizeOf,typeInfo,hi,hz1,Builtin.lenOf,hfc,h1',storeCells]
 · obtain⟨g,cap',w',hr,h1,h2,h3⟩:=run_apR w ty a n cap L hn hR av m c V hm hV h0 hlen;exact⟨_,cap',w',hr,h1,h2,h3⟩
theorem wpList_apRR{w:World}{ops:Array Oper}{rest:List Oper}{o:Oper}{a:Act}{Q:Exit->Act->World->Prop}(hgd:o.guard=none)(s x:Operand)
 (ho:o.op=.call {callee:=.builtin .append,args:=#[s,x],argTypes:=#[169,169]}) (ao:Option Addr) (n cap:Nat) (L:List Rn) (hs:a.eval s=.slice ao n cap) (hn:n=L.length) (hR:Vw w ao cap L)
 (av:Option Addr) (m c:Nat) (V:List Rn) (hx:a.eval x=.slice av m c) (hm:m=V.length) (hV:Vs w av V) (hlen:L.length+V.length<=14000000000000)
 (h:∀a' cap' w',Vw w' a' cap' (L++V)->New w ao a'->w.grownBy w' (ao.map Addr.block)->wpList Tryz.prog ops Q rest (a.put o.dst (.slice a' (n+m) cap')) w'):wpList Tryz.prog ops Q (o::rest) a w:=by
 obtain⟨a',cap',w',hr,h1,h2,h3⟩:=run_apRR w o.type ao n cap L hn hR av m c V hm hV hlen;refine wpList_plain hgd fun _ hK=>?_
 unfold Oper.wp execOp;simp only[ho,resolve,invoke,builtin,Sem.run_bind,Sem.run_pure,Result.andThen_ok,List.map_toArray,List.map_cons,List.map_nil,hs,hx,hr];exact hK _ _ (h a' cap' w' h1 h2 h3)
theorem Grow_any(w:World)(n:Nat)(hn:n<=14000000000000):Calls Tryz.prog 189 #[.slice none 0 0,.int .i64 (n:Int)] w fun e w'=>∃a c,e=.returned (.slice a 0 c)/\Vw w' a c []/\New w none a/\Below w.heap.size w w':=by
 have s0:decide ((n:Int)<0)=false:=decide_eq_false (by omega)
 have s1:IntKind.i64.wrap (n:Int)=(n:Int):=wrapI (by omega) (by omega)
 have s2:wrap64 (n:Int)=(n:Int):=by unfold wrap64;omega
 by_cases h0:n=0
 · subst h0;go_enter Tryz.func189,Tryz.ntmps189;go_wp2;go_ret;exact⟨none,0,rfl,Vw.nil w,New.none _ _,Below.refl _ _⟩
 · have hp:0<(n:Int):=by omega
   have hpn:0<n:=by omega
   have hmax:=hn;go_enter Tryz.func189,Tryz.ntmps189;go_wp2_with (refine wpList_apZ rfl _ _ rfl none 0 0 (by simp[Act.eval]) n (by simp[Act.eval]) [] rfl (Vs.nil _ _) hpn (by simp;omega) (by simp;omega) ?_;intro cap' w' hR hB;have HR:=hide hR;have HB:=hide hB;clear hR hB)
   go_ret;refine⟨_,cap',rfl,?_,fun x hx=>.inr (by cases hx;exact Nat.le_refl _),HB.out⟩
   have r:=HR.out;rw[List.nil_append] at r;rcases Vw.front (L:=[]) (M:=List.replicate n Rn.zero) (by simpa using r) with h|h
   · exact h
   · cases h
theorem own_step{w wx wy:World}{a a':Option Addr}(hn:New w none a)(hb:Below w.heap.size w wx)(hN:New wx a a')(hg:wx.grownBy wy (a.map Addr.block)):New w none a'/\Below w.heap.size w wy:=by
 refine⟨hn.trans hN hb.size,?_⟩
 have hh:But (fun _=>False) w wy:=(But.ofBelow hb).grown hg fun k hk hlt=>by
  obtain⟨y,hy,e⟩:=map_some hk;rcases hn y hy with⟨z,hz,_⟩|h2
  · cases hz
  · omega
 exact hh.below fun _ _ h=>h
def cat2(L M:List Rn):Nat->List Rn
 |0=>[]
 |1=>L
 |_=>L++M
theorem Concat_any(w:World)(g:Nat)(a1 a2:Option Addr)(c1 c2:Nat)(L1 L2:List Rn)(h1:w.cell? ⟨g,0,none⟩=some (.slice a1 L1.length c1))(h2:w.cell? ⟨g,1,none⟩=some (.slice a2 L2.length c2))(V1:Vs w a1 L1)(V2:Vs w a2 L2)(l1:L1.length<=65536)(l2:L2.length<=65536):
 Calls Tryz.prog 173 #[.slice (some ⟨g,0,none⟩) 2 2] w fun e w'=>∃a c,e=.returned (.slice a (L1++L2).length c)/\Vw w' a c (L1++L2)/\New w none a/\Below w.heap.size w w':=by
 have HV1:=hide V1;have HV2:=hide V2;have C2:=hide (show ∀W,Below w.heap.size w W->W.cell? ⟨g,0,none⟩=some (.slice a1 L1.length c1)/\W.cell? ⟨g,1,none⟩=some (.slice a2 L2.length c2) from fun W hb=>⟨(hb.cell (p:=⟨g,0,none⟩) (block_lt_of_cell h1)).trans h1,(hb.cell (p:=⟨g,1,none⟩) (block_lt_of_cell h2)).trans h2⟩)
 have GR:=hide (Grow_any w (L1.length+L2.length) (by omega))
 have e0:((L1.length+L2.length:Nat):Int)=(L1.length:Int)+(L2.length:Int):=by omega
 rw[e0] at GR;have eL:=hide (show(L1++L2).length=L1.length+L2.length from List.length_append)
 rw[eL.out];obtain⟨n1,hn1⟩:∃n,L1.length=n:=⟨_,rfl⟩;obtain⟨n2,hn2⟩:∃n,L2.length=n:=⟨_,rfl⟩;have N1:=hide hn1;have N2:=hide hn2;rw[hn1] at h1 l1 C2 GR;rw[hn2] at h2 l2 C2 GR;rw[hn1,hn2];clear V1 V2 e0 hn1 hn2;go_enter Tryz.func173,Tryz.ntmps173;go_wp2_with fail
 go_loopw [3,11] (fun z i wr=>wr=w/\((i=.int .i64 0/\z=.int .i64 0)\/(i=.int .i64 1/\z=.int .i64 (n1:Int))\/(i=.int .i64 2/\z=.int .i64 ((n1:Int)+(n2:Int))))) (fun _ i _=>2-(intOf i).toNat)
 case atStart=>exact⟨rfl,.inl ⟨rfl,rfl⟩⟩
 case round=>
  obtain⟨hwr,hcase⟩:=hrel;obtain rfl:=hwr.symm;rcases hcase with⟨rfl,rfl⟩|⟨rfl,rfl⟩|⟨rfl,rfl⟩
  · have s3:decide ((n1:Int)<0)=false:=decide_eq_false (by omega)
    go_wp2;go_roundw
    case rel=>exact⟨trivial,.inr (.inl ⟨rfl,rfl⟩)⟩
    case measure=>simp[intOf]
  · have s3:decide ((n1:Int)+(n2:Int)<0)=false:=decide_eq_false (by omega)
    have s1:IntKind.i64.wrap ((n1:Int)+(n2:Int))=(n1:Int)+(n2:Int):=wrapI (by omega) (by omega)
    have s2:wrap64 ((n1:Int)+(n2:Int))=(n1:Int)+(n2:Int):=by unfold wrap64;omega
    go_wp2;go_roundw
    case rel=>exact⟨trivial,.inr (.inr ⟨rfl,rfl⟩)⟩
    case measure=>simp[intOf]
  · go_wp2_with fail
    refine GR.out.mono ?_;rintro _ w1 ⟨aG,cG,rfl,hR,hN,hB⟩;have HR:=hide hR;have HN:=hide hN;have HB:=hide hB;clear hR hN hB GR;go_wp2_with fail
    go_loopw [6,27] (fun z i wr=>∃(k:Nat)(a':Option Addr)(c':Nat),k<=2/\i=.int .i64 (k:Int)/\z=.slice a' (cat2 L1 L2 k).length c'/\Vw wr a' c' (cat2 L1 L2 k)/\New w none a'/\Below w.heap.size w wr) (fun _ i _=>2-(intOf i).toNat)
    case atStart=>exact⟨0,aG,cG,by omega,rfl,rfl,HR.out,HN.out,HB.out⟩
    case round=>
     clear HR HN HB;obtain⟨k,a',c',hk,rfl,rfl,hR,hN,hB⟩:=hrel;obtain⟨d1,d2⟩:=C2.out _ hB;have HR:=hide hR;have HN:=hide hN;have HB:=hide hB;clear hR hN hB;rcases (show k=0\/k=1\/k=2 by omega) with rfl|rfl|rfl
     · have V:=hide (HV1.out.keep HB.out);show Code.wp _ _ _ _ _;go_wp2_with (refine wpList_apRR rfl _ _ rfl a' 0 c' [] (by simp[Act.eval,cat2]) rfl HR.out a1 n1 c1 L1 (by simp[Act.eval]) N1.out.symm V.out (by rw[N1.out];simp;omega) ?_;intro a2' c2' w2 r1 r2 r3;have R1:=hide r1;have R2:=hide r2;have R3:=hide r3;clear r1 r2 r3)
       go_roundw
       case rel=>
        obtain⟨o1,o2⟩:=own_step HN.out HB.out R2.out R3.out;exact⟨1,a2',c2',by omega,rfl,by rw[show cat2 L1 L2 1=L1 from rfl,N1.out],by simpa[cat2] using R1.out,o1,o2⟩
       case measure=>simp[intOf]
     · have V:=hide (HV2.out.keep HB.out);have hr1:Vw wr a' c' L1:=HR.out;have e1:(cat2 L1 L2 1).length=n1:=N1.out;rw[e1];have HR1:=hide hr1;clear hr1 e1;go_wp2_with (refine wpList_apRR rfl _ _ rfl a' n1 c' L1 (by simp[Act.eval]) N1.out.symm HR1.out a2 n2 c2 L2 (by simp[Act.eval]) N2.out.symm V.out (by rw[N1.out,N2.out];omega) ?_;intro a2' c2' w2 r1 r2 r3;have R1:=hide r1;have R2:=hide r2;have R3:=hide r3;clear r1 r2 r3)
       go_roundw
       case rel=>
        obtain⟨o1,o2⟩:=own_step HN.out HB.out R2.out R3.out;exact⟨2,a2',c2',by omega,rfl,by rw[show cat2 L1 L2 2=L1++L2 from rfl,eL.out,N1.out,N2.out],R1.out,o1,o2⟩
       case measure=>simp[intOf]
     · have hr1:Vw wr a' c' (L1++L2):=HR.out;have e1:(cat2 L1 L2 2).length=n1+n2:=by rw[show cat2 L1 L2 2=L1++L2 from rfl,eL.out,N1.out,N2.out]
       rw[e1];have HR1:=hide hr1;clear hr1 e1;go_wp2;go_ret;exact⟨a',c',rfl,HR1.out,HN.out,HB.out⟩
end Go.Proofs.YtcpkinhneehomaaGreat.Q
namespace Go.Proofs.YtcpkinhneehomaaGreat.Q
open Go.RowKit Go.Shelf
attribute [local go_sem] Oper.semAt_some
variable {L:List Pg}{b i s:Nat}{col:Nat->Nat}{D:Pd}{P:Po}{w w':World}
def las(x:Pg):Pg:=(x.1,decide (0<x.1))
def sel(L:List Pg)(p:Int->Bool):List Pg:=(List.range L.length).map fun(i:Nat)=>if p (((i:Nat):Int)+1) then las (L.getD i Pg.zero) else L.getD i Pg.zero
theorem sel_length(L:List Pg)(p:Int->Bool):(sel L p).length=L.length:=by simp[sel]
theorem sel_get(L:List Pg)(p:Int->Bool)(h:i<L.length):(sel L p).getD i Pg.zero=if p ((i:Int)+1) then las (L.getD i Pg.zero) else L.getD i Pg.zero:=by
 unfold sel;simp[h]
theorem getD_ext{M:List Pg}(hl:L.length=M.length)(h:∀i,i<L.length->L.getD i Pg.zero=M.getD i Pg.zero):L=M:=by
 refine List.ext_getElem hl fun i h1 h2=>?_
 have:=h i h1;simpa[h1,h2] using this
theorem sel_none(L:List Pg):sel L (fun _=>false)=L:=getD_ext (sel_length _ _) fun i hi=>by
 rw[sel_length] at hi;rw[sel_get L _ hi];rfl
theorem set_getD(L:List Pg)(i j:Nat)(x:Pg)(hj:j<L.length):(L.set i x).getD j Pg.zero=if i=j then x else L.getD j Pg.zero:=by
 by_cases h:i=j
 · subst h;rw[if_pos rfl,List.getD_eq_getElem?_getD,List.getElem?_set_self hj];rfl
 · rw[if_neg h,List.getD_eq_getElem?_getD,List.getElem?_set_ne h,<-List.getD_eq_getElem?_getD]
theorem sel_set{p:Int->Bool}(h:i<L.length)(hp:p ((i:Int)+1)=false):(sel L p).set i (las (L.getD i Pg.zero))=sel L (fun z=>p z||decide (z=(i:Int)+1)):=by
 refine getD_ext (by rw[List.length_set,sel_length,sel_length]) fun j hj=>?_
 rw[List.length_set,sel_length] at hj;rw[set_getD _ _ _ _ (by rw[sel_length];exact hj),sel_get L _ hj,sel_get L _ hj]
 by_cases e:i=j
 · subst e;rw[if_pos rfl];simp
 · rw[if_neg e];have:decide ((j:Int)+1=(i:Int)+1)=false:=decide_eq_false (by omega)
   rw[this,Bool.or_false]
theorem sel_congr{p q:Int->Bool}(h:∀i,i<L.length->p ((i:Int)+1)=q ((i:Int)+1)):sel L p=sel L q:=getD_ext (by rw[sel_length,sel_length]) fun i hi=>by
 rw[sel_length] at hi;rw[sel_get L _ hi,sel_get L _ hi,h i hi]
def Po.setl(P:Po)(f:Nat):Po:={P with pg:=sel P.pg (inS P.pg f)}
theorem inS_get(h:i<L.length):inS L s ((i:Int)+1)=decide (stt (L.getD i Pg.zero)=s):=by
 have:=inS_at (P:=L) (n:=i+1) (s:=s) (by omega) (by omega)
 rw[show(((i+1:Nat)):Int)=(i:Int)+1 by omega] at this
 exact this
theorem inS_setl{f t:Nat}(hft:f≠t)(h:∀x∈L,stt x=f->stt (las x)=t)(s:Nat)(z:Int):inS (sel L (inS L f)) s z=if s=t then (inS L t z||inS L f z) else if s=f then false else inS L s z:=by
 by_cases hz:1<=z/\z<=L.length
 · obtain⟨i,rfl⟩:∃i:Nat,z=(i:Int)+1:=⟨(z-1).toNat,by omega⟩
   have hi:i<L.length:=by omega
   rw[inS_get (by rw[sel_length];exact hi),sel_get L _ hi,inS_get hi,inS_get hi,inS_get hi]
   by_cases e:stt (L.getD i Pg.zero)=f
   · rw[decide_eq_true e,if_pos rfl,h _ (getD_memP hi) e];by_cases st:s=t
     · subst st;simp
     · rw[if_neg st,decide_eq_false (fun e=>st e.symm),e]
       by_cases sf:s=f
       · rw[if_pos sf]
       · rw[if_neg sf,decide_eq_false (fun e=>sf e.symm)]
   · rw[decide_eq_false e,if_neg (by decide)]
     by_cases st:s=t
     · subst st;simp
     · rw[if_neg st];by_cases sf:s=f
       · subst sf;rw[if_pos rfl,decide_eq_false e]
       · rw[if_neg sf]
 · have e:∀(M:List Pg)(q:Nat),M.length=L.length->inS M q z=false:=fun M q hM=>by
    unfold inS;by_cases h1:1<=z
    · rw[decide_eq_false (show ¬z<=(M.length:Int) by omega)];simp
    · rw[decide_eq_false h1];simp
   rw[e _ s (sel_length _ _),e L t rfl,e L f rfl,e L s rfl];simp
theorem Pq.repage(h:Pq w b P D col)(pg':List Pg)(hl:pg'.length=P.pg.length)(hg:w'.heap[D.g]?=some (.cells (pgc pg').toArray 133 (0,0)))(hb:But (fun k=>k=D.g) w w'):Pq w' b {P with pg:=pg'} D col:=by
 have ne:∀{k:Nat},col k≠2->¬(k=D.g):=fun h1 e=>h1 (by rw[e];exact h.cg)
 have lb:=hb.same h.box (ne (by rw[h.cb];decide))
 refine⟨?_,hg,fun s hs=>(h.set s hs).but hb (ne (by rw[h.cs s hs];omega)) (fun y hy=>ne (by rw[h.ca s hs y hy];omega)),h.acr.but hb (fun y hy=>ne (by rw[h.cc y hy];decide)),h.acl,fun q hq=>?_,h.cb,h.cg,h.cs,h.ca,h.cc,h.cB,fun k hk=>Nat.lt_of_lt_of_le (h.lt k hk) hb.size⟩
 · rw[lb];show some (Obj.cells (boxC P D) _ _)=some (Obj.cells (boxC {P with pg:=pg'} D) _ _);unfold boxC;rw[hl]
 · obtain⟨c1,c2,c3⟩:=h.cB _ (zip_left hq).1;exact(h.acb q hq).but hb (ne (by rw[c1];decide)) (ne (by rw[c2];decide)) (ne (by rw[c3];decide))
theorem Pq.newSet{W:World}(h:Pq w b P D col)(hs:s<5)(hW:Below w.heap.size w W){b':Nat}{a':Option Addr}{c':Nat}{R:List Rn}(hN:Nw W w' b' a' c' R):
 Pq (w'.setCell ⟨b,2+s,none⟩ (.pointer (some ⟨b',0,none⟩))) b P {D with s:=upd D.s s b',a:=upd D.a s a',c:=upd D.c s c',L:=upd D.L s R} (recol col w w' (3+s))/\Fr w col (w'.setCell ⟨b,2+s,none⟩ (.pointer (some ⟨b',0,none⟩))) (recol col w w' (3+s)):=by
 have bw:Below w.heap.size w w':=bt hW hN.w;have old:∀{k:Nat},col k≠0->recol col w w' (3+s) k=col k:=fun hk=>recol_old (h.lt _ hk)
 have bS:But (fun k=>k=b) w (w'.setCell ⟨b,2+s,none⟩ (.pointer (some ⟨b',0,none⟩))):=(But.ofBelow (S:=fun k=>k=b) bw).setCell (p:=⟨b,2+s,none⟩) (fun _=>rfl) _
 have bS':But (fun k=>k=b) w' (w'.setCell ⟨b,2+s,none⟩ (.pointer (some ⟨b',0,none⟩))):=(But.refl (fun k=>k=b) _).setCell (p:=⟨b,2+s,none⟩) (fun _=>rfl) _
 have hsz:=hW.size;have lb:=h.lb;have nb:∀k,w.heap.size<=k->k≠b:=fun k hk e=>by omega
 have ne:∀{k:Nat},col k≠1->¬(k=b):=fun h1 e=>h1 (by rw[e];exact h.cb)
 have hb':w'.heap[b]?=_:=(bw.block b lb).trans h.box;refine⟨⟨?_,bS.same h.pgs (ne (by rw[h.cg];decide)),fun t ht=>?_,h.acr.but bS (fun y hy=>ne (by rw[h.cc y hy];decide)),h.acl,fun q hq=>?_,(old (by rw[h.cb];decide)).trans h.cb,(old (by rw[h.cg];decide)).trans h.cg,fun t ht=>?_,fun t ht x hx=>?_,fun x hx=>(old (by rw[h.cc x hx];decide)).trans (h.cc x hx),fun t ht=>?_,fun k hk=>?_⟩,⟨bS.mono fun k _ hk=>by rw[hk,h.cb];decide,fun k hk=>recol_old hk⟩⟩
 · rw[heap_setCell_same _ _ _ _ _ _ hb'];rcases lt5 hs with rfl|rfl|rfl|rfl|rfl<;>rfl
 · show St _ (upd D.s s b' t) (upd D.a s a' t) (upd D.c s c' t) (upd D.L s R t);by_cases e:t=s
   · subst e;rw[upd_same,upd_same,upd_same,upd_same];exact hN.st.but bS' (nb _ (Nat.le_trans hsz hN.b)) (fun x hx=>nb _ (Nat.le_trans hsz (hN.a x hx)))
   · rw[upd_ne _ _ e,upd_ne _ _ e,upd_ne _ _ e,upd_ne _ _ e];exact(h.set t ht).but bS (ne (by rw[h.cs t ht];omega)) (fun x hx=>ne (by rw[h.ca t ht x hx];omega))
 · obtain⟨c1,c2,c3⟩:=h.cB _ (zip_left hq).1;exact(h.acb q hq).but bS (ne (by rw[c1];decide)) (ne (by rw[c2];decide)) (ne (by rw[c3];decide))
 · show recol col w w' (3+s) (upd D.s s b' t)=3+t;by_cases e:t=s
   · subst e;rw[upd_same];exact recol_new (Nat.le_trans hsz hN.b) hN.st.lt
   · rw[upd_ne _ _ e,old (by rw[h.cs t ht];omega)];exact h.cs t ht
 · have hx:upd D.a s a' t=some x:=hx;by_cases e:t=s
   · subst e;rw[upd_same] at hx;exact recol_new (Nat.le_trans hsz (hN.a x hx)) (hN.st.row.lt hx)
   · rw[upd_ne _ _ e] at hx;rw[old (by rw[h.ca t ht x hx];omega)];exact h.ca t ht x hx
 · obtain⟨c1,c2,c3⟩:=h.cB t ht;exact⟨(old (by rw[c1];decide)).trans c1,(old (by rw[c2];decide)).trans c2,(old (by rw[c3];decide)).trans c3⟩
 · exact Nat.lt_of_lt_of_le (recol_lt bw.size hk) bS'.size
end Go.Proofs.YtcpkinhneehomaaGreat.Q
