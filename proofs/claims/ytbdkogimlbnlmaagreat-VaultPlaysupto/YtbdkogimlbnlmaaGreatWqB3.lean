import Derived.Test.YtbdkogimlbnlmaaGreatWqB2
import Derived.Lib.AppendZerosOnto
import Derived.Lib.Overlaps
import Derived.Deep.DeepAppendWide
set_option linter.unusedVariables false
set_option linter.unusedSimpArgs false
set_option maxHeartbeats 4000000
set_option maxRecDepth 10000
namespace Go.Proofs.YtbdkogimlbnlmaaGreat.Q
open Go.RowKit
variable {a:Option Addr}{w:World}
def InA(a:Option Addr)(k:Nat):Prop:=∃x,a=some x/\x.block=k
theorem zM{w:World}{o:Oper}{a:Act}{K:Act->World->Prop}{Q:Exit->Act->World->Prop}(d s:Operand)
 (ho:o.op=.call {callee:=.builtin .copy,args:=#[d,s],argTypes:=#[169,169]}) (g off dLen dCap:Nat) (hd:a.eval d=.slice (some ⟨g,off,none⟩) dLen dCap) (sa:Option Addr) (sLen sCap:Nat) (hs:a.eval s=.slice sa sLen sCap)
 (P X Y:List Value) (ho2:off=P.length) (hg:iU w g (P++Y)) (hn:X.length=Nat.min sLen dLen*2) (hX:X=[]\/∃b o,sa=some ⟨b,o,none⟩/\Cs w b o X) (hfit:X.length<=Y.length) (h1:∀v∈X,v.oneCell'=true)
 (h:∀n w',iU w' g (P++X++Y.drop X.length)->But (λk=>k=g) w w'->K (a.put o.dst (.int .i64 n)) w'):o.wp Tryz.prog a w K Q:=by
 subst ho2;obtain⟨w',hr,h1,h2⟩:=i7 w o.type g dLen dCap sa sLen sCap P X Y hg hn hX hfit h1;unfold Oper.wp execOp;simp only[ho,resolve,invoke,builtin,dl,dm,bN,cu,bz,cQ,hd,hs,hr];exact h _ w' h1 h2
theorem xa{w:World}{ops:Array Oper}{o:Oper}{a:Act}{K:Act->World->Prop}{Q:Exit->Act->World->Prop}{E:Prop}(hgd:o.guard=none)(d s:Operand)
 (ho:o.op=.call {callee:=.builtin .copy,args:=#[d,s],argTypes:=#[169,169]}) (g off dLen dCap:Nat) (hd:a.eval d=.slice (some ⟨g,off,none⟩) dLen dCap) (sa:Option Addr) (sLen sCap:Nat) (hs:a.eval s=.slice sa sLen sCap)
 (P X Y:List Value) (ho2:off=P.length) (hg:iU w g (P++Y)) (hn:X.length=Nat.min sLen dLen*2) (hX:X=[]\/∃b o,sa=some ⟨b,o,none⟩/\Cs w b o X) (hfit:X.length<=Y.length) (h1:∀v∈X,v.oneCell'=true)
 (h:∀n w',iU w' g (P++X++Y.drop X.length)->But (λk=>k=g) w w'->K (a.put o.dst (.int .i64 n)) w'):
 if Region.wanted o (yielded ops a.tmps)=true then Oper.wp Tryz.prog o a w K Q else E:=by
 have hw:Region.wanted o (yielded ops a.tmps)=true:=by simp[Region.wanted,hgd]
 rw[if_pos hw];exact zM d s ho g off dLen dCap hd sa sLen sCap hs P X Y ho2 hg hn hX hfit h1 h
theorem pF{P:Program}(w:World)(t ty:TypeId)(base:Nat)(e:TypeId)(i:TypeInfo)(z:Value)(size bytes:Nat)(ht:P.underlying t=some (.slice e))(hi:P.info? e=some i)(hz:i.zero=some z)
 (hsize:i.size=size) (hby:i.bytes=bytes) (hzs:z.cells.size=size) (hsz:0<size) (v:Value) (n:Nat) (xs:List Value) (hown:w.ownsRow base e size v n xs)
 (ad:Addr) (m c:Nat) (news:List Value) (hl:news.length=m*size) (hnews:∀j u,news[j]?=some u->w.cell? (ad.add j)=some u) (h1:∀u∈news,u.oneCell'=true)
 (hm:0<m) (h63:n+m<=maxLen) (hbytes:((n+m)+(n+m)/4+192)*bytes<=281474976710656) (hbase:base<=w.heap.size) (H:Nat) (hH:w.heap.size=H):
 ∃g cap w',(Builtin.append_ #[t,t] ty #[v,.slice (some ad) m c]).run P w=.ok (.slice (some ⟨g,0,none⟩) (n+m) cap) w'/\
  w'.ownsRow base e size (.slice (some ⟨g,0,none⟩) (n+m) cap) (n+m) (xs++news)/\w.grownBy w' v.ownBlock/\(v.ownBlock=some g\/g=H)/\g<w'.heap.size:=by
 obtain⟨v',w',hr,h2,h3,_⟩:=run_append_own_wide (P:=P) w base t ty e i z size bytes ht hi hz hsize hby hzs hsz v n xs hown ad m c news hl hnews h1 h63 hbytes hbase;obtain⟨g,cap,rfl,_,hlt⟩:=h2.form (by omega)
 refine⟨g,cap,w',hr,h2,h3,?_,hlt⟩;subst hsize hby;have hsmall:n+m<=9223372036854775807:=by simp only[maxLen] at h63;omega
 rcases hown.2 with⟨rfl,rfl⟩|⟨g0,cap0,cur,rfl,_,hg,hnc,_,hcs,htake⟩
 . have q:=run_append_nil (P:=P) w t ty e i z ht hi hz ad m c news hl hnews hm (by omega) (aU (dw _ (by omega)) hbytes)
   rw[hr] at q;simp only[fE,bB,aE,Addr.mk.injEq] at q;exact .inr (q.1.1.1.trans hH)
 . by_cases hroom:n+m<=cap0
   . have hfit:n*i.size+news.length<=cur.size:=by rw[hl,hcs,<-gB];exact dw _ hroom
     have q:=run_append_room (P:=P) w t ty e i ht hi g0 n cap0 cur hg ad m c news hl hnews h1 hroom hfit;rw[hr] at q;simp only[fE,bB,aE,Addr.mk.injEq] at q;exact .inl (aY some q.1.1.1.symm)
   . have q:=run_append_grow (P:=P) w t ty e i z ht hi hz ⟨g0,0,none⟩ n cap0 xs hown.1 (hown.cells (g:=g0) rfl) ad m c news hl hnews (by omega) (by omega) (growslice_fits_wide (by omega) hbytes)
     rw[hr] at q;simp only[fE,bB,aE,Addr.mk.injEq] at q;exact .inr (q.1.1.1.trans hH)
theorem kW(w:World)(ty:TypeId)(a:Option Addr)(n cap:Nat)(L:List Rn)(hn:n=L.length)(hR:Vw w a cap L)(av:Option Addr)(m c:Nat)(V:List Rn)(hm:m=V.length)(hV:Vs w av V)(h0:V≠[])(hlen:L.length+V.length<=14000000000000):
 ∃g cap' w',(Builtin.append_ #[169,169] ty #[.slice a n cap,.slice av m c]).run Tryz.prog w=.ok (.slice (some ⟨g,0,none⟩) (n+m) cap') w'/\
  Vw w' (some ⟨g,0,none⟩) cap' (L++V)/\New w a (some ⟨g,0,none⟩)/\w.grownBy w' (a.map Addr.block):=by
 subst hn hm;obtain⟨i0,hi,hz0,hz1,hz2⟩:=cZ mf;rcases hV with hV|⟨b,o,rfl,hc⟩
 . exact absurd hV h0
 obtain⟨g,cap',w',hr,h1,h2,h3,h4⟩:=pF (P:=Tryz.prog) w 169 ty 0 171 i0 (.agg (rcs Rn.zero)) 2 16 Tryz.underlying169 hi hz0 hz1 hz2 rfl (by decide) (.slice a L.length cap) L.length (rc L) hR ⟨b,o,none⟩ V.length c (rc V) (g9 V)
  (λj u hu=>by rw[Addr.add_mid];exact hc j u hu) (jk V) (bM.2 h0) (by unfold maxLen;omega) (by omega) (aF _) w.heap.size rfl
 rw[jG] at h2 h3;refine⟨g,cap',w',hr,?_,?_,h2⟩
 . unfold Vw;rw[il,ae];exact h1
 . intro y hy;simp only[aE] at hy;subst hy;rcases h3 with h3|h3
   . obtain⟨z,hz,e⟩:=map_some h3;exact .inl ⟨z,hz,e⟩
   . exact .inr (by show _<=g;omega)
theorem EB{w:World}{o:Oper}{a:Act}{K:Act->World->Prop}{Q:Exit->Act->World->Prop}(s x:Operand)
 (ho:o.op=.call {callee:=.builtin .append,args:=#[s,x],argTypes:=#[169,169]}) (ao:Option Addr) (n cap:Nat) (L:List Rn) (hs:a.eval s=.slice ao n cap) (hn:n=L.length) (hR:Vw w ao cap L)
 (av:Option Addr) (m c:Nat) (V:List Rn) (hx:a.eval x=.slice av m c) (hm:m=V.length) (hV:Vs w av V) (h0:V≠[]) (hlen:L.length+V.length<=14000000000000)
 (h:∀g cap' w',Vw w' (some ⟨g,0,none⟩) cap' (L++V)->New w ao (some ⟨g,0,none⟩)->w.grownBy w' (ao.map Addr.block)->K (a.put o.dst (.slice (some ⟨g,0,none⟩) (n+m) cap')) w'):o.wp Tryz.prog a w K Q:=by
 obtain⟨g,cap',w',hr,h1,h2,h3⟩:=kW w o.type ao n cap L hn hR av m c V hm hV h0 hlen;unfold Oper.wp execOp;simp only[ho,resolve,invoke,builtin,dl,dm,bN,cu,bz,cQ,hs,hx,hr];exact h g cap' w' h1 h2 h3
theorem wu{w:World}{ops:Array Oper}{rest:List Oper}{o:Oper}{a:Act}{Q:Exit->Act->World->Prop}(hgd:o.guard=none)(s x:Operand)
 (ho:o.op=.call {callee:=.builtin .append,args:=#[s,x],argTypes:=#[169,169]}) (ao:Option Addr) (n cap:Nat) (L:List Rn) (hs:a.eval s=.slice ao n cap) (hn:n=L.length) (hR:Vw w ao cap L)
 (av:Option Addr) (m c:Nat) (V:List Rn) (hx:a.eval x=.slice av m c) (hm:m=V.length) (hV:Vs w av V) (h0:V≠[]) (hlen:L.length+V.length<=14000000000000)
 (h:∀g cap' w',Vw w' (some ⟨g,0,none⟩) cap' (L++V)->New w ao (some ⟨g,0,none⟩)->w.grownBy w' (ao.map Addr.block)->wpList Tryz.prog ops Q rest (a.put o.dst (.slice (some ⟨g,0,none⟩) (n+m) cap')) w'):wpList Tryz.prog ops Q (o::rest) a w:=
 ee hgd λ_ hK=>EB s x ho ao n cap L hs hn hR av m c V hx hm hV h0 hlen λg cap' w' h1 h2 h3=>hK _ _ (h g cap' w' h1 h2 h3)
theorem tf(w:World)(ty:TypeId)(g cap n:Nat)(P X Y:List Value)(av:Option Addr)(m c:Nat)(hP:P.length=n*2)(hg:iU w g (P++Y))(hn:X.length=m*2)(hX:X=[]\/∃b o,av=some ⟨b,o,none⟩/\Cs w b o X)(hfit:X.length<=Y.length)(h1:∀v∈X,v.oneCell'=true)(hroom:n+m<=cap):
 ∃w',(Builtin.append_ #[169,169] ty #[.slice (some ⟨g,0,none⟩) n cap,.slice av m c]).run Tryz.prog w=.ok (.slice (some ⟨g,0,none⟩) (n+m) cap) w'/\iU w' g (P++X++Y.drop X.length)/\But (λk=>k=g) w w':=by
 have hst:=gA Tryz.prog g P.length 171 X 0 (P++Y).toArray w hg (by simp;omega) h1
 have e1:((P++Y).toArray.toList.take (P.length+0)++X++(P++Y).toArray.toList.drop (P.length+0+X.length))=P++X++Y.drop X.length:=by
  rw[fu,bY,eK rfl,List.drop_append,dy (by omega),eW]
  simp
 rw[e1,hP] at hst;refine⟨_,?_,cO w g _ _ _ _ hg,iE w g _⟩;obtain⟨i0,hi,hz0,hz1,hz2⟩:=cZ mf
 have hl:(Builtin.firstCells 2 m (.slice av m c)).run Tryz.prog w=.ok X.toArray w:=by
  rcases hX with rfl|⟨b,o,rfl,hc⟩
  . have h0:m=0:=by simp at hn;omega
    cases av with
    |none=>rfl
    |some z=>simp[Builtin.firstCells,h0,loadCells,loadCellsFrom]
  . have:=run_loadCells_list (P:=Tryz.prog) w ⟨b,o,none⟩ X (λj v hv=>by rw[Addr.add_mid];exact hc j v hv)
    show(loadCells ⟨b,o,none⟩ (m*2)).run Tryz.prog w=_;rw[<-hn];exact this
 have ea:(⟨g,0,none⟩:Addr).add (n*2)=⟨g,n*2,none⟩:=by rw[Addr.add_mid,bG]
 simp[Builtin.append_,c9 Tryz.underlying169,sizeOf,typeInfo,hi,hz1,Builtin.lenOf,hl,hroom,ea,hst]
theorem ro(w:World)(ty:TypeId)(a:Option Addr)(n cap:Nat)(L:List Rn)(hn:n=L.length)(hV:Vs w a L)(m:Nat)(h0:0<m)(hg:cap<L.length+m)(hlen:L.length+m<=14000000000000):
 ∃cap' w',(Builtin.append_ #[169,3] ty #[.slice a n cap,.int .i64 (m:Int)]).run Tryz.prog w=.ok (.slice (some ⟨w.heap.size,0,none⟩) (n+m) cap') w'/\
  Vw w' (some ⟨w.heap.size,0,none⟩) cap' (L++List.replicate m Rn.zero)/\Below w.heap.size w w':=by
 subst hn;obtain⟨i0,hi,hz0,hz1,hz2⟩:=cZ mf
 have hold:(Builtin.firstCells i0.size L.length (.slice a L.length cap)).run Tryz.prog w.drew=.ok (rc L).toArray w.drew:=by
  rw[hz1];rcases hV with rfl|⟨b,o,rfl,hc⟩
  . cases a with
    |none=>rfl
    |some z=>simp[Builtin.firstCells,loadCells,loadCellsFrom,rc]
  . exact run_firstCells_some w.drew 2 L.length _ L.length cap (rc L) (g9 L) (λj u hj=>by rw[Addr.add_mid];exact hc j u hj)
 have zc:∀k,Builtin.zeroCells (Value.agg (rcs Rn.zero)).cells k=(rc (List.replicate k Rn.zero)).toArray:=λk=>by
  rw[<-nf k,gM];rfl
 have hr:=Lib.run_append_grow_zeros (P:=Tryz.prog) w 169 3 ty 171 i0 (.agg (rcs Rn.zero)) .i64 .i64 Tryz.underlying169 Tryz.underlying3 hi hz0 a L.length cap (rc L) hold m h0 (by omega) hg (by omega) (by rw[hz2];omega) (growslice_fits_wide (by omega) (by rw[hz2];omega))
 rw[zc,zc] at hr;have hge:=grownCap_ge w (L.length+m) cap 171;have hle:=grownCap_le_maxLen w (L.length+m) cap 171 (by unfold maxLen;omega)
 generalize grownCap w (L.length+m) cap 171=c' at *;refine⟨c',_,hr,Vw.mk (Y:=rc (List.replicate (c'-(L.length+m)) Rn.zero)) ?_ (by simp;omega) hle (by rw[g9];simp;omega),⟨rfl,rfl,rfl,by simp,λk hk=>gd w.drew _ hk⟩⟩
 have e:(rc (L++List.replicate m Rn.zero)++rc (List.replicate (c'-(L.length+m)) Rn.zero)).toArray=(rc L).toArray++(rc (List.replicate m Rn.zero)).toArray++(rc (List.replicate (c'-(L.length+m)) Rn.zero)).toArray:=by
  rw[il];simp
 unfold iU;rw[e];exact aH w.drew _
theorem xL{w:World}{ops:Array Oper}{rest:List Oper}{o:Oper}{a:Act}{Q:Exit->Act->World->Prop}(hgd:o.guard=none)(s x:Operand)
 (ho:o.op=.call {callee:=.builtin .append,args:=#[s,x],argTypes:=#[169,3]}) (ao:Option Addr) (n cap:Nat) (hs:a.eval s=.slice ao n cap) (m:Nat) (hx:a.eval x=.int .i64 (m:Int))
 (L:List Rn) (hn:n=L.length) (hV:Vs w ao L) (h0:0<m) (hg:cap<L.length+m) (hlen:L.length+m<=14000000000000)
 (h:∀cap' w',Vw w' (some ⟨w.heap.size,0,none⟩) cap' (L++List.replicate m Rn.zero)->Below w.heap.size w w'->wpList Tryz.prog ops Q rest (a.put o.dst (.slice (some ⟨w.heap.size,0,none⟩) (n+m) cap')) w'):wpList Tryz.prog ops Q (o::rest) a w:=by
 obtain⟨cap',w',hr,h1,h2⟩:=ro w o.type ao n cap L hn hV m h0 hg hlen;refine ee hgd λ_ hK=>?_
 unfold Oper.wp execOp;simp only[ho,resolve,invoke,builtin,dl,dm,bN,cu,bz,cQ,hs,hx,hr];exact hK _ _ (h cap' w' h1 h2)
theorem nY(w:World)(g h og oh la ca lb cb:Nat)(P Q:List Value)(hg:iU w g P)(hh:iU w h Q)(hne:g≠h)(hQ:Q≠[]):
 (callFunc 196 #[.slice (some ⟨g,og,none⟩) la ca,.slice (some ⟨h,oh,none⟩) lb cb]).run Tryz.prog w=.ok (.value (.bool false)) w:=by
 rw[run_callFunc_extern Tryz.func196 (by kernel_rfl) (by kernel_rfl) (by kernel_rfl) (e:=Extern.SlicesOverlaps.overlaps #[169,169] #[4]) (by kernel_rfl)]
 have:=Lib.run_overlaps_apart (P:=Tryz.prog) w 169 4 171 Tryz.underlying169 2 Tryz.sizeOf171 ⟨g,og,none⟩ ⟨h,oh,none⟩ la ca lb cb hne 171 171 P.length Q.length
  (by simp[World.shape?,show w.heap[g]?=_ from hg]) (by simp[World.shape?,show w.heap[h]?=_ from hh]) (λe=>hQ (bR.1 e)) (bq _ _ _ _ _ hg) (bq _ _ _ _ _ hg)
 rw[this];rfl
theorem im{x:Int}(h: -9223372036854775808<=x)(h2:x<=9223372036854775807):IntKind.i64.wrap x=x:=by rw[IntKind.wrap_i64];omega
theorem Vw.front{cap:Nat}{L M:List Rn}(h:Vw w a cap (L++M)):Vw w a cap L\/a=none:=by
 rcases h.cases with⟨rfl,rfl,hn⟩|⟨g,Y,rfl,hg,h1,h2,h3⟩
 . exact .inr rfl
 . rw[il,aM] at hg;rw[ae] at h1 h3;exact .inl (Vw.mk hg (by omega) h2 (by rw[ae,g9];omega))
theorem _root_.Go.Proofs.YtbdkogimlbnlmaaGreat.But.inA{w':World}(hg:w.grownBy w' (a.map Addr.block)):But (InA a) w w':=(But.refl _ _).grown hg λ_ hk _=>map_some hk
theorem wK(w:World)(a:Option Addr)(cap:Nat)(A B:List Rn)(hR:Vw w a cap (A++B))(av:Option Addr)(cv:Nat)(V:List Rn)(hV:Vw w av cv V)(hne:∀x y,a=some x->av=some y->x.block≠y.block)(hl:A.length+B.length+V.length<=14000000000000):
 Calls Tryz.prog 195 #[.slice a ((A.length+B.length:Nat)) cap,.int .i64 ((A.length:Nat):Int),.slice av V.length cv] w λe w'=>
  ∃a' cap',e=.returned (.slice a' ((A.length+V.length+B.length:Nat)) cap')/\Vw w' a' cap' (A++V++B)/\New w a a'/\But (InA a) w w':=by
 have hcl:=hR.len;rw[ae] at hcl;unfold maxLen at hcl;obtain⟨hc1,hc2⟩:=hcl;have hR':=gZ hR;have hV':=gZ hV;by_cases hv0:V=[]
 . subst hv0;have hR2:=gZ hR;clear hR hV;rw[bg];obtain⟨nA,hA⟩:∃nA:Nat,nA=A.length:=⟨_,rfl⟩;obtain⟨n,hn⟩:∃n:Nat,n=A.length+B.length:=⟨_,rfl⟩;have hAn:nA<=n:=by omega
   rw[<-hn,<-hA,show nA+0+B.length=n by omega]
   rw[<-hn] at hc1;clear hA hn;by_cases hcz:cap=nA
   all_goals
    go_enter Tryz.func195,Tryz.ntmps195;go_wp2;go_ret;exact⟨a,cap,rfl,by rw[bZ];exact hR2.o,New.refl _ _,But.refl _ _⟩
 . have hvp:0<V.length:=bM.2 hv0;obtain⟨nV,hnV⟩:∃nV:Nat,nV=V.length:=⟨_,rfl⟩;by_cases hb0:B=[]
   . subst hb0;rw[bZ] at hR;rw[bg,bY,bY] at *;obtain⟨nA,hA⟩:∃nA:Nat,nA=A.length:=⟨_,rfl⟩;rw[<-hA,<-hnV];rw[<-hA] at hc1;have hp:0<nV:=by omega
     have hl2:nA+nV<=14000000000000:=by omega
     have hA':=gZ hA;have hnV':=gZ hnV;have hvp':=gZ hvp;have hl':=gZ hl;clear hA hnV hvp hl hR hV;by_cases hcz:cap=nA
     all_goals
      go_enter Tryz.func195,Tryz.ntmps195;go_wp2_with (at_builtin;refine wu rfl _ _ rfl a nA cap A (by simp[Act.eval]) hA'.o (by have:=hR'.o;rwa [bZ] at this) av nV cv V (by simp[Act.eval]) hnV'.o hV'.o.vs hv0 hl'.o ?_;intro g cap' w' h1 h2 h3)
      go_ret;exact⟨_,cap',rfl,by rw[bZ];exact h1,h2,But.inA h3⟩
   . have hbp:0<B.length:=bM.2 hb0;obtain⟨nA,hA⟩:∃nA:Nat,nA=A.length:=⟨_,rfl⟩;obtain⟨nB,hB⟩:∃nB:Nat,nB=B.length:=⟨_,rfl⟩;rw[<-hA,<-hB,<-hnV];rw[<-hA,<-hB] at hc1 hl;rw[<-hnV] at hl hvp;rw[<-hB] at hbp;have hA':=gZ hA;have hB':=gZ hB;have hnV':=gZ hnV;clear hA hB hnV hR hV;rcases hR'.o.cases with⟨_,_,h0⟩|⟨g,Y,rfl,hg,h1,h2,h3⟩
     . simp at h0;exact absurd h0.2 hb0
     rcases hV'.o.cases with⟨_,_,h0⟩|⟨gv,Yv,rfl,hgv,v1,v2,v3⟩
     . exact absurd h0 hv0
     have hgg:g≠gv:=hne _ _ rfl rfl;have hcz:¬cap=nA:=by omega
     rw[il,aM] at hg;rw[ae,<-hA'.o,<-hB'.o] at h3;have cB:Cs w g (nA*2) (rc B):=by have:=hg.cs (P:=rc A) (X:=rc B) (Y:=Y) (by simp);rwa [g9,<-hA'.o] at this
     have cV:Cs w gv 0 (rc V):=hgv.cs (P:=[]) (X:=rc V) (Y:=Yv) (by simp)
     have lA:(rc A).length=nA*2:=by rw[g9,<-hA'.o]
     have lB:(rc B).length=nB*2:=by rw[g9,<-hB'.o]
     have lV:(rc V).length=nV*2:=by rw[g9,<-hnV'.o]
     obtain⟨nS,hS⟩:∃m:Nat,m=nA+nB:=⟨_,rfl⟩;obtain⟨nT,hT⟩:∃m:Nat,m=nA+nB+nV:=⟨_,rfl⟩;obtain⟨nX,hX⟩:∃m:Nat,m=nA+nV:=⟨_,rfl⟩;rw[<-hS,show nA+nV+nB=nT by omega]
     rw[<-hS] at hc1;have i1:(nS:Int)+(nV:Int)=(nT:Int):=by omega
     have i2:(nA:Int)+(nV:Int)=(nX:Int):=by omega
     have n1:nT-nX=nB:=by omega
     have n2:nT-nA=nB+nV:=by omega
     have n3:nS-nA=nB:=by omega
     have l1:nA<=nS:=by omega
     have l2:nX<=nT:=by omega
     have l3:nA<=nT:=by omega
     have l4:¬nA=nS:=by omega
     have l5:nT<=14000000000000:=by omega
     have l6:nS<=14000000000000:=by omega
     have l7:¬nV=0:=by omega
     have wX:IntKind.i64.wrap (nX:Int)=(nX:Int):=im (by omega) (by omega)
     have x1:(nX:Int)<=(nT:Int):=by omega
     have x2:(nA:Int)<=(nT:Int):=by omega
     have x3:(nA:Int)<=(nS:Int):=by omega
     have q1:=gZ hS;have q2:=gZ hT;have q3:=gZ hX;by_cases hroom:nT<=cap
     . obtain⟨Q,R,hQ,lQ⟩:∃Q R,rc B++Y=Q++R/\Q.length=nV*2:=⟨(rc B++Y).take (nV*2),(rc B++Y).drop (nV*2),(cJ _ _).symm,by rw[bh,ae,lB];omega⟩
       have lR:nV*2+R.length=nB*2+Y.length:=by have:=aY List.length hQ;rw[ae,ae,lB,lQ] at this;omega
       rw[hQ,<-aM] at hg;have hov:=λoh lb cb=>nY w gv g 0 oh nV cv lb cb _ _ hgv hg (λe=>hgg e.symm) (by intro e;have:=aY List.length e;rw[ae,ae,lA,lQ] at this;simp at this;omega)
       have hg':=gZ hg;have cB':=gZ cB;have cV':=gZ cV;have hcz2:¬cap=nX:=by omega
       have q4:=gZ lR;have q5:=gZ lQ;have q6:=gZ lA;have q7:=gZ lB;have q8:=gZ lV;have q9:=gZ h3;clear hg cB cV hQ hS hT hX lR lQ lA lB lV h3 h1 h2 v1 v2 v3;go_enter Tryz.func195,Tryz.ntmps195;go_wp2_with fail
       go_region_law (first|(refine xa rfl _ _ rfl g (nX*2) nB (cap-nX) (by simp[Act.eval,Act.put]) (some ⟨g,nA*2,none⟩) (nB+nV) (cap-nA) (by simp[Act.eval,Act.put]) (rc A++Q) (rc B) R (by rw[ae,q6.o,q5.o,q3.o];omega) hg'.o (by rw[q7.o,show Nat.min (nB+nV) nB=nB from Nat.min_eq_right (by omega)]) (.inr ⟨g,nA*2,rfl,cB'.o⟩) (by have:=q4.o;have:=q9.o;have:=q2.o;rw[q7.o];omega) (jk B) ?_;intro n1' w1 r1 b0))
       have b1:But (λk=>k=g) w w1:=(But.drew (But.refl _ w)).trans b0 (λ_ _ h=>h)
       clear b0;have r1':=gZ (show iU w1 g (rc A++(Q++rc B++R.drop (rc B).length)) by rw[<-aM,<-aM];exact r1)
       have cV1:=gZ (cV'.o.but b1 (show ¬gv=g from λe=>hgg e.symm))
       clear r1;obtain⟨w2,hrun,r2,b2⟩:=i7 w1 3 g (nB+nV) (cap-nA) (some ⟨gv,0,none⟩) nV cv (rc A) (rc V) (Q++rc B++R.drop (rc B).length) r1'.o (by rw[q8.o,show Nat.min nV (nB+nV)=nV from cY (by omega)]) (.inr ⟨gv,0,rfl,cV1.o⟩) (by rw[ae,ae,q5.o,q8.o];omega) (jk V)
       rw[q6.o] at hrun;have r2':=gZ r2;clear r2;go_wp2;go_ret;have r2:=r2'.o;refine⟨_,cap,rfl,Vw.mk (Y:=R.drop (rc B).length) ?_ ?_ (by unfold maxLen;omega) ?_,New.refl _ _,?_⟩
       . rw[il,il]
         have e:(Q++rc B++R.drop (rc B).length).drop (rc V).length=rc B++R.drop (rc B).length:=by
          rw[q8.o,<-q5.o,aM,gO rfl]
         rw[e,<-aM] at r2;exact r2
       . rw[ae,ae,<-hA'.o,<-hB'.o,<-hnV'.o];have:=q2.o;omega
       . rw[ae,ae,<-hA'.o,<-hB'.o,<-hnV'.o,dc,q7.o];have:=q2.o;have:=q4.o;have:=q9.o;omega
       . exact(b1.trans b2 (λ_ _ h=>h)).mono (λk _ h=>⟨_,rfl,h.symm⟩)
     . have hA0:=gZ (show Vs w (some ⟨g,0,none⟩) A by
        rcases hR'.o.front with h|h
        . exact h.vs
        . cases h)
       have cB':=gZ cB;have cV':=gZ cV;have q6:=gZ lA;have q7:=gZ lB;have q8:=gZ lV;have gl:=hg.lt;have gvl:=hgv.lt;have i3:(nT:Int)-(nA:Int)=((nB+nV:Nat):Int):=by omega
       obtain⟨nZ,hZ⟩:∃m:Nat,m=nB+nV:=⟨_,rfl⟩;rw[<-hZ] at i3 n2;have zA:nA+nZ=nT:=by omega
       have zp:0<nZ:=by omega
       have z9:nZ<=14000000000000:=by omega
       have qZ:=gZ hZ;have hroom':cap<nT:=by omega
       clear cB cV hS hT hX lA lB lV h3 h1 h2 v1 v2 v3 hg hgv hZ hroom;obtain⟨cap',w1,hrun1,hv1,hb1⟩:=ro w 169 (some ⟨g,0,none⟩) nA cap A hA'.o hA0.o nZ zp (by rw[<-hA'.o,zA];exact hroom') (by rw[<-hA'.o,zA];exact l5)
       rw[zA] at hrun1;have hl1:=hv1.len;rw[ae,be,<-hA'.o,zA] at hl1;obtain⟨hl1a,hl1b⟩:=hl1;unfold maxLen at hl1b;have hcz3:¬cap'=nA:=by omega
       have hcz4:¬cap'=nX:=by omega
       rcases hv1.cases with⟨h0,_⟩|⟨H,Y1,h0,hg1,y1,y2,y3⟩
       . cases h0
       simp only[aE,Addr.mk.injEq,dT] at h0;subst h0;rw[il,aM] at hg1;have lZ:(rc (List.replicate nZ Rn.zero)).length=nZ*2:=by rw[g9,be]
       obtain⟨w2,hrun2,r2,b2⟩:=i7 w1 3 w.heap.size nZ (cap'-nA) (some ⟨gv,0,none⟩) nV cv (rc A) (rc V) (rc (List.replicate nZ Rn.zero)++Y1) hg1 (by rw[q8.o,show Nat.min nV nZ=nV from cY (by have:=qZ.o;omega)]) (.inr ⟨gv,0,rfl,cV'.o.keep hb1⟩) (by have:=qZ.o;rw[ae,lZ,q8.o];omega) (jk V)
       rw[q6.o] at hrun2;have bB2:Cs w2 g (nA*2) (rc B):=(cB'.o.keep hb1).but b2 (show ¬g=w.heap.size by omega)
       have ly:((rc (List.replicate nZ Rn.zero)++Y1).drop (rc V).length).length=nB*2+Y1.length:=by have:=qZ.o;rw[dc,ae,lZ,q8.o];omega
       generalize (rc (List.replicate nZ Rn.zero)++Y1).drop (rc V).length=Y2 at *;obtain⟨w3,hrun3,r3,b3⟩:=i7 w2.drew 3 w.heap.size nB (cap'-nX) (some ⟨g,nA*2,none⟩) nB (cap-nA) (rc A++rc V) (rc B) Y2 r2 (by rw[q7.o,show Nat.min nB nB=nB from gQ _]) (.inr ⟨g,nA*2,rfl,bB2⟩) (by rw[ly,q7.o];omega) (jk B)
       rw[ae,q6.o,q8.o,show nA*2+nV*2=nX*2 by have:=q3.o;omega] at hrun3
       have R3:=gZ r3;have B3:=gZ b3;have B2:=gZ b2;have LY:=gZ ly;have Y3:=gZ y3;clear r3 b3 b2 ly y3 r2 bB2 hv1 hg1 lZ;go_enter Tryz.func195,Tryz.ntmps195;go_wp2_with (at_builtin;refine Lib.wpList_append_run _ rfl _ _ _ _ rfl _ _ rfl rfl _ _ hrun1 ?_)
       go_region
       all_goals
        go_wp2;go_ret;refine⟨_,cap',rfl,Vw.mk (Y:=Y2.drop (rc B).length) (by rw[il,il];exact R3.o) ?_ (by unfold maxLen;omega) ?_,λz hz=>.inr (by cases hz;exact ai _),?_⟩
        . rw[ae,ae,<-hA'.o,<-hB'.o,<-hnV'.o];have:=q2.o;omega
        . rw[ae,ae,<-hA'.o,<-hB'.o,<-hnV'.o,dc,q7.o,LY.o];have:=Y3.o;rw[ae,be,<-hA'.o] at this;have:=qZ.o;omega
        . exact((But.ofBelow hb1).trans B2.o (λk hk e=>by omega)).trans ((But.drew (But.refl (λk=>k=w.heap.size) w2)).trans B3.o (λ_ _ h=>h)) (λk hk e=>by omega)
set_option maxRecDepth 20000 in
theorem tJ(w:World)(a:Option Addr)(cap:Nat)(A B:List Rn)(hR:Vw w a cap (A++B))(av:Option Addr)(cv:Nat)(V:List Rn)(hV:Vw w av cv V)(hne:∀x y,a=some x->av=some y->x.block≠y.block)(hl:A.length+B.length+V.length<=14000000000000):
 Calls Tryz.prog 178 #[.slice a ((A.length+B.length:Nat)) cap,.int .i64 ((A.length:Nat):Int),.int .i64 ((A.length:Nat):Int),.slice av V.length cv] w λe w'=>
  ∃a' cap',e=.returned (.slice a' ((A.length+V.length+B.length:Nat)) cap')/\Vw w' a' cap' (A++V++B)/\New w a a'/\But (InA a) w w':=by
 have hcl:=hR.len;rw[ae] at hcl;unfold maxLen at hcl;obtain⟨hc1,hc2⟩:=hcl;have C:=gZ (wK w a cap A B hR av cv V hV hne hl);obtain⟨nS,hS⟩:∃m:Nat,m=A.length+B.length:=⟨_,rfl⟩;have l1:A.length<=nS:=by omega
 have l2:A.length<=cap:=by omega
 rw[<-hS] at C ⊢;generalize A.length+V.length+B.length=nT at *;generalize A.length=nA at *;generalize V.length=nV at *;clear hS hl hR hV hc1 hne;by_cases hcz:cap=nA
 . subst hcz;go_enter Tryz.func178,Tryz.ntmps178;go_wp2_with fail
   refine C.o.mono ?_;rintro e w1 ⟨a',cap',rfl,h1,h2,h3⟩;go_wp2;go_ret;exact⟨a',cap',rfl,h1,h2,h3⟩
 . skip
   go_enter Tryz.func178,Tryz.ntmps178;go_wp2_with fail
   refine C.o.mono ?_;rintro e w1 ⟨a',cap',rfl,h1,h2,h3⟩;go_wp2;go_ret;exact⟨a',cap',rfl,h1,h2,h3⟩
set_option maxRecDepth 20000 in
theorem ug(w:World)(a:Option Addr)(cap:Nat)(A M B:List Rn)(hR:Vw w a cap (A++M++B))(av:Option Addr)(cv:Nat)(V:List Rn)(hV:Vw w av cv V)(hne:∀x y,a=some x->av=some y->x.block≠y.block)(hl:A.length+M.length+B.length+V.length<=14000000000000)(hm0:M≠[])(hb0:B.length=0)(hvm:V.length<M.length):
 Calls Tryz.prog 178 #[.slice a ((A.length+M.length+B.length:Nat)) cap,.int .i64 ((A.length:Nat):Int),.int .i64 ((A.length+M.length:Nat):Int),.slice av V.length cv] w λe w'=>
  ∃a' cap',e=.returned (.slice a' ((A.length+V.length+B.length:Nat)) cap')/\Vw w' a' cap' (A++V++B)/\New w a a'/\But (InA a) w w':=by
 have hcl:=hR.len;rw[ae,ae] at hcl;unfold maxLen at hcl;obtain⟨hc1,hc2⟩:=hcl;have hmp:0<M.length:=bM.2 hm0;rcases hR.cases with⟨_,_,h0⟩|⟨g,Y,rfl,hg,h1,h2,h3⟩
 . simp at h0;exact absurd h0.2.1 hm0
 rw[ae,ae] at h3;rw[il,il,aM,aM] at hg;have lA:=g9 A;have lM:=g9 M;have lB:=g9 B;have lV:=g9 V;have hVs:=hV.vs;have hV1:rc V=[]\/∃b o,av=some ⟨b,o,none⟩/\Cs w b o (rc V):=hVs.imp (λh=>by rw[h];rfl) id
 have avne:∀b o,av=some ⟨b,o,none⟩->b≠g:=λb o e e2=>hne ⟨g,0,none⟩ ⟨b,o,none⟩ rfl e e2.symm
 have RA:Vw w (some ⟨g,0,none⟩) cap A:=by
  rw[aM] at hR;rcases hR.front with h|h
  . exact h
  . cases h
 have cB:Cs w g ((A.length+M.length)*2) (rc B):=by
  have:=hg.cs (P:=rc A++rc M) (X:=rc B) (Y:=Y) (by simp)
  rwa [ae,lA,lM,<-gB] at this
 obtain⟨nA,hA⟩:∃m:Nat,m=A.length:=⟨_,rfl⟩;obtain⟨nM,hM⟩:∃m:Nat,m=M.length:=⟨_,rfl⟩;obtain⟨nB,hB⟩:∃m:Nat,m=B.length:=⟨_,rfl⟩;obtain⟨nV,hnV⟩:∃m:Nat,m=V.length:=⟨_,rfl⟩;rw[<-hA] at lA hl hc1 h3 cB ⊢;rw[<-hM] at lM hl hc1 h3 hmp cB ⊢;rw[<-hB] at lB hl hc1 h3 ⊢;rw[<-hnV] at lV hl ⊢;obtain⟨nS,hS⟩:∃m:Nat,m=nA+nM+nB:=⟨_,rfl⟩;obtain⟨nJ,hJ⟩:∃m:Nat,m=nA+nM:=⟨_,rfl⟩;obtain⟨nT,hT⟩:∃m:Nat,m=nA+nV+nB:=⟨_,rfl⟩;obtain⟨nX,hX⟩:∃m:Nat,m=nA+nV:=⟨_,rfl⟩;rw[<-hJ] at cB;rw[<-hS,<-hJ,<-hT];have l1:nA<=nJ:=by omega
 have l2:nJ<=nS:=by omega
 have l3:nS<=cap:=by omega
 have l4:¬nA=nJ:=by omega
 have l5:nT<=14000000000000:=by omega
 have l6:nS<=14000000000000:=by omega
 have l7:nX<=nT:=by omega
 have l8:¬cap=nA:=by omega
 have x1:(nA:Int)<=(nJ:Int):=by omega
 have x2:(nJ:Int)<=(nS:Int):=by omega
 have x3:(nA:Int)<=(nS:Int):=by omega
 have wX:IntKind.i64.wrap (nX:Int)=(nX:Int):=im (by omega) (by omega)
 have gl:=hg.lt;rw[<-hB] at hb0;rw[<-hM,<-hnV] at hvm;obtain rfl:nJ=nS:=by omega
 obtain rfl:nT=nX:=by omega
 obtain⟨w1,hrun1,r1,b1⟩:=tf w 169 g cap nA (rc A) (rc V) (rc M++(rc B++Y)) av nV cv lA hg lV hV1 (by rw[ae,lV,lM];omega) (jk V) (by omega)
 have e0:nA+nV=nT:=by omega
 rw[e0] at hrun1;have ly:((rc M++(rc B++Y)).drop (rc V).length).length=(nM-nV)*2+Y.length:=by rw[dc,ae,ae,lV,lM,lB];omega
 generalize (rc M++(rc B++Y)).drop (rc V).length=Y1 at *;obtain⟨nD,hD⟩:∃m:Nat,m=nM-nV:=⟨_,rfl⟩;obtain⟨w2,hrun2,r2,b2⟩:=qG w1 0 g nD (cap-nT) (rc A++rc V) Y1 r1 (by rw[ly];omega)
 rw[ae,lA,lV,show nA*2+nV*2=nT*2 by omega] at hrun2
 have n1:nJ-nT=nD:=by omega
 have l9:nT<nJ:=by omega
 have l10:¬cap=nT:=by omega
 have x4:(nT:Int)<=(nJ:Int):=by omega
 have hB0:B=[]:=bR.1 (by omega)
 have goal:∃a' cap',Ending.returned (.slice (some ⟨g,0,none⟩) nT cap)=.returned (.slice a' nT cap')/\Vw w2 a' cap' (A++V++B)/\New w (some ⟨g,0,none⟩) a'/\But (InA (some ⟨g,0,none⟩)) w w2:=by
  refine⟨_,cap,rfl,Vw.mk (Y:=rc (List.replicate nD Rn.zero)++Y1.drop (nD*2)) ?_ ?_ (by unfold maxLen;omega) ?_,New.refl _ _,(b1.trans b2 (λ_ _ h=>h)).mono (λk _ h=>⟨_,rfl,h.symm⟩)⟩
  . rw[hB0,bZ,il,<-aM];exact r2
  . rw[ae,ae,<-hA,<-hB,<-hnV];omega
  . rw[ae,ae,<-hA,<-hB,<-hnV,ae,g9,be,dc,ly];omega
 have GG:=gZ goal;clear goal r1 r2 b1 b2 ly hD e0 hB0 hA hM hB hnV;clear hS hJ hT hX lA lM lB lV h3 hVs hV1 hg hR hV RA hne avne hl hc1 h1 h2 cB;go_enter Tryz.func178,Tryz.ntmps178;go_wp2_with (at_builtin;refine Lib.wpList_append_run _ rfl _ _ _ _ rfl _ _ rfl rfl _ _ hrun1 ?_)
 go_ret;exact GG.o
set_option maxRecDepth 20000 in
theorem tY(w:World)(a:Option Addr)(cap:Nat)(A M B:List Rn)(hR:Vw w a cap (A++M++B))(av:Option Addr)(cv:Nat)(V:List Rn)(hV:Vw w av cv V)(hne:∀x y,a=some x->av=some y->x.block≠y.block)(hl:A.length+M.length+B.length+V.length<=14000000000000)(hm0:M≠[])(hb0:B.length=0)(hvm:M.length<=V.length):
 Calls Tryz.prog 178 #[.slice a ((A.length+M.length+B.length:Nat)) cap,.int .i64 ((A.length:Nat):Int),.int .i64 ((A.length+M.length:Nat):Int),.slice av V.length cv] w λe w'=>
  ∃a' cap',e=.returned (.slice a' ((A.length+V.length+B.length:Nat)) cap')/\Vw w' a' cap' (A++V++B)/\New w a a'/\But (InA a) w w':=by
 have hcl:=hR.len;rw[ae,ae] at hcl;unfold maxLen at hcl;obtain⟨hc1,hc2⟩:=hcl;have hmp:0<M.length:=bM.2 hm0;rcases hR.cases with⟨_,_,h0⟩|⟨g,Y,rfl,hg,h1,h2,h3⟩
 . simp at h0;exact absurd h0.2.1 hm0
 rw[ae,ae] at h3;rw[il,il,aM,aM] at hg;have lA:=g9 A;have lM:=g9 M;have lB:=g9 B;have lV:=g9 V;have hVs:=hV.vs;have hV1:rc V=[]\/∃b o,av=some ⟨b,o,none⟩/\Cs w b o (rc V):=hVs.imp (λh=>by rw[h];rfl) id
 have avne:∀b o,av=some ⟨b,o,none⟩->b≠g:=λb o e e2=>hne ⟨g,0,none⟩ ⟨b,o,none⟩ rfl e e2.symm
 have RA:Vw w (some ⟨g,0,none⟩) cap A:=by
  rw[aM] at hR;rcases hR.front with h|h
  . exact h
  . cases h
 have cB:Cs w g ((A.length+M.length)*2) (rc B):=by
  have:=hg.cs (P:=rc A++rc M) (X:=rc B) (Y:=Y) (by simp)
  rwa [ae,lA,lM,<-gB] at this
 obtain⟨nA,hA⟩:∃m:Nat,m=A.length:=⟨_,rfl⟩;obtain⟨nM,hM⟩:∃m:Nat,m=M.length:=⟨_,rfl⟩;obtain⟨nB,hB⟩:∃m:Nat,m=B.length:=⟨_,rfl⟩;obtain⟨nV,hnV⟩:∃m:Nat,m=V.length:=⟨_,rfl⟩;rw[<-hA] at lA hl hc1 h3 cB ⊢;rw[<-hM] at lM hl hc1 h3 hmp cB ⊢;rw[<-hB] at lB hl hc1 h3 ⊢;rw[<-hnV] at lV hl ⊢;obtain⟨nS,hS⟩:∃m:Nat,m=nA+nM+nB:=⟨_,rfl⟩;obtain⟨nJ,hJ⟩:∃m:Nat,m=nA+nM:=⟨_,rfl⟩;obtain⟨nT,hT⟩:∃m:Nat,m=nA+nV+nB:=⟨_,rfl⟩;obtain⟨nX,hX⟩:∃m:Nat,m=nA+nV:=⟨_,rfl⟩;rw[<-hJ] at cB;rw[<-hS,<-hJ,<-hT];have l1:nA<=nJ:=by omega
 have l2:nJ<=nS:=by omega
 have l3:nS<=cap:=by omega
 have l4:¬nA=nJ:=by omega
 have l5:nT<=14000000000000:=by omega
 have l6:nS<=14000000000000:=by omega
 have l7:nX<=nT:=by omega
 have l8:¬cap=nA:=by omega
 have x1:(nA:Int)<=(nJ:Int):=by omega
 have x2:(nJ:Int)<=(nS:Int):=by omega
 have x3:(nA:Int)<=(nS:Int):=by omega
 have wX:IntKind.i64.wrap (nX:Int)=(nX:Int):=im (by omega) (by omega)
 have gl:=hg.lt;rw[<-hB] at hb0;rw[<-hM,<-hnV] at hvm;obtain rfl:nJ=nS:=by omega
 obtain rfl:nT=nX:=by omega
 have hv0:V≠[]:=λe=>by rw[e] at hnV;simp at hnV;omega
 obtain⟨g',cap',w1,hrun1,r1,n1,b1⟩:=kW w 169 (some ⟨g,0,none⟩) nA cap A hA RA av nV cv V hnV hVs hv0 (by omega)
 have e0:nA+nV=nT:=by omega
 rw[e0] at hrun1;have l9:¬nT<nJ:=by omega
 have hB0:B=[]:=bR.1 (by omega)
 have goal:∃a' cap'',Ending.returned (.slice (some ⟨g',0,none⟩) nT cap')=.returned (.slice a' nT cap'')/\Vw w1 a' cap'' (A++V++B)/\New w (some ⟨g,0,none⟩) a'/\But (InA (some ⟨g,0,none⟩)) w w1:=
  ⟨_,cap',rfl,by rw[hB0,bZ];exact r1,n1,But.inA b1⟩
 have GG:=gZ goal;clear goal r1 n1 b1 e0 hB0 hA hM hB hnV hv0;clear hS hJ hT hX lA lM lB lV h3 hVs hV1 hg hR hV RA hne avne hl hc1 h1 h2 cB;go_enter Tryz.func178,Tryz.ntmps178;go_wp2_with (at_builtin;refine Lib.wpList_append_run _ rfl _ _ _ _ rfl _ _ rfl rfl _ _ hrun1 ?_)
 go_ret;exact GG.o
end Go.Proofs.YtbdkogimlbnlmaaGreat.Q
