import Derived.Test.YtcpkinhneehomaaGreatWqB12
set_option linter.unusedVariables false
set_option linter.unusedSimpArgs false
set_option maxHeartbeats 8000000
namespace Go.Proofs.YtcpkinhneehomaaGreat
open Go.RowKit
variable {b fl m:Nat}{col pc:Nat->Nat}{D:Vd}{w:World}
theorem end_no(w:World)(b:Nat)(P:Q.Po)(fl:Nat)(D:Vd)(pc col:Nat->Nat)(h:Vq w b P fl D pc col)(k m:Nat)(hm:m<=D.ch.length)(hk:P.mark<=9223372036854775807)(e:Int)(he:e≠0):
 Calls Tryz.prog 99 #[.pointer (some ⟨b,0,none⟩),.agg #[.int .i64 ((k:Nat):Int),.int .i64 ((m:Nat):Int)],.int .i64 e] w fun x w'=>x=.returned (.int .i64 e)/\∃pc' col',Vq w' b (P.undo ((k:Nat):Int)) fl {D with f:=unl D.f (D.ch.drop m),ch:=D.ch.take m} pc' col'/\Vf w col w' col':=by
 have aB:=al w (.cells #[.int .i64 ((k:Nat):Int),.int .i64 ((m:Nat):Int)] 137);obtain⟨x0,x1⟩:=two_cells (World.alloc_heap_new w (.cells #[.int .i64 ((k:Nat):Int),.int .i64 ((m:Nat):Int)] 137));have BK:=hide (back_any _ b P fl D pc col (h.keep aB) k m hm hk);have AB:=hide aB;have e0:(e==0)=false:=by simp[he]
 clear h aB hm;go_enter Tryz.func99,Tryz.ntmps99;go_wp2_with fail
 refine BK.out.mono ?_;rintro _ w1 ⟨rfl,pc1,col1,hv,hf⟩;have V1:=hide hv;have F1:=hide ((Vf.keep AB.out).trans hf);clear hv hf BK x0 x1;go_wp2;go_ret;exact⟨rfl,_,_,V1.out,F1.out⟩
theorem plc_get:∀(L:List (Nat×Nat))(i:Nat),i<L.length->(plc L)[i*2]?=some (.int .i64 (((L.getD i (0,0)).1:Nat):Int))/\(plc L)[i*2+1]?=some (.int .i64 (((L.getD i (0,0)).2:Nat):Int))
 | [],i,h=>absurd h (by simp)
 |x::L,0,h=>by simp[plc]
 |x::L,i+1,h=>by
  have k:=plc_get L i (by simpa using h)
  rw[show plc (x::L)=[.int .i64 ((x.1:Nat):Int),.int .i64 ((x.2:Nat):Int)]++plc L by simp[plc],show(i+1)*2=i*2+2 by omega,List.getElem?_append_right (by simp),List.getElem?_append_right (by simp)]
  exact k
theorem plc_take(L:List (Nat×Nat))(m:Nat)(h:m<=L.length):(plc L).take (m*2)=plc (L.take m):=by
 have e:plc L=plc (L.take m)++plc (L.drop m):=by rw[<-plc_append,List.take_append_drop]
 rw[e,List.take_append_of_le_length (by rw[plc_length,List.length_take];omega),List.take_of_length_le (by rw[plc_length,List.length_take];omega)]
theorem cut_gwP{a:Option Addr}{cap n:Nat}{L:List (Nat×Nat)}(h:Q.Gw 137 2 w a cap n (plc L))(hn:n=L.length)(hm:m<=n):Q.Gw 137 2 w a cap m (plc (L.take m)):=by
 rcases h.cases with⟨rfl,rfl,rfl,h4⟩|⟨g,cur,rfl,hg,h1,h2,h3,h4⟩
 · obtain rfl:m=0:=by omega
   exact Q.Gw.nil _ _ _
 · refine Q.Gw.mk (by rw[plc_length,List.length_take];omega) hg (by omega) h2 h3 ?_
   rw[<-plc_take L m (by omega),<-h4,List.take_take,Nat.min_eq_left (by omega)]
theorem Vq.cutA{P:Q.Po}(h:Vq w b P fl D pc col)(hm:m<=D.al.length):
 Vq (w.setCell ⟨b,3,none⟩ (.slice D.aa m D.ca)) b P fl {D with al:=D.al.take m} pc col/\Vf w col (w.setCell ⟨b,3,none⟩ (.slice D.aa m D.ca)) col:=by
 have hb:But (fun k=>k=b) w (w.setCell ⟨b,3,none⟩ (.slice D.aa m D.ca)):=(But.refl (fun k=>k=b) w).setCell (p:=⟨b,3,none⟩) (fun _=>rfl) _
 have ne:∀{k:Nat},col k≠1->¬(k=b):=fun h1 e=>h1 (by rw[e];exact h.cb)
 have hl:(D.al.take m).length=m:=by rw[List.length_take];omega
 refine⟨⟨?_,h.mp.but hb (ne (by rw[h.cm];decide)),h.chr.but hb (fun x hx=>ne (by rw[h.cc x hx];decide)),?_,h.pool.but hb (fun k hk=>ne (by rw[h.cp k hk];decide)),fun k p hp=>(h.fz k p hp).but hb (fun k _ e=>ne (by omega)),fun x hx=>(h.cz x hx).but hb (fun k _ e=>ne (by omega)),h.cb,h.cm,h.cc,h.ca,h.cp,fun k hk=>Nat.lt_of_lt_of_le (h.lt k hk) hb.size⟩,hb.mono (fun k _ e=>by rw[e,h.cb];decide),fun _ _=>rfl⟩
 · rw[heap_setCell_same _ _ _ _ _ _ h.box];show some (Obj.cells _ _ _)=some (Obj.cells (vboxC fl _) _ _);unfold vboxC;rw[hl];rfl
 · show Q.Gw _ _ _ D.aa D.ca (D.al.take m).length _;rw[hl];exact(cut_gwP h.acr rfl hm).but hb (fun x hx=>ne (by rw[h.ca x hx];decide))
def Vd.to(D:Vd)(t:Nat):Vd:={D with f:=unl D.f (D.ch.drop (D.al.getD t (0,0)).2),ch:=D.ch.take (D.al.getD t (0,0)).2,al:=D.al.take t}
theorem vUndo_same(w:World)(b:Nat)(P:Q.Po)(fl:Nat)(D:Vd)(pc col:Nat->Nat)(h:Vq w b P fl D pc col)(hm:fl+D.al.length<=9223372036854775807):
 Calls Tryz.prog 117 #[.pointer (some ⟨b,0,none⟩),.int .i64 ((fl+D.al.length:Nat):Int)] w fun x w'=>x=.returned (.bool true)/\Below w.heap.size w w':=by
 obtain⟨-,-,-,-,c4⟩:=h.cells;have MK:=hide fun(W:World)(hb:Below w.heap.size w W)=>vMark_any W b P fl D pc col (h.keep hb) hm
 clear h;obtain⟨M,hM⟩:∃M,fl+D.al.length=M:=⟨_,rfl⟩;have d1:decide ((M:Int)<(fl:Int))=false:=decide_eq_false (by omega)
 have d1':decide (M<fl)=false:=decide_eq_false (by omega)
 rw[hM] at MK ⊢;clear hM hm;go_enter Tryz.func117,Tryz.ntmps117;go_wp2_with fail
 refine(MK.out _ (Below.refl _ _)).mono ?_;rintro _ w1 ⟨rfl,hb⟩;have HB:=hide hb;clear hb;go_wp2_with fail
 refine(MK.out _ HB.out).mono ?_;rintro _ w2 ⟨rfl,hb⟩;have HB2:=hide (bt HB.out hb);clear hb;go_wp2;go_ret;exact⟨rfl,HB2.out⟩
theorem vUndo_yes(w:World)(b:Nat)(P:Q.Po)(fl:Nat)(D:Vd)(pc col:Nat->Nat)(h:Vq w b P fl D pc col)(t:Nat)(hm:fl+D.al.length<=9223372036854775807)(ht:t<D.al.length)(hc:(D.al.getD t (0,0)).2<=D.ch.length)(hk:P.mark<=9223372036854775807):
 Calls Tryz.prog 117 #[.pointer (some ⟨b,0,none⟩),.int .i64 ((fl+t:Nat):Int)] w fun x w'=>x=.returned (.bool true)/\∃pc' col',Vq w' b (P.undo (((D.al.getD t (0,0)).1:Nat):Int)) fl (D.to t) pc' col'/\Vf w col w' col':=by
 have HV:=hide h;have MK:=hide fun(W:World)(hb:Below w.heap.size w W)=>vMark_any W b P fl D pc col (h.keep hb) hm
 obtain⟨g,ha⟩:=h.acr.addr (by omega)
 have hR:=h.acr;rw[ha] at hR;have k0:=hR.cell (plc_get D.al t ht).1;have k1:=hR.cell (plc_get D.al t ht).2;have hcap:=h.acr.capLe;have BK:=hide fun(W:World)(hb:Below w.heap.size w W)=>back_any W b P fl D pc col (h.keep hb) (D.al.getD t (0,0)).1 (D.al.getD t (0,0)).2 hc hk
 obtain⟨-,-,-,c3,c4⟩:=h.cells;rw[ha] at c3;have HA:=hide ha;have S:=hide fun(W:World)(hb:Below w.heap.size w W)=>(show W.cell? ⟨b,3,none⟩=_/\W.cell? ⟨b,4,none⟩=_/\W.cell? ⟨g,t*2,none⟩=_/\W.cell? ⟨g,t*2+1,none⟩=_ from⟨(hb.cell (p:=⟨b,3,none⟩) (block_lt_of_cell c3)).trans c3,(hb.cell (p:=⟨b,4,none⟩) (block_lt_of_cell c4)).trans c4,(hb.cell (p:=⟨g,t*2,none⟩) (block_lt_of_cell k0)).trans k0,(hb.cell (p:=⟨g,t*2+1,none⟩) (block_lt_of_cell k1)).trans k1⟩)
 obtain⟨x,hx⟩:∃x,D.al.getD t (0,0)=x:=⟨_,rfl⟩;unfold Vd.to;rw[hx] at k0 k1 S BK ⊢;obtain⟨u,v⟩:=x;obtain⟨n,hn⟩:∃n,D.al.length=n:=⟨_,rfl⟩;rw[hn] at ht hm hcap c3 MK S;have HN:=hide hn;have d1:decide (((fl+t:Nat):Int)<(fl:Int))=false:=decide_eq_false (by omega)
 have d2:decide (((fl+n:Nat):Int)<((fl+t:Nat):Int))=false:=decide_eq_false (by omega)
 have d3:decide (((fl+t:Nat):Int)<((fl+n:Nat):Int))=true:=decide_eq_true (by omega)
 have n1:decide (fl+t<fl)=false:=decide_eq_false (by omega)
 have n2:decide (fl+n<fl+t)=false:=decide_eq_false (by omega)
 have n3:decide (fl+t<fl+n)=true:=decide_eq_true (by omega)
 have e1:IntKind.i64.wrap (((fl+t:Nat):Int)-(fl:Int))=(t:Int):=by rw[wrapI (by omega) (by omega)];omega
 have htI:(t:Int)<(n:Int):=by omega
 have htc:(t:Int)<=(D.ca:Int):=by omega
 obtain⟨M,hM⟩:∃M,fl+t=M:=⟨_,rfl⟩;obtain⟨M2,hM2⟩:∃M2,fl+n=M2:=⟨_,rfl⟩;have E1:=hide e1;have HTL:=hide ht;rw[hM] at d1 d2 d3 n1 n2 n3 E1 ⊢;rw[hM2] at d2 d3 n2 n3 MK;clear h hR ha hx hn e1 k0 k1 hm hM hM2 hc hk ht;simp only at S BK;go_enter Tryz.func117,Tryz.ntmps117;go_wp2_with fail
 refine(MK.out _ (Below.refl _ _)).mono ?_;rintro _ w1 ⟨rfl,hb⟩;have HB:=hide hb;clear hb c3 c4;go_wp2_with fail
 refine(MK.out _ HB.out).mono ?_;rintro _ w2 ⟨rfl,hb⟩;have HB2:=hide (bt HB.out hb);clear hb HB;obtain⟨c3,c4,k0,k1⟩:=S.out _ HB2.out;have e1:=E1.out;go_wp2_with fail
 refine(BK.out _ HB2.out).mono ?_;rintro _ w3 ⟨rfl,pc3,col3,hv,hf⟩;obtain⟨v4,f4⟩:=hv.cutA (m:=t) (by show t<=D.al.length;rw[HN.out];exact Nat.le_of_lt HTL.out)
 have V4:=hide v4;have F4:=hide ((Vf.keep HB2.out).trans (hf.trans f4));have q3:=hv.cells.2.2.2.1;have fS:=hv.free 3;simp only at q3 V4 F4;rw[HA.out,HN.out] at q3;rw[HA.out] at V4 F4;clear hv hf v4 f4 c3 c4 k0 k1 e1;go_wp2;go_ret;refine⟨rfl,pc3,col3,?_,F4.out⟩;rw[HA.out];exact V4.out
def lessD(P:Q.Po)(D:Vd)(n:Int):Vd:=if (P.dec n).1.2=0/\(P.dec n).2.state n=1 then {D with f:=fput D.f n Pv.zero,ch:=D.ch++[(n,wasOn D n)]} else D
theorem less_any(w:World)(b:Nat)(P:Q.Po)(fl:Nat)(D:Vd)(pc col:Nat->Nat)(h:Vq w b P fl D pc col)(n:Int)(hm:P.ac.length+1<=17592186044416)(hlen:D.ch.length+1<=1759218604441):
 Calls Tryz.prog 145 #[.pointer (some ⟨b,0,none⟩),.int .i64 n] w fun e w'=>e=.returned (.tuple #[.int .i64 (P.dec n).1.1,.int .i64 (P.dec n).1.2])/\∃ac' cc' pc' col',Vq w' b (P.dec n).2 fl {lessD P D n with ac:=ac',cc:=cc'} pc' col'/\Vf w col w' col':=by
 obtain⟨c0,-,-,-,-⟩:=h.cells;have DC:=hide (Q.Dec_any w D.pb P pc h.pool n hm);have HV:=hide h;clear h;unfold lessD;obtain⟨c,hc⟩:∃c,(P.dec n).1.1=c:=⟨_,rfl⟩;obtain⟨e,he⟩:∃e,(P.dec n).1.2=e:=⟨_,rfl⟩;obtain⟨P1,hP⟩:∃P1,(P.dec n).2=P1:=⟨_,rfl⟩;rw[hc,he,hP] at DC ⊢;clear hc he hP hm;by_cases h0:e=0
 · subst h0;by_cases h1:P1.state n=1
   · rw[if_pos ⟨rfl,h1⟩];go_enter Tryz.func145,Tryz.ntmps145;go_wp2_with fail
     refine DC.out.mono ?_;rintro _ w1 ⟨rfl,pc1,hp,hf⟩;obtain⟨v1,f1⟩:=HV.out.pooled hp hf;have V1:=hide v1;have F1:=hide f1;have c1:=v1.cells.1;have ST:=hide (Q.State_pl w1 D.pb P1 pc1 hp n);rw[h1] at ST;clear hp hf v1 f1 DC c0;go_wp2_with fail
     refine ST.out.mono ?_;rintro _ w2 ⟨rfl,hb⟩;have V2:=hide (V1.out.keep hb);have F2:=hide (F1.out.trans (Vf.keep hb));clear hb c1 ST V1 F1;have LY:=hide (lay_any w2 b P1 fl D pc1 _ V2.out n Pv.zero (Pz.zero _ _) hlen);unfold Pv.vl at LY;simp only[Pv.cs,Pv.zero,List.length_nil] at LY;go_wp2_with fail
     refine LY.out.mono ?_;rintro _ w3 ⟨rfl,ac',cc',col',v3,f3⟩;have V3:=hide v3;have F3:=hide (F2.out.trans f3);clear v3 f3 LY;go_wp2;go_ret2
     exact⟨rfl,ac',cc',pc1,col',V3.out,F3.out⟩
   · rw[if_neg (fun hh=>h1 hh.2)]
     have e1:((P1.state n:Nat):Int)≠1:=by omega
     have e2:(((P1.state n:Nat):Int)==1)=false:=by simp;omega
     have e3:(P1.state n==1)=false:=by simp;omega
     obtain⟨s,hs⟩:∃s,P1.state n=s:=⟨_,rfl⟩;have SP:=hide fun(W:World)(pc1:Nat->Nat)(hp:Q.Pl W D.pb P1 pc1)=>Q.State_pl W D.pb P1 pc1 hp n
     rw[hs] at e1 e2 e3 SP;clear hs h1;go_enter Tryz.func145,Tryz.ntmps145;go_wp2_with fail
     refine DC.out.mono ?_;rintro _ w1 ⟨rfl,pc1,hp,hf⟩;obtain⟨v1,f1⟩:=HV.out.pooled hp hf;have V1:=hide v1;have F1:=hide f1;have c1:=v1.cells.1;have ST:=hide (SP.out w1 pc1 hp);clear hp hf v1 f1 DC c0;go_wp2_with fail
     refine ST.out.mono ?_;rintro _ w2 ⟨rfl,hb⟩;have V2:=hide (V1.out.keep hb);have F2:=hide (F1.out.trans (Vf.keep hb));clear hb c1 ST V1 F1;go_wp2;go_ret2
     exact⟨rfl,D.ac,D.cc,pc1,_,V2.out,F2.out⟩
 · rw[if_neg (fun hh=>h0 hh.1)]
   have e2:(e==0)=false:=by simp[h0]
   go_enter Tryz.func145,Tryz.ntmps145;go_wp2_with fail
   refine DC.out.mono ?_;rintro _ w1 ⟨rfl,pc1,hp,hf⟩;obtain⟨v1,f1⟩:=HV.out.pooled hp hf;have V1:=hide v1;have F1:=hide f1;clear hp hf v1 f1 DC c0;go_wp2;go_ret2
   exact⟨rfl,D.ac,D.cc,pc1,_,V1.out,F1.out⟩
theorem drop_cons(L:List Int){k:Nat}(h:k<L.length):L.drop k=L.getD k 0::L.drop (k+1):=by
 rw[List.drop_eq_getElem_cons h,List.getD_eq_getElem?_getD,List.getElem?_eq_getElem h];rfl
structure Vm where
 P:Q.Po
 f:Int->Option Pv
 ch:List (Int×Pv)
def Vm.on(X:Vm)(z:Int):Pv:=(X.f z).getD Pv.zero
def Vm.less(X:Vm)(z:Int):Vm:=if (X.P.dec z).1.2=0/\(X.P.dec z).2.state z=1 then ⟨(X.P.dec z).2,fput X.f z Pv.zero,X.ch++[(z,X.on z)]⟩ else ⟨(X.P.dec z).2,X.f,X.ch⟩
def Vd.st(D:Vd)(X:Vm)(ac:Option Addr)(cc:Nat):Vd:={D with f:=X.f,ch:=X.ch,ac:=ac,cc:=cc}
def Vx(w:World)(b:Nat)(X:Vm)(fl:Nat)(D:Vd)(pc col:Nat->Nat):Prop:=∃ac cc,Vq w b X.P fl (D.st X ac cc) pc col
theorem Vx.keep{w':World}{X:Vm}(h:Vx w b X fl D pc col)(hb:Below w.heap.size w w'):Vx w' b X fl D pc col:=by
 obtain⟨ac,cc,h⟩:=h;exact⟨ac,cc,h.keep hb⟩
theorem Vx.ok{X:Vm}(h:Vx w b X fl D pc col):X.P.Ok:=by
 obtain⟨ac,cc,h⟩:=h;obtain⟨_,k⟩:=h.pool;exact k.ok
def tot(P:Q.Po):Nat:=(P.pg.map fun x=>x.1.toNat).sum
theorem sum_set{α:Type}(g:α->Nat)(d x:α):∀(L:List α)(i:Nat),i<L.length->((L.set i x).map g).sum+g (L.getD i d)=(L.map g).sum+g x
 | [],i,h=>absurd h (by simp)
 |y::L,0,h=>by simp;omega
 |y::L,i+1,h=>by
  have k:=sum_set g d x L i (by simpa using h)
  simp only[List.set_cons_succ,List.map_cons,List.sum_cons,List.getD_cons_succ];omega
theorem dec_tot{P:Q.Po}(h:P.Ok)(z:Int):((P.dec z).1.2=0->tot (P.dec z).2+1=tot P/\(P.dec z).2.ac.length=P.ac.length+1)/\((P.dec z).1.2≠0->(P.dec z).2=P):=by
 unfold Q.Po.dec;split
 · exact⟨fun e=>absurd e (by simp),fun _=>rfl⟩
 · rename_i hc;refine⟨fun _=>⟨?_,by simp[Q.Po.act]⟩,fun e=>absurd rfl e⟩
   obtain⟨h1,h2⟩:=Q.Po.count_has hc;have hi:z.toNat-1<P.pg.length:=by omega
   have e:P.count z=(P.pg.getD (z.toNat-1) Q.Pg.zero).1:=by
    unfold Q.Po.count;rw[if_pos (by unfold Q.Po.has;simp only[Bool.and_eq_true,decide_eq_true_eq];exact⟨h1,h2⟩),show(z-1).toNat=z.toNat-1 by omega]
   have k:=sum_set (fun x:Q.Pg=>x.1.toNat) Q.Pg.zero (P.count z-1,(P.at z.toNat).2) P.pg (z.toNat-1) hi
   have hp:=h.cs _ (Q.getD_memP hi);have e2:tot (P.act z.toNat (P.count z-1))=((P.pg.set (z.toNat-1) (P.count z-1,(P.at z.toNat).2)).map fun x=>x.1.toNat).sum:=rfl
   show tot (P.act z.toNat (P.count z-1))+1=tot P;rw[e2];have e3:tot P=(P.pg.map fun x=>x.1.toNat).sum:=rfl
   rw[e3];simp only at k;rw[<-e] at k hp;omega
theorem Vm.less_P(X:Vm)(z:Int):(X.less z).P=(X.P.dec z).2:=by unfold Vm.less;split<;>rfl
theorem Vm.less_ch(X:Vm)(z:Int):(X.less z).ch.length<=X.ch.length+1:=by unfold Vm.less;split<;>simp
theorem Vm.less_no(X:Vm)(z:Int)(h:(X.P.dec z).1.2≠0):(X.less z).ch=X.ch:=by unfold Vm.less;rw[if_neg (fun e=>h e.1)]
theorem less_st(w:World)(b:Nat)(X:Vm)(fl:Nat)(D:Vd)(pc col:Nat->Nat)(h:Vx w b X fl D pc col)(n:Int)(hm:X.P.ac.length+1<=17592186044416)(hlen:X.ch.length+1<=1759218604441):
 Calls Tryz.prog 145 #[.pointer (some ⟨b,0,none⟩),.int .i64 n] w fun e w'=>e=.returned (.tuple #[.int .i64 (X.P.dec n).1.1,.int .i64 (X.P.dec n).1.2])/\∃pc' col',Vx w' b (X.less n) fl D pc' col'/\Vf w col w' col':=by
 obtain⟨ac,cc,h⟩:=h;refine(less_any w b X.P fl (D.st X ac cc) pc col h n hm hlen).mono ?_;rintro _ w' ⟨rfl,ac',cc',pc',col',hv,hf⟩;refine⟨rfl,pc',col',⟨ac',cc',?_⟩,hf⟩;rw[Vm.less_P]
 have e:({lessD X.P (D.st X ac cc) n with ac:=ac',cc:=cc'}:Vd)=D.st (X.less n) ac' cc':=by
  unfold lessD Vm.less;split<;>rfl
 rw[<-e];exact hv
def dropL(F:Vm->Int->Int×Vm):Vm->List Int->Int×Vm
 |X,[]=>(0,X)
 |X,z::L=>if (F X z).1=0 then dropL F (F X z).2 L else F X z
def dropM:Nat->Vm->Int->Int×Vm
 |0,X,_=>(0,X)
 |t+1,X,z=>if (X.P.dec z).1.2≠0\/0<(X.P.dec z).1.1 then ((X.P.dec z).1.2,X.less z) else dropL (dropM t) (X.less z) (X.on z).pg.kids
theorem Vx.on_z{X:Vm}(h:Vx w b X fl D pc col)(z:Int):Pz (fun k=>col k=6) w (X.on z):=by
 obtain⟨ac,cc,h⟩:=h;exact wasOn_z h z
theorem Vx.look{X:Vm}(h:Vx w b X fl D pc col)(z:Int):(Instr.lookup 81 (.map (some D.mb)) (.int .i64 z) false).run Tryz.prog w=.ok (X.on z).vl w:=by
 obtain⟨ac,cc,h⟩:=h;exact look_on h z
theorem Vx.c01{X:Vm}(h:Vx w b X fl D pc col):w.cell? ⟨b,0,none⟩=some (.pointer (some ⟨D.pb,0,none⟩))/\w.cell? ⟨b,1,none⟩=some (.map (some D.mb)):=by
 obtain⟨ac,cc,h⟩:=h;exact⟨h.cells.1,h.cells.2.1⟩
theorem Vx.lb{X:Vm}(h:Vx w b X fl D pc col):b<w.heap.size:=by
 obtain⟨ac,cc,h⟩:=h;exact h.lb
theorem Vx.z{w:World}{b:Nat}{X:Vm}{fl:Nat}{D:Vd}{pc col:Nat->Nat}(h:Vx w b X fl D pc col){k:Nat}(hk:w.heap.size<=k):col k=0:=by
 obtain⟨ac,cc,h⟩:=h;cases e:col k with
 |zero=>rfl
 |succ n=>have:=h.lt k (by omega);omega
theorem drop_any(t:Nat)(IH:∀(w:World)(b:Nat)(X:Vm)(fl:Nat)(D:Vd)(pc col:Nat->Nat)(z:Int),Vx w b X fl D pc col->tot X.P<t->X.P.ac.length+tot X.P+1<=17592186044416->X.ch.length+tot X.P+1<=1759218604441->
 Calls Tryz.prog 110 #[.pointer (some ⟨b,0,none⟩),.int .i64 z] w fun e w'=>e=.returned (.int .i64 (dropM t X z).1)/\(tot (dropM t X z).2.P<=tot X.P/\(dropM t X z).2.P.ac.length+tot (dropM t X z).2.P<=X.P.ac.length+tot X.P/\(dropM t X z).2.ch.length+tot (dropM t X z).2.P<=X.ch.length+tot X.P)/\∃pc' col',Vx w' b (dropM t X z).2 fl D pc' col'/\Vf w col w' col')
 (w:World) (b:Nat) (X:Vm) (fl:Nat) (D:Vd) (pc col:Nat->Nat) (z:Int) (h:Vx w b X fl D pc col) (ht:tot X.P<t+1) (hm:X.P.ac.length+tot X.P+1<=17592186044416) (hc:X.ch.length+tot X.P+1<=1759218604441):
 Calls Tryz.prog 110 #[.pointer (some ⟨b,0,none⟩),.int .i64 z] w fun e w'=>e=.returned (.int .i64 (dropM (t+1) X z).1)/\(tot (dropM (t+1) X z).2.P<=tot X.P/\(dropM (t+1) X z).2.P.ac.length+tot (dropM (t+1) X z).2.P<=X.P.ac.length+tot X.P/\(dropM (t+1) X z).2.ch.length+tot (dropM (t+1) X z).2.P<=X.ch.length+tot X.P)/\∃pc' col',Vx w' b (dropM (t+1) X z).2 fl D pc' col'/\Vf w col w' col':=by
 have HV:=hide h;obtain⟨c0,c1⟩:=h.c01;have hl:=h.look z;have HZ:=hide (h.on_z z);obtain⟨q,hq⟩:∃q,X.on z=q:=⟨_,rfl⟩;rw[hq] at hl HZ;have aB:=al w (.cells q.cs 31);have HX:=hide (World.alloc_heap_new w (.cells q.cs 31));have LS:=hide (less_st _ b X fl D pc col (h.keep aB) z (by omega) (by omega))
 have AB:=hide aB;have CX:Hid (col w.heap.size=0):=h.z (Nat.le_refl _);have hok:=h.ok;obtain⟨dt1,dt2⟩:=dec_tot hok z;have DM:dropM (t+1) X z=if (X.P.dec z).1.2≠0\/0<(X.P.dec z).1.1 then ((X.P.dec z).1.2,X.less z) else dropL (dropM t) (X.less z) q.pg.kids:=by rw[<-hq];rfl
 have LP:=X.less_P z;have LC:=X.less_ch z;have LN:=X.less_no z;obtain⟨X1,hX1⟩:∃X1,X.less z=X1:=⟨_,rfl⟩;rw[hX1] at DM LP LC LN LS;rw[<-LP] at dt1 dt2;obtain⟨c,hcc⟩:∃c,(X.P.dec z).1.1=c:=⟨_,rfl⟩;obtain⟨e,hee⟩:∃e,(X.P.dec z).1.2=e:=⟨_,rfl⟩;rw[hcc,hee] at DM LS;rw[hee] at dt1 dt2 LN
 have BND:Hid (tot X1.P<=tot X.P/\X1.P.ac.length+tot X1.P<=X.P.ac.length+tot X.P/\X1.ch.length+tot X1.P<=X.ch.length+tot X.P):=by
  show _/\_/\_;by_cases h0:e=0
  · have:=dt1 h0;omega
  · rw[dt2 h0,LN h0];exact⟨Nat.le_refl _,Nat.le_refl _,Nat.le_refl _⟩
 have DT:=hide dt1;have IHH:=hide IH;have HT:=hide ht;have HM:=hide hm;have HC:=hide hc;rw[DM];clear h DM LP LC LN hX1 hcc hee dt1 dt2 hq aB IH ht hm hc hok;have HQ:=hide (show ∀(W:World)(col':Nat->Nat),Vf w col W col'->Pi W q from fun W col' hf=>(HZ.out.but hf.b (fun k _ e hk=>by omega)).pi)
 have KD:=hide fun(W:World)(hp:Pi W q)=>Kids_any W q hp
 obtain⟨L,hL⟩:∃L,q.pg.kids=L:=⟨_,rfl⟩;rw[hL] at KD ⊢;obtain⟨n,hn⟩:∃n,L.length=n:=⟨_,rfl⟩;rw[hn] at KD;have HN:=hide hn;clear hL hn;obtain⟨kp,lp,aIp,cIp,itp,aDp,cDp,dap,nxp⟩:=q;unfold Pv.vl at hl KD;simp only[Pv.cs] at hl KD LS HX AB;by_cases h0:e=0
 · subst h0;have DT1:=hide (DT.out rfl);clear DT;by_cases hc0:0<c
   · rw[if_pos (.inr hc0)];have d0:decide (0<c)=true:=decide_eq_true hc0;go_enter Tryz.func110,Tryz.ntmps110;go_wp2_with fail
     refine LS.out.mono ?_;rintro _ w1 ⟨rfl,pc1,col1,v1,f1⟩;have V1:=hide v1;have F1:=hide ((Vf.keep AB.out).trans f1);clear v1 f1 LS hl c0 c1;go_wp2;go_ret;exact⟨rfl,BND.out,pc1,col1,V1.out,F1.out⟩
   · rw[if_neg (by simp;omega)]
     have d0:decide (0<c)=false:=decide_eq_false hc0;go_enter Tryz.func110,Tryz.ntmps110;go_wp2_with fail
     refine LS.out.mono ?_;rintro _ w1 ⟨rfl,pc1,col1,v1,f1⟩;have V1:=hide v1;have F1:=hide ((Vf.keep AB.out).trans f1);have hb1:=f1.b.same HX.out (fun e=>by rw[CX.out] at e;omega)
     obtain⟨x0,x1,x2,x3,x4⟩:=five_cells hb1;clear v1 f1 LS hl c0 c1 hb1;go_wp2_with fail
     refine(KD.out _ (HQ.out _ _ F1.out)).mono ?_;rintro _ w2 ⟨a,ca,rfl,hO⟩;have V2:=hide (V1.out.keep hO.b);have F2:=hide (F1.out.trans (Vf.keep hO.b));have HI:=hide hO.r
     have hn64:n<=9223372036854775807:=by
      have k:=(show Q.Gw 3 1 w2 a ca L.length (vi L) from hO.r).capLe
      rw[HN.out] at k;unfold maxLen at k;omega
     have HCZ:=hide fun(x:Addr)(hx:a=some x)=>(show col1 x.block=0 from by
      rcases hO.n x hx with⟨y,hy,_⟩|h2
      · cases hy
      · exact V1.out.z h2)
     clear hO KD x0 x1 x2 x3 x4 V1 F1 HQ;go_wp2_with fail
     go_loopw [33] (fun i wr=>∃(k:Nat)(X':Vm)(pc' col':Nat->Nat),k<=n/\i=.int .i64 (k:Int)/\Vx wr b X' fl D pc' col'/\Vf w2 col1 wr col'/\dropL (dropM t) X' (L.drop k)=dropL (dropM t) X1 L/\(tot X'.P<=tot X1.P/\X'.P.ac.length+tot X'.P<=X1.P.ac.length+tot X1.P/\X'.ch.length+tot X'.P<=X1.ch.length+tot X1.P)) (fun i _=>n-(intOf i).toNat)
     case atStart=>exact⟨0,X1,pc1,col1,Nat.zero_le _,rfl,V2.out,Vf.refl _ _,by rw[List.drop_zero],Nat.le_refl _,Nat.le_refl _,Nat.le_refl _⟩
     case round=>
      obtain⟨k,X',pc',col',hk,rfl,hV,hF,hE,hA⟩:=hrel;have V3:=hide hV;have F3:=hide hF;have HE:=hide hE;have HA:=hide hA;have R3:=hide (HI.out.but hF.b (fun x hx e=>by rw[HCZ.out x hx] at e;omega))
      clear hV hF hE hA;by_cases hlt:k<n
      · have hkl:k<L.length:=by rw[HN.out];exact hlt
        have hki:(k:Int)<(n:Int):=by omega
        obtain⟨g,off,rfl,cK⟩:=R3.out.ir.at hkl;have hd:=drop_cons L hkl;obtain⟨y,hy⟩:∃y,L.getD k 0=y:=⟨_,rfl⟩;rw[hy] at cK hd;have hE:=HE.out;rw[hd] at hE;have IN:=hide (IHH.out wr b X' fl D pc' col' y V3.out (by have:=HA.out;have:=HT.out;have:=DT1.out;omega) (by have:=HA.out;have:=HM.out;have:=BND.out;omega) (by have:=HA.out;have:=HC.out;have:=BND.out;omega))
        have hE2:(if (dropM t X' y).1=0 then dropL (dropM t) (dropM t X' y).2 (L.drop (k+1)) else dropM t X' y)=dropL (dropM t) X1 L:=hE
        obtain⟨r,hxy⟩:∃r,dropM t X' y=r:=⟨_,rfl⟩;rw[hxy] at IN hE2;clear hxy;obtain⟨ey,X2⟩:=r;simp only at IN hE2;have HE2:=hide hE2;clear hE2 hE hy hd HE;go_wp2_with fail
        refine IN.out.mono ?_;rintro _ w4 ⟨rfl,hbn,pc4,col4,v4,f4⟩;have V4:=hide v4;have F4:=hide (F3.out.trans f4);have BN:=hide hbn;clear v4 f4 hbn IN cK;by_cases h0:ey=0
        · subst h0;have hE2:=HE2.out;rw[if_pos rfl] at hE2;have Y:=hide hE2;clear hE2;go_wp2;go_roundw
          case rel=>exact⟨k+1,X2,pc4,col4,by omega,by go_num,V4.out,F4.out,Y.out,by have:=BN.out;have:=HA.out;omega⟩
          case measure=>simp[intOf];omega
        · have e0:(ey==0)=false:=by simp[h0]
          have hE2:=HE2.out;rw[if_neg h0] at hE2;have Y:=hide hE2;clear hE2;go_wp2;go_ret;rw[<-Y.out];exact⟨rfl,(show tot X2.P<=tot X.P/\X2.P.ac.length+tot X2.P<=X.P.ac.length+tot X.P/\X2.ch.length+tot X2.P<=X.ch.length+tot X.P from by have:=BN.out;have:=HA.out;have:=BND.out;omega),pc4,col4,V4.out,F2.out.trans F4.out⟩
      · obtain rfl:k=n:=by omega
        have hE:=HE.out;rw[List.drop_eq_nil_of_le (by rw[HN.out];exact Nat.le_refl _)] at hE
        have Y:=hide hE;clear hE;go_wp2;go_ret;rw[<-Y.out];exact⟨rfl,(show tot X'.P<=tot X.P/\X'.P.ac.length+tot X'.P<=X.P.ac.length+tot X.P/\X'.ch.length+tot X'.P<=X.ch.length+tot X.P from by have:=HA.out;have:=BND.out;omega),pc',col',V3.out,F2.out.trans F3.out⟩
 · rw[if_pos (.inl h0)];have e0:(e==0)=false:=by simp[h0]
   go_enter Tryz.func110,Tryz.ntmps110;go_wp2_with fail
   refine LS.out.mono ?_;rintro _ w1 ⟨rfl,pc1,col1,v1,f1⟩;have V1:=hide v1;have F1:=hide ((Vf.keep AB.out).trans f1);clear v1 f1 LS hl c0 c1;go_wp2;go_ret;exact⟨rfl,BND.out,pc1,col1,V1.out,F1.out⟩
theorem drop_all:∀(t:Nat)(w:World)(b:Nat)(X:Vm)(fl:Nat)(D:Vd)(pc col:Nat->Nat)(z:Int),Vx w b X fl D pc col->tot X.P<t->X.P.ac.length+tot X.P+1<=17592186044416->X.ch.length+tot X.P+1<=1759218604441->
 Calls Tryz.prog 110 #[.pointer (some ⟨b,0,none⟩),.int .i64 z] w fun e w'=>e=.returned (.int .i64 (dropM t X z).1)/\(tot (dropM t X z).2.P<=tot X.P/\(dropM t X z).2.P.ac.length+tot (dropM t X z).2.P<=X.P.ac.length+tot X.P/\(dropM t X z).2.ch.length+tot (dropM t X z).2.P<=X.ch.length+tot X.P)/\∃pc' col',Vx w' b (dropM t X z).2 fl D pc' col'/\Vf w col w' col'
 |0,w,b,X,fl,D,pc,col,z,h,ht,hm,hc=>absurd ht (Nat.not_lt_zero _)
 |t+1,w,b,X,fl,D,pc,col,z,h,ht,hm,hc=>drop_any t (drop_all t) w b X fl D pc col z h ht hm hc
end Go.Proofs.YtcpkinhneehomaaGreat
