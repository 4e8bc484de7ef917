import Derived.Test.YtbdkogimlbnlmaaGreatWqB14
set_option linter.unusedVariables false
set_option linter.unusedSimpArgs false
set_option maxHeartbeats 8000000
set_option maxRecDepth 8000
namespace Go.Proofs.YtbdkogimlbnlmaaGreat
open Go.RowKit
def pgC(kind level:Int)(aI:Option Addr)(n cI:Nat)(aD:Option Addr)(m cD:Nat)(next:Int):Array Value:=#[.int .i64 kind,.int .i64 level,.slice aI n cI,.slice aD m cD,.int .i64 next]
theorem Co.item{w W:World}{g cap i:Nat}{M L:List Iv}(h:Co w W g cap i M L)(hi:i<L.length):(W.cell? ⟨g,i*4,none⟩=some (.slice (L.getD i Iv.zero).aK (L.getD i Iv.zero).key.length (L.getD i Iv.zero).cK)/\W.cell? ⟨g,i*4+1,none⟩=some (.slice (L.getD i Iv.zero).aV (L.getD i Iv.zero).val.length (L.getD i Iv.zero).cV)/\W.cell? ⟨g,i*4+2,none⟩=some (.int .i64 (L.getD i Iv.zero).child)/\W.cell? ⟨g,i*4+3,none⟩=some (.int .i64 (L.getD i Iv.zero).size))/\(∀o,W.frozen? ⟨g,o,none⟩=false):=by
 have hg:(M++L.drop i).getD i Iv.zero=L.getD i Iv.zero:=by
  rw[aq,bi (by rw[h.len];exact ai _),h.len,dq,List.getElem?_drop,bY,<-aq]
 have hl:i<(M++L.drop i).length:=by rw[ae,h.len,dc];omega
 rcases h.j.cases with⟨h0,_⟩|⟨g',cur,ha,hg2,h1,h2,h3,h4⟩
 . cases h0
 . cases ha
   have k:∀{j:Nat}{u:Value},j<4->(L.getD i Iv.zero).cs.toList[j]?=some u->W.cell? ⟨g,i*4+j,none⟩=some u:=λ{j u} hj hu=>by
    have:=lk (M++L.drop i) i j hl hj;rw[hg,hu] at this;have e:=h.j.cells (i*4+j) u this;rwa [Addr.add_mid,bG] at e
   exact⟨⟨k (j:=0) (by decide) rfl,k (by decide) rfl,k (by decide) rfl,k (by decide) rfl⟩,λo=>by simp[World.frozen?,hg2]⟩
theorem A9{w w':World}{o:Oper}{a:Act}{K:Act->World->Prop}{Q:Exit->Act->World->Prop}(s x:Operand)
 (ho:o.op=.call {callee:=.builtin .append,args:=#[s,x],argTypes:=#[28,28]}) (v1 v2 v:Value) (hs:a.eval s=v1) (hx:a.eval x=v2) (hr:(Builtin.append_ #[28,28] o.type #[v1,v2]).run Tryz.prog w=.ok v w')
 (h:K (a.put o.dst v) w'):o.wp Tryz.prog a w K Q:=by
 unfold Oper.wp execOp;simp only[ho,resolve,invoke,builtin,dl,dm,bN,cu,bz,cQ,hs,hx,hr];exact h
theorem no{w w':World}{ops:Array Oper}{rest:List Oper}{o:Oper}{a:Act}{Q:Exit->Act->World->Prop}(hgd:o.guard=none)(s x:Operand)
 (ho:o.op=.call {callee:=.builtin .append,args:=#[s,x],argTypes:=#[28,28]}) (v1 v2 v:Value) (hs:a.eval s=v1) (hx:a.eval x=v2) (hr:(Builtin.append_ #[28,28] o.type #[v1,v2]).run Tryz.prog w=.ok v w')
 (h:wpList Tryz.prog ops Q rest (a.put o.dst v) w'):wpList Tryz.prog ops Q (o::rest) a w:=
 ee hgd λ_ hK=>A9 s x ho v1 v2 v hs hx hr (hK _ _ h)
theorem uN(w:World)(p:Pv)(hP:Pi w p)(h0:0<p.items.length)(hd:p.data.length<=140737488355264)(hs:∀x∈p.items,x.key.length<=140737488355264/\x.val.length<=140737488355264):
 Calls Tryz.prog 107 #[p.vl] w λe w'=>∃q:Pv,e=.returned q.vl/\Pn w w' q/\q.pg=p.pg/\Below w.heap.size w w':=by
 obtain⟨kind,level,aI,cI,L,aD,cD,data,next⟩:=p
 unfold Pv.vl;simp only[Pv.cs] at *;have hL:=hP.it.2.1;obtain⟨ad,hA,hcs⟩:=hP.it.all h0;simp only at hL hA hcs;subst hA;have aB:=al w (.cells (pgC kind level (some ad) L.length cI aD data.length cD next) 31)
 have aC:=bt aB (al (w.alloc (.cells (pgC kind level (some ad) L.length cI aD data.length cD next) 31)) (.cells (pgC 0 0 none 0 0 none 0 0 0) 31))
 obtain⟨g,cap,w2,hap,hJ,hg,hB2⟩:=zU ((w.alloc (.cells (pgC kind level (some ad) L.length cI aD data.length cD next) 31)).alloc (.cells (pgC 0 0 none 0 0 none 0 0 0) 31)) 28 ad cI L (λj u hj=>(aC.cell (p:=ad.add j) (block_lt_of_cell (hcs j u hj))).trans (hcs j u hj)) h0 hL
 have SZ:((w.alloc (.cells (pgC kind level (some ad) L.length cI aD data.length cD next) 31)).alloc (.cells (pgC 0 0 none 0 0 none 0 0 0) 31)).heap.size=w.heap.size+2:=by rw[size_alloc,size_alloc]
 have hx0:((w.alloc (.cells (pgC kind level (some ad) L.length cI aD data.length cD next) 31)).alloc (.cells (pgC 0 0 none 0 0 none 0 0 0) 31)).heap[w.heap.size]?=some (.cells (pgC kind level (some ad) L.length cI aD data.length cD next) 31 (0,0)):=((al (w.alloc (.cells (pgC kind level (some ad) L.length cI aD data.length cD next) 31)) (.cells (pgC 0 0 none 0 0 none 0 0 0) 31)).block w.heap.size (by rw[size_alloc];omega)).trans (az w _)
 have hy0:((w.alloc (.cells (pgC kind level (some ad) L.length cI aD data.length cD next) 31)).alloc (.cells (pgC 0 0 none 0 0 none 0 0 0) 31)).heap[w.heap.size+1]?=some (.cells (pgC 0 0 none 0 0 none 0 0 0) 31 (0,0)):=by
  have k:=az (w.alloc (.cells (pgC kind level (some ad) L.length cI aD data.length cD next) 31)) (.cells (pgC 0 0 none 0 0 none 0 0 0) 31)
  rwa [size_alloc] at k
 have hx2:=(hB2.block w.heap.size (by omega)).trans hx0
 have hy2:=(hB2.block (w.heap.size+1) (by omega)).trans hy0
 rw[SZ] at hg hB2;have cS:w2.cell? ⟨w.heap.size,2,none⟩=some (.slice (some ad) L.length cI):=by rw[ax _ _ _ _ _ _ hx2];rfl
 have fS:w2.frozen? ⟨w.heap.size,2,none⟩=false:=by simp[World.frozen?,hx2]
 have hx3:=aR w2 w.heap.size 2 _ 31 (.slice (some ⟨g,0,none⟩) L.length cap) hx2;have hy3:(w2.setCell ⟨w.heap.size,2,none⟩ (.slice (some ⟨g,0,none⟩) L.length cap)).heap[w.heap.size+1]?=_:=(Below.heap_setCell _ _ _ _ (show w.heap.size+1≠w.heap.size by omega)).trans hy2
 have bS:But (λk=>k=w.heap.size) w2 (w2.setCell ⟨w.heap.size,2,none⟩ (.slice (some ⟨g,0,none⟩) L.length cap)):=(But.refl (λk=>k=w.heap.size) w2).setCell (p:=⟨w.heap.size,2,none⟩) (λ_=>rfl) _
 have b02:Below w.heap.size w w2:=bt aC (by rw[SZ];exact hB2)
 have b03:Below w.heap.size w (w2.setCell ⟨w.heap.size,2,none⟩ (.slice (some ⟨g,0,none⟩) L.length cap)):=((But.ofBelow (S:=λk=>k=w.heap.size) b02).trans bS (λ_ _ e=>e)).below (λk hk e=>by omega)
 have C3:Hid (Co w (w2.setCell ⟨w.heap.size,2,none⟩ (.slice (some ⟨g,0,none⟩) L.length cap)) g cap 0 [] L):=⟨hJ.but bS (λx hx e=>by cases hx;have e:g=w.heap.size:=e;omega),rfl,rfl,Fam.nil _ _,(λ_ h=>by cases h),b03,by omega⟩
 have X3:Hid ((w2.setCell ⟨w.heap.size,2,none⟩ (.slice (some ⟨g,0,none⟩) L.length cap)).heap[w.heap.size]?=some (.cells (pgC kind level (some ⟨g,0,none⟩) L.length cap aD data.length cD next) 31 (0,0))):=hx3
 have Y3:=gZ hy3;have HG:=gZ hg;have IT:=gZ λ(W:World)(hb:Below w.heap.size w W)(i:Nat)(hi:i<L.length)=>(hP.it.1 _ (iy hi)).keep hb
 have HS:=gZ λ(i:Nat)(hi:i<L.length)=>hs _ (iy hi)
 have CD:=gZ λ(W:World)(hb:Below w.heap.size w W)=>lH W aD cD data (hP.bd.keep hb) (aU hd (by decide))
 have D8:=gZ hP.bd.1;have NK:=gZ (And.intro hP.nk (And.intro hP.nl hP.nn));simp only at hd D8 NK;obtain⟨n,hn⟩:∃n,L.length=n:=⟨_,rfl⟩;have HN:=gZ hn;have hnL:n<=2199023255489:=by omega
 rw[hn] at hap cS X3 C3 Y3;unfold pgC at *;have HAP:=gZ hap;clear hap;clear hP h0 hd hs hL hcs aB aC hJ hg hB2 SZ hx0 hy0 hx2 hy2 hx3 hy3 bS b02 b03;rw[hn];clear hn;go_enter Tryz.func107,Tryz.ntmps107;go_wp2_with (at_builtin;refine no rfl _ _ rfl (.slice none 0 0) (.slice (some ad) n cI) _ rfl rfl HAP.o ?_)
 clear HAP cS fS;generalize w2.setCell ⟨w.heap.size,2,none⟩ (.slice (some ⟨g,0,none⟩) n cap)=w3 at *;go_loopw [12] (λi wr=>∃(k:Nat)(M:List Iv),k<=n/\i=.int .i64 (k:Int)/\Co w wr g cap k M L/\wr.heap[w.heap.size]?=some (.cells #[.int .i64 kind,.int .i64 level,.slice (some ⟨g,0,none⟩) n cap,.slice aD data.length cD,.int .i64 next] 31 (0,0))/\wr.heap[w.heap.size+1]?=some (.cells #[.int .i64 0,.int .i64 0,.slice none 0 0,.slice none 0 0,.int .i64 0] 31 (0,0))) (λi _=>n-(intOf i).toNat)
 case atStart=>exact⟨0,[],aF _,rfl,C3.o,X3.o,Y3.o⟩
 case round=>
  obtain⟨i,M,hi,rfl,hCo,hxr,hyr⟩:=hrel;have CO:=gZ hCo;have XR:=gZ hxr;have YR:=gZ hyr;by_cases hlt:i<n
  . have hil:i<L.length:=by rw[HN.o];exact hlt
    have hiI:(i:Int)<(n:Int):=by omega
    obtain⟨⟨k0,k1,k2,k3⟩,fz⟩:=hCo.item hil;have A0:=gZ (bt (al wr (.cells (L.getD i Iv.zero).cs 51)) (Q.drw _));have C0:=gZ (hCo.keep A0.o);have T0:=gZ (az wr (.cells (L.getD i Iv.zero).cs 51));have hsz:w.heap.size+1<wr.heap.size:=(af.1 hyr).1;have hgl:g<wr.heap.size:=hCo.j.lt rfl;have hgx:=HG.o;have I0:=IT.o _ C0.o.b i hil;have K1:=gZ (lH _ _ (L.getD i Iv.zero).cK _ I0.bk (aU (HS.o i hil).1 (by decide)))
    have K2:=gZ λ(W:World)(hb:Below (wr.alloc (.cells (L.getD i Iv.zero).cs 51)).drew.heap.size (wr.alloc (.cells (L.getD i Iv.zero).cs 51)).drew W)=>lH W _ (L.getD i Iv.zero).cV _ (I0.bv.keep hb) (aU (HS.o i hil).2 (by decide))
    have IM:=gZ λ(W:World)(hb:Below (wr.alloc (.cells (L.getD i Iv.zero).cs 51)).drew.heap.size (wr.alloc (.cells (L.getD i Iv.zero).cs 51)).drew W)=>(C0.o.keep hb).item hil
    have G1:=gZ λ(W1 W2:World)(a1 a2:Option Addr)(c1 c2:Nat)(o1:Own (wr.alloc (.cells (L.getD i Iv.zero).cs 51)).drew W1 a1 c1 (L.getD i Iv.zero).key)(o2:Own W1 W2 a2 c2 (L.getD i Iv.zero).val)=>C0.o.round hil ⟨I0.nc,I0.ns⟩ I0.bk.1 I0.bv.1 o1 o2
    have XS:=gZ λ(W:World)(hb:Below (wr.alloc (.cells (L.getD i Iv.zero).cs 51)).drew.heap.size (wr.alloc (.cells (L.getD i Iv.zero).cs 51)).drew W)=>(show(W.heap[w.heap.size]?=_/\W.heap[w.heap.size+1]?=_)/\W.heap[wr.heap.size]?=_ from⟨⟨((bt A0.o hb).block w.heap.size (by omega)).trans hxr,((bt A0.o hb).block (w.heap.size+1) (by omega)).trans hyr⟩,(hb.block wr.heap.size (af.1 (show(wr.alloc _).drew.heap[wr.heap.size]?=_ from T0.o)).1).trans T0.o⟩)
    have RF:=gZ (Below.refl (wr.alloc (.cells (L.getD i Iv.zero).cs 51)).drew.heap.size (wr.alloc (.cells (L.getD i Iv.zero).cs 51)).drew);clear hCo hxr hyr I0 C0 T0 A0 CO XR YR;generalize L.getD i Iv.zero=v at *;obtain⟨aK,cK,key,aV,cV,val,child,size⟩:=v;simp only[Iv.cs] at k0 k1 k2 k3 K1 K2 IM G1 XS RF;have SS:=gZ λ(W:World)(h1:W.heap[w.heap.size]?=some (.cells #[.int .i64 kind,.int .i64 level,.slice (some ⟨g,0,none⟩) n cap,.slice aD data.length cD,.int .i64 next] 31 (0,0)))(h2:W.heap[wr.heap.size]?=some (.cells #[.slice aK key.length cK,.slice aV val.length cV,.int .i64 child,.int .i64 size] 51 (0,0)))=>(show W.cell? ⟨w.heap.size,2,none⟩=some (.slice (some ⟨g,0,none⟩) n cap)/\W.cell? ⟨wr.heap.size,0,none⟩=some (.slice aK key.length cK)/\W.cell? ⟨wr.heap.size,1,none⟩=some (.slice aV val.length cV) from⟨(ik h1).2.2.1,by rw[ax _ _ _ _ _ _ h2];rfl,by rw[ax _ _ _ _ _ _ h2];rfl⟩)
    have hi0:(0:Int)<=(i:Int):=by omega
    go_wp2_with fail
    refine bE (S:=λW=>W.cell? ⟨w.heap.size,2,none⟩=some (.slice (some ⟨g,0,none⟩) n cap)/\W.cell? ⟨wr.heap.size,0,none⟩=some (.slice aK key.length cK)/\W.cell? ⟨wr.heap.size,1,none⟩=some (.slice aV val.length cV)) (by kernel_rfl) (SS.o _ (XS.o _ RF.o).1.1 (XS.o _ RF.o).2) (λhHeld=>?_)
    refine tkd 0 1 2 3 ?_;refine tkd 4 5 6 7 ?_;refine tkb 9 10 ?_;refine tw 8 λK hK=>?_
    go_simp;refine K1.o.mono ?_;rintro _ w5 ⟨a1,c1,rfl,o1⟩;have O1:=gZ o1;clear o1;go_wp2_with fail
    refine hK.o _ _ (SS.o _ (XS.o _ O1.o.b).1.1 (XS.o _ O1.o.b).2) (λhHeld=>?_)
    clear hK K;try simp only[pt]
    refine tw 11 λK hK=>?_
    go_simp;refine(K2.o _ O1.o.b).mono ?_;rintro _ w6 ⟨a2,c2,rfl,o2⟩;have B6:=gZ (bt O1.o.b o2.b);have CN:=gZ (G1.o _ _ _ _ _ _ O1.o o2);obtain⟨⟨i0,i1,-,-⟩,fz6⟩:=IM.o _ B6.o;have f60:=fz6 (i*4);have f61:=fz6 (i*4+1);obtain⟨⟨hx6,hy6⟩,ht6⟩:=XS.o _ B6.o;have X7:=gZ ((Below.heap_setCell w6 ⟨g,i*4,none⟩ (.slice a1 key.length c1) w.heap.size (show w.heap.size≠g by omega)).trans hx6)
    have T7:=gZ ((Below.heap_setCell w6 ⟨g,i*4,none⟩ (.slice a1 key.length c1) wr.heap.size (show wr.heap.size≠g by omega)).trans ht6)
    have Y7:=gZ ((Below.heap_setCell w6 ⟨g,i*4,none⟩ (.slice a1 key.length c1) (w.heap.size+1) (show w.heap.size+1≠g by omega)).trans hy6)
    have XN:=gZ ((Below.heap_setCell (w6.setCell ⟨g,i*4,none⟩ (.slice a1 key.length c1)) ⟨g,i*4+1,none⟩ (.slice a2 val.length c2) w.heap.size (show w.heap.size≠g by omega)).trans X7.o)
    have TN:=gZ ((Below.heap_setCell (w6.setCell ⟨g,i*4,none⟩ (.slice a1 key.length c1)) ⟨g,i*4+1,none⟩ (.slice a2 val.length c2) wr.heap.size (show wr.heap.size≠g by omega)).trans T7.o)
    have YN:=gZ ((Below.heap_setCell (w6.setCell ⟨g,i*4,none⟩ (.slice a1 key.length c1)) ⟨g,i*4+1,none⟩ (.slice a2 val.length c2) (w.heap.size+1) (show w.heap.size+1≠g by omega)).trans Y7.o)
    have X6:=gZ hx6;have T6:=gZ ht6;clear o2 fz6 hx6 hy6 ht6;go_wp2_with fail
    refine hK.o _ _ (SS.o _ X6.o T6.o) (λhHeld=>?_)
    clear hK K;try simp only[pt]
    refine tkb 12 13 ?_;refine tw 14 λK hK=>?_
    go_simp;refine hK.o _ _ (SS.o _ X7.o T7.o) (λhHeld=>?_)
    clear hK K;try simp only[pt]
    refine tkb 15 16 ?_;refine tw 17 λK hK=>?_
    go_simp;refine hK.o _ _ (SS.o _ XN.o TN.o) (λhHeld=>?_)
    clear hK K;try simp only[pt]
    refine td ?_;clear hHeld;generalize ((w6.setCell ⟨g,i*4,none⟩ (.slice a1 key.length c1)).setCell ⟨g,i*4+1,none⟩ (.slice a2 val.length c2))=w7 at *;go_wp2;go_roundw
    case rel=>exact⟨i+1,_,by omega,by go_num,CN.o,XN.o,YN.o⟩
    case measure=>simp[intOf];omega
  . obtain rfl:i=n:=by omega
    have hb:=hCo.b;have CDD:=gZ (CD.o wr hb);obtain⟨x0,x1,x2,x3,x4⟩:=ik hxr;clear hCo hxr hyr hb;go_wp2_with fail
    refine CDD.o.mono ?_;rintro _ w4 ⟨a4,c4,rfl,hO⟩;have C4:=CO.o.keep hO.b;have bx:w.heap.size<wr.heap.size:=(af.1 XR.o).1;have byy:w.heap.size+1<wr.heap.size:=(af.1 YR.o).1;have x4':=(hO.b.block w.heap.size bx).trans XR.o;have y4':=(hO.b.block (w.heap.size+1) byy).trans YR.o;have cS:w4.cell? ⟨w.heap.size,3,none⟩=some (.slice aD data.length cD):=(ik x4').2.2.2.1;have fS:w4.frozen? ⟨w.heap.size,3,none⟩=false:=by simp[World.frozen?,x4']
    have x5:=aR w4 w.heap.size 3 _ 31 (.slice a4 data.length c4) x4';have Y5:Hid ((w4.setCell ⟨w.heap.size,3,none⟩ (.slice a4 data.length c4)).heap[w.heap.size+1]?=some (.cells #[.int .i64 0,.int .i64 0,.slice none 0 0,.slice none 0 0,.int .i64 0] 31 (0,0))):=(Below.heap_setCell _ _ _ _ (show w.heap.size+1≠w.heap.size by omega)).trans y4'
    obtain⟨q0,q1,q2,q3,q4⟩:=ik (show(w4.setCell ⟨w.heap.size,3,none⟩ (.slice a4 data.length c4)).heap[w.heap.size]?=some (.cells #[.int .i64 kind,.int .i64 level,.slice (some ⟨g,0,none⟩) i cap,.slice a4 data.length c4,.int .i64 next] 31 (0,0)) from x5)
    have hML:M.length=i:=C4.len;have hdn:L.drop i=[]:=dy (by rw[HN.o];exact ai _)
    have FIN:=gZ λ(cs:Array Value)=>(show Pn w ((w4.setCell ⟨w.heap.size,3,none⟩ (.slice a4 data.length c4)).setRow (w.heap.size+1) cs) ⟨kind,level,some ⟨g,0,none⟩,cap,M,a4,c4,data,next⟩/\Below w.heap.size w ((w4.setCell ⟨w.heap.size,3,none⟩ (.slice a4 data.length c4)).setRow (w.heap.size+1) cs) from by
     have hB:But (λk=>k=w.heap.size\/k=w.heap.size+1) w4 ((w4.setCell ⟨w.heap.size,3,none⟩ (.slice a4 data.length c4)).setRow (w.heap.size+1) cs):=((But.refl (λk=>k=w.heap.size\/k=w.heap.size+1) w4).setCell (p:=⟨w.heap.size,3,none⟩) (λ_=>.inl rfl) _).trans (Q.iE _ _ _) (λk _ e=>.inr e)
     have nt:∀{a:Option Addr}{c:Nat}{l:List Nat},Rw w4 a c l->∀x,a=some x->¬(x.block=w.heap.size\/x.block=w.heap.size+1):=λhr x hx e=>by
      rcases e with e|e
      . exact hr.nty (show Bx w4 31 w.heap.size _ from x4') (by decide) hx e
      . exact hr.nty (show Bx w4 31 (w.heap.size+1) _ from y4') (by decide) hx e
     have j4:=C4.j;rw[hdn,bZ] at j4;have hwr:=CO.o.b.size;refine⟨⟨j4.but hB (λx hx e=>?_),λx hx=>.inr (by cases hx;exact C4.gn),hO.r.but hB (nt hO.r),hO.n.mono hwr,λt ht=>⟨(C4.f.own t ht).1.r.but hB (nt (C4.f.own t ht).1.r),(C4.f.own t ht).1.n,(C4.f.own t ht).2⟩,co.2 ⟨λt ht x y hx hy e=>?_,C4.f.dist⟩,D8.o,C4.n,NK.o.1,NK.o.2.1,NK.o.2.2⟩,?_⟩
     . cases hx;have:=HG.o;simp only at e;omega
     . have l1:=(CO.o.f.own t ht).1.r.lt hy;rcases hO.n x hx with⟨z,hz,_⟩|h2
       . cases hz
       . have h2:wr.heap.size<=x.block:=h2;omega
     . exact((But.ofBelow (S:=λk=>k=w.heap.size\/k=w.heap.size+1) C4.b).trans hB (λ_ _ e=>e)).below (λk hk e=>by omega))
    have PG:Hid ((⟨kind,level,some ⟨g,0,none⟩,cap,M,a4,c4,data,next⟩:Pv).pg=(⟨kind,level,some ad,cI,L,aD,cD,data,next⟩:Pv).pg):=by
     show _=_;unfold Pv.pg;simp only;have e:=C4.e;rw[da (by rw[HN.o];exact ai _)] at e
     rw[e]
    have HML:=gZ hML;clear C4 x4' y4' x5 hML hdn hO bx byy x0 x1 x2 x3 x4;go_wp2_with (first|(refine bU rfl 31 _ _ rfl (w.heap.size+1) _ rfl rfl 31 _ Y5.o ie rfl (by simp[Value.oneCell']) ?_)|fail)
    refine bQ (v:=.agg _) (e7 Tryz.results107 _ _ (w.heap.size+1) 31 _ (0,0) _ rfl (cO _ _ _ _ _ _ Y5.o) Tryz.underlying31 rfl ie) rfl ?_;refine⟨⟨kind,level,some ⟨g,0,none⟩,cap,M,a4,c4,data,next⟩,?_,(FIN.o _).1,PG.o,(FIN.o _).2⟩
    simp only[HML.o]
end Go.Proofs.YtbdkogimlbnlmaaGreat
