import Derived.Test.YtcpkinhneehomaaGreatWqB19
set_option linter.unusedVariables false
set_option linter.unusedSimpArgs false
set_option maxHeartbeats 8000000
set_option maxRecDepth 8000
namespace Go.Proofs.YtcpkinhneehomaaGreat
open Go.RowKit
variable {col:Nat->Nat}{P P':Q.Po}{X X':Vm}{w w':World}
theorem run_ap0(w:World)(a:Option Addr)(c:Nat):(Builtin.append_ #[28,28] 28 #[.slice none 0 0,.slice a 0 c]).run Tryz.prog w=.ok (.slice none 0 0) w:=by
 obtain⟨i0,hi,hz0,hz1,hz2⟩:=info_parts infoItem;cases a<;>simp[Builtin.append_,run_underlying Tryz.underlying28,Builtin.lenOf,sizeOf,typeInfo,hi,Builtin.firstCells,loadCells,loadCellsFrom]
theorem copyOf_none(w:World)(p:Pv)(hP:Pi w p)(h0:p.items=[])(hd:p.data.length<=140737488355264):
 Calls Tryz.prog 107 #[p.vl] w fun e w'=>∃q:Pv,e=.returned q.vl/\Pn w w' q/\q.pg=p.pg/\Below w.heap.size w w':=by
 obtain⟨kind,level,aI,cI,L,aD,cD,data,next⟩:=p
 simp only at h0;subst h0;unfold Pv.vl;simp only[Pv.cs] at *;have aB:=al w (.cells (pgC kind level aI 0 cI aD data.length cD next) 31)
 have aC:=bt aB (al (w.alloc (.cells (pgC kind level aI 0 cI aD data.length cD next) 31)) (.cells (pgC 0 0 none 0 0 none 0 0 0) 31))
 have SZ:((w.alloc (.cells (pgC kind level aI 0 cI aD data.length cD next) 31)).alloc (.cells (pgC 0 0 none 0 0 none 0 0 0) 31)).heap.size=w.heap.size+2:=by rw[size_alloc,size_alloc]
 have hx2:((w.alloc (.cells (pgC kind level aI 0 cI aD data.length cD next) 31)).alloc (.cells (pgC 0 0 none 0 0 none 0 0 0) 31)).heap[w.heap.size]?=some (.cells (pgC kind level aI 0 cI aD data.length cD next) 31 (0,0)):=((al (w.alloc (.cells (pgC kind level aI 0 cI aD data.length cD next) 31)) (.cells (pgC 0 0 none 0 0 none 0 0 0) 31)).block w.heap.size (by rw[size_alloc];omega)).trans (World.alloc_heap_new w _)
 have hy2:((w.alloc (.cells (pgC kind level aI 0 cI aD data.length cD next) 31)).alloc (.cells (pgC 0 0 none 0 0 none 0 0 0) 31)).heap[w.heap.size+1]?=some (.cells (pgC 0 0 none 0 0 none 0 0 0) 31 (0,0)):=by
  have k:=World.alloc_heap_new (w.alloc (.cells (pgC kind level aI 0 cI aD data.length cD next) 31)) (.cells (pgC 0 0 none 0 0 none 0 0 0) 31)
  rwa [size_alloc] at k
 obtain⟨w2,hw2⟩:∃w2,((w.alloc (.cells (pgC kind level aI 0 cI aD data.length cD next) 31)).alloc (.cells (pgC 0 0 none 0 0 none 0 0 0) 31))=w2:=⟨_,rfl⟩
 have HAP:Hid ((Builtin.append_ #[28,28] 28 #[.slice none 0 0,.slice aI 0 cI]).run Tryz.prog ((w.alloc (.cells (pgC kind level aI 0 cI aD data.length cD next) 31)).alloc (.cells (pgC 0 0 none 0 0 none 0 0 0) 31))=.ok (.slice none 0 0) w2):=by
  show _=_;rw[<-hw2];exact run_ap0 _ aI cI
 rw[hw2] at aC SZ hx2 hy2;have cS:w2.cell? ⟨w.heap.size,2,none⟩=some (.slice aI 0 cI):=by rw[cell_of_row _ _ _ _ _ _ hx2];rfl
 have fS:w2.frozen? ⟨w.heap.size,2,none⟩=false:=by simp[World.frozen?,hx2]
 have hx3:=heap_setCell_same w2 w.heap.size 2 _ 31 (.slice none 0 0) hx2;have hy3:(w2.setCell ⟨w.heap.size,2,none⟩ (.slice none 0 0)).heap[w.heap.size+1]?=_:=(Below.heap_setCell _ _ _ _ (show w.heap.size+1≠w.heap.size by omega)).trans hy2
 have bS:But (fun k=>k=w.heap.size) w2 (w2.setCell ⟨w.heap.size,2,none⟩ (.slice none 0 0)):=(But.refl (fun k=>k=w.heap.size) w2).setCell (p:=⟨w.heap.size,2,none⟩) (fun _=>rfl) _
 have B3:Hid (Below w.heap.size w (w2.setCell ⟨w.heap.size,2,none⟩ (.slice none 0 0))):=((But.ofBelow (S:=fun k=>k=w.heap.size) aC).trans bS (fun _ _ e=>e)).below (fun k hk e=>by omega)
 have X3:Hid ((w2.setCell ⟨w.heap.size,2,none⟩ (.slice none 0 0)).heap[w.heap.size]?=some (.cells (pgC kind level none 0 0 aD data.length cD next) 31 (0,0))):=hx3
 have Y3:=hide hy3;have CD:=hide fun(W:World)(hb:Below w.heap.size w W)=>Clone_own W aD cD data (hP.bd.keep hb) (Nat.le_trans hd (by decide))
 have D8:=hide hP.bd.1;have NK:=hide (And.intro hP.nk (And.intro hP.nl hP.nn));simp only at D8 NK;unfold pgC at *;clear hP hd aB aC SZ hx2 hy2 hx3 hy3 bS hw2;go_enter Tryz.func107,Tryz.ntmps107;go_wp2_with (at_builtin;refine wpList_apRun rfl _ _ rfl (.slice none 0 0) (.slice aI 0 cI) _ rfl rfl HAP.out ?_)
 clear HAP cS fS;generalize w2.setCell ⟨w.heap.size,2,none⟩ (.slice none 0 0)=w3 at *;go_loopw [12] (fun i wr=>i=.int .i64 0/\Below w.heap.size w wr/\wr.heap[w.heap.size]?=some (.cells #[.int .i64 kind,.int .i64 level,.slice none 0 0,.slice aD data.length cD,.int .i64 next] 31 (0,0))/\wr.heap[w.heap.size+1]?=some (.cells #[.int .i64 0,.int .i64 0,.slice none 0 0,.slice none 0 0,.int .i64 0] 31 (0,0))) (fun i _=>0)
 case atStart=>exact⟨rfl,B3.out,X3.out,Y3.out⟩
 case round=>
  obtain⟨rfl,hb,hxr,hyr⟩:=hrel;have BR:=hide hb;have XR:=hide hxr;have YR:=hide hyr;have CDD:=hide (CD.out wr hb);obtain⟨x0,x1,x2,x3,x4⟩:=five_cells hxr;clear hxr hyr hb;go_wp2_with fail
  refine CDD.out.mono ?_;rintro _ w4 ⟨a4,c4,rfl,hO⟩;have b4:=bt BR.out hO.b;have bx:w.heap.size<wr.heap.size:=(Array.getElem?_eq_some_iff.1 XR.out).1;have byy:w.heap.size+1<wr.heap.size:=(Array.getElem?_eq_some_iff.1 YR.out).1;have x4':=(hO.b.block w.heap.size bx).trans XR.out;have y4':=(hO.b.block (w.heap.size+1) byy).trans YR.out;have cS:w4.cell? ⟨w.heap.size,3,none⟩=some (.slice aD data.length cD):=(five_cells x4').2.2.2.1;have fS:w4.frozen? ⟨w.heap.size,3,none⟩=false:=by simp[World.frozen?,x4']
  have x5:=heap_setCell_same w4 w.heap.size 3 _ 31 (.slice a4 data.length c4) x4';have Y5:Hid ((w4.setCell ⟨w.heap.size,3,none⟩ (.slice a4 data.length c4)).heap[w.heap.size+1]?=some (.cells #[.int .i64 0,.int .i64 0,.slice none 0 0,.slice none 0 0,.int .i64 0] 31 (0,0))):=(Below.heap_setCell _ _ _ _ (show w.heap.size+1≠w.heap.size by omega)).trans y4'
  obtain⟨q0,q1,q2,q3,q4⟩:=five_cells (show(w4.setCell ⟨w.heap.size,3,none⟩ (.slice a4 data.length c4)).heap[w.heap.size]?=some (.cells #[.int .i64 kind,.int .i64 level,.slice none 0 0,.slice a4 data.length c4,.int .i64 next] 31 (0,0)) from x5)
  have FIN:=hide fun(cs:Array Value)=>(show Pn w ((w4.setCell ⟨w.heap.size,3,none⟩ (.slice a4 data.length c4)).setRow (w.heap.size+1) cs) ⟨kind,level,none,0,[],a4,c4,data,next⟩/\Below w.heap.size w ((w4.setCell ⟨w.heap.size,3,none⟩ (.slice a4 data.length c4)).setRow (w.heap.size+1) cs) from by
   have hB:But (fun k=>k=w.heap.size\/k=w.heap.size+1) w4 ((w4.setCell ⟨w.heap.size,3,none⟩ (.slice a4 data.length c4)).setRow (w.heap.size+1) cs):=((But.refl (fun k=>k=w.heap.size\/k=w.heap.size+1) w4).setCell (p:=⟨w.heap.size,3,none⟩) (fun _=>.inl rfl) _).trans (Q.setRow_but _ _ _) (fun k _ e=>.inr e)
   have nt:∀{a:Option Addr}{c:Nat}{l:List Nat},Rw w4 a c l->∀x,a=some x->¬(x.block=w.heap.size\/x.block=w.heap.size+1):=fun hr x hx e=>by
    rcases e with e|e
    · exact hr.nty (show Bx w4 31 w.heap.size _ from x4') (by decide) hx e
    · exact hr.nty (show Bx w4 31 (w.heap.size+1) _ from y4') (by decide) hx e
   have hwr:=BR.out.size;refine⟨⟨Jw.nil _,New.none _ _,hO.r.but hB (nt hO.r),hO.n.mono hwr,(fun _ h=>by cases h),List.pairwise_singleton _ _,D8.out,(fun _ h=>by cases h),NK.out.1,NK.out.2.1,NK.out.2.2⟩,?_⟩
   exact((But.ofBelow (S:=fun k=>k=w.heap.size\/k=w.heap.size+1) b4).trans hB (fun _ _ e=>e)).below (fun k hk e=>by omega))
  clear b4 x4' y4' x5 hO bx byy x0 x1 x2 x3 x4;go_wp2_with (first|(refine wpList_store_row rfl 31 _ _ rfl (w.heap.size+1) _ rfl rfl 31 _ Y5.out sizePage rfl (by simp[Value.oneCell']) ?_)|fail)
  refine bodyPost_ret (v:=.agg _) (results_cell_row Tryz.results107 _ _ (w.heap.size+1) 31 _ (0,0) _ rfl (setRow_heap _ _ _ _ _ _ Y5.out) Tryz.underlying31 rfl sizePage) rfl ?_;refine⟨⟨kind,level,none,0,[],a4,c4,data,next⟩,rfl,(FIN.out _).1,rfl,(FIN.out _).2⟩
theorem copyOf_any(w:World)(p:Pv)(hP:Pi w p)(hd:p.data.length<=140737488355264)(hs:∀x∈p.items,x.key.length<=140737488355264/\x.val.length<=140737488355264):
 Calls Tryz.prog 107 #[p.vl] w fun e w'=>∃q:Pv,e=.returned q.vl/\Pn w w' q/\q.pg=p.pg/\Below w.heap.size w w':=by
 by_cases h:p.items=[]
 · exact copyOf_none w p hP h hd
 · exact copyOf_some w p hP (List.length_pos_iff.2 h) hd hs
structure Pe(P P':Q.Po):Prop where
 fl:P'.fl=P.fl
 ex:∃j,P'.mark=P.mark+j/\Q.Po.back j P'=P
theorem Pe.refl(P:Q.Po):Pe P P:=⟨rfl,0,rfl,rfl⟩
theorem back_none{P:Q.Po}(h:P.ac.getLast?=none):∀i,Q.Po.back i P=P
 |0=>rfl
 |i+1=>by unfold Q.Po.back;rw[h]
theorem back_add(i:Nat):∀(j:Nat)(P:Q.Po),Q.Po.back (i+j) P=Q.Po.back i (Q.Po.back j P)
 |0,P=>rfl
 |j+1,P=>by
  cases h:P.ac.getLast? with
  |none=>rw[back_none h,back_none h,back_none h]
  |some a=>
   have e1:Q.Po.back (i+(j+1)) P=Q.Po.back (i+j) {P with pg:=P.pg.set (a.1-1) a.2,ac:=P.ac.dropLast}:=by
    show Q.Po.back ((i+j)+1) P=_;rw[Q.Po.back];rw[h]
   have e2:Q.Po.back (j+1) P=Q.Po.back j {P with pg:=P.pg.set (a.1-1) a.2,ac:=P.ac.dropLast}:=by rw[Q.Po.back];rw[h]
   rw[e1,e2];exact back_add i j _
theorem Pe.trans{P1 P2:Q.Po}(h:Pe P P1)(k:Pe P1 P2):Pe P P2:=by
 obtain⟨f1,j1,m1,b1⟩:=h;obtain⟨f2,j2,m2,b2⟩:=k;exact⟨f2.trans f1,j1+j2,by omega,by rw[back_add,b2,b1]⟩
theorem Pe.act{n:Nat}(h1:1<=n)(h2:n<=P.pg.length)(c:Int):Pe P (P.act n c):=⟨rfl,1,by simp[Q.Po.act,Q.Po.mark];omega,Q.Po.back_act h1 h2 c 0⟩
theorem Pe.dec(P:Q.Po)(z:Int):Pe P (P.dec z).2:=by
 unfold Q.Po.dec;split
 · exact Pe.refl P
 · rename_i hc;obtain⟨h1,h2⟩:=Q.Po.count_has hc;exact Pe.act (by omega) (by omega) _
theorem Pe.alloc(P:Q.Po):Pe P P.alloc.2:=by
 unfold Q.Po.alloc;split
 · exact Pe.refl P
 · rename_i n L hn;have k:=Q.inS_iff.1 ((Q.mem_pagesOf P.pg 1 n).1 (by rw[hn];exact List.mem_cons_self))
   exact Pe.act (by omega) (by omega) _
theorem Pe.undo(h:Pe P P'):P'.undo ((P.mark:Nat):Int)=P:=by
 obtain⟨f1,j,m1,b1⟩:=h;have hf:P.fl<=P.mark:=by unfold Q.Po.mark;omega
 unfold Q.Po.undo Q.Po.canUndo;rw[f1,decide_eq_true (show((P.fl:Nat):Int)<=((P.mark:Nat):Int) by omega),decide_eq_true (show((P.mark:Nat):Int)<=((P'.mark:Nat):Int) by omega)]
 rw[show(((P'.mark:Nat):Int)-((P.mark:Nat):Int)).toNat=j by omega]
 exact b1
def Fine(f:Int->Option Pv):Prop:=∀k p,f k=some p->p.kind≠0
theorem Fine.put{f:Int->Option Pv}(h:Fine f)(n:Int)(p:Pv):Fine (fput f n p):=fun k q e=>by
 unfold fput at e;split at e
 · split at e
   · cases e
   · rename_i hk;cases e;exact hk
 · exact h k q e
theorem Fine.back{f:Int->Option Pv}(h:Fine f)(n:Int)(p:Pv):fput (fput f n p) n ((f n).getD Pv.zero)=f:=by
 funext k
 unfold fput;by_cases hk:k=n
 · subst hk;rw[if_pos rfl];cases e:f k with
   |none=>rw[if_pos (by rfl)]
   |some q=>
    show(if q.kind=0 then none else some q)=some q
    rw[if_neg (h k q e)]
 · rw[if_neg hk,if_neg hk]
structure Ve(X X':Vm):Prop where
 p:Pe X.P X'.P
 c:∃L,X'.ch=X.ch++L/\(Fine X.f->Fine X'.f/\unl X'.f L=X.f)
theorem Ve.refl(X:Vm):Ve X X:=⟨Pe.refl _,[],by simp,fun h=>⟨h,rfl⟩⟩
theorem Ve.trans{X1 X2:Vm}(h:Ve X X1)(k:Ve X1 X2):Ve X X2:=by
 obtain⟨p1,L1,c1,u1⟩:=h;obtain⟨p2,L2,c2,u2⟩:=k;refine⟨p1.trans p2,L1++L2,by rw[c2,c1,List.append_assoc],fun hf=>?_⟩
 obtain⟨f1,e1⟩:=u1 hf;obtain⟨f2,e2⟩:=u2 f1;refine⟨f2,?_⟩;unfold unl at e1 e2 ⊢;rw[List.foldr_append,e2,e1]
theorem Ve.pool(h:Pe X.P P):Ve X ⟨P,X.f,X.ch⟩:=⟨h,[],by simp,fun hf=>⟨hf,rfl⟩⟩
theorem Ve.lay(X:Vm)(n:Int)(p:Pv):Ve X (X.lay n p):=⟨Pe.refl _,[(n,X.on n)],rfl,fun hf=>⟨hf.put n p,hf.back n p⟩⟩
theorem Ve.less(X:Vm)(z:Int):Ve X (X.less z):=by
 unfold Vm.less;split
 · exact(Ve.pool (Pe.dec X.P z)).trans (Ve.lay ⟨(X.P.dec z).2,X.f,X.ch⟩ z Pv.zero)
 · exact Ve.pool (Pe.dec X.P z)
theorem Ve.dropL{F:Vm->Int->Int×Vm}(hF:∀X z,Ve X (F X z).2):∀(L:List Int)(X:Vm),Ve X (dropL F X L).2
 | [],X=>Ve.refl X
 |z::L,X=>by
  unfold Go.Proofs.YtcpkinhneehomaaGreat.dropL;split
  · exact(hF X z).trans (Ve.dropL hF L _)
  · exact hF X z
theorem Ve.dropM:∀(t:Nat)(X:Vm)(z:Int),Ve X (dropM t X z).2
 |0,X,z=>Ve.refl X
 |t+1,X,z=>by
  unfold Go.Proofs.YtcpkinhneehomaaGreat.dropM;split
  · exact Ve.less X z
  · exact(Ve.less X z).trans (Ve.dropL (Ve.dropM t) _ _)
theorem Ve.ch(h:Ve X X'):X.ch.length<=X'.ch.length:=by
 obtain⟨_,L,e,_⟩:=h;rw[e,List.length_append];omega
theorem Ve.back(h:Ve X X')(hf:Fine X.f):X'.back X.P.mark X.ch.length=X:=by
 obtain⟨p,L,e,u⟩:=h;obtain⟨_,hu⟩:=u hf;unfold Vm.back;rw[p.undo,e,List.drop_left' rfl,List.take_left' rfl,hu]
theorem Vs.done_no{S:Vs}{e:Int}(h0:e≠0)(h:Ve S.X X)(hf:Fine S.X.f):S.done e X=S:=by
 unfold Vs.done;rw[if_neg h0,h.back hf]
theorem Keep_any(w:World)(b:Nat)(S:Vs)(pb mb:Nat)(pc col:Nat->Nat)(h:Vw w b S pb mb pc col)(z:Int)(hm:S.X.P.mark+1<=17592186044416)(hl:S.al.length+1<=8796093022208):
 Calls Tryz.prog 40 #[.pointer (some ⟨b,0,none⟩),.int .i64 z] w fun x w'=>x=.returned (.int .i64 (S.X.P.inc z).1)/\∃pc' col',Vw w' b (S.done (S.X.P.inc z).1 ⟨(S.X.P.inc z).2,S.X.f,S.X.ch⟩) pb mb pc' col'/\Vf w col w' col':=by
 have HE:=hide (here_st w b S pb mb pc col h (by omega))
 have IM:=inc_mark S.X.P z;have hac:S.X.P.ac.length+1<=17592186044416:=by unfold Q.Po.mark at hm;omega
 obtain⟨aa,ca,hx⟩:=h.vx;have IN:=hide fun(W:World)(hb:Below w.heap.size w W)=>inc_st W b S.X S.fl (vd0 pb mb aa ca S.al) pc col (hx.keep hb) z hac
 obtain⟨e,he⟩:∃e,(S.X.P.inc z).1=e:=⟨_,rfl⟩;obtain⟨P1,hP1⟩:∃P1,(S.X.P.inc z).2=P1:=⟨_,rfl⟩;rw[hP1] at IM;rw[he,hP1] at IN ⊢;have EN:=hide fun(W:World)(pc' col':Nat->Nat)(hv:Vx W b ⟨P1,S.X.f,S.X.ch⟩ S.fl (vd0 pb mb aa ca S.al) pc' col')=>end_st W b S ⟨P1,S.X.f,S.X.ch⟩ pb mb aa ca pc' col' hv e (Nat.le_refl _) (by show P1.mark<=_;omega) hl
 have HV:=hide h;have DN:=hide (show ∃S2,S.done e ⟨P1,S.X.f,S.X.ch⟩=S2 from⟨_,rfl⟩)
 obtain⟨S2,hS2⟩:=DN.out;rw[hS2] at EN ⊢;obtain⟨mk,hmk⟩:∃mk,S.X.P.mark=mk:=⟨_,rfl⟩;obtain⟨cl,hcl⟩:∃cl,S.X.ch.length=cl:=⟨_,rfl⟩;rw[hmk,hcl] at HE EN;obtain⟨X1,hX1⟩:∃X1:Vm,(⟨P1,S.X.f,S.X.ch⟩:Vm)=X1:=⟨_,rfl⟩;rw[hX1] at IN EN;clear h hx hm hl hac IM he hP1 hmk hcl hX1 DN hS2;go_enter Tryz.func40,Tryz.ntmps40;go_wp2_with fail
 refine HE.out.mono ?_;rintro _ w1 ⟨rfl,hb⟩;have A1:=hide (bt (bt hb (al w1 (.cells #[.int .i64 ((mk:Nat):Int),.int .i64 ((cl:Nat):Int)] 137))) (Q.drw _));have HX:=hide (World.alloc_heap_new w1 (.cells #[.int .i64 ((mk:Nat):Int),.int .i64 ((cl:Nat):Int)] 137));have CX:Hid (col w1.heap.size=0):=HV.out.z hb.size;have LT:Hid (w1.heap.size<(w1.alloc (.cells #[.int .i64 ((mk:Nat):Int),.int .i64 ((cl:Nat):Int)] 137)).drew.heap.size):=(Array.getElem?_eq_some_iff.1 HX.out).1;have S1:=hide (show(w1.alloc (.cells #[.int .i64 ((mk:Nat):Int),.int .i64 ((cl:Nat):Int)] 137)).drew.cell? ⟨b,0,none⟩=some (.pointer (some ⟨pb,0,none⟩))/\(w1.alloc (.cells #[.int .i64 ((mk:Nat):Int),.int .i64 ((cl:Nat):Int)] 137)).drew.cell? ⟨w1.heap.size,0,none⟩=some (.int .i64 ((mk:Nat):Int))/\(w1.alloc (.cells #[.int .i64 ((mk:Nat):Int),.int .i64 ((cl:Nat):Int)] 137)).drew.cell? ⟨w1.heap.size,1,none⟩=some (.int .i64 ((cl:Nat):Int)) from⟨(HV.out.keep A1.out).c0,(two_cells HX.out).1,(two_cells HX.out).2⟩)
 clear hb HE;go_wp2_with fail
 refine wp_region_held_drew (S:=fun W=>W.cell? ⟨b,0,none⟩=some (.pointer (some ⟨pb,0,none⟩))/\W.cell? ⟨w1.heap.size,0,none⟩=some (.int .i64 ((mk:Nat):Int))/\W.cell? ⟨w1.heap.size,1,none⟩=some (.int .i64 ((cl:Nat):Int))) (by kernel_rfl) (S1.out) (fun hHeld=>?_)
 refine tk 0 ?_;refine tk 1 ?_;refine tk 2 ?_;refine tk 3 ?_;refine tk 4 ?_;refine tk 5 ?_;refine tk 6 ?_;refine tw 7 fun K hK=>?_
 go_simp;refine(IN.out _ A1.out).mono ?_;rintro _ w3 ⟨rfl,pc3,col3,v3,f3⟩;have V3:=hide v3;have F3:=hide ((Vf.keep A1.out).trans f3);have HX3:=hide (f3.b.same (show(w1.alloc _).drew.heap[w1.heap.size]?=_ from HX.out) (fun e=>by rw[CX.out] at e;omega))
 have CX3:Hid (col3 w1.heap.size=0):=(f3.c _ LT.out).trans CX.out;clear v3 f3;go_wp2_with fail
 refine hK.out _ _ (⟨V3.out.c01.1,(two_cells HX3.out).1,(two_cells HX3.out).2⟩) (fun hHeld=>?_)
 clear hK K;try simp only[pt]
 refine tw 8 fun K hK=>?_
 go_simp;refine(EN.out _ _ _ V3.out).mono ?_;rintro _ w4 ⟨rfl,pc4,col4,v4,f4⟩;have V4:=hide v4;have F4:=hide (F3.out.trans f4);have HX4:=hide (f4.b.same HX3.out (fun e=>by rw[CX3.out] at e;omega))
 clear v4 f4;go_wp2_with fail
 refine hK.out _ _ (⟨V4.out.c0,(two_cells HX4.out).1,(two_cells HX4.out).2⟩) (fun hHeld=>?_)
 clear hK K;try simp only[pt]
 refine tk 9 ?_;refine td ?_;clear hHeld S1 IN EN;go_wp2;go_ret;exact⟨rfl,_,_,V4.out,F4.out⟩
theorem Pe.mark_le(h:Pe P P'){B:Nat}(hb:P'.ac.length+P.fl<=B):P'.mark<=B:=by
 unfold Q.Po.mark;rw[h.fl];omega
theorem Drop_any(w:World)(b:Nat)(S:Vs)(pb mb:Nat)(pc col:Nat->Nat)(h:Vw w b S pb mb pc col)(z:Int)(t:Nat)(ht:tot S.X.P<t)(hm:S.X.P.mark+tot S.X.P+1<=17592186044416)(hc:S.X.ch.length+tot S.X.P+1<=1759218604441)(hl:S.al.length+1<=8796093022208):
 Calls Tryz.prog 42 #[.pointer (some ⟨b,0,none⟩),.int .i64 z] w fun x w'=>x=.returned (.int .i64 (dropM t S.X z).1)/\∃pc' col',Vw w' b (S.done (dropM t S.X z).1 (dropM t S.X z).2) pb mb pc' col'/\Vf w col w' col':=by
 have HE:=hide (here_st w b S pb mb pc col h (by omega))
 have hac:S.X.P.ac.length+S.X.P.fl+tot S.X.P+1<=17592186044416:=by unfold Q.Po.mark at hm;omega
 obtain⟨aa,ca,hx⟩:=h.vx;have VE:=Ve.dropM t S.X z;have IN:=hide fun(W:World)(hb:Below w.heap.size w W)=>drop_all t W b S.X S.fl (vd0 pb mb aa ca S.al) pc col z (hx.keep hb) ht (by omega) hc
 obtain⟨r,hr⟩:∃r,dropM t S.X z=r:=⟨_,rfl⟩;rw[hr] at IN VE ⊢;obtain⟨e,X1⟩:=r;simp only at IN VE ⊢;have EN:=hide fun(W:World)(pc' col':Nat->Nat)(hv:Vx W b X1 S.fl (vd0 pb mb aa ca S.al) pc' col')(hbn:tot X1.P<=tot S.X.P/\X1.P.ac.length+tot X1.P<=S.X.P.ac.length+tot S.X.P/\X1.ch.length+tot X1.P<=S.X.ch.length+tot S.X.P)=>end_st W b S X1 pb mb aa ca pc' col' hv e VE.ch (VE.p.mark_le (by omega)) hl
 have HV:=hide h;obtain⟨S2,hS2⟩:∃S2,S.done e X1=S2:=⟨_,rfl⟩;rw[hS2] at EN ⊢;obtain⟨mk,hmk⟩:∃mk,S.X.P.mark=mk:=⟨_,rfl⟩;obtain⟨cl,hcl⟩:∃cl,S.X.ch.length=cl:=⟨_,rfl⟩;have HMK:=hide hmk;rw[hmk,hcl] at HE;simp only[hmk,hcl] at EN IN;clear h hx hm hl hac hr hmk hcl hS2 VE ht hc;go_enter Tryz.func42,Tryz.ntmps42;go_wp2_with fail
 refine HE.out.mono ?_;rintro _ w1 ⟨rfl,hb⟩;have A1:=hide (bt (bt hb (al w1 (.cells #[.int .i64 ((mk:Nat):Int),.int .i64 ((cl:Nat):Int)] 137))) (Q.drw _));have HX:=hide (World.alloc_heap_new w1 (.cells #[.int .i64 ((mk:Nat):Int),.int .i64 ((cl:Nat):Int)] 137));have CX:Hid (col w1.heap.size=0):=HV.out.z hb.size;have LT:Hid (w1.heap.size<(w1.alloc (.cells #[.int .i64 ((mk:Nat):Int),.int .i64 ((cl:Nat):Int)] 137)).drew.heap.size):=(Array.getElem?_eq_some_iff.1 HX.out).1;have S1:=hide (show(w1.alloc (.cells #[.int .i64 ((mk:Nat):Int),.int .i64 ((cl:Nat):Int)] 137)).drew.cell? ⟨w1.heap.size,0,none⟩=some (.int .i64 ((mk:Nat):Int))/\(w1.alloc (.cells #[.int .i64 ((mk:Nat):Int),.int .i64 ((cl:Nat):Int)] 137)).drew.cell? ⟨w1.heap.size,1,none⟩=some (.int .i64 ((cl:Nat):Int)) from⟨(two_cells HX.out).1,(two_cells HX.out).2⟩)
 clear hb HE;go_wp2_with fail
 refine wp_region_held_drew (S:=fun W=>W.cell? ⟨w1.heap.size,0,none⟩=some (.int .i64 ((mk:Nat):Int))/\W.cell? ⟨w1.heap.size,1,none⟩=some (.int .i64 ((cl:Nat):Int))) (by kernel_rfl) (S1.out) (fun hHeld=>?_)
 refine tk 0 ?_;refine tk 1 ?_;refine tk 2 ?_;refine tk 3 ?_;refine tw 4 fun K hK=>?_
 go_simp;refine(IN.out _ A1.out).mono ?_;rintro _ w3 ⟨rfl,hbn,pc3,col3,v3,f3⟩;have V3:=hide v3;have BN:=hide hbn;have F3:=hide ((Vf.keep A1.out).trans f3);have HX3:=hide (f3.b.same (show(w1.alloc _).drew.heap[w1.heap.size]?=_ from HX.out) (fun e=>by rw[CX.out] at e;omega))
 have CX3:Hid (col3 w1.heap.size=0):=(f3.c _ LT.out).trans CX.out;clear v3 f3 hbn;go_wp2_with fail
 refine hK.out _ _ (⟨(two_cells HX3.out).1,(two_cells HX3.out).2⟩) (fun hHeld=>?_)
 clear hK K;try simp only[pt]
 refine tw 5 fun K hK=>?_
 go_simp;refine(EN.out _ _ _ V3.out BN.out).mono ?_;rintro _ w4 ⟨rfl,pc4,col4,v4,f4⟩;have V4:=hide v4;have F4:=hide (F3.out.trans f4);have HX4:=hide (f4.b.same HX3.out (fun e=>by rw[CX3.out] at e;omega))
 clear v4 f4;go_wp2_with fail
 refine hK.out _ _ (⟨(two_cells HX4.out).1,(two_cells HX4.out).2⟩) (fun hHeld=>?_)
 clear hK K;try simp only[pt]
 refine tk 6 ?_;refine td ?_;clear hHeld S1 IN EN;go_wp2;go_ret;exact⟨rfl,_,_,V4.out,F4.out⟩
theorem there_st(w:World)(b:Nat)(S:Vs)(pb mb:Nat)(pc col:Nat->Nat)(h:Vw w b S pb mb pc col)(n:Int):
 Calls Tryz.prog 95 #[.pointer (some ⟨b,0,none⟩),.int .i64 n] w fun e w'=>e=.returned (.bool (decide (0<S.X.P.count n)))/\w'=w:=by
 obtain⟨ac,cc,aa,ca,h⟩:=h;exact isThere_any w b _ _ _ pc col h n
theorem own_st(w:World)(b:Nat)(S:Vs)(pb mb:Nat)(pc col:Nat->Nat)(h:Vw w b S pb mb pc col)(n:Int):
 Calls Tryz.prog 96 #[.pointer (some ⟨b,0,none⟩),.int .i64 n] w fun e w'=>e=.returned (.bool (decide (S.X.P.state n=3)&&decide (S.X.P.count n=1)))/\Below w.heap.size w w':=by
 obtain⟨ac,cc,aa,ca,h⟩:=h;exact isOwn_any w b _ _ _ pc col h n
def Sml(p:Pv):Prop:=p.data.length<=140737488355264/\∀x∈p.items,x.key.length<=140737488355264/\x.val.length<=140737488355264
theorem Read_any(w:World)(b:Nat)(S:Vs)(pb mb:Nat)(pc col:Nat->Nat)(h:Vw w b S pb mb pc col)(z:Int)(hs:Sml (S.X.on z)):
 Calls Tryz.prog 44 #[.pointer (some ⟨b,0,none⟩),.int .i64 z] w fun x w'=>∃q:Pv,x=.returned (.tuple #[q.vl,.int .i64 (if 0<S.X.P.count z then 0 else 15)])/\Pn w w' q/\q.pg=(if 0<S.X.P.count z then (S.X.on z).pg else Pv.zero.pg)/\Below w.heap.size w w':=by
 have aB:=al w (.cells Pv.zero.cs 31);have TH:=hide (there_st _ b S pb mb pc col (h.keep aB) z);have HX:=hide (World.alloc_heap_new w (.cells Pv.zero.cs 31));have AB:=hide aB;obtain⟨aa,ca,hv⟩:=h.vx;obtain⟨c0,c1⟩:=hv.c01;have hbl:=hv.lb;have hl:=(hv.keep aB).look z;have CO:=hide (copyOf_any _ (S.X.on z) ((hv.keep aB).on_z z).pi hs.1 hs.2);obtain⟨q,hq⟩:∃q,S.X.on z=q:=⟨_,rfl⟩;rw[hq] at hl CO ⊢;clear h hv hs hq aB c0;obtain⟨kp,lp,aIp,cIp,itp,aDp,cDp,dap,nxp⟩:=q;unfold Pv.vl at *;simp only[Pv.cs] at hl CO HX AB TH;simp only[Pv.zero,List.length_nil] at hl CO HX AB TH;have hmb:w.cell? ⟨b,1,none⟩=some (.map (some mb)):=c1;have hlm:(Instr.lookup 81 (.map (some mb)) (.int .i64 z) false).run Tryz.prog (w.alloc (.cells #[.int .i64 0,.int .i64 0,.slice none 0 0,.slice none 0 0,.int .i64 0] 31))=.ok (.agg #[.int .i64 kp,.int .i64 lp,.slice aIp itp.length cIp,.slice aDp dap.length cDp,.int .i64 nxp]) (w.alloc (.cells #[.int .i64 0,.int .i64 0,.slice none 0 0,.slice none 0 0,.int .i64 0] 31)):=hl;clear hl c1;by_cases h1:0<S.X.P.count z
 · simp only[if_pos h1];rw[decide_eq_true h1] at TH;clear h1;go_enter Tryz.func44,Tryz.ntmps44;go_wp2_with fail
   refine TH.out.mono ?_;rintro _ wq ⟨rfl,hwq⟩;obtain rfl:=hwq.symm;clear hwq;go_wp2_with fail
   refine CO.out.mono ?_;rintro _ w2 ⟨r,rfl,hP,hg,hb⟩;have HP:=hide (hP.pre AB.out.size);have HG:=hide hg;have HB:=hide (bt AB.out hb);have HX2:=hide ((hb.block w.heap.size (Array.getElem?_eq_some_iff.1 HX.out).1).trans HX.out);clear hP hg hb CO TH;go_wp2_with (first|(refine wpList_store_row rfl 31 _ _ rfl w.heap.size _ rfl rfl 31 _ HX2.out sizePage rfl (by simp[Value.oneCell']) ?_)|fail)
   refine bodyPost_ret (v:=.tuple #[.agg _,_]) (results_cell_one Tryz.results44 _ _ w.heap.size 31 _ (0,0) _ rfl (setRow_heap _ _ _ _ _ _ HX2.out) Tryz.underlying31 rfl sizePage) rfl ?_;exact⟨r,rfl,HP.out.row HX2.out (by decide) (by decide) _,HG.out,((But.ofBelow (S:=fun k=>k=w.heap.size) HB.out).trans (Q.setRow_but _ _ _) (fun _ _ e=>e)).below (fun k hk e=>by omega)⟩
 · simp only[if_neg h1];rw[decide_eq_false h1] at TH;clear h1 CO;go_enter Tryz.func44,Tryz.ntmps44;go_wp2_with fail
   refine TH.out.mono ?_;rintro _ wq ⟨rfl,hwq⟩;obtain rfl:=hwq.symm;clear hwq;go_wp2_with (first|(refine wpList_store_row rfl 31 _ _ rfl w.heap.size _ rfl rfl 31 _ HX.out sizePage rfl (by simp[Value.oneCell']) ?_)|fail)
   refine bodyPost_ret (v:=.tuple #[.agg _,_]) (results_cell_one Tryz.results44 _ _ w.heap.size 31 _ (0,0) _ rfl (setRow_heap _ _ _ _ _ _ HX.out) Tryz.underlying31 rfl sizePage) rfl ?_;exact⟨Pv.zero,rfl,Pn.zero _ _,rfl,((But.ofBelow (S:=fun k=>k=w.heap.size) AB.out).trans (Q.setRow_but _ _ _) (fun _ _ e=>e)).below (fun k hk e=>by omega)⟩
theorem vnew_at{v:World}{a:Option Addr}(h:New v none a){x:Addr}(hx:a=some x):v.heap.size<=x.block:=by
 rcases h x hx with⟨y,hy,_⟩|h2
 · cases hy
 · exact h2
theorem Pn.pz{q:Pv}(h:Pn w w' q)(hl:q.items.length<=2199023255489):Pz (fun k=>paint col w w' 6 k=6) w' q:=fun v hv=>by
 have pj:∀{a:Option Addr}{c:Nat}{L:List Iv},Jw w' a c L->New w none a->∀x,a=some x->¬ ¬(paint col w w' 6 x.block=6):=fun hj hn x hx e=>e (paint_new (vnew_at hn hx) (hj.lt hx))
 have pr:∀{a:Option Addr}{c:Nat}{l:List Nat},Rw w' a c l->New w none a->∀x,a=some x->¬ ¬(paint col w w' 6 x.block=6):=fun hr hn x hx e=>e (paint_new (vnew_at hn hx) (hr.lt hx))
 exact Pn.pi (v:=w) ⟨h.it.but hv (pj h.it h.itn),h.itn,h.d.but hv (pr h.d h.dn),h.dn,fun t ht=>⟨(h.fr t ht).1.but hv (pr (h.fr t ht).1 (h.fr t ht).2.1),(h.fr t ht).2⟩,h.dist,h.d8,h.ns,h.nk,h.nl,h.nn⟩ hl
theorem Vx.page{b:Nat}{fl:Nat}{D:Vd}{pc:Nat->Nat}(h:Vx w b X fl D pc col)(hb:Below w.heap.size w w'):Vx w' b X fl D pc (paint col w w' 6)/\Vf w col w' (paint col w w' 6):=by
 obtain⟨ac,cc,h⟩:=h;have k:=h.keep hb;have old:∀{k:Nat},col k≠0->paint col w w' 6 k=col k:=fun hk=>paint_old (h.lt _ hk)
 have cont:∀{p:Pv},Pz (fun k=>col k=6) w' p->Pz (fun k=>paint col w w' 6 k=6) w' p:=fun hz=>hz.mono (fun k hk e=>by rw[old (by omega)];exact e)
 exact⟨⟨ac,cc,k.box,k.mp,k.chr,k.acr,k.pool,fun n p hp=>cont (k.fz n p hp),fun x hx=>cont (k.cz x hx),(old (by rw[h.cb];decide)).trans h.cb,(old (by rw[h.cm];decide)).trans h.cm,fun x hx=>(old (by rw[h.cc x hx];decide)).trans (h.cc x hx),fun x hx=>(old (by rw[h.ca x hx];decide)).trans (h.ca x hx),fun n hn=>(old (by rw[h.cp n hn];decide)).trans (h.cp n hn),fun n hn=>paint_lt hb.size hn⟩,But.ofBelow hb,fun n hn=>paint_old hn⟩
def Vs.writeE(S:Vs)(z:Int)(p:Pg):Int:=if (decide (S.X.P.state z=3)&&decide (S.X.P.count z=1))=true then (p.check:Int) else 15
theorem Write_any(w:World)(b:Nat)(S:Vs)(pb mb:Nat)(pc col:Nat->Nat)(h:Vw w b S pb mb pc col)(z:Int)(p:Pv)(hP:Pi w p)(hs:Sml p)(hil:p.items.length<=2199023255489)(hm:S.X.P.mark<=9223372036854775807)(hc:S.X.ch.length+1<=1759218604441)(hl:S.al.length+1<=8796093022208):
 Calls Tryz.prog 93 #[.pointer (some ⟨b,0,none⟩),.int .i64 z,p.vl] w fun x w'=>∃q:Pv,x=.returned (.int .i64 (S.writeE z p.pg))/\q.pg=p.pg/\∃pc' col',Vw w' b (if S.writeE z p.pg=0 then S.done 0 (S.X.lay z q) else S) pb mb pc' col'/\Vf w col w' col':=by
 have aB:=al w (.cells p.cs 31);have HX:=hide (World.alloc_heap_new w (.cells p.cs 31));have OW:=hide (own_st _ b S pb mb pc col (h.keep aB) z);have CK:=hide fun(W:World)(hb:Below w.heap.size w W)=>Check_any W p (hP.keep hb)
 have HE:=hide fun(W:World)(hb:Below w.heap.size w W)=>here_st W b S pb mb pc col (h.keep hb) hm
 have CP:=hide fun(W:World)(hb:Below w.heap.size w W)=>copyOf_any W p (hP.keep hb) hs.1 hs.2
 have LQ:=hide (show ∀q:Pv,q.pg=p.pg->q.items.length<=2199023255489 from fun q hq=>by
  have:=congrArg (fun g:Pg=>g.items.length) hq
  simp only[Pv.pg,List.length_map] at this;omega)
 obtain⟨aa,ca,hx⟩:=h.vx;have LY:=hide fun(W:World)(col':Nat->Nat)(q:Pv)(hv:Vx W b S.X S.fl (vd0 pb mb aa ca S.al) pc col')(hq:Pz (fun k=>col' k=6) W q)=>lay_st W b S.X S.fl (vd0 pb mb aa ca S.al) pc col' hv z q hq hc
 have EN:=hide fun(W:World)(pc' col':Nat->Nat)(q:Pv)(hv:Vx W b (S.X.lay z q) S.fl (vd0 pb mb aa ca S.al) pc' col')=>end_st W b S (S.X.lay z q) pb mb aa ca pc' col' hv 0 (by show S.X.ch.length<=(S.X.ch++[_]).length;rw[List.length_append];omega) hm hl
 have HV:=hide h;have HVX:=hide hx;have AB:=hide aB;unfold Vs.writeE;obtain⟨o,ho⟩:∃o,(decide (S.X.P.state z=3)&&decide (S.X.P.count z=1))=o:=⟨_,rfl⟩;rw[ho] at OW ⊢;obtain⟨ce,hce⟩:∃ce,p.pg.check=ce:=⟨_,rfl⟩;rw[hce] at CK ⊢;obtain⟨pg,hpg⟩:∃pg,p.pg=pg:=⟨_,rfl⟩;rw[hpg] at LQ CP ⊢;obtain⟨mk,hmk⟩:∃mk,S.X.P.mark=mk:=⟨_,rfl⟩;obtain⟨cl,hcl⟩:∃cl,S.X.ch.length=cl:=⟨_,rfl⟩;simp only[hmk,hcl] at HE EN;have HPG:=hide hpg;clear h hx aB hP hs hil hm hc hl ho hce hpg hmk hcl;obtain⟨kp,lp,aIp,cIp,itp,aDp,cDp,dap,nxp⟩:=p;unfold Pv.vl at CK CP ⊢;simp only[Pv.cs] at CK HX OW AB CP ⊢;cases o with
 |false=>
  simp only[Bool.false_eq_true,if_false];go_enter Tryz.func93,Tryz.ntmps93;go_wp2_with fail
  refine OW.out.mono ?_;rintro _ w1 ⟨rfl,hb⟩;have V1:=hide (HV.out.keep (bt AB.out hb));have F1:=hide (Vf.keep (c:=col) (bt AB.out hb));clear hb OW;go_wp2;go_ret;exact⟨rfl,⟨_,HPG.out⟩,_,_,V1.out,F1.out⟩
 |true=>
  simp only[if_true];by_cases h0:ce=0
  · subst h0;go_enter Tryz.func93,Tryz.ntmps93;go_wp2_with fail
    refine OW.out.mono ?_;rintro _ w1 ⟨rfl,hb⟩;have X1:=hide ((hb.block w.heap.size (Array.getElem?_eq_some_iff.1 HX.out).1).trans HX.out);have B1:=hide (bt AB.out hb);obtain⟨x0,x1,x2,x3,x4⟩:=five_cells X1.out;clear hb OW;go_wp2_with fail
    refine(CK.out _ B1.out).mono ?_;rintro _ w2 ⟨rfl,hb⟩;have X2:=hide ((hb.block w.heap.size (Array.getElem?_eq_some_iff.1 X1.out).1).trans X1.out);have B2:=hide (bt B1.out hb);clear hb CK x0 x1 x2 x3 x4;go_wp2_with fail
    refine(HE.out _ B2.out).mono ?_;rintro _ w3 ⟨rfl,hb⟩;have a3:=al w3 (.cells #[.int .i64 ((mk:Nat):Int),.int .i64 ((cl:Nat):Int)] 137);have B3:=hide (bt (bt B2.out hb) a3);have T3:=hide (World.alloc_heap_new w3 (.cells #[.int .i64 ((mk:Nat):Int),.int .i64 ((cl:Nat):Int)] 137));have X3:=hide (((bt hb a3).block w.heap.size (Array.getElem?_eq_some_iff.1 X2.out).1).trans X2.out);have Z3:Hid (col w3.heap.size=0):=HV.out.z (bt B2.out hb).size;obtain⟨x0,x1,x2,x3,x4⟩:=five_cells X3.out;clear hb HE a3;go_wp2_with fail
    refine(CP.out _ B3.out).mono ?_;rintro _ w4 ⟨q,rfl,hPn,hq,hb⟩;have Q4:=hide hq;obtain⟨v4,f4⟩:=(HVX.out.keep B3.out).page hb;have PZ4:=hide (hPn.pz (col:=col) (LQ.out q hq));have LY4:=hide (LY.out _ _ q v4 PZ4.out);have F4:=hide ((Vf.keep B3.out).trans f4);have T4:=hide ((hb.block w3.heap.size (Array.getElem?_eq_some_iff.1 T3.out).1).trans T3.out);have Z4:=hide ((f4.c w3.heap.size (Array.getElem?_eq_some_iff.1 T3.out).1).trans Z3.out);clear hPn hq hb v4 f4 x0 x1 x2 x3 x4 CP LY;generalize paint col _ w4 6=col4 at *;obtain⟨kq,lq,aIq,cIq,itq,aDq,cDq,daq,nxq⟩:=q;unfold Pv.vl at LY4;simp only[Pv.cs] at LY4;go_wp2_with fail
    refine LY4.out.mono ?_;rintro _ w5 ⟨rfl,pc5,col5,v5,f5⟩;have V5:=hide v5;have F5:=hide (F4.out.trans f5);obtain⟨y0,y1⟩:=two_cells (f5.b.same T4.out (fun e=>by rw[Z4.out] at e;omega))
    clear v5 f5 LY4;go_wp2_with fail
    refine(EN.out _ _ _ _ V5.out).mono ?_;rintro _ w6 ⟨rfl,pc6,col6,v6,f6⟩;have V6:=hide v6;have F6:=hide (F5.out.trans f6);clear v6 f6 y0 y1;go_wp2;go_ret;exact⟨rfl,_,Q4.out,_,_,V6.out,F6.out⟩
  · have e0:((ce:Nat):Int)≠0:=by omega
    have e1:(((ce:Nat):Int)==0)=false:=by simp;omega
    have e2:(ce==0)=false:=by simp;omega
    simp only[if_neg e0];go_enter Tryz.func93,Tryz.ntmps93;go_wp2_with fail
    refine OW.out.mono ?_;rintro _ w1 ⟨rfl,hb⟩;have X1:=hide ((hb.block w.heap.size (Array.getElem?_eq_some_iff.1 HX.out).1).trans HX.out);have B1:=hide (bt AB.out hb);obtain⟨x0,x1,x2,x3,x4⟩:=five_cells X1.out;clear hb OW;go_wp2_with fail
    refine(CK.out _ B1.out).mono ?_;rintro _ w2 ⟨rfl,hb⟩;have V1:=hide (HV.out.keep (bt B1.out hb));have F1:=hide (Vf.keep (c:=col) (bt B1.out hb));clear hb CK x0 x1 x2 x3 x4;go_wp2;go_ret;first|exact⟨rfl,⟨_,HPG.out⟩,_,_,V1.out,F1.out⟩|exact⟨_,rfl,HPG.out,_,_,V1.out,F1.out⟩
def Pf(col:Nat->Nat)(w:World)(p:Pv):Prop:=Pz (fun k=>¬(1<=col k/\col k<=5)) w p
theorem Pf.vf{W:World}{col':Nat->Nat}{p:Pv}(h:Pf col w p)(hf:Vf w col W col'):Pi W p:=h W (hf.b.mono fun k _ e hn=>hn e)
def Vm.allocd(X:Vm):Vm:=⟨X.P.alloc.2,X.f,X.ch⟩
def Vs.makeR(S:Vs)(p:Pg):Int×Int:=if p.check=0 then S.X.P.alloc.1 else (0,(p.check:Int))
def Vs.makeS(S:Vs)(p:Pg)(q:Pv):Vs:=if p.check=0 then S.done S.X.P.alloc.1.2 (if S.X.P.alloc.1.2=0 then S.X.allocd.lay S.X.P.alloc.1.1 q else S.X.allocd) else S
theorem Make_any(w:World)(b:Nat)(S:Vs)(pb mb:Nat)(pc col:Nat->Nat)(h:Vw w b S pb mb pc col)(p:Pv)(hP:Pf col w p)(hs:Sml p)(hil:p.items.length<=2199023255489)(hm:S.X.P.mark+1<=17592186044416)(hc:S.X.ch.length+1<=1759218604441)(hl:S.al.length+1<=8796093022208):
 Calls Tryz.prog 73 #[.pointer (some ⟨b,0,none⟩),p.vl] w fun x w'=>∃q:Pv,q.pg=p.pg/\x=.returned (.tuple #[.int .i64 (S.makeR p.pg).1,.int .i64 (S.makeR p.pg).2])/\∃pc' col',Vw w' b (S.makeS p.pg q) pb mb pc' col'/\Vf w col w' col':=by
 have aB:=al w (.cells p.cs 31);have HX:=hide (World.alloc_heap_new w (.cells p.cs 31));have CK:=hide (Check_any _ p (hP.pi.keep aB));have HE:=hide fun(W:World)(hb:Below w.heap.size w W)=>here_st W b S pb mb pc col (h.keep hb) (by omega)
 have CP:=hide fun(W:World)(col':Nat->Nat)(hf:Vf w col W col')=>copyOf_any W p (hP.vf hf) hs.1 hs.2
 have LQ:=hide (show ∀q:Pv,q.pg=p.pg->q.items.length<=2199023255489 from fun q hq=>by
  have:=congrArg (fun g:Pg=>g.items.length) hq
  simp only[Pv.pg,List.length_map] at this;omega)
 obtain⟨aa,ca,hx⟩:=h.vx;have hac:S.X.P.ac.length+1<=17592186044416:=by unfold Q.Po.mark at hm;omega
 have AL:=hide fun(W:World)(hb:Below w.heap.size w W)=>(show Calls Tryz.prog 130 #[.pointer (some ⟨pb,0,none⟩)] W fun e w'=>e=.returned (.tuple #[.int .i64 S.X.P.alloc.1.1,.int .i64 S.X.P.alloc.1.2])/\∃pc' col',Vx w' b S.X.allocd S.fl (vd0 pb mb aa ca S.al) pc' col'/\Vf W col w' col' from alloc_st W b S.X S.fl (vd0 pb mb aa ca S.al) pc col (hx.keep hb) hac)
 have hma:S.X.allocd.P.mark<=9223372036854775807:=(Pe.alloc S.X.P).mark_le (by have:=alloc_ac S.X.P;unfold Q.Po.mark at hm;omega)
 have LY:=hide fun(W:World)(pc' col':Nat->Nat)(s:Int)(q:Pv)(hv:Vx W b S.X.allocd S.fl (vd0 pb mb aa ca S.al) pc' col')(hq:Pz (fun k=>col' k=6) W q)=>lay_st W b S.X.allocd S.fl (vd0 pb mb aa ca S.al) pc' col' hv s q hq hc
 have EN:=hide fun(W:World)(pc' col':Nat->Nat)(s e:Int)(q:Pv)(hv:Vx W b (S.X.allocd.lay s q) S.fl (vd0 pb mb aa ca S.al) pc' col')=>end_st W b S (S.X.allocd.lay s q) pb mb aa ca pc' col' hv e (by show S.X.ch.length<=(S.X.ch++[_]).length;rw[List.length_append];omega) hma hl
 have EO:=hide fun(W:World)(pc' col':Nat->Nat)(e:Int)(hv:Vx W b S.X.allocd S.fl (vd0 pb mb aa ca S.al) pc' col')=>end_st W b S S.X.allocd pb mb aa ca pc' col' hv e (Nat.le_refl _) hma hl
 have HV:=hide h;have HVX:=hide hx;have AB:=hide aB;unfold Vs.makeR Vs.makeS;obtain⟨ce,hce⟩:∃ce,p.pg.check=ce:=⟨_,rfl⟩;rw[hce] at CK ⊢;obtain⟨pg,hpg⟩:∃pg,p.pg=pg:=⟨_,rfl⟩;rw[hpg] at LQ CP ⊢;obtain⟨mk,hmk⟩:∃mk,S.X.P.mark=mk:=⟨_,rfl⟩;obtain⟨cl,hcl⟩:∃cl,S.X.ch.length=cl:=⟨_,rfl⟩;simp only[hmk,hcl] at HE EN EO;obtain⟨X1,hX1⟩:∃X1,S.X.allocd=X1:=⟨_,rfl⟩;rw[hX1] at AL ⊢;simp only[hX1] at LY EN EO;obtain⟨r,hr⟩:∃r,S.X.P.alloc.1=r:=⟨_,rfl⟩;rw[hr] at AL ⊢;obtain⟨s,e⟩:=r;simp only at AL ⊢;have HPG:=hide hpg;have c0:=h.c0;have hbl:=hx.lb;clear h hx aB hP hs hil hm hc hl hce hpg hmk hcl hX1 hr hac hma;obtain⟨kp,lp,aIp,cIp,itp,aDp,cDp,dap,nxp⟩:=p;unfold Pv.vl at CK CP ⊢;simp only[Pv.cs] at CK HX AB CP ⊢;by_cases h0:ce=0
 · subst h0;simp only[if_pos];by_cases he:e=0
   · subst he;simp only[if_pos];obtain⟨x0,x1,x2,x3,x4⟩:=five_cells HX.out;go_enter Tryz.func73,Tryz.ntmps73;go_wp2_with fail
     refine CK.out.mono ?_;rintro _ w2 ⟨rfl,hb⟩;have X2:=hide ((hb.block w.heap.size (Array.getElem?_eq_some_iff.1 HX.out).1).trans HX.out);have B2:=hide (bt AB.out hb);clear hb CK x0 x1 x2 x3 x4;go_wp2_with fail
     refine(HE.out _ B2.out).mono ?_;rintro _ w3 ⟨rfl,hb⟩;have a3:=al w3 (.cells #[.int .i64 ((mk:Nat):Int),.int .i64 ((cl:Nat):Int)] 137);have B3:=hide (bt (bt B2.out hb) a3);have T3:=hide (World.alloc_heap_new w3 (.cells #[.int .i64 ((mk:Nat):Int),.int .i64 ((cl:Nat):Int)] 137));have X3:=hide (((bt hb a3).block w.heap.size (Array.getElem?_eq_some_iff.1 X2.out).1).trans X2.out);have Z3:Hid (col w3.heap.size=0):=HV.out.z (bt B2.out hb).size;have Y3:Hid (col w.heap.size=0):=HV.out.z (Nat.le_refl _);have c3:=(HV.out.keep (bt B2.out hb)).c0;have hb3:b<w3.heap.size:=Nat.lt_of_lt_of_le hbl (bt B2.out hb).size;clear hb HE a3;go_wp2_with fail
     refine(AL.out _ B3.out).mono ?_;rintro _ w4 ⟨rfl,pc4,col4,v4,f4⟩;have V4:=hide v4;have F4:=hide ((Vf.keep B3.out).trans f4);have T4:=hide (f4.b.same T3.out (fun e=>by rw[Z3.out] at e;omega))
     have Z4:=hide ((f4.c w3.heap.size (Array.getElem?_eq_some_iff.1 T3.out).1).trans Z3.out);obtain⟨x0,x1,x2,x3,x4⟩:=five_cells (f4.b.same X3.out (fun e=>by rw[Y3.out] at e;omega))
     clear v4 f4 AL c3;go_wp2_with fail
     refine(CP.out _ _ F4.out).mono ?_;rintro _ w5 ⟨q,rfl,hPn,hq,hb⟩;have Q5:=hide hq;obtain⟨v5,f5⟩:=V4.out.page hb;have LY5:=hide (LY.out _ _ _ s q v5 (hPn.pz (col:=col4) (LQ.out q hq)));have F5:=hide (F4.out.trans f5);have T5:=hide ((hb.block w3.heap.size (Array.getElem?_eq_some_iff.1 T4.out).1).trans T4.out);have Z5:=hide ((f5.c w3.heap.size (Array.getElem?_eq_some_iff.1 T4.out).1).trans Z4.out);clear hPn hq hb v5 f5 x0 x1 x2 x3 x4 CP LY;generalize paint col4 _ w5 6=col5 at *;obtain⟨kq,lq,aIq,cIq,itq,aDq,cDq,daq,nxq⟩:=q;unfold Pv.vl at LY5;simp only[Pv.cs] at LY5;go_wp2_with fail
     refine LY5.out.mono ?_;rintro _ w6 ⟨rfl,pc6,col6,v6,f6⟩;have V6:=hide v6;have F6:=hide (F5.out.trans f6);obtain⟨y0,y1⟩:=two_cells (f6.b.same T5.out (fun e=>by rw[Z5.out] at e;omega))
     clear v6 f6 LY5;go_wp2_with fail
     refine(EN.out _ _ _ _ _ _ V6.out).mono ?_;rintro _ w7 ⟨rfl,pc7,col7,v7,f7⟩;have V7:=hide v7;have F7:=hide (F6.out.trans f7);clear v7 f7 y0 y1;go_wp2;go_ret2
     first|exact⟨_,Q5.out,rfl,_,_,V7.out,F7.out⟩|exact⟨rfl,_,Q5.out,_,_,V7.out,F7.out⟩
   · have e1:(e==0)=false:=by simp[he]
     simp only[if_neg he];obtain⟨x0,x1,x2,x3,x4⟩:=five_cells HX.out;go_enter Tryz.func73,Tryz.ntmps73;go_wp2_with fail
     refine CK.out.mono ?_;rintro _ w2 ⟨rfl,hb⟩;have X2:=hide ((hb.block w.heap.size (Array.getElem?_eq_some_iff.1 HX.out).1).trans HX.out);have B2:=hide (bt AB.out hb);clear hb CK x0 x1 x2 x3 x4;go_wp2_with fail
     refine(HE.out _ B2.out).mono ?_;rintro _ w3 ⟨rfl,hb⟩;have a3:=al w3 (.cells #[.int .i64 ((mk:Nat):Int),.int .i64 ((cl:Nat):Int)] 137);have B3:=hide (bt (bt B2.out hb) a3);have T3:=hide (World.alloc_heap_new w3 (.cells #[.int .i64 ((mk:Nat):Int),.int .i64 ((cl:Nat):Int)] 137));have X3:=hide (((bt hb a3).block w.heap.size (Array.getElem?_eq_some_iff.1 X2.out).1).trans X2.out);have Z3:Hid (col w3.heap.size=0):=HV.out.z (bt B2.out hb).size;have Y3:Hid (col w.heap.size=0):=HV.out.z (Nat.le_refl _);have c3:=(HV.out.keep (bt B2.out hb)).c0;have hb3:b<w3.heap.size:=Nat.lt_of_lt_of_le hbl (bt B2.out hb).size;clear hb HE a3;go_wp2_with fail
     refine(AL.out _ B3.out).mono ?_;rintro _ w4 ⟨rfl,pc4,col4,v4,f4⟩;have V4:=hide v4;have F4:=hide ((Vf.keep B3.out).trans f4);have T4:=hide (f4.b.same T3.out (fun e=>by rw[Z3.out] at e;omega))
     have Z4:=hide ((f4.c w3.heap.size (Array.getElem?_eq_some_iff.1 T3.out).1).trans Z3.out);obtain⟨x0,x1,x2,x3,x4⟩:=five_cells (f4.b.same X3.out (fun e=>by rw[Y3.out] at e;omega))
     clear v4 f4 AL c3;obtain⟨y0,y1⟩:=two_cells T4.out;go_wp2_with fail
     refine(EO.out _ _ _ _ V4.out).mono ?_;rintro _ w7 ⟨rfl,pc7,col7,v7,f7⟩;have V7:=hide v7;have F7:=hide (F4.out.trans f7);clear v7 f7 y0 y1 x0 x1 x2 x3 x4;go_wp2;go_ret2
     first|exact⟨_,HPG.out,rfl,_,_,V7.out,F7.out⟩|exact⟨⟨_,HPG.out⟩,rfl,_,_,V7.out,F7.out⟩|exact⟨rfl,⟨_,HPG.out⟩,_,_,V7.out,F7.out⟩
 · have e0:((ce:Nat):Int)≠0:=by omega
   have e1:(((ce:Nat):Int)==0)=false:=by simp;omega
   have e2:(ce==0)=false:=by simp;omega
   simp only[if_neg h0];obtain⟨x0,x1,x2,x3,x4⟩:=five_cells HX.out;go_enter Tryz.func73,Tryz.ntmps73;go_wp2_with fail
   refine CK.out.mono ?_;rintro _ w2 ⟨rfl,hb⟩;have V1:=hide (HV.out.keep (bt AB.out hb));have F1:=hide (Vf.keep (c:=col) (bt AB.out hb));clear hb CK x0 x1 x2 x3 x4;go_wp2;go_ret2
   first|exact⟨_,HPG.out,rfl,_,_,V1.out,F1.out⟩|exact⟨⟨_,HPG.out⟩,rfl,_,_,V1.out,F1.out⟩|exact⟨rfl,⟨_,HPG.out⟩,_,_,V1.out,F1.out⟩
end Go.Proofs.YtcpkinhneehomaaGreat
