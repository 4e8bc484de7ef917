import Derived.Test.YtbdkogimlbnlmaaGreatWtB15
set_option linter.unusedVariables false
set_option linter.unusedSimpArgs false
set_option maxHeartbeats 8000000
set_option maxRecDepth 8000
namespace Go.Proofs.YtbdkogimlbnlmaaGreat
open Go.RowKit
variable {col:Nat->Nat}{P P':Q.Po}{X X':Vm}{w w':World}
theorem Dq(w:World)(a:Option Addr)(c:Nat):(Builtin.append_ #[28,28] 28 #[.slice none 0 0,.slice a 0 c]).run Tryz.prog w=.ok (.slice none 0 0) w:=by
 obtain⟨i0,hi,hz0,hz1,hz2⟩:=dc lu;cases a<;>simp[Builtin.append_,de Tryz.underlying28,Builtin.lenOf,sizeOf,typeInfo,hi,Builtin.firstCells,loadCells,loadCellsFrom]
theorem uP(w:World)(p:Pv)(hP:Pi w p)(h0:p.items=[])(hd:p.data.length<=140737488355264):
 Calls Tryz.prog 107 #[p.vl] w λe w'=>∃q:Pv,e=.returned q.vl/\Pn w w' q/\q.pg=p.pg/\Below w.heap.size w w':=by
 obtain⟨kind,level,aI,cI,L,aD,cD,data,next⟩:=p
 simp only at h0;subst h0;unfold Pv.vl;simp only[Pv.cs] at *;have aB:=al w (.cells (pgC kind level aI 0 cI aD data.length cD next) 31)
 have aC:=bt aB (al (w.alloc (.cells (pgC kind level aI 0 cI aD data.length cD next) 31)) (.cells (pgC 0 0 none 0 0 none 0 0 0) 31))
 have SZ:((w.alloc (.cells (pgC kind level aI 0 cI aD data.length cD next) 31)).alloc (.cells (pgC 0 0 none 0 0 none 0 0 0) 31)).heap.size=w.heap.size+2:=by rw[size_alloc,size_alloc]
 have hx2:((w.alloc (.cells (pgC kind level aI 0 cI aD data.length cD next) 31)).alloc (.cells (pgC 0 0 none 0 0 none 0 0 0) 31)).heap[w.heap.size]?=some (.cells (pgC kind level aI 0 cI aD data.length cD next) 31 (0,0)):=((al (w.alloc (.cells (pgC kind level aI 0 cI aD data.length cD next) 31)) (.cells (pgC 0 0 none 0 0 none 0 0 0) 31)).block w.heap.size (by rw[size_alloc];omega)).trans (az w _)
 have hy2:((w.alloc (.cells (pgC kind level aI 0 cI aD data.length cD next) 31)).alloc (.cells (pgC 0 0 none 0 0 none 0 0 0) 31)).heap[w.heap.size+1]?=some (.cells (pgC 0 0 none 0 0 none 0 0 0) 31 (0,0)):=by
  have k:=az (w.alloc (.cells (pgC kind level aI 0 cI aD data.length cD next) 31)) (.cells (pgC 0 0 none 0 0 none 0 0 0) 31)
  rwa [size_alloc] at k
 obtain⟨w2,hw2⟩:∃w2,((w.alloc (.cells (pgC kind level aI 0 cI aD data.length cD next) 31)).alloc (.cells (pgC 0 0 none 0 0 none 0 0 0) 31))=w2:=⟨_,rfl⟩
 have HAP:Hid ((Builtin.append_ #[28,28] 28 #[.slice none 0 0,.slice aI 0 cI]).run Tryz.prog ((w.alloc (.cells (pgC kind level aI 0 cI aD data.length cD next) 31)).alloc (.cells (pgC 0 0 none 0 0 none 0 0 0) 31))=.ok (.slice none 0 0) w2):=by
  show _=_;rw[<-hw2];exact Dq _ aI cI
 rw[hw2] at aC SZ hx2 hy2;have cS:w2.cell? ⟨w.heap.size,2,none⟩=some (.slice aI 0 cI):=by rw[au _ _ _ _ _ _ hx2];rfl
 have fS:w2.frozen? ⟨w.heap.size,2,none⟩=false:=by simp[World.frozen?,hx2]
 have hx3:=aM w2 w.heap.size 2 _ 31 (.slice none 0 0) hx2;have hy3:(w2.setCell ⟨w.heap.size,2,none⟩ (.slice none 0 0)).heap[w.heap.size+1]?=_:=(Below.heap_setCell _ _ _ _ (show w.heap.size+1≠w.heap.size by omega)).trans hy2
 have bS:But (λk=>k=w.heap.size) w2 (w2.setCell ⟨w.heap.size,2,none⟩ (.slice none 0 0)):=(But.refl (λk=>k=w.heap.size) w2).setCell (p:=⟨w.heap.size,2,none⟩) (λ_=>rfl) _
 have B3:Hid (Below w.heap.size w (w2.setCell ⟨w.heap.size,2,none⟩ (.slice none 0 0))):=((But.ofBelow (S:=λk=>k=w.heap.size) aC).trans bS (λ_ _ e=>e)).below (λk hk e=>by omega)
 have X3:Hid ((w2.setCell ⟨w.heap.size,2,none⟩ (.slice none 0 0)).heap[w.heap.size]?=some (.cells (pgC kind level none 0 0 aD data.length cD next) 31 (0,0))):=hx3
 have Y3:=ig hy3;have CD:=ig λ(W:World)(hb:Below w.heap.size w W)=>lL W aD cD data (hP.bd.keep hb) (aO hd (by decide))
 have D8:=ig hP.bd.1;have NK:=ig (And.intro hP.nk (And.intro hP.nl hP.nn));simp only at D8 NK;unfold pgC at *;clear hP hd aB aC SZ hx2 hy2 hx3 hy3 bS hw2;go_enter Tryz.func107,Tryz.ntmps107;go_wp2_with (at_builtin;refine oH rfl _ _ rfl (.slice none 0 0) (.slice aI 0 cI) _ rfl rfl HAP.o ?_)
 clear HAP cS fS;generalize w2.setCell ⟨w.heap.size,2,none⟩ (.slice none 0 0)=w3 at *;go_loopw [12] (λi wr=>i=.int .i64 0/\Below w.heap.size w wr/\wr.heap[w.heap.size]?=some (.cells #[.int .i64 kind,.int .i64 level,.slice none 0 0,.slice aD data.length cD,.int .i64 next] 31 (0,0))/\wr.heap[w.heap.size+1]?=some (.cells #[.int .i64 0,.int .i64 0,.slice none 0 0,.slice none 0 0,.int .i64 0] 31 (0,0))) (λi _=>0)
 case atStart=>exact⟨rfl,B3.o,X3.o,Y3.o⟩
 case round=>
  obtain⟨rfl,hb,hxr,hyr⟩:=hrel;have BR:=ig hb;have XR:=ig hxr;have YR:=ig hyr;have CDD:=ig (CD.o wr hb);obtain⟨x0,x1,x2,x3,x4⟩:=iv hxr;clear hxr hyr hb;go_wp2_with fail
  refine CDD.o.mono ?_;rintro _ w4 ⟨a4,c4,rfl,hO⟩;have b4:=bt BR.o hO.b;have bx:w.heap.size<wr.heap.size:=(af.1 XR.o).1;have byy:w.heap.size+1<wr.heap.size:=(af.1 YR.o).1;have x4':=(hO.b.block w.heap.size bx).trans XR.o;have y4':=(hO.b.block (w.heap.size+1) byy).trans YR.o;have cS:w4.cell? ⟨w.heap.size,3,none⟩=some (.slice aD data.length cD):=(iv x4').2.2.2.1;have fS:w4.frozen? ⟨w.heap.size,3,none⟩=false:=by simp[World.frozen?,x4']
  have x5:=aM w4 w.heap.size 3 _ 31 (.slice a4 data.length c4) x4';have Y5:Hid ((w4.setCell ⟨w.heap.size,3,none⟩ (.slice a4 data.length c4)).heap[w.heap.size+1]?=some (.cells #[.int .i64 0,.int .i64 0,.slice none 0 0,.slice none 0 0,.int .i64 0] 31 (0,0))):=(Below.heap_setCell _ _ _ _ (show w.heap.size+1≠w.heap.size by omega)).trans y4'
  obtain⟨q0,q1,q2,q3,q4⟩:=iv (show(w4.setCell ⟨w.heap.size,3,none⟩ (.slice a4 data.length c4)).heap[w.heap.size]?=some (.cells #[.int .i64 kind,.int .i64 level,.slice none 0 0,.slice a4 data.length c4,.int .i64 next] 31 (0,0)) from x5)
  have FIN:=ig λ(cs:Array Value)=>(show Pn w ((w4.setCell ⟨w.heap.size,3,none⟩ (.slice a4 data.length c4)).setRow (w.heap.size+1) cs) ⟨kind,level,none,0,[],a4,c4,data,next⟩/\Below w.heap.size w ((w4.setCell ⟨w.heap.size,3,none⟩ (.slice a4 data.length c4)).setRow (w.heap.size+1) cs) from by
   have hB:But (λk=>k=w.heap.size\/k=w.heap.size+1) w4 ((w4.setCell ⟨w.heap.size,3,none⟩ (.slice a4 data.length c4)).setRow (w.heap.size+1) cs):=((But.refl (λk=>k=w.heap.size\/k=w.heap.size+1) w4).setCell (p:=⟨w.heap.size,3,none⟩) (λ_=>.inl rfl) _).trans (Q.iK _ _ _) (λk _ e=>.inr e)
   have nt:∀{a:Option Addr}{c:Nat}{l:List Nat},Rw w4 a c l->∀x,a=some x->¬(x.block=w.heap.size\/x.block=w.heap.size+1):=λhr x hx e=>by
    rcases e with e|e
    . exact hr.nty (show Bx w4 31 w.heap.size _ from x4') (by decide) hx e
    . exact hr.nty (show Bx w4 31 (w.heap.size+1) _ from y4') (by decide) hx e
   have hwr:=BR.o.size;refine⟨⟨Jw.nil _,New.none _ _,hO.r.but hB (nt hO.r),hO.n.mono hwr,(λ_ h=>by cases h),dF _ _,D8.o,(λ_ h=>by cases h),NK.o.1,NK.o.2.1,NK.o.2.2⟩,?_⟩
   exact((But.ofBelow (S:=λk=>k=w.heap.size\/k=w.heap.size+1) b4).trans hB (λ_ _ e=>e)).below (λk hk e=>by omega))
  clear b4 x4' y4' x5 hO bx byy x0 x1 x2 x3 x4;go_wp2_with (first|(refine cu rfl 31 _ _ rfl (w.heap.size+1) _ rfl rfl 31 _ Y5.o iq rfl (by simp[Value.oneCell']) ?_)|fail)
  refine bU (v:=.agg _) (fh Tryz.results107 _ _ (w.heap.size+1) 31 _ (0,0) _ rfl (cY _ _ _ _ _ _ Y5.o) Tryz.underlying31 rfl iq) rfl ?_;refine⟨⟨kind,level,none,0,[],a4,c4,data,next⟩,rfl,(FIN.o _).1,rfl,(FIN.o _).2⟩
theorem kz(w:World)(p:Pv)(hP:Pi w p)(hd:p.data.length<=140737488355264)(hs:∀x∈p.items,x.key.length<=140737488355264/\x.val.length<=140737488355264):
 Calls Tryz.prog 107 #[p.vl] w λe w'=>∃q:Pv,e=.returned q.vl/\Pn w w' q/\q.pg=p.pg/\Below w.heap.size w w':=by
 by_cases h:p.items=[]
 . exact uP w p hP h hd
 . exact u6 w p hP (bN.2 h) hd hs
structure Pe(P P':Q.Po):Prop where
 fl:P'.fl=P.fl
 ex:∃j,P'.mark=P.mark+j/\Q.Po.back j P'=P
theorem Pe.refl(P:Q.Po):Pe P P:=⟨rfl,0,rfl,rfl⟩
theorem oq{P:Q.Po}(h:P.ac.getLast?=none):∀i,Q.Po.back i P=P
 |0=>rfl
 |i+1=>by unfold Q.Po.back;rw[h]
theorem tj(i:Nat):∀(j:Nat)(P:Q.Po),Q.Po.back (i+j) P=Q.Po.back i (Q.Po.back j P)
 |0,P=>rfl
 |j+1,P=>by
  cases h:P.ac.getLast? with
  |none=>rw[oq h,oq h,oq h]
  |some a=>
   have e1:Q.Po.back (i+(j+1)) P=Q.Po.back (i+j) {P with pg:=P.pg.set (a.1-1) a.2,ac:=P.ac.dropLast}:=by
    show Q.Po.back ((i+j)+1) P=_;rw[Q.Po.back];rw[h]
   have e2:Q.Po.back (j+1) P=Q.Po.back j {P with pg:=P.pg.set (a.1-1) a.2,ac:=P.ac.dropLast}:=by rw[Q.Po.back];rw[h]
   rw[e1,e2];exact tj i j _
theorem Pe.trans{P1 P2:Q.Po}(h:Pe P P1)(k:Pe P1 P2):Pe P P2:=by
 obtain⟨f1,j1,m1,b1⟩:=h;obtain⟨f2,j2,m2,b2⟩:=k;exact⟨f2.trans f1,j1+j2,by omega,by rw[tj,b2,b1]⟩
theorem Pe.act{n:Nat}(h1:1<=n)(h2:n<=P.pg.length)(c:Int):Pe P (P.act n c):=⟨rfl,1,by simp[Q.Po.act,Q.Po.mark];omega,Q.Po.back_act h1 h2 c 0⟩
theorem Pe.dec(P:Q.Po)(z:Int):Pe P (P.dec z).2:=by
 unfold Q.Po.dec;split
 . exact Pe.refl P
 . rename_i hc;obtain⟨h1,h2⟩:=Q.Po.count_has hc;exact Pe.act (by omega) (by omega) _
theorem Pe.inc(P:Q.Po)(z:Int):Pe P (P.inc z).2:=by
 unfold Q.Po.inc;split
 . exact Pe.refl P
 . rename_i hc;obtain⟨h1,h2⟩:=Q.Po.count_has hc;split
   . exact Pe.refl P
   . exact Pe.act (by omega) (by omega) _
theorem Pe.alloc(P:Q.Po):Pe P P.alloc.2:=by
 unfold Q.Po.alloc;split
 . exact Pe.refl P
 . rename_i n L hn;have k:=Q.jE.1 ((Q.ja P.pg 1 n).1 (by rw[hn];exact dN))
   exact Pe.act (by omega) (by omega) _
theorem Pe.undo(h:Pe P P'):P'.undo ((P.mark:Nat):Int)=P:=by
 obtain⟨f1,j,m1,b1⟩:=h;have hf:P.fl<=P.mark:=by unfold Q.Po.mark;omega
 unfold Q.Po.undo Q.Po.canUndo;rw[f1,ay (show((P.fl:Nat):Int)<=((P.mark:Nat):Int) by omega),ay (show((P.mark:Nat):Int)<=((P'.mark:Nat):Int) by omega)]
 rw[show(((P'.mark:Nat):Int)-((P.mark:Nat):Int)).toNat=j by omega]
 exact b1
def mc(f:Int->Option Pv):Prop:=∀k p,f k=some p->p.kind≠0
theorem mc.put{f:Int->Option Pv}(h:mc f)(n:Int)(p:Pv):mc (iQ f n p):=λk q e=>by
 unfold iQ at e;split at e
 . split at e
   . cases e
   . rename_i hk;cases e;exact hk
 . exact h k q e
theorem mc.back{f:Int->Option Pv}(h:mc f)(n:Int)(p:Pv):iQ (iQ f n p) n ((f n).getD Pv.zero)=f:=by
 funext k
 unfold iQ;by_cases hk:k=n
 . subst hk;rw[if_pos rfl];cases e:f k with
   |none=>rw[if_pos (by rfl)]
   |some q=>
    show(if q.kind=0 then none else some q)=some q
    rw[if_neg (h k q e)]
 . rw[if_neg hk,if_neg hk]
structure Ve(X X':Vm):Prop where
 p:Pe X.P X'.P
 c:∃L,X'.ch=X.ch++L/\(mc X.f->mc X'.f/\unl X'.f L=X.f)
theorem Ve.refl(X:Vm):Ve X X:=⟨Pe.refl _,[],by simp,λh=>⟨h,rfl⟩⟩
theorem Ve.trans{X1 X2:Vm}(h:Ve X X1)(k:Ve X1 X2):Ve X X2:=by
 obtain⟨p1,L1,c1,u1⟩:=h;obtain⟨p2,L2,c2,u2⟩:=k;refine⟨p1.trans p2,L1++L2,by rw[c2,c1,aR],λhf=>?_⟩
 obtain⟨f1,e1⟩:=u1 hf;obtain⟨f2,e2⟩:=u2 f1;refine⟨f2,?_⟩;unfold unl at e1 e2 ⊢;rw[List.foldr_append,e2,e1]
theorem Ve.pool(h:Pe X.P P):Ve X ⟨P,X.f,X.ch⟩:=⟨h,[],by simp,λhf=>⟨hf,rfl⟩⟩
theorem Ve.lay(X:Vm)(n:Int)(p:Pv):Ve X (X.lay n p):=⟨Pe.refl _,[(n,X.on n)],rfl,λhf=>⟨hf.put n p,hf.back n p⟩⟩
theorem Ve.less(X:Vm)(z:Int):Ve X (X.less z):=by
 unfold Vm.less;split
 . exact(Ve.pool (Pe.dec X.P z)).trans (Ve.lay ⟨(X.P.dec z).2,X.f,X.ch⟩ z Pv.zero)
 . exact Ve.pool (Pe.dec X.P z)
theorem Pe.incAll:∀(L:List Int)(P:Q.Po),Pe P (incAll P L).2
 | [],P=>Pe.refl P
 |z::L,P=>by
  unfold Go.Proofs.YtbdkogimlbnlmaaGreat.incAll;split
  . exact(Pe.inc P z).trans (Pe.incAll L _)
  . exact Pe.inc P z
theorem Ve.more(X:Vm)(L:List Int):Ve X (X.more L).2:=Ve.pool (Pe.incAll L X.P)
theorem Ve.left(X:Vm)(z:Int):Ve X (X.left z).2:=by
 unfold Vm.left;split
 . exact(Ve.less X z).trans (Ve.more _ _)
 . exact Ve.less X z
theorem Ve.leave(X:Vm)(z:Int):Ve X (X.leave z).2:=Ve.left X z
theorem Ve.shadow(X:Vm)(z:Int):Ve X (X.shadow z).2:=by
 have k:Ve X ⟨X.P.alloc.2,X.f,X.ch⟩:=Ve.pool (Pe.alloc X.P);unfold Vm.shadow;split
 . split
   . exact(k.trans (Ve.leave _ z)).trans (Ve.lay _ _ _)
   . exact k.trans (Ve.leave _ z)
 . exact k
theorem Ve.dropL{F:Vm->Int->Int×Vm}(hF:∀X z,Ve X (F X z).2):∀(L:List Int)(X:Vm),Ve X (dropL F X L).2
 | [],X=>Ve.refl X
 |z::L,X=>by
  unfold Go.Proofs.YtbdkogimlbnlmaaGreat.dropL;split
  . exact(hF X z).trans (Ve.dropL hF L _)
  . exact hF X z
theorem Ve.dropM:∀(t:Nat)(X:Vm)(z:Int),Ve X (dropM t X z).2
 |0,X,z=>Ve.refl X
 |t+1,X,z=>by
  unfold Go.Proofs.YtbdkogimlbnlmaaGreat.dropM;split
  . exact Ve.less X z
  . exact(Ve.less X z).trans (Ve.dropL (Ve.dropM t) _ _)
theorem Ve.ch(h:Ve X X'):X.ch.length<=X'.ch.length:=by
 obtain⟨_,L,e,_⟩:=h;rw[e,ae];omega
theorem Ve.back(h:Ve X X')(hf:mc X.f):X'.back X.P.mark X.ch.length=X:=by
 obtain⟨p,L,e,u⟩:=h;obtain⟨_,hu⟩:=u hf;unfold Vm.back;rw[p.undo,e,gY rfl,eZ rfl,hu]
theorem Vs.done_no{S:Vs}{e:Int}(h0:e≠0)(h:Ve S.X X)(hf:mc S.X.f):S.done e X=S:=by
 unfold Vs.done;rw[if_neg h0,h.back hf]
theorem AU(w:World)(b:Nat)(S:Vs)(pb mb:Nat)(pc col:Nat->Nat)(h:Vw w b S pb mb pc col)(z:Int)(hm:S.X.P.mark+1<=17592186044416)(hl:S.al.length+1<=8796093022208):
 Calls Tryz.prog 40 #[.pointer (some ⟨b,0,none⟩),.int .i64 z] w λx w'=>x=.returned (.int .i64 (S.X.P.inc z).1)/\∃pc' col',Vw w' b (S.done (S.X.P.inc z).1 ⟨(S.X.P.inc z).2,S.X.f,S.X.ch⟩) pb mb pc' col'/\Vf w col w' col':=by
 have HE:=ig (lj w b S pb mb pc col h (by omega))
 have IM:=qa S.X.P z;have hac:S.X.P.ac.length+1<=17592186044416:=by unfold Q.Po.mark at hm;omega
 obtain⟨aa,ca,hx⟩:=h.vx;have IN:=ig λ(W:World)(hb:Below w.heap.size w W)=>E9 W b S.X S.fl (vd0 pb mb aa ca S.al) pc col (hx.keep hb) z hac
 obtain⟨e,he⟩:∃e,(S.X.P.inc z).1=e:=⟨_,rfl⟩;obtain⟨P1,hP1⟩:∃P1,(S.X.P.inc z).2=P1:=⟨_,rfl⟩;rw[hP1] at IM;rw[he,hP1] at IN ⊢;have EN:=ig λ(W:World)(pc' col':Nat->Nat)(hv:Vx W b ⟨P1,S.X.f,S.X.ch⟩ S.fl (vd0 pb mb aa ca S.al) pc' col')=>lD W b S ⟨P1,S.X.f,S.X.ch⟩ pb mb aa ca pc' col' hv e (ai _) (by show P1.mark<=_;omega) hl
 have HV:=ig h;have DN:=ig (show ∃S2,S.done e ⟨P1,S.X.f,S.X.ch⟩=S2 from⟨_,rfl⟩)
 obtain⟨S2,hS2⟩:=DN.o;rw[hS2] at EN ⊢;obtain⟨mk,hmk⟩:∃mk,S.X.P.mark=mk:=⟨_,rfl⟩;obtain⟨cl,hcl⟩:∃cl,S.X.ch.length=cl:=⟨_,rfl⟩;rw[hmk,hcl] at HE EN;obtain⟨X1,hX1⟩:∃X1:Vm,(⟨P1,S.X.f,S.X.ch⟩:Vm)=X1:=⟨_,rfl⟩;rw[hX1] at IN EN;clear h hx hm hl hac IM he hP1 hmk hcl hX1 DN hS2;go_enter Tryz.func40,Tryz.ntmps40;go_wp2_with fail
 refine HE.o.mono ?_;rintro _ w1 ⟨rfl,hb⟩;have A1:=ig (bt (bt hb (al w1 (.cells #[.int .i64 ((mk:Nat):Int),.int .i64 ((cl:Nat):Int)] 137))) (Q.drw _));have HX:=ig (az w1 (.cells #[.int .i64 ((mk:Nat):Int),.int .i64 ((cl:Nat):Int)] 137));have CX:Hid (col w1.heap.size=0):=HV.o.z hb.size;have LT:Hid (w1.heap.size<(w1.alloc (.cells #[.int .i64 ((mk:Nat):Int),.int .i64 ((cl:Nat):Int)] 137)).drew.heap.size):=(af.1 HX.o).1;have S1:=ig (show(w1.alloc (.cells #[.int .i64 ((mk:Nat):Int),.int .i64 ((cl:Nat):Int)] 137)).drew.cell? ⟨b,0,none⟩=some (.pointer (some ⟨pb,0,none⟩))/\(w1.alloc (.cells #[.int .i64 ((mk:Nat):Int),.int .i64 ((cl:Nat):Int)] 137)).drew.cell? ⟨w1.heap.size,0,none⟩=some (.int .i64 ((mk:Nat):Int))/\(w1.alloc (.cells #[.int .i64 ((mk:Nat):Int),.int .i64 ((cl:Nat):Int)] 137)).drew.cell? ⟨w1.heap.size,1,none⟩=some (.int .i64 ((cl:Nat):Int)) from⟨(HV.o.keep A1.o).c0,(iz HX.o).1,(iz HX.o).2⟩)
 clear hb HE;go_wp2_with fail
 refine bu (S:=λW=>W.cell? ⟨b,0,none⟩=some (.pointer (some ⟨pb,0,none⟩))/\W.cell? ⟨w1.heap.size,0,none⟩=some (.int .i64 ((mk:Nat):Int))/\W.cell? ⟨w1.heap.size,1,none⟩=some (.int .i64 ((cl:Nat):Int))) (by kernel_rfl) (S1.o) (λhHeld=>?_)
 refine tkd 0 1 2 3 ?_;refine tkb 4 5 ?_;refine tk 6 ?_;refine tw 7 λK hK=>?_
 go_simp;refine(IN.o _ A1.o).mono ?_;rintro _ w3 ⟨rfl,pc3,col3,v3,f3⟩;have V3:=ig v3;have F3:=ig ((Vf.keep A1.o).trans f3);have HX3:=ig (f3.b.same (show(w1.alloc _).drew.heap[w1.heap.size]?=_ from HX.o) (λe=>by rw[CX.o] at e;omega))
 have CX3:Hid (col3 w1.heap.size=0):=(f3.c _ LT.o).trans CX.o;clear v3 f3;go_wp2_with fail
 refine hK.o _ _ (⟨V3.o.c01.1,(iz HX3.o).1,(iz HX3.o).2⟩) (λhHeld=>?_)
 clear hK K;try simp only[pt]
 refine tw 8 λK hK=>?_
 go_simp;refine(EN.o _ _ _ V3.o).mono ?_;rintro _ w4 ⟨rfl,pc4,col4,v4,f4⟩;have V4:=ig v4;have F4:=ig (F3.o.trans f4);have HX4:=ig (f4.b.same HX3.o (λe=>by rw[CX3.o] at e;omega))
 clear v4 f4;go_wp2_with fail
 refine hK.o _ _ (⟨V4.o.c0,(iz HX4.o).1,(iz HX4.o).2⟩) (λhHeld=>?_)
 clear hK K;try simp only[pt]
 refine tk 9 ?_;refine td ?_;clear hHeld S1 IN EN;go_wp2;go_ret;exact⟨rfl,_,_,V4.o,F4.o⟩
theorem Pe.mark_le(h:Pe P P'){B:Nat}(hb:P'.ac.length+P.fl<=B):P'.mark<=B:=by
 unfold Q.Po.mark;rw[h.fl];omega
theorem BQ(w:World)(b:Nat)(S:Vs)(pb mb:Nat)(pc col:Nat->Nat)(h:Vw w b S pb mb pc col)(z:Int)(t:Nat)(ht:tot S.X.P<t)(hm:S.X.P.mark+tot S.X.P+1<=17592186044416)(hc:S.X.ch.length+tot S.X.P+1<=1759218604441)(hl:S.al.length+1<=8796093022208):
 Calls Tryz.prog 42 #[.pointer (some ⟨b,0,none⟩),.int .i64 z] w λx w'=>x=.returned (.int .i64 (dropM t S.X z).1)/\∃pc' col',Vw w' b (S.done (dropM t S.X z).1 (dropM t S.X z).2) pb mb pc' col'/\Vf w col w' col':=by
 have HE:=ig (lj w b S pb mb pc col h (by omega))
 have hac:S.X.P.ac.length+S.X.P.fl+tot S.X.P+1<=17592186044416:=by unfold Q.Po.mark at hm;omega
 obtain⟨aa,ca,hx⟩:=h.vx;have VE:=Ve.dropM t S.X z;have IN:=ig λ(W:World)(hb:Below w.heap.size w W)=>uc t W b S.X S.fl (vd0 pb mb aa ca S.al) pc col z (hx.keep hb) ht (by omega) hc
 obtain⟨r,hr⟩:∃r,dropM t S.X z=r:=⟨_,rfl⟩;rw[hr] at IN VE ⊢;obtain⟨e,X1⟩:=r;simp only at IN VE ⊢;have EN:=ig λ(W:World)(pc' col':Nat->Nat)(hv:Vx W b X1 S.fl (vd0 pb mb aa ca S.al) pc' col')(hbn:tot X1.P<=tot S.X.P/\X1.P.ac.length+tot X1.P<=S.X.P.ac.length+tot S.X.P/\X1.ch.length+tot X1.P<=S.X.ch.length+tot S.X.P)=>lD W b S X1 pb mb aa ca pc' col' hv e VE.ch (VE.p.mark_le (by omega)) hl
 have HV:=ig h;obtain⟨S2,hS2⟩:∃S2,S.done e X1=S2:=⟨_,rfl⟩;rw[hS2] at EN ⊢;obtain⟨mk,hmk⟩:∃mk,S.X.P.mark=mk:=⟨_,rfl⟩;obtain⟨cl,hcl⟩:∃cl,S.X.ch.length=cl:=⟨_,rfl⟩;have HMK:=ig hmk;rw[hmk,hcl] at HE;simp only[hmk,hcl] at EN IN;clear h hx hm hl hac hr hmk hcl hS2 VE ht hc;go_enter Tryz.func42,Tryz.ntmps42;go_wp2_with fail
 refine HE.o.mono ?_;rintro _ w1 ⟨rfl,hb⟩;have A1:=ig (bt (bt hb (al w1 (.cells #[.int .i64 ((mk:Nat):Int),.int .i64 ((cl:Nat):Int)] 137))) (Q.drw _));have HX:=ig (az w1 (.cells #[.int .i64 ((mk:Nat):Int),.int .i64 ((cl:Nat):Int)] 137));have CX:Hid (col w1.heap.size=0):=HV.o.z hb.size;have LT:Hid (w1.heap.size<(w1.alloc (.cells #[.int .i64 ((mk:Nat):Int),.int .i64 ((cl:Nat):Int)] 137)).drew.heap.size):=(af.1 HX.o).1;have S1:=ig (show(w1.alloc (.cells #[.int .i64 ((mk:Nat):Int),.int .i64 ((cl:Nat):Int)] 137)).drew.cell? ⟨w1.heap.size,0,none⟩=some (.int .i64 ((mk:Nat):Int))/\(w1.alloc (.cells #[.int .i64 ((mk:Nat):Int),.int .i64 ((cl:Nat):Int)] 137)).drew.cell? ⟨w1.heap.size,1,none⟩=some (.int .i64 ((cl:Nat):Int)) from⟨(iz HX.o).1,(iz HX.o).2⟩)
 clear hb HE;go_wp2_with fail
 refine bu (S:=λW=>W.cell? ⟨w1.heap.size,0,none⟩=some (.int .i64 ((mk:Nat):Int))/\W.cell? ⟨w1.heap.size,1,none⟩=some (.int .i64 ((cl:Nat):Int))) (by kernel_rfl) (S1.o) (λhHeld=>?_)
 refine tkd 0 1 2 3 ?_;refine tw 4 λK hK=>?_
 go_simp;refine(IN.o _ A1.o).mono ?_;rintro _ w3 ⟨rfl,hbn,pc3,col3,v3,f3⟩;have V3:=ig v3;have BN:=ig hbn;have F3:=ig ((Vf.keep A1.o).trans f3);have HX3:=ig (f3.b.same (show(w1.alloc _).drew.heap[w1.heap.size]?=_ from HX.o) (λe=>by rw[CX.o] at e;omega))
 have CX3:Hid (col3 w1.heap.size=0):=(f3.c _ LT.o).trans CX.o;clear v3 f3 hbn;go_wp2_with fail
 refine hK.o _ _ (⟨(iz HX3.o).1,(iz HX3.o).2⟩) (λhHeld=>?_)
 clear hK K;try simp only[pt]
 refine tw 5 λK hK=>?_
 go_simp;refine(EN.o _ _ _ V3.o BN.o).mono ?_;rintro _ w4 ⟨rfl,pc4,col4,v4,f4⟩;have V4:=ig v4;have F4:=ig (F3.o.trans f4);have HX4:=ig (f4.b.same HX3.o (λe=>by rw[CX3.o] at e;omega))
 clear v4 f4;go_wp2_with fail
 refine hK.o _ _ (⟨(iz HX4.o).1,(iz HX4.o).2⟩) (λhHeld=>?_)
 clear hK K;try simp only[pt]
 refine tk 6 ?_;refine td ?_;clear hHeld S1 IN EN;go_wp2;go_ret;exact⟨rfl,_,_,V4.o,F4.o⟩
theorem tY(w:World)(b:Nat)(S:Vs)(pb mb:Nat)(pc col:Nat->Nat)(h:Vw w b S pb mb pc col)(n:Int):
 Calls Tryz.prog 95 #[.pointer (some ⟨b,0,none⟩),.int .i64 n] w λe w'=>e=.returned (.bool (decide (0<S.X.P.count n)))/\w'=w:=by
 obtain⟨ac,cc,aa,ca,h⟩:=h;exact uO w b _ _ _ pc col h n
theorem yj(w:World)(b:Nat)(S:Vs)(pb mb:Nat)(pc col:Nat->Nat)(h:Vw w b S pb mb pc col)(n:Int):
 Calls Tryz.prog 96 #[.pointer (some ⟨b,0,none⟩),.int .i64 n] w λe w'=>e=.returned (.bool (decide (S.X.P.state n=3)&&decide (S.X.P.count n=1)))/\Below w.heap.size w w':=by
 obtain⟨ac,cc,aa,ca,h⟩:=h;exact yo w b _ _ _ pc col h n
theorem rS:∀(L:List Int)(P:Q.Po),(incAll P L).2.ac.length<=P.ac.length+L.length
 | [],P=>ai _
 |z::L,P=>by
  have k:=yD P z;unfold incAll;split
  . have:=rS L (P.inc z).2;rw[bg];omega
  . rw[bg];omega
theorem Es(P:Q.Po)(z:Int):(P.dec z).2.ac.length<=P.ac.length+1:=by
 unfold Q.Po.dec;split
 . exact eb _
 . simp[Q.Po.act]
theorem Vm.left_ac(X:Vm)(z:Int):(X.left z).2.P.ac.length<=X.P.ac.length+(X.on z).pg.kids.length+1:=by
 have k:=Es X.P z;unfold Vm.left;split
 . have:=rS (X.on z).pg.kids (X.less z).P;rw[X.less_P] at this;show(incAll (X.less z).P (X.on z).pg.kids).2.ac.length<=_;rw[X.less_P];omega
 . show(X.less z).P.ac.length<=_;rw[X.less_P];omega
theorem Vm.shadow_ac(X:Vm)(z:Int):(X.shadow z).2.P.ac.length<=X.P.ac.length+(X.on z).pg.kids.length+2:=by
 have k:=pZ X.P;have k2:=Vm.left_ac ⟨X.P.alloc.2,X.f,X.ch⟩ z;have k3:((⟨X.P.alloc.2,X.f,X.ch⟩:Vm).left z).2.P.ac.length<=X.P.alloc.2.ac.length+(X.on z).pg.kids.length+1:=k2;unfold Vm.shadow;split
 . split
   all_goals
    show((⟨X.P.alloc.2,X.f,X.ch⟩:Vm).left z).2.P.ac.length<=_;omega
 . show X.P.alloc.2.ac.length<=_;omega
def Vs.shadow(S:Vs)(z:Int):(Int×Int)×Vs:=
 if 0<S.X.P.count z then (if S.X.P.state z=3/\S.X.P.count z=1 then ((z,0),S) else ((S.X.shadow z).1,S.done (S.X.shadow z).1.2 (S.X.shadow z).2)) else ((0,15),S)
theorem wZ(w:World)(b:Nat)(S:Vs)(pb mb:Nat)(pc col:Nat->Nat)(h:Vw w b S pb mb pc col)(z:Int)(hm:S.X.P.mark+(S.X.on z).pg.kids.length+2<=17592186044416)(hc:S.X.ch.length+2<=1759218604441)(hl:S.al.length+1<=8796093022208):
 Calls Tryz.prog 35 #[.pointer (some ⟨b,0,none⟩),.int .i64 z] w λx w'=>x=.returned (.tuple #[.int .i64 (S.shadow z).1.1,.int .i64 (S.shadow z).1.2])/\∃pc' col',Vw w' b (S.shadow z).2 pb mb pc' col'/\Vf w col w' col':=by
 have TH:=ig (tY w b S pb mb pc col h z);have OW:=ig (yj w b S pb mb pc col h z);have HV:=ig h;unfold Vs.shadow;by_cases h1:0<S.X.P.count z
 . rw[if_pos h1];rw[ay h1] at TH;by_cases h2:S.X.P.state z=3/\S.X.P.count z=1
   . rw[if_pos h2];rw[ay h2.1,ay h2.2,fI] at OW;clear h h1 h2 hm hc hl;go_enter Tryz.func35,Tryz.ntmps35;go_wp2_with fail
     refine TH.o.mono ?_;rintro _ wq ⟨rfl,hwq⟩;obtain rfl:=hwq.symm;go_wp2_with fail
     refine OW.o.mono ?_;rintro _ w1 ⟨rfl,hb⟩;have V1:=ig (HV.o.keep hb);have F1:=ig (Vf.keep (c:=col) hb);clear hb;go_wp2;go_ret2
     exact⟨rfl,_,_,V1.o,F1.o⟩
   . rw[if_neg h2]
     have hob:(decide (S.X.P.state z=3)&&decide (S.X.P.count z=1))=false:=by
      rw[eG];by_cases k:S.X.P.state z=3
      . exact .inr (ax (λk2=>h2 ⟨k,k2⟩))
      . exact .inl (ax k)
     rw[hob] at OW;have HE:=ig λ(W:World)(hb:Below w.heap.size w W)=>lj W b S pb mb pc col (h.keep hb) (by omega)
     have hac:S.X.P.ac.length+S.X.P.fl+(S.X.on z).pg.kids.length+2<=17592186044416:=by unfold Q.Po.mark at hm;omega
     obtain⟨aa,ca,hx⟩:=h.vx;have VE:=Ve.shadow S.X z;have IN:=ig λ(W:World)(hb:Below w.heap.size w W)=>x8 W b S.X S.fl (vd0 pb mb aa ca S.al) pc col z (hx.keep hb) (by omega) hc
     have SA:=S.X.shadow_ac z;obtain⟨r,hr⟩:∃r,S.X.shadow z=r:=⟨_,rfl⟩;rw[hr] at IN VE SA ⊢;obtain⟨⟨s,e⟩,X1⟩:=r;simp only at IN VE SA ⊢;have EN:=ig λ(W:World)(pc' col':Nat->Nat)(hv:Vx W b X1 S.fl (vd0 pb mb aa ca S.al) pc' col')=>lD W b S X1 pb mb aa ca pc' col' hv e VE.ch (VE.p.mark_le (by omega)) hl
     obtain⟨S2,hS2⟩:∃S2,S.done e X1=S2:=⟨_,rfl⟩;rw[hS2] at EN ⊢;obtain⟨mk,hmk⟩:∃mk,S.X.P.mark=mk:=⟨_,rfl⟩;obtain⟨cl,hcl⟩:∃cl,S.X.ch.length=cl:=⟨_,rfl⟩;simp only[hmk,hcl] at EN HE;clear h h1 h2 hm hc hl hac hx VE SA hr hS2 hmk hcl hob;go_enter Tryz.func35,Tryz.ntmps35;go_wp2_with fail
     refine TH.o.mono ?_;rintro _ wq ⟨rfl,hwq⟩;obtain rfl:=hwq.symm;go_wp2_with fail
     refine OW.o.mono ?_;rintro _ w0 ⟨rfl,hb0⟩;have B0:=ig hb0;clear hb0 TH OW;go_wp2_with fail
     refine(HE.o _ B0.o).mono ?_;rintro _ w1 ⟨rfl,hb⟩;have hb1:=bt B0.o hb;have A1:=ig (bt hb1 (al w1 (.cells #[.int .i64 ((mk:Nat):Int),.int .i64 ((cl:Nat):Int)] 137)));have HX:=ig (az w1 (.cells #[.int .i64 ((mk:Nat):Int),.int .i64 ((cl:Nat):Int)] 137));have CX:Hid (col w1.heap.size=0):=HV.o.z hb1.size;clear hb hb1 HE;go_wp2_with fail
     refine(IN.o _ A1.o).mono ?_;rintro _ w3 ⟨rfl,pc3,col3,v3,f3⟩;have V3:=ig v3;have F3:=ig ((Vf.keep A1.o).trans f3);obtain⟨x0,x1⟩:=iz (f3.b.same HX.o (λe=>by rw[CX.o] at e;omega))
     clear v3 f3 IN;go_wp2_with fail
     refine(EN.o _ _ _ V3.o).mono ?_;rintro _ w4 ⟨rfl,pc4,col4,v4,f4⟩;have V4:=ig v4;have F4:=ig (F3.o.trans f4);clear v4 f4 EN x0 x1;go_wp2;go_ret2
     exact⟨rfl,_,_,V4.o,F4.o⟩
 . rw[if_neg h1];rw[ax h1] at TH;clear h h1 hm hc hl OW;go_enter Tryz.func35,Tryz.ntmps35;go_wp2_with fail
   refine TH.o.mono ?_;rintro _ wq ⟨rfl,hwq⟩;obtain rfl:=hwq.symm;go_wp2;go_ret2
   exact⟨rfl,_,_,HV.o,Vf.refl _ _⟩
def Sml(p:Pv):Prop:=p.data.length<=140737488355264/\∀x∈p.items,x.key.length<=140737488355264/\x.val.length<=140737488355264
theorem zv(w:World)(b:Nat)(S:Vs)(pb mb:Nat)(pc col:Nat->Nat)(h:Vw w b S pb mb pc col)(z:Int)(hs:Sml (S.X.on z)):
 Calls Tryz.prog 44 #[.pointer (some ⟨b,0,none⟩),.int .i64 z] w λx w'=>∃q:Pv,x=.returned (.tuple #[q.vl,.int .i64 (if 0<S.X.P.count z then 0 else 15)])/\Pn w w' q/\q.pg=(if 0<S.X.P.count z then (S.X.on z).pg else Pv.zero.pg)/\Below w.heap.size w w':=by
 have aB:=al w (.cells Pv.zero.cs 31);have TH:=ig (tY _ b S pb mb pc col (h.keep aB) z);have HX:=ig (az w (.cells Pv.zero.cs 31));have AB:=ig aB;obtain⟨aa,ca,hv⟩:=h.vx;obtain⟨c0,c1⟩:=hv.c01;have hbl:=hv.lb;have hl:=(hv.keep aB).look z;have CO:=ig (kz _ (S.X.on z) ((hv.keep aB).on_z z).pi hs.1 hs.2);obtain⟨q,hq⟩:∃q,S.X.on z=q:=⟨_,rfl⟩;rw[hq] at hl CO ⊢;clear h hv hs hq aB c0;obtain⟨kp,lp,aIp,cIp,itp,aDp,cDp,dap,nxp⟩:=q;unfold Pv.vl at *;simp only[Pv.cs] at hl CO HX AB TH;simp only[Pv.zero,bh] at hl CO HX AB TH;have hmb:w.cell? ⟨b,1,none⟩=some (.map (some mb)):=c1;have hlm:(Instr.lookup 81 (.map (some mb)) (.int .i64 z) false).run Tryz.prog (w.alloc (.cells #[.int .i64 0,.int .i64 0,.slice none 0 0,.slice none 0 0,.int .i64 0] 31))=.ok (.agg #[.int .i64 kp,.int .i64 lp,.slice aIp itp.length cIp,.slice aDp dap.length cDp,.int .i64 nxp]) (w.alloc (.cells #[.int .i64 0,.int .i64 0,.slice none 0 0,.slice none 0 0,.int .i64 0] 31)):=hl;clear hl c1;by_cases h1:0<S.X.P.count z
 . simp only[if_pos h1];rw[ay h1] at TH;clear h1;go_enter Tryz.func44,Tryz.ntmps44;go_wp2_with fail
   refine TH.o.mono ?_;rintro _ wq ⟨rfl,hwq⟩;obtain rfl:=hwq.symm;clear hwq;go_wp2_with fail
   refine CO.o.mono ?_;rintro _ w2 ⟨r,rfl,hP,hg,hb⟩;have HP:=ig (hP.pre AB.o.size);have HG:=ig hg;have HB:=ig (bt AB.o hb);have HX2:=ig ((hb.block w.heap.size (af.1 HX.o).1).trans HX.o);clear hP hg hb CO TH;go_wp2_with (first|(refine cu rfl 31 _ _ rfl w.heap.size _ rfl rfl 31 _ HX2.o iq rfl (by simp[Value.oneCell']) ?_)|fail)
   refine bU (v:=.tuple #[.agg _,_]) (iJ Tryz.results44 _ _ w.heap.size 31 _ (0,0) _ rfl (cY _ _ _ _ _ _ HX2.o) Tryz.underlying31 rfl iq) rfl ?_;exact⟨r,rfl,HP.o.row HX2.o (by decide) (by decide) _,HG.o,((But.ofBelow (S:=λk=>k=w.heap.size) HB.o).trans (Q.iK _ _ _) (λ_ _ e=>e)).below (λk hk e=>by omega)⟩
 . simp only[if_neg h1];rw[ax h1] at TH;clear h1 CO;go_enter Tryz.func44,Tryz.ntmps44;go_wp2_with fail
   refine TH.o.mono ?_;rintro _ wq ⟨rfl,hwq⟩;obtain rfl:=hwq.symm;clear hwq;go_wp2_with (first|(refine cu rfl 31 _ _ rfl w.heap.size _ rfl rfl 31 _ HX.o iq rfl (by simp[Value.oneCell']) ?_)|fail)
   refine bU (v:=.tuple #[.agg _,_]) (iJ Tryz.results44 _ _ w.heap.size 31 _ (0,0) _ rfl (cY _ _ _ _ _ _ HX.o) Tryz.underlying31 rfl iq) rfl ?_;exact⟨Pv.zero,rfl,Pn.zero _ _,rfl,((But.ofBelow (S:=λk=>k=w.heap.size) AB.o).trans (Q.iK _ _ _) (λ_ _ e=>e)).below (λk hk e=>by omega)⟩
theorem iG{v:World}{a:Option Addr}(h:New v none a){x:Addr}(hx:a=some x):v.heap.size<=x.block:=by
 rcases h x hx with⟨y,hy,_⟩|h2
 . cases hy
 . exact h2
theorem Pn.pz{q:Pv}(h:Pn w w' q)(hl:q.items.length<=2199023255489):Pz (λk=>ip col w w' 6 k=6) w' q:=λv hv=>by
 have pj:∀{a:Option Addr}{c:Nat}{L:List Iv},Jw w' a c L->New w none a->∀x,a=some x->¬ ¬(ip col w w' 6 x.block=6):=λhj hn x hx e=>e (jF (iG hn hx) (hj.lt hx))
 have pr:∀{a:Option Addr}{c:Nat}{l:List Nat},Rw w' a c l->New w none a->∀x,a=some x->¬ ¬(ip col w w' 6 x.block=6):=λhr hn x hx e=>e (jF (iG hn hx) (hr.lt hx))
 exact Pn.pi (v:=w) ⟨h.it.but hv (pj h.it h.itn),h.itn,h.d.but hv (pr h.d h.dn),h.dn,λt ht=>⟨(h.fr t ht).1.but hv (pr (h.fr t ht).1 (h.fr t ht).2.1),(h.fr t ht).2⟩,h.dist,h.d8,h.ns,h.nk,h.nl,h.nn⟩ hl
theorem Vx.page{b:Nat}{fl:Nat}{D:Vd}{pc:Nat->Nat}(h:Vx w b X fl D pc col)(hb:Below w.heap.size w w'):Vx w' b X fl D pc (ip col w w' 6)/\Vf w col w' (ip col w w' 6):=by
 obtain⟨ac,cc,h⟩:=h;have k:=h.keep hb;have old:∀{k:Nat},col k≠0->ip col w w' 6 k=col k:=λhk=>iR (h.lt _ hk)
 have cont:∀{p:Pv},Pz (λk=>col k=6) w' p->Pz (λk=>ip col w w' 6 k=6) w' p:=λhz=>hz.mono (λk hk e=>by rw[old (by omega)];exact e)
 exact⟨⟨ac,cc,k.box,k.mp,k.chr,k.acr,k.pool,λn p hp=>cont (k.fz n p hp),λx hx=>cont (k.cz x hx),(old (by rw[h.cb];decide)).trans h.cb,(old (by rw[h.cm];decide)).trans h.cm,λx hx=>(old (by rw[h.cc x hx];decide)).trans (h.cc x hx),λx hx=>(old (by rw[h.ca x hx];decide)).trans (h.ca x hx),λn hn=>(old (by rw[h.cp n hn];decide)).trans (h.cp n hn),λn hn=>ke hb.size hn⟩,But.ofBelow hb,λn hn=>iR hn⟩
def Vs.writeE(S:Vs)(z:Int)(p:Pg):Int:=if (decide (S.X.P.state z=3)&&decide (S.X.P.count z=1))=true then (p.check:Int) else 15
theorem zm(w:World)(b:Nat)(S:Vs)(pb mb:Nat)(pc col:Nat->Nat)(h:Vw w b S pb mb pc col)(z:Int)(p:Pv)(hP:Pi w p)(hs:Sml p)(hil:p.items.length<=2199023255489)(hm:S.X.P.mark<=9223372036854775807)(hc:S.X.ch.length+1<=1759218604441)(hl:S.al.length+1<=8796093022208):
 Calls Tryz.prog 93 #[.pointer (some ⟨b,0,none⟩),.int .i64 z,p.vl] w λx w'=>∃q:Pv,x=.returned (.int .i64 (S.writeE z p.pg))/\q.pg=p.pg/\∃pc' col',Vw w' b (if S.writeE z p.pg=0 then S.done 0 (S.X.lay z q) else S) pb mb pc' col'/\Vf w col w' col':=by
 have aB:=al w (.cells p.cs 31);have HX:=ig (az w (.cells p.cs 31));have OW:=ig (yj _ b S pb mb pc col (h.keep aB) z);have CK:=ig λ(W:World)(hb:Below w.heap.size w W)=>rY W p (hP.keep hb)
 have HE:=ig λ(W:World)(hb:Below w.heap.size w W)=>lj W b S pb mb pc col (h.keep hb) hm
 have CP:=ig λ(W:World)(hb:Below w.heap.size w W)=>kz W p (hP.keep hb) hs.1 hs.2
 have LQ:=ig (show ∀q:Pv,q.pg=p.pg->q.items.length<=2199023255489 from λq hq=>by
  have:=aY (λg:Pg=>g.items.length) hq
  simp only[Pv.pg,a7] at this;omega)
 obtain⟨aa,ca,hx⟩:=h.vx;have LY:=ig λ(W:World)(col':Nat->Nat)(q:Pv)(hv:Vx W b S.X S.fl (vd0 pb mb aa ca S.al) pc col')(hq:Pz (λk=>col' k=6) W q)=>tF W b S.X S.fl (vd0 pb mb aa ca S.al) pc col' hv z q hq hc
 have EN:=ig λ(W:World)(pc' col':Nat->Nat)(q:Pv)(hv:Vx W b (S.X.lay z q) S.fl (vd0 pb mb aa ca S.al) pc' col')=>lD W b S (S.X.lay z q) pb mb aa ca pc' col' hv 0 (by show S.X.ch.length<=(S.X.ch++[_]).length;rw[ae];omega) hm hl
 have HV:=ig h;have HVX:=ig hx;have AB:=ig aB;unfold Vs.writeE;obtain⟨o,ho⟩:∃o,(decide (S.X.P.state z=3)&&decide (S.X.P.count z=1))=o:=⟨_,rfl⟩;rw[ho] at OW ⊢;obtain⟨ce,hce⟩:∃ce,p.pg.check=ce:=⟨_,rfl⟩;rw[hce] at CK ⊢;obtain⟨pg,hpg⟩:∃pg,p.pg=pg:=⟨_,rfl⟩;rw[hpg] at LQ CP ⊢;obtain⟨mk,hmk⟩:∃mk,S.X.P.mark=mk:=⟨_,rfl⟩;obtain⟨cl,hcl⟩:∃cl,S.X.ch.length=cl:=⟨_,rfl⟩;simp only[hmk,hcl] at HE EN;have HPG:=ig hpg;clear h hx aB hP hs hil hm hc hl ho hce hpg hmk hcl;obtain⟨kp,lp,aIp,cIp,itp,aDp,cDp,dap,nxp⟩:=p;unfold Pv.vl at CK CP ⊢;simp only[Pv.cs] at CK HX OW AB CP ⊢;cases o with
 |false=>
  simp only[Bool.false_eq_true,if_false];go_enter Tryz.func93,Tryz.ntmps93;go_wp2_with fail
  refine OW.o.mono ?_;rintro _ w1 ⟨rfl,hb⟩;have V1:=ig (HV.o.keep (bt AB.o hb));have F1:=ig (Vf.keep (c:=col) (bt AB.o hb));clear hb OW;go_wp2;go_ret;exact⟨rfl,⟨_,HPG.o⟩,_,_,V1.o,F1.o⟩
 |true=>
  simp only[if_true];by_cases h0:ce=0
  . subst h0;go_enter Tryz.func93,Tryz.ntmps93;go_wp2_with fail
    refine OW.o.mono ?_;rintro _ w1 ⟨rfl,hb⟩;have X1:=ig ((hb.block w.heap.size (af.1 HX.o).1).trans HX.o);have B1:=ig (bt AB.o hb);obtain⟨x0,x1,x2,x3,x4⟩:=iv X1.o;clear hb OW;go_wp2_with fail
    refine(CK.o _ B1.o).mono ?_;rintro _ w2 ⟨rfl,hb⟩;have X2:=ig ((hb.block w.heap.size (af.1 X1.o).1).trans X1.o);have B2:=ig (bt B1.o hb);clear hb CK x0 x1 x2 x3 x4;go_wp2_with fail
    refine(HE.o _ B2.o).mono ?_;rintro _ w3 ⟨rfl,hb⟩;have a3:=al w3 (.cells #[.int .i64 ((mk:Nat):Int),.int .i64 ((cl:Nat):Int)] 137);have B3:=ig (bt (bt B2.o hb) a3);have T3:=ig (az w3 (.cells #[.int .i64 ((mk:Nat):Int),.int .i64 ((cl:Nat):Int)] 137));have X3:=ig (((bt hb a3).block w.heap.size (af.1 X2.o).1).trans X2.o);have Z3:Hid (col w3.heap.size=0):=HV.o.z (bt B2.o hb).size;obtain⟨x0,x1,x2,x3,x4⟩:=iv X3.o;clear hb HE a3;go_wp2_with fail
    refine(CP.o _ B3.o).mono ?_;rintro _ w4 ⟨q,rfl,hPn,hq,hb⟩;have Q4:=ig hq;obtain⟨v4,f4⟩:=(HVX.o.keep B3.o).page hb;have PZ4:=ig (hPn.pz (col:=col) (LQ.o q hq));have LY4:=ig (LY.o _ _ q v4 PZ4.o);have F4:=ig ((Vf.keep B3.o).trans f4);have T4:=ig ((hb.block w3.heap.size (af.1 T3.o).1).trans T3.o);have Z4:=ig ((f4.c w3.heap.size (af.1 T3.o).1).trans Z3.o);clear hPn hq hb v4 f4 x0 x1 x2 x3 x4 CP LY;generalize ip col _ w4 6=col4 at *;obtain⟨kq,lq,aIq,cIq,itq,aDq,cDq,daq,nxq⟩:=q;unfold Pv.vl at LY4;simp only[Pv.cs] at LY4;go_wp2_with fail
    refine LY4.o.mono ?_;rintro _ w5 ⟨rfl,pc5,col5,v5,f5⟩;have V5:=ig v5;have F5:=ig (F4.o.trans f5);obtain⟨y0,y1⟩:=iz (f5.b.same T4.o (λe=>by rw[Z4.o] at e;omega))
    clear v5 f5 LY4;go_wp2_with fail
    refine(EN.o _ _ _ _ V5.o).mono ?_;rintro _ w6 ⟨rfl,pc6,col6,v6,f6⟩;have V6:=ig v6;have F6:=ig (F5.o.trans f6);clear v6 f6 y0 y1;go_wp2;go_ret;exact⟨rfl,_,Q4.o,_,_,V6.o,F6.o⟩
  . have e0:((ce:Nat):Int)≠0:=by omega
    have e1:(((ce:Nat):Int)==0)=false:=by simp;omega
    have e2:(ce==0)=false:=by simp;omega
    simp only[if_neg e0];go_enter Tryz.func93,Tryz.ntmps93;go_wp2_with fail
    refine OW.o.mono ?_;rintro _ w1 ⟨rfl,hb⟩;have X1:=ig ((hb.block w.heap.size (af.1 HX.o).1).trans HX.o);have B1:=ig (bt AB.o hb);obtain⟨x0,x1,x2,x3,x4⟩:=iv X1.o;clear hb OW;go_wp2_with fail
    refine(CK.o _ B1.o).mono ?_;rintro _ w2 ⟨rfl,hb⟩;have V1:=ig (HV.o.keep (bt B1.o hb));have F1:=ig (Vf.keep (c:=col) (bt B1.o hb));clear hb CK x0 x1 x2 x3 x4;go_wp2;go_ret;first|exact⟨rfl,⟨_,HPG.o⟩,_,_,V1.o,F1.o⟩|exact⟨_,rfl,HPG.o,_,_,V1.o,F1.o⟩
def Pf(col:Nat->Nat)(w:World)(p:Pv):Prop:=Pz (λk=>¬(1<=col k/\col k<=5)) w p
theorem Pf.vf{W:World}{col':Nat->Nat}{p:Pv}(h:Pf col w p)(hf:Vf w col W col'):Pi W p:=h W (hf.b.mono λk _ e hn=>hn e)
def Vm.allocd(X:Vm):Vm:=⟨X.P.alloc.2,X.f,X.ch⟩
def Vs.makeR(S:Vs)(p:Pg):Int×Int:=if p.check=0 then S.X.P.alloc.1 else (0,(p.check:Int))
def Vs.makeS(S:Vs)(p:Pg)(q:Pv):Vs:=if p.check=0 then S.done S.X.P.alloc.1.2 (if S.X.P.alloc.1.2=0 then S.X.allocd.lay S.X.P.alloc.1.1 q else S.X.allocd) else S
theorem Bz(w:World)(b:Nat)(S:Vs)(pb mb:Nat)(pc col:Nat->Nat)(h:Vw w b S pb mb pc col)(p:Pv)(hP:Pf col w p)(hs:Sml p)(hil:p.items.length<=2199023255489)(hm:S.X.P.mark+1<=17592186044416)(hc:S.X.ch.length+1<=1759218604441)(hl:S.al.length+1<=8796093022208):
 Calls Tryz.prog 73 #[.pointer (some ⟨b,0,none⟩),p.vl] w λx w'=>∃q:Pv,q.pg=p.pg/\x=.returned (.tuple #[.int .i64 (S.makeR p.pg).1,.int .i64 (S.makeR p.pg).2])/\∃pc' col',Vw w' b (S.makeS p.pg q) pb mb pc' col'/\Vf w col w' col':=by
 have aB:=al w (.cells p.cs 31);have HX:=ig (az w (.cells p.cs 31));have CK:=ig (rY _ p (hP.pi.keep aB));have HE:=ig λ(W:World)(hb:Below w.heap.size w W)=>lj W b S pb mb pc col (h.keep hb) (by omega)
 have CP:=ig λ(W:World)(col':Nat->Nat)(hf:Vf w col W col')=>kz W p (hP.vf hf) hs.1 hs.2
 have LQ:=ig (show ∀q:Pv,q.pg=p.pg->q.items.length<=2199023255489 from λq hq=>by
  have:=aY (λg:Pg=>g.items.length) hq
  simp only[Pv.pg,a7] at this;omega)
 obtain⟨aa,ca,hx⟩:=h.vx;have hac:S.X.P.ac.length+1<=17592186044416:=by unfold Q.Po.mark at hm;omega
 have AL:=ig λ(W:World)(hb:Below w.heap.size w W)=>(show Calls Tryz.prog 130 #[.pointer (some ⟨pb,0,none⟩)] W λe w'=>e=.returned (.tuple #[.int .i64 S.X.P.alloc.1.1,.int .i64 S.X.P.alloc.1.2])/\∃pc' col',Vx w' b S.X.allocd S.fl (vd0 pb mb aa ca S.al) pc' col'/\Vf W col w' col' from tE W b S.X S.fl (vd0 pb mb aa ca S.al) pc col (hx.keep hb) hac)
 have hma:S.X.allocd.P.mark<=9223372036854775807:=(Pe.alloc S.X.P).mark_le (by have:=pZ S.X.P;unfold Q.Po.mark at hm;omega)
 have LY:=ig λ(W:World)(pc' col':Nat->Nat)(s:Int)(q:Pv)(hv:Vx W b S.X.allocd S.fl (vd0 pb mb aa ca S.al) pc' col')(hq:Pz (λk=>col' k=6) W q)=>tF W b S.X.allocd S.fl (vd0 pb mb aa ca S.al) pc' col' hv s q hq hc
 have EN:=ig λ(W:World)(pc' col':Nat->Nat)(s e:Int)(q:Pv)(hv:Vx W b (S.X.allocd.lay s q) S.fl (vd0 pb mb aa ca S.al) pc' col')=>lD W b S (S.X.allocd.lay s q) pb mb aa ca pc' col' hv e (by show S.X.ch.length<=(S.X.ch++[_]).length;rw[ae];omega) hma hl
 have EO:=ig λ(W:World)(pc' col':Nat->Nat)(e:Int)(hv:Vx W b S.X.allocd S.fl (vd0 pb mb aa ca S.al) pc' col')=>lD W b S S.X.allocd pb mb aa ca pc' col' hv e (ai _) hma hl
 have HV:=ig h;have HVX:=ig hx;have AB:=ig aB;unfold Vs.makeR Vs.makeS;obtain⟨ce,hce⟩:∃ce,p.pg.check=ce:=⟨_,rfl⟩;rw[hce] at CK ⊢;obtain⟨pg,hpg⟩:∃pg,p.pg=pg:=⟨_,rfl⟩;rw[hpg] at LQ CP ⊢;obtain⟨mk,hmk⟩:∃mk,S.X.P.mark=mk:=⟨_,rfl⟩;obtain⟨cl,hcl⟩:∃cl,S.X.ch.length=cl:=⟨_,rfl⟩;simp only[hmk,hcl] at HE EN EO;obtain⟨X1,hX1⟩:∃X1,S.X.allocd=X1:=⟨_,rfl⟩;rw[hX1] at AL ⊢;simp only[hX1] at LY EN EO;obtain⟨r,hr⟩:∃r,S.X.P.alloc.1=r:=⟨_,rfl⟩;rw[hr] at AL ⊢;obtain⟨s,e⟩:=r;simp only at AL ⊢;have HPG:=ig hpg;have c0:=h.c0;have hbl:=hx.lb;clear h hx aB hP hs hil hm hc hl hce hpg hmk hcl hX1 hr hac hma;obtain⟨kp,lp,aIp,cIp,itp,aDp,cDp,dap,nxp⟩:=p;unfold Pv.vl at CK CP ⊢;simp only[Pv.cs] at CK HX AB CP ⊢;by_cases h0:ce=0
 . subst h0;simp only[if_pos];by_cases he:e=0
   . subst he;simp only[if_pos];obtain⟨x0,x1,x2,x3,x4⟩:=iv HX.o;go_enter Tryz.func73,Tryz.ntmps73;go_wp2_with fail
     refine CK.o.mono ?_;rintro _ w2 ⟨rfl,hb⟩;have X2:=ig ((hb.block w.heap.size (af.1 HX.o).1).trans HX.o);have B2:=ig (bt AB.o hb);clear hb CK x0 x1 x2 x3 x4;go_wp2_with fail
     refine(HE.o _ B2.o).mono ?_;rintro _ w3 ⟨rfl,hb⟩;have a3:=al w3 (.cells #[.int .i64 ((mk:Nat):Int),.int .i64 ((cl:Nat):Int)] 137);have B3:=ig (bt (bt B2.o hb) a3);have T3:=ig (az w3 (.cells #[.int .i64 ((mk:Nat):Int),.int .i64 ((cl:Nat):Int)] 137));have X3:=ig (((bt hb a3).block w.heap.size (af.1 X2.o).1).trans X2.o);have Z3:Hid (col w3.heap.size=0):=HV.o.z (bt B2.o hb).size;have Y3:Hid (col w.heap.size=0):=HV.o.z (ai _);have c3:=(HV.o.keep (bt B2.o hb)).c0;have hb3:b<w3.heap.size:=aZ hbl (bt B2.o hb).size;clear hb HE a3;go_wp2_with fail
     refine(AL.o _ B3.o).mono ?_;rintro _ w4 ⟨rfl,pc4,col4,v4,f4⟩;have V4:=ig v4;have F4:=ig ((Vf.keep B3.o).trans f4);have T4:=ig (f4.b.same T3.o (λe=>by rw[Z3.o] at e;omega))
     have Z4:=ig ((f4.c w3.heap.size (af.1 T3.o).1).trans Z3.o);obtain⟨x0,x1,x2,x3,x4⟩:=iv (f4.b.same X3.o (λe=>by rw[Y3.o] at e;omega))
     clear v4 f4 AL c3;go_wp2_with fail
     refine(CP.o _ _ F4.o).mono ?_;rintro _ w5 ⟨q,rfl,hPn,hq,hb⟩;have Q5:=ig hq;obtain⟨v5,f5⟩:=V4.o.page hb;have LY5:=ig (LY.o _ _ _ s q v5 (hPn.pz (col:=col4) (LQ.o q hq)));have F5:=ig (F4.o.trans f5);have T5:=ig ((hb.block w3.heap.size (af.1 T4.o).1).trans T4.o);have Z5:=ig ((f5.c w3.heap.size (af.1 T4.o).1).trans Z4.o);clear hPn hq hb v5 f5 x0 x1 x2 x3 x4 CP LY;generalize ip col4 _ w5 6=col5 at *;obtain⟨kq,lq,aIq,cIq,itq,aDq,cDq,daq,nxq⟩:=q;unfold Pv.vl at LY5;simp only[Pv.cs] at LY5;go_wp2_with fail
     refine LY5.o.mono ?_;rintro _ w6 ⟨rfl,pc6,col6,v6,f6⟩;have V6:=ig v6;have F6:=ig (F5.o.trans f6);obtain⟨y0,y1⟩:=iz (f6.b.same T5.o (λe=>by rw[Z5.o] at e;omega))
     clear v6 f6 LY5;go_wp2_with fail
     refine(EN.o _ _ _ _ _ _ V6.o).mono ?_;rintro _ w7 ⟨rfl,pc7,col7,v7,f7⟩;have V7:=ig v7;have F7:=ig (F6.o.trans f7);clear v7 f7 y0 y1;go_wp2;go_ret2
     first|exact⟨_,Q5.o,rfl,_,_,V7.o,F7.o⟩|exact⟨rfl,_,Q5.o,_,_,V7.o,F7.o⟩
   . have e1:(e==0)=false:=by simp[he]
     simp only[if_neg he];obtain⟨x0,x1,x2,x3,x4⟩:=iv HX.o;go_enter Tryz.func73,Tryz.ntmps73;go_wp2_with fail
     refine CK.o.mono ?_;rintro _ w2 ⟨rfl,hb⟩;have X2:=ig ((hb.block w.heap.size (af.1 HX.o).1).trans HX.o);have B2:=ig (bt AB.o hb);clear hb CK x0 x1 x2 x3 x4;go_wp2_with fail
     refine(HE.o _ B2.o).mono ?_;rintro _ w3 ⟨rfl,hb⟩;have a3:=al w3 (.cells #[.int .i64 ((mk:Nat):Int),.int .i64 ((cl:Nat):Int)] 137);have B3:=ig (bt (bt B2.o hb) a3);have T3:=ig (az w3 (.cells #[.int .i64 ((mk:Nat):Int),.int .i64 ((cl:Nat):Int)] 137));have X3:=ig (((bt hb a3).block w.heap.size (af.1 X2.o).1).trans X2.o);have Z3:Hid (col w3.heap.size=0):=HV.o.z (bt B2.o hb).size;have Y3:Hid (col w.heap.size=0):=HV.o.z (ai _);have c3:=(HV.o.keep (bt B2.o hb)).c0;have hb3:b<w3.heap.size:=aZ hbl (bt B2.o hb).size;clear hb HE a3;go_wp2_with fail
     refine(AL.o _ B3.o).mono ?_;rintro _ w4 ⟨rfl,pc4,col4,v4,f4⟩;have V4:=ig v4;have F4:=ig ((Vf.keep B3.o).trans f4);have T4:=ig (f4.b.same T3.o (λe=>by rw[Z3.o] at e;omega))
     have Z4:=ig ((f4.c w3.heap.size (af.1 T3.o).1).trans Z3.o);obtain⟨x0,x1,x2,x3,x4⟩:=iv (f4.b.same X3.o (λe=>by rw[Y3.o] at e;omega))
     clear v4 f4 AL c3;obtain⟨y0,y1⟩:=iz T4.o;go_wp2_with fail
     refine(EO.o _ _ _ _ V4.o).mono ?_;rintro _ w7 ⟨rfl,pc7,col7,v7,f7⟩;have V7:=ig v7;have F7:=ig (F4.o.trans f7);clear v7 f7 y0 y1 x0 x1 x2 x3 x4;go_wp2;go_ret2
     first|exact⟨_,HPG.o,rfl,_,_,V7.o,F7.o⟩|exact⟨⟨_,HPG.o⟩,rfl,_,_,V7.o,F7.o⟩|exact⟨rfl,⟨_,HPG.o⟩,_,_,V7.o,F7.o⟩
 . have e0:((ce:Nat):Int)≠0:=by omega
   have e1:(((ce:Nat):Int)==0)=false:=by simp;omega
   have e2:(ce==0)=false:=by simp;omega
   simp only[if_neg h0];obtain⟨x0,x1,x2,x3,x4⟩:=iv HX.o;go_enter Tryz.func73,Tryz.ntmps73;go_wp2_with fail
   refine CK.o.mono ?_;rintro _ w2 ⟨rfl,hb⟩;have V1:=ig (HV.o.keep (bt AB.o hb));have F1:=ig (Vf.keep (c:=col) (bt AB.o hb));clear hb CK x0 x1 x2 x3 x4;go_wp2;go_ret2
   first|exact⟨_,HPG.o,rfl,_,_,V1.o,F1.o⟩|exact⟨⟨_,HPG.o⟩,rfl,_,_,V1.o,F1.o⟩|exact⟨rfl,⟨_,HPG.o⟩,_,_,V1.o,F1.o⟩
end Go.Proofs.YtbdkogimlbnlmaaGreat
