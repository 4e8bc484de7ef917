import Derived.Test.YtbdkogimlbnlmaaGreatWlB12
set_option linter.all false
set_option maxHeartbeats 8000000
set_option maxRecDepth 8000
namespace Go.Proofs.YtbdkogimlbnlmaaGreat
open Tryz
open Go.RowKit
variable {z:Int}{b g:Nat}{col pc:Nat->Nat}{P P':Q.Po}{X X':Vm}{W w w':World}
theorem FQ(w:World)(a:Option Addr)(c:Nat):(Builtin.append_ #[28,28] 28 #[.slice none 0 0,.slice a 0 c]).run prog w=.ok (.slice none 0 0) w:=by
 obtain⟨e,d,f,h,i⟩:=dr mD;cases a<;>simp[Builtin.append_,dt underlying28,Builtin.lenOf,sizeOf,typeInfo,d,Builtin.firstCells,loadCells,loadCellsFrom]
theorem xf(w:World)(p:Pv)(C:Pi w p)(h0:p.items=[])(hd:p.data.length<=140737488355264):
 Calls prog 107 #[p.vl] w λe w'=>∃q:Pv,e=.returned q.vl/\Pn w w' q/\q.pg=p.pg/\Below w.heap.size w w':=by
 obtain⟨f,j,n,s,ak,m,r,d,next⟩:=p
 simp only at h0;subst h0;unfold Pv.vl;simp only[Pv.cs] at *;have Y:=al w (.cells (pgC f j n 0 s m d.length r next) 31)
 have H:=bt Y (al (w.alloc (.cells (pgC f j n 0 s m d.length r next) 31)) (.cells (pgC 0 0 none 0 0 none 0 0 0) 31))
 have R:((w.alloc (.cells (pgC f j n 0 s m d.length r next) 31)).alloc (.cells (pgC 0 0 none 0 0 none 0 0 0) 31)).heap.size=w.heap.size+2:=by rw[size_alloc,size_alloc]
 have D:((w.alloc (.cells (pgC f j n 0 s m d.length r next) 31)).alloc (.cells (pgC 0 0 none 0 0 none 0 0 0) 31)).heap[w.heap.size]?=some (.cells (pgC f j n 0 s m d.length r next) 31 (0,0)):=((al (w.alloc (.cells (pgC f j n 0 s m d.length r next) 31)) (.cells (pgC 0 0 none 0 0 none 0 0 0) 31)).block w.heap.size (by rw[size_alloc];omega)).trans (aF w _)
 have K:((w.alloc (.cells (pgC f j n 0 s m d.length r next) 31)).alloc (.cells (pgC 0 0 none 0 0 none 0 0 0) 31)).heap[w.heap.size+1]?=some (.cells (pgC 0 0 none 0 0 none 0 0 0) 31 (0,0)):=by
  have k:=aF (w.alloc (.cells (pgC f j n 0 s m d.length r next) 31)) (.cells (pgC 0 0 none 0 0 none 0 0 0) 31)
  rwa [size_alloc] at k
 obtain⟨t,I⟩:∃t,((w.alloc (.cells (pgC f j n 0 s m d.length r next) 31)).alloc (.cells (pgC 0 0 none 0 0 none 0 0 0) 31))=t:=⟨_,rfl⟩
 have ab:Hid ((Builtin.append_ #[28,28] 28 #[.slice none 0 0,.slice n 0 s]).run prog ((w.alloc (.cells (pgC f j n 0 s m d.length r next) 31)).alloc (.cells (pgC 0 0 none 0 0 none 0 0 0) 31))=.ok (.slice none 0 0) t):=by
  show _=_;rw[<-I];exact FQ _ n s
 rw[I] at H R D K;have cS:t.cell? ⟨w.heap.size,2,none⟩=some (.slice n 0 s):=by rw[ay _ _ _ _ _ _ D];rfl
 have fS:t.frozen? ⟨w.heap.size,2,none⟩=false:=by simp[World.frozen?,D]
 have ad:=aY t w.heap.size 2 _ 31 (.slice none 0 0) D;have ae:(t.setCell ⟨w.heap.size,2,none⟩ (.slice none 0 0)).heap[w.heap.size+1]?=_:=(Below.heap_setCell _ _ _ _ (show w.heap.size+1≠w.heap.size by omega)).trans K
 have L:But (λk=>k=w.heap.size) t (t.setCell ⟨w.heap.size,2,none⟩ (.slice none 0 0)):=(But.refl (λk=>k=w.heap.size) t).setCell (p:=⟨w.heap.size,2,none⟩) (λ_=>rfl) _
 have B3:Hid (Below w.heap.size w (t.setCell ⟨w.heap.size,2,none⟩ (.slice none 0 0))):=((But.ofBelow (S:=λk=>k=w.heap.size) H).trans L (λ_ _ e=>e)).below (λk hk e=>by omega)
 have X3:Hid ((t.setCell ⟨w.heap.size,2,none⟩ (.slice none 0 0)).heap[w.heap.size]?=some (.cells (pgC f j none 0 0 m d.length r next) 31 (0,0))):=ad
 have Y3:=iJ ae;have CD:=iJ λ(W:World)(hb:Below w.heap.size w W)=>mK W m r d (C.bd.keep hb) (aO hd (by decide))
 have O:=iJ C.bd.1;have G:=iJ (And.intro C.nk (And.intro C.nl C.nn));simp only at O G;unfold pgC at *;clear C hd Y H R D K ad ae L I;go_enter func107,ntmps107;go_wp2_with (at_builtin;refine pZ rfl _ _ rfl (.slice none 0 0) (.slice n 0 s) _ rfl rfl ab.o ?_)
 clear ab cS fS;generalize t.setCell ⟨w.heap.size,2,none⟩ (.slice none 0 0)=w3 at *;go_loopw [12] (λi wr=>i=.int .i64 0/\Below w.heap.size w wr/\wr.heap[w.heap.size]?=some (.cells #[.int .i64 f,.int .i64 j,.slice none 0 0,.slice m d.length r,.int .i64 next] 31 (0,0))/\wr.heap[w.heap.size+1]?=some (.cells #[.int .i64 0,.int .i64 0,.slice none 0 0,.slice none 0 0,.int .i64 0] 31 (0,0))) (λi _=>0)
 case atStart=>exact⟨rfl,B3.o,X3.o,Y3.o⟩
 case round=>
  obtain⟨rfl,hb,J,ag⟩:=hrel;have N:=iJ hb;have T:=iJ J;have V:=iJ ag;have ai:=iJ (CD.o wr hb);obtain⟨x0,x1,x2,x3,x4⟩:=iS J;clear J ag hb;go_wp2_with fail
  refine ai.o.mono ?_;rintro _ y ⟨A,c4,rfl,B⟩;have Z:=bt N.o B.b;have l:w.heap.size<wr.heap.size:=(af.1 T.o).1;have ac:w.heap.size+1<wr.heap.size:=(af.1 V.o).1;have E:=(B.b.block w.heap.size l).trans T.o;have M:=(B.b.block (w.heap.size+1) ac).trans V.o;have cS:y.cell? ⟨w.heap.size,3,none⟩=some (.slice m d.length r):=(iS E).2.2.2.1;have fS:y.frozen? ⟨w.heap.size,3,none⟩=false:=by simp[World.frozen?,E]
  have x5:=aY y w.heap.size 3 _ 31 (.slice A d.length c4) E;have U:Hid ((y.setCell ⟨w.heap.size,3,none⟩ (.slice A d.length c4)).heap[w.heap.size+1]?=some (.cells #[.int .i64 0,.int .i64 0,.slice none 0 0,.slice none 0 0,.int .i64 0] 31 (0,0))):=(Below.heap_setCell _ _ _ _ (show w.heap.size+1≠w.heap.size by omega)).trans M
  obtain⟨q0,q1,q2,q3,q4⟩:=iS (show(y.setCell ⟨w.heap.size,3,none⟩ (.slice A d.length c4)).heap[w.heap.size]?=some (.cells #[.int .i64 f,.int .i64 j,.slice none 0 0,.slice A d.length c4,.int .i64 next] 31 (0,0)) from x5)
  have aa:=iJ λ(cs:Array Value)=>(show Pn w ((y.setCell ⟨w.heap.size,3,none⟩ (.slice A d.length c4)).setRow (w.heap.size+1) cs) ⟨f,j,none,0,[],A,c4,d,next⟩/\Below w.heap.size w ((y.setCell ⟨w.heap.size,3,none⟩ (.slice A d.length c4)).setRow (w.heap.size+1) cs) from by
   have hB:But (λk=>k=w.heap.size\/k=w.heap.size+1) y ((y.setCell ⟨w.heap.size,3,none⟩ (.slice A d.length c4)).setRow (w.heap.size+1) cs):=((But.refl (λk=>k=w.heap.size\/k=w.heap.size+1) y).setCell (p:=⟨w.heap.size,3,none⟩) (λ_=>.inl rfl) _).trans (Q.jg _ _ _) (λk _ e=>.inr e)
   have nt:∀{a:Option Addr}{c:Nat}{ah:List Nat},Rw y a c ah->∀x,a=some x->¬(x.block=w.heap.size\/x.block=w.heap.size+1):=λhr x hx e=>by
    rcases e with e|e
    . exact hr.nty (show Bx y 31 w.heap.size _ from E) (by decide) hx e
    . exact hr.nty (show Bx y 31 (w.heap.size+1) _ from M) (by decide) hx e
   have aj:=N.o.size;refine⟨⟨Jw.nil _,New.none _ _,B.r.but hB (nt B.r),B.n.mono aj,(λ_ h=>by cases h),dy _ _,O.o,(λ_ h=>by cases h),G.o.1,G.o.2.1,G.o.2.2⟩,?_⟩
   exact((But.ofBelow (S:=λk=>k=w.heap.size\/k=w.heap.size+1) Z).trans hB (λ_ _ e=>e)).below (λk hk e=>by omega))
  clear Z E M x5 B l ac x0 x1 x2 x3 x4;go_wp2_with (first|(refine cE rfl 31 _ _ rfl (w.heap.size+1) _ rfl rfl 31 _ U.o iP rfl (by simp[Value.oneCell']) ?_)|fail)
  refine bZ (v:=.agg _) (fH results107 _ _ (w.heap.size+1) 31 _ (0,0) _ rfl (dc _ _ _ _ _ _ U.o) underlying31 rfl iP) rfl ?_;refine⟨⟨f,j,none,0,[],A,c4,d,next⟩,rfl,(aa.o _).1,rfl,(aa.o _).2⟩
theorem kH(w:World)(p:Pv)(d:Pi w p)(f:p.data.length<=140737488355264)(i:∀x∈p.items,x.key.length<=140737488355264/\x.val.length<=140737488355264):
 Calls prog 107 #[p.vl] w λe w'=>∃q:Pv,e=.returned q.vl/\Pn w w' q/\q.pg=p.pg/\Below w.heap.size w w':=by
 by_cases h:p.items=[]
 . exact xf w p d h f
 . exact wU w p d (bR.2 h) f i
structure Pe(P P':Q.Po):Prop where
 fl:P'.fl=P.fl
 ex:∃j,P'.mark=P.mark+j/\Q.Po.back j P'=P
theorem Pe.refl(P:Q.Po):Pe P P:=⟨rfl,0,rfl,rfl⟩
theorem qa{P:Q.Po}(h:P.ac.getLast?=none):∀i,Q.Po.back i P=P
 |0=>rfl
 |i+1=>by unfold Q.Po.back;rw[h]
theorem vL(i:Nat):∀(j:Nat)(P:Q.Po),Q.Po.back (i+j) P=Q.Po.back i (Q.Po.back j P)
 |0,P=>rfl
 |j+1,P=>by
  cases h:P.ac.getLast? with
  |none=>rw[qa h,qa h,qa h]
  |some a=>
   have e1:Q.Po.back (i+(j+1)) P=Q.Po.back (i+j) {P with pg:=P.pg.set (a.1-1) a.2,ac:=P.ac.dropLast}:=by
    show Q.Po.back ((i+j)+1) P=_;rw[Q.Po.back];rw[h]
   have d:Q.Po.back (j+1) P=Q.Po.back j {P with pg:=P.pg.set (a.1-1) a.2,ac:=P.ac.dropLast}:=by rw[Q.Po.back];rw[h]
   rw[e1,d];exact vL i j _
theorem Pe.trans{d P2:Q.Po}(h:Pe P d)(k:Pe d P2):Pe P P2:=by
 obtain⟨i,l,n,e⟩:=h;obtain⟨j,m,p,f⟩:=k;exact⟨j.trans i,l+m,by omega,by rw[vL,f,e]⟩
theorem Pe.act{n:Nat}(d:1<=n)(e:n<=P.pg.length)(c:Int):Pe P (P.act n c):=⟨rfl,1,by simp[Q.Po.act,Q.Po.mark];omega,Q.Po.back_act d e c 0⟩
theorem Pe.dec(P:Q.Po)(z:Int):Pe P (P.dec z).2:=by
 unfold Q.Po.dec;split
 . exact Pe.refl P
 . rename_i d;obtain⟨e,f⟩:=Q.Po.count_has d;exact Pe.act (by omega) (by omega) _
theorem Pe.inc(P:Q.Po)(z:Int):Pe P (P.inc z).2:=by
 unfold Q.Po.inc;split
 . exact Pe.refl P
 . rename_i d;obtain⟨e,f⟩:=Q.Po.count_has d;split
   . exact Pe.refl P
   . exact Pe.act (by omega) (by omega) _
theorem Pe.alloc(P:Q.Po):Pe P P.alloc.2:=by
 unfold Q.Po.alloc;split
 . exact Pe.refl P
 . rename_i n L d;have k:=Q.kd.1 ((Q.jF P.pg 1 n).1 (by rw[d];exact da))
   exact Pe.act (by omega) (by omega) _
theorem Pe.undo(h:Pe P P'):P'.undo ((P.mark:Nat):Int)=P:=by
 obtain⟨e,j,i,d⟩:=h;have f:P.fl<=P.mark:=by unfold Q.Po.mark;omega
 unfold Q.Po.undo Q.Po.canUndo;rw[e,ax (show((P.fl:Nat):Int)<=((P.mark:Nat):Int) by omega),ax (show((P.mark:Nat):Int)<=((P'.mark:Nat):Int) by omega)]
 rw[show(((P'.mark:Nat):Int)-((P.mark:Nat):Int)).toNat=j by omega]
 exact d
def mA(f:Int->Option Pv):Prop:=∀k p,f k=some p->p.kind≠0
theorem mA.put{f:Int->Option Pv}(h:mA f)(n:Int)(p:Pv):mA (jp f n p):=λk q e=>by
 unfold jp at e;split at e
 . split at e
   . cases e
   . rename_i d;cases e;exact d
 . exact h k q e
theorem mA.back{f:Int->Option Pv}(h:mA f)(n:Int)(p:Pv):jp (jp f n p) n ((f n).getD Pv.zero)=f:=by
 funext k
 unfold jp;by_cases d:k=n
 . subst d;rw[if_pos rfl];cases e:f k with
   |none=>rw[if_pos (by rfl)]
   |some q=>
    show(if q.kind=0 then none else some q)=some q
    rw[if_neg (h k q e)]
 . rw[if_neg d,if_neg d]
structure Ve(X X':Vm):Prop where
 p:Pe X.P X'.P
 c:∃L,X'.ch=X.ch++L/\(mA X.f->mA X'.f/\unl X'.f L=X.f)
theorem Ve.refl(X:Vm):Ve X X:=⟨Pe.refl _,[],by simp,λh=>⟨h,rfl⟩⟩
theorem Ve.trans{d e:Vm}(h:Ve X d)(k:Ve d e):Ve X e:=by
 obtain⟨q,j,c1,u1⟩:=h;obtain⟨r,l,c2,u2⟩:=k;refine⟨q.trans r,j++l,by rw[c2,c1,aU],λp=>?_⟩
 obtain⟨m,f⟩:=u1 p;obtain⟨n,i⟩:=u2 m;refine⟨n,?_⟩;unfold unl at f i ⊢;rw[List.foldr_append,i,f]
theorem Ve.pool(h:Pe X.P P):Ve X ⟨P,X.f,X.ch⟩:=⟨h,[],by simp,λd=>⟨d,rfl⟩⟩
theorem Ve.lay(X:Vm)(n:Int)(p:Pv):Ve X (X.lay n p):=⟨Pe.refl _,[(n,X.on n)],rfl,λd=>⟨d.put n p,d.back n p⟩⟩
theorem Ve.less(X:Vm)(z:Int):Ve X (X.less z):=by
 unfold Vm.less;split
 . exact(Ve.pool (Pe.dec X.P z)).trans (Ve.lay ⟨(X.P.dec z).2,X.f,X.ch⟩ z Pv.zero)
 . exact Ve.pool (Pe.dec X.P z)
theorem Pe.incAll:∀(L:List Int)(P:Q.Po),Pe P (incAll P L).2
 | [],P=>Pe.refl P
 |z::L,P=>by
  unfold Go.Proofs.YtbdkogimlbnlmaaGreat.incAll;split
  . exact(Pe.inc P z).trans (Pe.incAll L _)
  . exact Pe.inc P z
theorem Ve.more(X:Vm)(L:List Int):Ve X (X.more L).2:=Ve.pool (Pe.incAll L X.P)
theorem Ve.left(X:Vm)(z:Int):Ve X (X.left z).2:=by
 unfold Vm.left;split
 . exact(Ve.less X z).trans (Ve.more _ _)
 . exact Ve.less X z
theorem Ve.leave(X:Vm)(z:Int):Ve X (X.leave z).2:=Ve.left X z
theorem Ve.shadow(X:Vm)(z:Int):Ve X (X.shadow z).2:=by
 have k:Ve X ⟨X.P.alloc.2,X.f,X.ch⟩:=Ve.pool (Pe.alloc X.P);unfold Vm.shadow;split
 . split
   . exact(k.trans (Ve.leave _ z)).trans (Ve.lay _ _ _)
   . exact k.trans (Ve.leave _ z)
 . exact k
theorem Ve.dropL{F:Vm->Int->Int×Vm}(d:∀X z,Ve X (F X z).2):∀(L:List Int)(X:Vm),Ve X (dropL F X L).2
 | [],X=>Ve.refl X
 |z::L,X=>by
  unfold Go.Proofs.YtbdkogimlbnlmaaGreat.dropL;split
  . exact(d X z).trans (Ve.dropL d L _)
  . exact d X z
theorem Ve.dropM:∀(t:Nat)(X:Vm)(z:Int),Ve X (dropM t X z).2
 |0,X,z=>Ve.refl X
 |t+1,X,z=>by
  unfold Go.Proofs.YtbdkogimlbnlmaaGreat.dropM;split
  . exact Ve.less X z
  . exact(Ve.less X z).trans (Ve.dropL (Ve.dropM t) _ _)
theorem Ve.ch(h:Ve X X'):X.ch.length<=X'.ch.length:=by
 obtain⟨_,L,e,_⟩:=h;rw[e,ae];omega
theorem Ve.back(h:Ve X X')(d:mA X.f):X'.back X.P.mark X.ch.length=X:=by
 obtain⟨p,L,e,u⟩:=h;obtain⟨_,f⟩:=u d;unfold Vm.back;rw[p.undo,e,iD rfl,ft rfl,f]
theorem Vs.done_no{S:Vs}{e:Int}(d:e≠0)(h:Ve S.X X)(f:mA S.X.f):S.done e X=S:=by
 unfold Vs.done;rw[if_neg d,h.back f]
theorem Bl(w:World)(b:Nat)(S:Vs)(i k:Nat)(pc col:Nat->Nat)(h:Vw w b S i k pc col)(z:Int)(T:S.X.P.mark+1<=17592186044416)(R:S.al.length+1<=8796093022208):
 Calls prog 40 #[.pointer (some ⟨b,0,none⟩),.int .i64 z] w λx w'=>x=.returned (.int .i64 (S.X.P.inc z).1)/\∃q col',Vw w' b (S.done (S.X.P.inc z).1 ⟨(S.X.P.inc z).2,S.X.f,S.X.ch⟩) i k q col'/\Vf w col w' col':=by
 have s:=iJ (mu w b S i k pc col h (by omega))
 have H:=rC S.X.P z;have ac:S.X.P.ac.length+1<=17592186044416:=by unfold Q.Po.mark at T;omega
 obtain⟨t,v,U⟩:=h.vx;have n:=iJ λ(W:World)(hb:Below w.heap.size w W)=>GH W b S.X S.fl (vd0 i k t v S.al) pc col (U.keep hb) z ac
 obtain⟨e,O⟩:∃e,(S.X.P.inc z).1=e:=⟨_,rfl⟩;obtain⟨j,C⟩:∃j,(S.X.P.inc z).2=j:=⟨_,rfl⟩;rw[C] at H;rw[O,C] at n ⊢;have l:=iJ λ(W:World)(q col':Nat->Nat)(hv:Vx W b ⟨j,S.X.f,S.X.ch⟩ S.fl (vd0 i k t v S.al) q col')=>mF W b S ⟨j,S.X.f,S.X.ch⟩ i k t v q col' hv e (ai _) (by show j.mark<=_;omega) R
 have G:=iJ h;have E:=iJ (show ∃J,S.done e ⟨j,S.X.f,S.X.ch⟩=J from⟨_,rfl⟩)
 obtain⟨J,K⟩:=E.o;rw[K] at l ⊢;obtain⟨mk,ae⟩:∃mk,S.X.P.mark=mk:=⟨_,rfl⟩;obtain⟨f,ad⟩:∃f,S.X.ch.length=f:=⟨_,rfl⟩;rw[ae,ad] at s l;obtain⟨N,ab⟩:∃N:Vm,(⟨j,S.X.f,S.X.ch⟩:Vm)=N:=⟨_,rfl⟩;rw[ab] at n l;clear h U T R ac H O C ae ad ab E K;go_enter func40,ntmps40;go_wp2_with fail
 refine s.o.mono ?_;rintro _ d ⟨rfl,hb⟩;have r:=iJ (bt (bt hb (al d (.cells #[.int .i64 ((mk:Nat):Int),.int .i64 ((f:Nat):Int)] 137))) (Q.drw _));have m:=iJ (aF d (.cells #[.int .i64 ((mk:Nat):Int),.int .i64 ((f:Nat):Int)] 137));have D:Hid (col d.heap.size=0):=G.o.z hb.size;have LT:Hid (d.heap.size<(d.alloc (.cells #[.int .i64 ((mk:Nat):Int),.int .i64 ((f:Nat):Int)] 137)).drew.heap.size):=(af.1 m.o).1;have I:=iJ (show(d.alloc (.cells #[.int .i64 ((mk:Nat):Int),.int .i64 ((f:Nat):Int)] 137)).drew.cell? ⟨b,0,none⟩=some (.pointer (some ⟨i,0,none⟩))/\(d.alloc (.cells #[.int .i64 ((mk:Nat):Int),.int .i64 ((f:Nat):Int)] 137)).drew.cell? ⟨d.heap.size,0,none⟩=some (.int .i64 ((mk:Nat):Int))/\(d.alloc (.cells #[.int .i64 ((mk:Nat):Int),.int .i64 ((f:Nat):Int)] 137)).drew.cell? ⟨d.heap.size,1,none⟩=some (.int .i64 ((f:Nat):Int)) from⟨(G.o.keep r.o).c0,(iX m.o).1,(iX m.o).2⟩)
 clear hb s;go_wp2_with fail
 refine bC (S:=λW=>W.cell? ⟨b,0,none⟩=some (.pointer (some ⟨i,0,none⟩))/\W.cell? ⟨d.heap.size,0,none⟩=some (.int .i64 ((mk:Nat):Int))/\W.cell? ⟨d.heap.size,1,none⟩=some (.int .i64 ((f:Nat):Int))) (by kernel_rfl) (I.o) (λhHeld=>?_)
 refine tkd 0 1 2 3 ?_;refine tkb 4 5 ?_;refine tk 6 ?_;refine tw 7 λag A=>?_
 go_simp;refine(n.o _ r.o).mono ?_;rintro _ w3 ⟨rfl,ak,aj,V,p⟩;have L:=iJ V;have F3:=iJ ((Vf.keep r.o).trans p);have B:=iJ (p.b.same (show(d.alloc _).drew.heap[d.heap.size]?=_ from m.o) (λe=>by rw[D.o] at e;omega))
 have ah:Hid (aj d.heap.size=0):=(p.c _ LT.o).trans D.o;clear V p;go_wp2_with fail
 refine A.o _ _ (⟨L.o.c01.1,(iX B.o).1,(iX B.o).2⟩) (λhHeld=>?_)
 refine tw 8 λag A=>?_
 go_simp;refine(l.o _ _ _ L.o).mono ?_;rintro _ w4 ⟨rfl,am,an,Y,y⟩;have M:=iJ Y;have F4:=iJ (F3.o.trans y);have Z:=iJ (y.b.same B.o (λe=>by rw[ah.o] at e;omega))
 clear Y y;go_wp2_with fail
 refine A.o _ _ (⟨M.o.c0,(iX Z.o).1,(iX Z.o).2⟩) (λhHeld=>?_)
 refine tk 9 ?_;refine td ?_;clear hHeld I n l;go_wp2;go_ret;exact⟨rfl,_,_,M.o,F4.o⟩
theorem Pe.mark_le(h:Pe P P'){B:Nat}(hb:P'.ac.length+P.fl<=B):P'.mark<=B:=by
 unfold Q.Po.mark;rw[h.fl];omega
theorem Dx(w:World)(b:Nat)(S:Vs)(k j:Nat)(pc col:Nat->Nat)(h:Vw w b S k j pc col)(z:Int)(t:Nat)(U:tot S.X.P<t)(R:S.X.P.mark+tot S.X.P+1<=17592186044416)(N:S.X.ch.length+tot S.X.P+1<=1759218604441)(O:S.al.length+1<=8796093022208):
 Calls prog 42 #[.pointer (some ⟨b,0,none⟩),.int .i64 z] w λx w'=>x=.returned (.int .i64 (dropM t S.X z).1)/\∃v col',Vw w' b (S.done (dropM t S.X z).1 (dropM t S.X z).2) k j v col'/\Vf w col w' col':=by
 have y:=iJ (mu w b S k j pc col h (by omega))
 have ae:S.X.P.ac.length+S.X.P.fl+tot S.X.P+1<=17592186044416:=by unfold Q.Po.mark at R;omega
 obtain⟨A,B,V⟩:=h.vx;have m:=Ve.dropM t S.X z;have l:=iJ λ(W:World)(hb:Below w.heap.size w W)=>uK t W b S.X S.fl (vd0 k j A B S.al) pc col z (V.keep hb) U (by omega) N
 obtain⟨r,T⟩:∃r,dropM t S.X z=r:=⟨_,rfl⟩;rw[T] at l m ⊢;obtain⟨e,i⟩:=r;simp only at l m ⊢;have n:=iJ λ(W:World)(v col':Nat->Nat)(hv:Vx W b i S.fl (vd0 k j A B S.al) v col')(G:tot i.P<=tot S.X.P/\i.P.ac.length+tot i.P<=S.X.P.ac.length+tot S.X.P/\i.ch.length+tot i.P<=S.X.ch.length+tot S.X.P)=>mF W b S i k j A B v col' hv e m.ch (m.p.mark_le (by omega)) O
 have HV:=iJ h;obtain⟨M,ab⟩:∃M,S.done e i=M:=⟨_,rfl⟩;rw[ab] at n ⊢;obtain⟨mk,s⟩:∃mk,S.X.P.mark=mk:=⟨_,rfl⟩;obtain⟨f,H⟩:∃f,S.X.ch.length=f:=⟨_,rfl⟩;have ah:=iJ s;rw[s,H] at y;simp only[s,H] at n l;clear h V R O ae T s H ab m U N;go_enter func42,ntmps42;go_wp2_with fail
 refine y.o.mono ?_;rintro _ d ⟨rfl,hb⟩;have I:=iJ (bt (bt hb (al d (.cells #[.int .i64 ((mk:Nat):Int),.int .i64 ((f:Nat):Int)] 137))) (Q.drw _));have p:=iJ (aF d (.cells #[.int .i64 ((mk:Nat):Int),.int .i64 ((f:Nat):Int)] 137));have J:Hid (col d.heap.size=0):=HV.o.z hb.size;have LT:Hid (d.heap.size<(d.alloc (.cells #[.int .i64 ((mk:Nat):Int),.int .i64 ((f:Nat):Int)] 137)).drew.heap.size):=(af.1 p.o).1;have L:=iJ (show(d.alloc (.cells #[.int .i64 ((mk:Nat):Int),.int .i64 ((f:Nat):Int)] 137)).drew.cell? ⟨d.heap.size,0,none⟩=some (.int .i64 ((mk:Nat):Int))/\(d.alloc (.cells #[.int .i64 ((mk:Nat):Int),.int .i64 ((f:Nat):Int)] 137)).drew.cell? ⟨d.heap.size,1,none⟩=some (.int .i64 ((f:Nat):Int)) from⟨(iX p.o).1,(iX p.o).2⟩)
 clear hb y;go_wp2_with fail
 refine bC (S:=λW=>W.cell? ⟨d.heap.size,0,none⟩=some (.int .i64 ((mk:Nat):Int))/\W.cell? ⟨d.heap.size,1,none⟩=some (.int .i64 ((f:Nat):Int))) (by kernel_rfl) (L.o) (λhHeld=>?_)
 refine tkd 0 1 2 3 ?_;refine tw 4 λac D=>?_
 go_simp;refine(l.o _ I.o).mono ?_;rintro _ w3 ⟨rfl,G,ai,ag,Y,q⟩;have V3:=iJ Y;have BN:=iJ G;have F3:=iJ ((Vf.keep I.o).trans q);have E:=iJ (q.b.same (show(d.alloc _).drew.heap[d.heap.size]?=_ from p.o) (λe=>by rw[J.o] at e;omega))
 have ad:Hid (ag d.heap.size=0):=(q.c _ LT.o).trans J.o;clear Y q G;go_wp2_with fail
 refine D.o _ _ (⟨(iX E.o).1,(iX E.o).2⟩) (λhHeld=>?_)
 refine tw 5 λac D=>?_
 go_simp;refine(n.o _ _ _ V3.o BN.o).mono ?_;rintro _ w4 ⟨rfl,aj,ak,Z,C⟩;have V4:=iJ Z;have F4:=iJ (F3.o.trans C);have K:=iJ (C.b.same E.o (λe=>by rw[ad.o] at e;omega))
 clear Z C;go_wp2_with fail
 refine D.o _ _ (⟨(iX K.o).1,(iX K.o).2⟩) (λhHeld=>?_)
 refine tk 6 ?_;refine td ?_;clear hHeld L l n;go_wp2;go_ret;exact⟨rfl,_,_,V4.o,F4.o⟩
theorem rt(w:World)(b:Nat)(S:Vs)(f d:Nat)(pc col:Nat->Nat)(h:Vw w b S f d pc col)(n:Int):
 Calls prog 95 #[.pointer (some ⟨b,0,none⟩),.int .i64 n] w λe w'=>e=.returned (.bool (decide (0<S.X.P.count n)))/\w'=w:=by
 obtain⟨j,l,i,k,h⟩:=h;exact wY w b _ _ _ pc col h n
theorem Aw(w:World)(b:Nat)(S:Vs)(f d:Nat)(pc col:Nat->Nat)(h:Vw w b S f d pc col)(n:Int):
 Calls prog 96 #[.pointer (some ⟨b,0,none⟩),.int .i64 n] w λe w'=>e=.returned (.bool (decide (S.X.P.state n=3)&&decide (S.X.P.count n=1)))/\Below w.heap.size w w':=by
 obtain⟨j,l,i,k,h⟩:=h;exact AO w b _ _ _ pc col h n
theorem t7:∀(L:List Int)(P:Q.Po),(incAll P L).2.ac.length<=P.ac.length+L.length
 | [],P=>ai _
 |z::L,P=>by
  have k:=Ao P z;unfold incAll;split
  . have:=t7 L (P.inc z).2;rw[bf];omega
  . rw[bf];omega
theorem Ht(P:Q.Po)(z:Int):(P.dec z).2.ac.length<=P.ac.length+1:=by
 unfold Q.Po.dec;split
 . exact eJ _
 . simp[Q.Po.act]
theorem Vm.left_ac(X:Vm)(z:Int):(X.left z).2.P.ac.length<=X.P.ac.length+(X.on z).pg.kids.length+1:=by
 have k:=Ht X.P z;unfold Vm.left;split
 . have:=t7 (X.on z).pg.kids (X.less z).P;rw[X.less_P] at this;show(incAll (X.less z).P (X.on z).pg.kids).2.ac.length<=_;rw[X.less_P];omega
 . show(X.less z).P.ac.length<=_;rw[X.less_P];omega
theorem Vm.shadow_ac(X:Vm)(z:Int):(X.shadow z).2.P.ac.length<=X.P.ac.length+(X.on z).pg.kids.length+2:=by
 have k:=qX X.P;have d:=Vm.left_ac ⟨X.P.alloc.2,X.f,X.ch⟩ z;have e:((⟨X.P.alloc.2,X.f,X.ch⟩:Vm).left z).2.P.ac.length<=X.P.alloc.2.ac.length+(X.on z).pg.kids.length+1:=d;unfold Vm.shadow;split
 . split
   all_goals
    show((⟨X.P.alloc.2,X.f,X.ch⟩:Vm).left z).2.P.ac.length<=_;omega
 . show X.P.alloc.2.ac.length<=_;omega
def Vs.shadow(S:Vs)(z:Int):(Int×Int)×Vs:=
 if 0<S.X.P.count z then (if S.X.P.state z=3/\S.X.P.count z=1 then ((z,0),S) else ((S.X.shadow z).1,S.done (S.X.shadow z).1.2 (S.X.shadow z).2)) else ((0,15),S)
theorem yK(w:World)(b:Nat)(S:Vs)(f d:Nat)(pc col:Nat->Nat)(h:Vw w b S f d pc col)(z:Int)(B:S.X.P.mark+(S.X.on z).pg.kids.length+2<=17592186044416)(y:S.X.ch.length+2<=1759218604441)(A:S.al.length+1<=8796093022208):
 Calls prog 35 #[.pointer (some ⟨b,0,none⟩),.int .i64 z] w λx w'=>x=.returned (.tuple #[.int .i64 (S.shadow z).1.1,.int .i64 (S.shadow z).1.2])/\∃D col',Vw w' b (S.shadow z).2 f d D col'/\Vf w col w' col':=by
 have m:=iJ (rt w b S f d pc col h z);have l:=iJ (Aw w b S f d pc col h z);have G:=iJ h;unfold Vs.shadow;by_cases i:0<S.X.P.count z
 . rw[if_pos i];rw[ax i] at m;by_cases j:S.X.P.state z=3/\S.X.P.count z=1
   . rw[if_pos j];rw[ax j.1,ax j.2,fZ] at l;clear h i j B y A;go_enter func35,ntmps35;go_wp2_with fail
     refine m.o.mono ?_;rintro _ s ⟨rfl,p⟩;obtain rfl:=p.symm;go_wp2_with fail
     refine l.o.mono ?_;rintro _ C ⟨rfl,hb⟩;have V1:=iJ (G.o.keep hb);have F1:=iJ (Vf.keep (c:=col) hb);clear hb;go_wp2;go_ret2
     exact⟨rfl,_,_,V1.o,F1.o⟩
   . rw[if_neg j]
     have af:(decide (S.X.P.state z=3)&&decide (S.X.P.count z=1))=false:=by
      rw[eY];by_cases k:S.X.P.state z=3
      . exact .inr (au (λk2=>j ⟨k,k2⟩))
      . exact .inl (au k)
     rw[af] at l;have E:=iJ λ(W:World)(hb:Below w.heap.size w W)=>mu W b S f d pc col (h.keep hb) (by omega)
     have ag:S.X.P.ac.length+S.X.P.fl+(S.X.on z).pg.kids.length+2<=17592186044416:=by unfold Q.Po.mark at B;omega
     obtain⟨J,K,V⟩:=h.vx;have n:=Ve.shadow S.X z;have t:=iJ λ(W:World)(hb:Below w.heap.size w W)=>zh W b S.X S.fl (vd0 f d J K S.al) pc col z (V.keep hb) (by omega) y
     have H:=S.X.shadow_ac z;obtain⟨r,U⟩:∃r,S.X.shadow z=r:=⟨_,rfl⟩;rw[U] at t n H ⊢;obtain⟨⟨ah,e⟩,I⟩:=r;simp only at t n H ⊢;have q:=iJ λ(W:World)(D col':Nat->Nat)(hv:Vx W b I S.fl (vd0 f d J K S.al) D col')=>mF W b S I f d J K D col' hv e n.ch (n.p.mark_le (by omega)) A
     obtain⟨R,ab⟩:∃R,S.done e I=R:=⟨_,rfl⟩;rw[ab] at q ⊢;obtain⟨mk,ae⟩:∃mk,S.X.P.mark=mk:=⟨_,rfl⟩;obtain⟨v,ad⟩:∃v,S.X.ch.length=v:=⟨_,rfl⟩;simp only[ae,ad] at q E;clear h i j B y A ag V n H U ab ae ad af;go_enter func35,ntmps35;go_wp2_with fail
     refine m.o.mono ?_;rintro _ s ⟨rfl,p⟩;obtain rfl:=p.symm;go_wp2_with fail
     refine l.o.mono ?_;rintro _ w0 ⟨rfl,ac⟩;have O:=iJ ac;clear ac m l;go_wp2_with fail
     refine(E.o _ O.o).mono ?_;rintro _ C ⟨rfl,hb⟩;have M:=bt O.o hb;have N:=iJ (bt M (al C (.cells #[.int .i64 ((mk:Nat):Int),.int .i64 ((v:Nat):Int)] 137)));have HX:=iJ (aF C (.cells #[.int .i64 ((mk:Nat):Int),.int .i64 ((v:Nat):Int)] 137));have CX:Hid (col C.heap.size=0):=G.o.z M.size;clear hb M E;go_wp2_with fail
     refine(t.o _ N.o).mono ?_;rintro _ w3 ⟨rfl,ai,ak,Y,L⟩;have V3:=iJ Y;have F3:=iJ ((Vf.keep N.o).trans L);obtain⟨x0,x1⟩:=iX (L.b.same HX.o (λe=>by rw[CX.o] at e;omega))
     clear Y L t;go_wp2_with fail
     refine(q.o _ _ _ V3.o).mono ?_;rintro _ w4 ⟨rfl,aj,am,Z,T⟩;have V4:=iJ Z;have F4:=iJ (F3.o.trans T);clear Z T q x0 x1;go_wp2;go_ret2
     exact⟨rfl,_,_,V4.o,F4.o⟩
 . rw[if_neg i];rw[au i] at m;clear h i B y A l;go_enter func35,ntmps35;go_wp2_with fail
   refine m.o.mono ?_;rintro _ s ⟨rfl,p⟩;obtain rfl:=p.symm;go_wp2;go_ret2
   exact⟨rfl,_,_,G.o,Vf.refl _ _⟩
def Sml(p:Pv):Prop:=p.data.length<=140737488355264/\∀x∈p.items,x.key.length<=140737488355264/\x.val.length<=140737488355264
theorem DP(w:World)(b:Nat)(S:Vs)(E t:Nat)(pc col:Nat->Nat)(h:Vw w b S E t pc col)(z:Int)(y:Sml (S.X.on z)):
 Calls prog 44 #[.pointer (some ⟨b,0,none⟩),.int .i64 z] w λx w'=>∃q:Pv,x=.returned (.tuple #[q.vl,.int .i64 (if 0<S.X.P.count z then 0 else 15)])/\Pn w w' q/\q.pg=(if 0<S.X.P.count z then (S.X.on z).pg else Pv.zero.pg)/\Below w.heap.size w w':=by
 have m:=al w (.cells Pv.zero.cs 31);have d:=iJ (rt _ b S E t pc col (h.keep m) z);have i:=iJ (aF w (.cells Pv.zero.cs 31));have l:=iJ m;obtain⟨Z,ca,p⟩:=h.vx;obtain⟨c0,c1⟩:=p.c01;have ab:=p.lb;have n:=(p.keep m).look z;have f:=iJ (kH _ (S.X.on z) ((p.keep m).on_z z).pi y.1 y.2);obtain⟨q,D⟩:∃q,S.X.on z=q:=⟨_,rfl⟩;rw[D] at n f ⊢;clear h p y D m c0;obtain⟨K,L,O,T,V,N,R,U,Y⟩:=q;unfold Pv.vl at *;simp only[Pv.cs] at n f i l d;simp only[Pv.zero,bj] at n f i l d;have ad:w.cell? ⟨b,1,none⟩=some (.map (some t)):=c1;have ac:(Instr.lookup 81 (.map (some t)) (.int .i64 z) false).run prog (w.alloc (.cells #[.int .i64 0,.int .i64 0,.slice none 0 0,.slice none 0 0,.int .i64 0] 31))=.ok (.agg #[.int .i64 K,.int .i64 L,.slice O V.length T,.slice N U.length R,.int .i64 Y]) (w.alloc (.cells #[.int .i64 0,.int .i64 0,.slice none 0 0,.slice none 0 0,.int .i64 0] 31)):=n;clear n c1;by_cases j:0<S.X.P.count z
 . simp only[if_pos j];rw[ax j] at d;clear j;go_enter func44,ntmps44;go_wp2_with fail
   refine d.o.mono ?_;rintro _ M ⟨rfl,s⟩;obtain rfl:=s.symm;clear s;go_wp2_with fail
   refine f.o.mono ?_;rintro _ w2 ⟨r,rfl,B,C,hb⟩;have I:=iJ (B.pre l.o.size);have H:=iJ C;have G:=iJ (bt l.o hb);have A:=iJ ((hb.block w.heap.size (af.1 i.o).1).trans i.o);clear B C hb f d;go_wp2_with (first|(refine cE rfl 31 _ _ rfl w.heap.size _ rfl rfl 31 _ A.o iP rfl (by simp[Value.oneCell']) ?_)|fail)
   refine bZ (v:=.tuple #[.agg _,_]) (je results44 _ _ w.heap.size 31 _ (0,0) _ rfl (dc _ _ _ _ _ _ A.o) underlying31 rfl iP) rfl ?_;exact⟨r,rfl,I.o.row A.o (by decide) (by decide) _,H.o,((But.ofBelow (S:=λk=>k=w.heap.size) G.o).trans (Q.jg _ _ _) (λ_ _ e=>e)).below (λk J e=>by omega)⟩
 . simp only[if_neg j];rw[au j] at d;clear j f;go_enter func44,ntmps44;go_wp2_with fail
   refine d.o.mono ?_;rintro _ M ⟨rfl,s⟩;obtain rfl:=s.symm;clear s;go_wp2_with (first|(refine cE rfl 31 _ _ rfl w.heap.size _ rfl rfl 31 _ i.o iP rfl (by simp[Value.oneCell']) ?_)|fail)
   refine bZ (v:=.tuple #[.agg _,_]) (je results44 _ _ w.heap.size 31 _ (0,0) _ rfl (dc _ _ _ _ _ _ i.o) underlying31 rfl iP) rfl ?_;exact⟨Pv.zero,rfl,Pn.zero _ _,rfl,((But.ofBelow (S:=λk=>k=w.heap.size) l.o).trans (Q.jg _ _ _) (λ_ _ e=>e)).below (λk J e=>by omega)⟩
theorem i8{v:World}{a:Option Addr}(h:New v none a){x:Addr}(d:a=some x):v.heap.size<=x.block:=by
 rcases h x d with⟨y,hy,_⟩|h2
 . cases hy
 . exact h2
theorem Pn.pz{q:Pv}(h:Pn w w' q)(p:q.items.length<=2199023255489):Pz (λk=>iO col w w' 6 k=6) w' q:=λv j=>by
 have s:∀{a:Option Addr}{c:Nat}{L:List Iv},Jw w' a c L->New w none a->∀x,a=some x->¬ ¬(iO col w w' 6 x.block=6):=λn i x d e=>e (ke (i8 i d) (n.lt d))
 have m:∀{a:Option Addr}{c:Nat}{l:List Nat},Rw w' a c l->New w none a->∀x,a=some x->¬ ¬(iO col w w' 6 x.block=6):=λr i x d e=>e (ke (i8 i d) (r.lt d))
 exact Pn.pi (v:=w) ⟨h.it.but j (s h.it h.itn),h.itn,h.d.but j (m h.d h.dn),h.dn,λt f=>⟨(h.fr t f).1.but j (m (h.fr t f).1 (h.fr t f).2.1),(h.fr t f).2⟩,h.dist,h.d8,h.ns,h.nk,h.nl,h.nn⟩ p
theorem Vx.page{fl:Nat}{D:Vd}(h:Vx w b X fl D pc col)(hb:Below w.heap.size w w'):Vx w' b X fl D pc (iO col w w' 6)/\Vf w col w' (iO col w w' 6):=by
 obtain⟨m,q,h⟩:=h;have k:=h.keep hb;have i:∀{k:Nat},col k≠0->iO col w w' 6 k=col k:=λj=>jq (h.lt _ j)
 have l:∀{p:Pv},Pz (λk=>col k=6) w' p->Pz (λk=>iO col w w' 6 k=6) w' p:=λs=>s.mono (λk j e=>by rw[i (by omega)];exact e)
 exact⟨⟨m,q,k.box,k.mp,k.chr,k.acr,k.pool,λn p r=>l (k.fz n p r),λx d=>l (k.cz x d),(i (by rw[h.cb];decide)).trans h.cb,(i (by rw[h.cm];decide)).trans h.cm,λx d=>(i (by rw[h.cc x d];decide)).trans (h.cc x d),λx d=>(i (by rw[h.ca x d];decide)).trans (h.ca x d),λn f=>(i (by rw[h.cp n f];decide)).trans (h.cp n f),λn f=>kU hb.size f⟩,But.ofBelow hb,λn f=>jq f⟩
def Vs.writeE(S:Vs)(z:Int)(p:Pg):Int:=if (decide (S.X.P.state z=3)&&decide (S.X.P.count z=1))=true then (p.check:Int) else 15
theorem Ac(w:World)(b:Nat)(S:Vs)(i f:Nat)(pc col:Nat->Nat)(h:Vw w b S i f pc col)(z:Int)(p:Pv)(e:Pi w p)(hs:Sml p)(ao:p.items.length<=2199023255489)(k:S.X.P.mark<=9223372036854775807)(hc:S.X.ch.length+1<=1759218604441)(hl:S.al.length+1<=8796093022208):
 Calls prog 93 #[.pointer (some ⟨b,0,none⟩),.int .i64 z,p.vl] w λx w'=>∃q:Pv,x=.returned (.int .i64 (S.writeE z p.pg))/\q.pg=p.pg/\∃L col',Vw w' b (if S.writeE z p.pg=0 then S.done 0 (S.X.lay z q) else S) i f L col'/\Vf w col w' col':=by
 have V:=al w (.cells p.cs 31);have t:=iJ (aF w (.cells p.cs 31));have d:=iJ (Aw _ b S i f pc col (h.keep V) z);have j:=iJ λ(W:World)(hb:Below w.heap.size w W)=>pS W p (e.keep hb)
 have O:=iJ λ(W:World)(hb:Below w.heap.size w W)=>mu W b S i f pc col (h.keep hb) k
 have s:=iJ λ(W:World)(hb:Below w.heap.size w W)=>kH W p (e.keep hb) hs.1 hs.2
 have LQ:=iJ (show ∀q:Pv,q.pg=p.pg->q.items.length<=2199023255489 from λq l=>by
  have:=a7 (λg:Pg=>g.items.length) l
  simp only[Pv.pg,aZ] at this;omega)
 obtain⟨H,I,hx⟩:=h.vx;have LY:=iJ λ(W:World)(col':Nat->Nat)(q:Pv)(hv:Vx W b S.X S.fl (vd0 i f H I S.al) pc col')(l:Pz (λak=>col' ak=6) W q)=>ww W b S.X S.fl (vd0 i f H I S.al) pc col' hv z q l hc
 have EN:=iJ λ(W:World)(L col':Nat->Nat)(q:Pv)(hv:Vx W b (S.X.lay z q) S.fl (vd0 i f H I S.al) L col')=>mF W b S (S.X.lay z q) i f H I L col' hv 0 (by show S.X.ch.length<=(S.X.ch++[_]).length;rw[ae];omega) k hl
 have R:=iJ h;have am:=iJ hx;have r:=iJ V;unfold Vs.writeE;obtain⟨o,ho⟩:∃o,(decide (S.X.P.state z=3)&&decide (S.X.P.count z=1))=o:=⟨_,rfl⟩;rw[ho] at d ⊢;obtain⟨n,ag⟩:∃n,p.pg.check=n:=⟨_,rfl⟩;rw[ag] at j ⊢;obtain⟨pg,ac⟩:∃pg,p.pg=pg:=⟨_,rfl⟩;rw[ac] at LQ s ⊢;obtain⟨mk,ai⟩:∃mk,S.X.P.mark=mk:=⟨_,rfl⟩;obtain⟨J,ah⟩:∃J,S.X.ch.length=J:=⟨_,rfl⟩;simp only[ai,ah] at O EN;have ab:=iJ ac;clear h hx V e hs ao k hc hl ho ag ac ai ah;obtain⟨kp,lp,ar,ax,aC,ap,av,az,aE⟩:=p;unfold Pv.vl at j s ⊢;simp only[Pv.cs] at j t d r s ⊢;cases o with
 |false=>
  simp only[Bool.false_eq_true,if_false];go_enter func93,ntmps93;go_wp2_with fail
  refine d.o.mono ?_;rintro _ w1 ⟨rfl,hb⟩;have G:=iJ (R.o.keep (bt r.o hb));have E:=iJ (Vf.keep (c:=col) (bt r.o hb));clear hb d;go_wp2;go_ret;exact⟨rfl,⟨_,ab.o⟩,_,_,G.o,E.o⟩
 |true=>
  simp only[if_true];by_cases h0:n=0
  . subst h0;go_enter func93,ntmps93;go_wp2_with fail
    refine d.o.mono ?_;rintro _ w1 ⟨rfl,hb⟩;have v:=iJ ((hb.block w.heap.size (af.1 t.o).1).trans t.o);have m:=iJ (bt r.o hb);obtain⟨y,A,B,C,D⟩:=iS v.o;clear hb d;go_wp2_with fail
    refine(j.o _ m.o).mono ?_;rintro _ w2 ⟨rfl,hb⟩;have X2:=iJ ((hb.block w.heap.size (af.1 v.o).1).trans v.o);have M:=iJ (bt m.o hb);clear hb j y A B C D;go_wp2_with fail
    refine(O.o _ M.o).mono ?_;rintro _ w3 ⟨rfl,hb⟩;have U:=al w3 (.cells #[.int .i64 ((mk:Nat):Int),.int .i64 ((J:Nat):Int)] 137);have N:=iJ (bt (bt M.o hb) U);have T:=iJ (aF w3 (.cells #[.int .i64 ((mk:Nat):Int),.int .i64 ((J:Nat):Int)] 137));have X3:=iJ (((bt hb U).block w.heap.size (af.1 X2.o).1).trans X2.o);have Z3:Hid (col w3.heap.size=0):=R.o.z (bt M.o hb).size;obtain⟨y,A,B,C,D⟩:=iS X3.o;clear hb O U;go_wp2_with fail
    refine(s.o _ N.o).mono ?_;rintro _ w4 ⟨q,rfl,ad,l,hb⟩;have Q4:=iJ l;obtain⟨v4,Y⟩:=(am.o.keep N.o).page hb;have an:=iJ (ad.pz (col:=col) (LQ.o q l));have K:=iJ (LY.o _ _ q v4 an.o);have F4:=iJ ((Vf.keep N.o).trans Y);have T4:=iJ ((hb.block w3.heap.size (af.1 T.o).1).trans T.o);have Z4:=iJ ((Y.c w3.heap.size (af.1 T.o).1).trans Z3.o);clear ad l hb v4 Y y A B C D s LY;generalize iO col _ w4 6=aJ at *;obtain⟨kq,lq,au,ay,aD,aq,aw,aA,aG⟩:=q;unfold Pv.vl at K;simp only[Pv.cs] at K;go_wp2_with fail
    refine K.o.mono ?_;rintro _ w5 ⟨rfl,aH,aK,v5,Z⟩;have V5:=iJ v5;have F5:=iJ (F4.o.trans Z);obtain⟨y0,y1⟩:=iX (Z.b.same T4.o (λaj=>by rw[Z4.o] at aj;omega))
    clear v5 Z K;go_wp2_with fail
    refine(EN.o _ _ _ _ V5.o).mono ?_;rintro _ w6 ⟨rfl,aI,aL,v6,f6⟩;have V6:=iJ v6;have F6:=iJ (F5.o.trans f6);clear v6 f6 y0 y1;go_wp2;go_ret;exact⟨rfl,_,Q4.o,_,_,V6.o,F6.o⟩
  . have e0:((n:Nat):Int)≠0:=by omega
    have e1:(((n:Nat):Int)==0)=false:=by simp;omega
    have e2:(n==0)=false:=by simp;omega
    simp only[if_neg e0];go_enter func93,ntmps93;go_wp2_with fail
    refine d.o.mono ?_;rintro _ w1 ⟨rfl,hb⟩;have v:=iJ ((hb.block w.heap.size (af.1 t.o).1).trans t.o);have m:=iJ (bt r.o hb);obtain⟨y,A,B,C,D⟩:=iS v.o;clear hb d;go_wp2_with fail
    refine(j.o _ m.o).mono ?_;rintro _ w2 ⟨rfl,hb⟩;have G:=iJ (R.o.keep (bt m.o hb));have E:=iJ (Vf.keep (c:=col) (bt m.o hb));clear hb j y A B C D;go_wp2;go_ret;first|exact⟨rfl,⟨_,ab.o⟩,_,_,G.o,E.o⟩|exact⟨_,rfl,ab.o,_,_,G.o,E.o⟩
def Pf(col:Nat->Nat)(w:World)(p:Pv):Prop:=Pz (λk=>¬(1<=col k/\col k<=5)) w p
theorem Pf.vf{col':Nat->Nat}{p:Pv}(h:Pf col w p)(d:Vf w col W col'):Pi W p:=h W (d.b.mono λk _ e f=>f e)
def Vm.allocd(X:Vm):Vm:=⟨X.P.alloc.2,X.f,X.ch⟩
def Vs.makeR(S:Vs)(p:Pg):Int×Int:=if p.check=0 then S.X.P.alloc.1 else (0,(p.check:Int))
def Vs.makeS(S:Vs)(p:Pg)(q:Pv):Vs:=if p.check=0 then S.done S.X.P.alloc.1.2 (if S.X.P.alloc.1.2=0 then S.X.allocd.lay S.X.P.alloc.1.1 q else S.X.allocd) else S
theorem Bh(w:World)(b:Nat)(S:Vs)(d l:Nat)(pc col:Nat->Nat)(h:Vw w b S d l pc col)(p:Pv)(hP:Pf col w p)(hs:Sml p)(av:p.items.length<=2199023255489)(hm:S.X.P.mark+1<=17592186044416)(hc:S.X.ch.length+1<=1759218604441)(hl:S.al.length+1<=8796093022208):
 Calls prog 73 #[.pointer (some ⟨b,0,none⟩),p.vl] w λx w'=>∃q:Pv,q.pg=p.pg/\x=.returned (.tuple #[.int .i64 (S.makeR p.pg).1,.int .i64 (S.makeR p.pg).2])/\∃f col',Vw w' b (S.makeS p.pg q) d l f col'/\Vf w col w' col':=by
 have aB:=al w (.cells p.cs 31);have B:=iJ (aF w (.cells p.cs 31));have m:=iJ (pS _ p (hP.pi.keep aB));have U:=iJ λ(W:World)(hb:Below w.heap.size w W)=>mu W b S d l pc col (h.keep hb) (by omega)
 have T:=iJ λ(W:World)(col':Nat->Nat)(hf:Vf w col W col')=>kH W p (hP.vf hf) hs.1 hs.2
 have LQ:=iJ (show ∀q:Pv,q.pg=p.pg->q.items.length<=2199023255489 from λq I=>by
  have:=a7 (λg:Pg=>g.items.length) I
  simp only[Pv.pg,aZ] at this;omega)
 obtain⟨C,D,hx⟩:=h.vx;have am:S.X.P.ac.length+1<=17592186044416:=by unfold Q.Po.mark at hm;omega
 have E:=iJ λ(W:World)(hb:Below w.heap.size w W)=>(show Calls prog 130 #[.pointer (some ⟨d,0,none⟩)] W λe w'=>e=.returned (.tuple #[.int .i64 S.X.P.alloc.1.1,.int .i64 S.X.P.alloc.1.2])/\∃f col',Vx w' b S.X.allocd S.fl (vd0 d l C D S.al) f col'/\Vf W col w' col' from vz W b S.X S.fl (vd0 d l C D S.al) pc col (hx.keep hb) am)
 have ag:S.X.allocd.P.mark<=9223372036854775807:=(Pe.alloc S.X.P).mark_le (by have:=qX S.X.P;unfold Q.Po.mark at hm;omega)
 have LY:=iJ λ(W:World)(f col':Nat->Nat)(s:Int)(q:Pv)(hv:Vx W b S.X.allocd S.fl (vd0 d l C D S.al) f col')(I:Pz (λar=>col' ar=6) W q)=>ww W b S.X.allocd S.fl (vd0 d l C D S.al) f col' hv s q I hc
 have EN:=iJ λ(W:World)(f col':Nat->Nat)(s e:Int)(q:Pv)(hv:Vx W b (S.X.allocd.lay s q) S.fl (vd0 d l C D S.al) f col')=>mF W b S (S.X.allocd.lay s q) d l C D f col' hv e (by show S.X.ch.length<=(S.X.ch++[_]).length;rw[ae];omega) ag hl
 have EO:=iJ λ(W:World)(f col':Nat->Nat)(e:Int)(hv:Vx W b S.X.allocd S.fl (vd0 d l C D S.al) f col')=>mF W b S S.X.allocd d l C D f col' hv e (ai _) ag hl
 have G:=iJ h;have az:=iJ hx;have O:=iJ aB;unfold Vs.makeR Vs.makeS;obtain⟨L,ao⟩:∃L,p.pg.check=L:=⟨_,rfl⟩;rw[ao] at m ⊢;obtain⟨pg,ah⟩:∃pg,p.pg=pg:=⟨_,rfl⟩;rw[ah] at LQ T ⊢;obtain⟨mk,aq⟩:∃mk,S.X.P.mark=mk:=⟨_,rfl⟩;obtain⟨M,ap⟩:∃M,S.X.ch.length=M:=⟨_,rfl⟩;simp only[aq,ap] at U EN EO;obtain⟨X1,ad⟩:∃X1,S.X.allocd=X1:=⟨_,rfl⟩;rw[ad] at E ⊢;simp only[ad] at LY EN EO;obtain⟨ac,hr⟩:∃ac,S.X.P.alloc.1=ac:=⟨_,rfl⟩;rw[hr] at E ⊢;obtain⟨s,e⟩:=ac;simp only at E ⊢;have N:=iJ ah;have c0:=h.c0;have an:=hx.lb;clear h hx aB hP hs av hm hc hl ao ah aq ap ad hr am ag;obtain⟨kp,lp,aD,aI,aM,aA,aG,aK,aO⟩:=p;unfold Pv.vl at m T ⊢;simp only[Pv.cs] at m B O T ⊢;by_cases h0:L=0
 . subst h0;simp only[if_pos];by_cases he:e=0
   . subst he;simp only[if_pos];obtain⟨n,t,v,y,A⟩:=iS B.o;go_enter func73,ntmps73;go_wp2_with fail
     refine m.o.mono ?_;rintro _ w2 ⟨rfl,hb⟩;have Z:=iJ ((hb.block w.heap.size (af.1 B.o).1).trans B.o);have i:=iJ (bt O.o hb);clear hb m n t v y A;go_wp2_with fail
     refine(U.o _ i.o).mono ?_;rintro _ w3 ⟨rfl,hb⟩;have H:=al w3 (.cells #[.int .i64 ((mk:Nat):Int),.int .i64 ((M:Nat):Int)] 137);have R:=iJ (bt (bt i.o hb) H);have V:=iJ (aF w3 (.cells #[.int .i64 ((mk:Nat):Int),.int .i64 ((M:Nat):Int)] 137));have X3:=iJ (((bt hb H).block w.heap.size (af.1 Z.o).1).trans Z.o);have k:Hid (col w3.heap.size=0):=G.o.z (bt i.o hb).size;have Y3:Hid (col w.heap.size=0):=G.o.z (ai _);have c3:=(G.o.keep (bt i.o hb)).c0;have au:b<w3.heap.size:=be an (bt i.o hb).size;clear hb U H;go_wp2_with fail
     refine(E.o _ R.o).mono ?_;rintro _ w4 ⟨rfl,aw,aj,v4,j⟩;have V4:=iJ v4;have F4:=iJ ((Vf.keep R.o).trans j);have Y:=iJ (j.b.same V.o (λe=>by rw[k.o] at e;omega))
     have Z4:=iJ ((j.c w3.heap.size (af.1 V.o).1).trans k.o);obtain⟨n,t,v,y,A⟩:=iS (j.b.same X3.o (λe=>by rw[Y3.o] at e;omega))
     clear v4 j E c3;go_wp2_with fail
     refine(T.o _ _ F4.o).mono ?_;rintro _ w5 ⟨q,rfl,ak,I,hb⟩;have Q5:=iJ I;obtain⟨v5,f5⟩:=V4.o.page hb;have ab:=iJ (LY.o _ _ _ s q v5 (ak.pz (col:=aj) (LQ.o q I)));have F5:=iJ (F4.o.trans f5);have T5:=iJ ((hb.block w3.heap.size (af.1 Y.o).1).trans Y.o);have Z5:=iJ ((f5.c w3.heap.size (af.1 Y.o).1).trans Z4.o);clear ak I hb v5 f5 n t v y A T LY;generalize iO aj _ w5 6=aR at *;obtain⟨kq,lq,aE,aJ,aN,aC,aH,aL,aP⟩:=q;unfold Pv.vl at ab;simp only[Pv.cs] at ab;go_wp2_with fail
     refine ab.o.mono ?_;rintro _ w6 ⟨rfl,aQ,aS,v6,f6⟩;have V6:=iJ v6;have F6:=iJ (F5.o.trans f6);obtain⟨y0,y1⟩:=iX (f6.b.same T5.o (λe=>by rw[Z5.o] at e;omega))
     clear v6 f6 ab;go_wp2_with fail
     refine(EN.o _ _ _ _ _ _ V6.o).mono ?_;rintro _ w7 ⟨rfl,ax,ay,v7,r⟩;have K:=iJ v7;have J:=iJ (F6.o.trans r);clear v7 r y0 y1;go_wp2;go_ret2
     first|exact⟨_,Q5.o,rfl,_,_,K.o,J.o⟩|exact⟨rfl,_,Q5.o,_,_,K.o,J.o⟩
   . have e1:(e==0)=false:=by simp[he]
     simp only[if_neg he];obtain⟨n,t,v,y,A⟩:=iS B.o;go_enter func73,ntmps73;go_wp2_with fail
     refine m.o.mono ?_;rintro _ w2 ⟨rfl,hb⟩;have Z:=iJ ((hb.block w.heap.size (af.1 B.o).1).trans B.o);have i:=iJ (bt O.o hb);clear hb m n t v y A;go_wp2_with fail
     refine(U.o _ i.o).mono ?_;rintro _ w3 ⟨rfl,hb⟩;have H:=al w3 (.cells #[.int .i64 ((mk:Nat):Int),.int .i64 ((M:Nat):Int)] 137);have R:=iJ (bt (bt i.o hb) H);have V:=iJ (aF w3 (.cells #[.int .i64 ((mk:Nat):Int),.int .i64 ((M:Nat):Int)] 137));have X3:=iJ (((bt hb H).block w.heap.size (af.1 Z.o).1).trans Z.o);have k:Hid (col w3.heap.size=0):=G.o.z (bt i.o hb).size;have Y3:Hid (col w.heap.size=0):=G.o.z (ai _);have c3:=(G.o.keep (bt i.o hb)).c0;have au:b<w3.heap.size:=be an (bt i.o hb).size;clear hb U H;go_wp2_with fail
     refine(E.o _ R.o).mono ?_;rintro _ w4 ⟨rfl,aw,aj,v4,j⟩;have V4:=iJ v4;have F4:=iJ ((Vf.keep R.o).trans j);have Y:=iJ (j.b.same V.o (λe=>by rw[k.o] at e;omega))
     have Z4:=iJ ((j.c w3.heap.size (af.1 V.o).1).trans k.o);obtain⟨n,t,v,y,A⟩:=iS (j.b.same X3.o (λe=>by rw[Y3.o] at e;omega))
     clear v4 j E c3;obtain⟨y0,y1⟩:=iX Y.o;go_wp2_with fail
     refine(EO.o _ _ _ _ V4.o).mono ?_;rintro _ w7 ⟨rfl,ax,ay,v7,r⟩;have K:=iJ v7;have J:=iJ (F4.o.trans r);clear v7 r y0 y1 n t v y A;go_wp2;go_ret2
     first|exact⟨_,N.o,rfl,_,_,K.o,J.o⟩|exact⟨⟨_,N.o⟩,rfl,_,_,K.o,J.o⟩|exact⟨rfl,⟨_,N.o⟩,_,_,K.o,J.o⟩
 . have e0:((L:Nat):Int)≠0:=by omega
   have e1:(((L:Nat):Int)==0)=false:=by simp;omega
   have e2:(L==0)=false:=by simp;omega
   simp only[if_neg h0];obtain⟨n,t,v,y,A⟩:=iS B.o;go_enter func73,ntmps73;go_wp2_with fail
   refine m.o.mono ?_;rintro _ w2 ⟨rfl,hb⟩;have V1:=iJ (G.o.keep (bt O.o hb));have F1:=iJ (Vf.keep (c:=col) (bt O.o hb));clear hb m n t v y A;go_wp2;go_ret2
   first|exact⟨_,N.o,rfl,_,_,V1.o,F1.o⟩|exact⟨⟨_,N.o⟩,rfl,_,_,V1.o,F1.o⟩|exact⟨rfl,⟨_,N.o⟩,_,_,V1.o,F1.o⟩
theorem iQ{d:World}{o:Obj}(h:W.heap[g]?=some o)(hb:Below W.heap.size W d):d.heap[g]?=some o:=(hb.block _ (af.1 h).1).trans h
theorem Vw.but13{S:Nat->Prop}{T:Vs}{e d:Nat}(h:Vw w b T e d pc col)(hb:But S w w')(m:∀k,col k≠0->¬S k):Vw w' b T e d pc col:=by
 obtain⟨i,l,f,j,h⟩:=h;exact⟨i,l,f,j,h.but hb m⟩
theorem pU(d:P.alloc.1.2=0):∃i:Nat,i<P.pg.length/\Q.stt (P.pg.getD i Q.Pg.zero)=1/\P.alloc.1.1=(i:Int)+1/\P.alloc.2.pg=P.pg.set i (1,(P.pg.getD i Q.Pg.zero).2)/\P.alloc.2.rf=P.rf:=by
 unfold Q.Po.alloc at d ⊢;split at d
 . cases d
 . rename_i n T l;have h:n∈Q.iZ P.pg 1:=by rw[l];exact da
   unfold Q.iZ at h;obtain⟨i,f,e⟩:=bH.1 h;have k:=cw.1 (fb.1 f).1;have m:Q.stt (P.pg.getD i Q.Pg.zero)=1:=by simpa using(fb.1 f).2
   have j:n.toNat-1=i:=by omega
   refine⟨i,k,m,e.symm,?_,rfl⟩;show P.pg.set (n.toNat-1) (1,(P.pg.getD (n.toNat-1) Q.Pg.zero).2)=_;rw[j]
theorem xG{x:Q.Pg}(h:Q.stt x=1):x.1=0/\x.2=false:=by
 unfold Q.stt at h;split at h
 . split at h
   . omega
   . rename_i d e;exact⟨d,by simpa using e⟩
 . split at h<;>omega
theorem pJ{i:Nat}{y:Q.Pg}(hi:i<P.pg.length)(e:P'.pg=P.pg.set i y)(z:Int):P'.count z=if z=(i:Int)+1 then y.1 else P.count z:=by
 unfold Q.Po.count Q.Po.has;rw[e,aM];by_cases f:z=(i:Int)+1
 . subst f;have h:((i:Int)+1-1).toNat=i:=by omega
   rw[if_pos rfl,if_pos (by simp;omega),h]
   simp[hi]
 . rw[if_neg f];by_cases d:(decide (1<=z)&&decide (z<=P.pg.length))=true
   . rw[if_pos d,if_pos d];simp only[bO,bE] at d;have ne:i≠(z-1).toNat:=by omega
     rw[aq,aq,bQ ne]
   . rw[if_neg d,if_neg d]
theorem wJ(f:P.alloc.1.2=0):P.count P.alloc.1.1=0/\∀z,P.alloc.2.count z=if z=P.alloc.1.1 then 1 else P.count z:=by
 obtain⟨i,h,j,e,d,_⟩:=pU f;rw[e];refine⟨?_,λz=>pJ h d z⟩
 unfold Q.Po.count Q.Po.has;rw[if_pos (by simp;omega),show((i:Int)+1-1).toNat=i by omega]
 exact(xG j).1
theorem Ve.fine(h:Ve X X')(d:mA X.f):mA X'.f:=by
 obtain⟨_,L,_,u⟩:=h;exact(u d).1
theorem zH(cs:Array Value)(hb:Below w.heap.size w W)(d:w.heap.size<=g):Below w.heap.size w (W.setRow g cs):=((But.ofBelow (S:=λk=>k=g) hb).trans (jz W g cs) (λ_ _ e=>e)).below (λk f e=>by omega)
theorem Ae(h:P.state z=1):P.count z=0:=by
 unfold Q.Po.state at h;unfold Q.Po.count;split at h
 . rename_i d;rw[if_pos d];exact(xG h).1
 . cases h
theorem kY(P:Q.Po)(z:Int):(P.dec z).1=if P.count z=0 then (0,15) else (P.count z-1,0):=by
 unfold Q.Po.dec;split<;>rfl
theorem Hf(P:Q.Po)(z:Int):(P.dec z).2.rf=P.rf:=by
 unfold Q.Po.dec;split<;>rfl
theorem Bv(P:Q.Po)(z:Int):(P.dec z).2.mark=P.mark+(if P.count z=0 then 0 else 1):=by
 unfold Q.Po.dec;split
 . rfl
 . simp[Q.Po.act,Q.Po.mark];omega
theorem vh(P:Q.Po)(z:Int):(P.dec z).2.pg=if P.count z=0 then P.pg else P.pg.set (z.toNat-1) (P.count z-1,(P.pg.getD (z.toNat-1) Q.Pg.zero).2):=by
 unfold Q.Po.dec;split<;>rfl
theorem tV(P:Q.Po)(z y:Int):(P.dec z).2.count y=if y=z/\P.count z≠0 then P.count z-1 else P.count y:=by
 by_cases d:P.count z=0
 . rw[if_neg (λe=>e.2 d)]
   unfold Q.Po.count Q.Po.has;rw[vh,if_pos d]
 . obtain⟨h,i⟩:=Q.Po.count_has d;have e:=vh P z;rw[if_neg d] at e;rw[pJ (by omega) e y]
   by_cases f:y=z
   . subst f;rw[if_pos (by omega),if_pos ⟨rfl,d⟩]
   . rw[if_neg (by omega),if_neg (λe=>f e.1)]
theorem Vm.less_on{y:Int}(h:(X.less z).P.count y≠0):X.P.count y≠0/\(X.less z).on y=X.on y:=by
 rw[Vm.less_P,tV] at h;constructor
 . by_cases f:y=z/\X.P.count z≠0
   . rw[f.1];exact f.2
   . rw[if_neg f] at h;exact h
 . unfold Vm.less;split
   . rename_i i
     have ne:y≠z:=λe=>by
      have k:=Ae i.2;rw[tV] at k;subst e;by_cases d:X.P.count y=0
      . rw[if_neg (λq=>q.2 d)] at h;exact h d
      . rw[if_pos ⟨rfl,d⟩] at h k;exact h k
     unfold Vm.on;simp[jp,ne]
   . rfl
theorem vM(h:P.Ok)(d:P.alloc.1.2=0):P.alloc.2.Ok:=by
 unfold Q.Po.alloc at d ⊢;split at d
 . cases d
 . rename_i n T k;have f:n∈Q.iZ P.pg 1:=by rw[k];exact da
   unfold Q.iZ at f;obtain⟨i,j,e⟩:=bH.1 f;have l:=cw.1 (fb.1 j).1;have:=h.r1;exact h.act (by omega) (by omega) ⟨by omega,by omega⟩
theorem sT{α:Type}(g:α->Nat)(B:Nat):∀L:List α,(∀x∈L,g x<=B)->(L.map g).sum<=L.length*B
 | [],_=>by simp
 |x::T,h=>by
  have h1:=h x da;have e:=sT g B T (λy d=>h y (dJ _ d))
  simp only[bL,List.sum_cons,bf,Nat.succ_mul];omega
theorem Gf(h:P.Ok):tot P<=P.pg.length*P.rf.toNat:=sT _ _ _ (λx d=>by have:=h.cs x d;show x.1.toNat<=_;omega)
end Go.Proofs.YtbdkogimlbnlmaaGreat
namespace Go.Proofs.YtbdkogimlbnlmaaGreat.Q
open Tryz
open Go.RowKit Go.Shelf
attribute [local go_sem] Oper.semAt_some
variable {L:List Int}{n:Nat}{P:Po}
def fil(L:List Int)(n:Nat):List Int:=L++List.replicate (n-L.length) 0
theorem yC(h:L.length<=n):(fil L n).length=n:=by unfold fil;rw[ae,bh];omega
theorem FC(h:L.length<n)(x:Int):(fil L n).set L.length x=fil (L++[x]) n:=by
 unfold fil;rw[ed _ _ (ai _),df];obtain⟨m,b⟩:∃m,n-L.length=m+1:=⟨n-L.length-1,by omega⟩
 rw[b,gU,eZ,ae,List.length_singleton,show n-(L.length+1)=m by omega,aU]
 rfl
theorem wO{i:Nat}(h:i<P.pg.length):(P.counts.take (i+1))=P.counts.take i++[(P.pg.getD i Pg.zero).1]:=by
 have b:i<P.counts.length:=by unfold Po.counts;rw[aZ];exact h
 rw[jO P.counts 0 b];congr 2
 unfold Po.counts;simp[h]
theorem yr(w:World)(b:Nat)(P:Po)(col:Nat->Nat)(h:Pl w b P col):Calls prog 26 #[.pointer (some ⟨b,0,none⟩)] w λe V=>∃a c,e=.returned (.slice a P.counts.length c)/\IOwn w V a c P.counts:=by
 obtain⟨D,h⟩:=h;have T:=h.ok.l2;have R:=iJ h.q;obtain⟨n,r⟩:∃n,P.pg.length=n:=⟨_,rfl⟩;have O:=iJ r;have c1:=h.q.c1;rw[r] at c1 T;have C:P.counts.length=n:=by unfold Po.counts;rw[aZ];exact r
 rw[C];have B:=iJ C;have W:=rm n (by omega) w
 rw[pW] at W;have j:=al w (.cells (vi (List.replicate n 0)).toArray 3)
 have H:=iJ (show Ig (w.alloc (.cells (vi (List.replicate n 0)).toArray 3)) (some ⟨w.heap.size,0,none⟩) n (fil [] n) by
  have e:fil [] n=List.replicate n 0:=by unfold fil;simp
  rw[e];exact Ig.mk (aF w _) (by simp) (by unfold maxLen;omega) (by simp[vi]) (by simp[vi]))
 have G:=iJ j;have Y:(w.alloc (.cells (vi (List.replicate n 0)).toArray 3)).cell? ⟨b,1,none⟩=_:=(j.cell (p:=⟨b,1,none⟩) (block_lt_of_cell c1)).trans c1;clear h r C j;go_enter func26,ntmps26;go_wp2_with fail
 generalize w.alloc (.cells (vi (List.replicate n 0)).toArray 3)=X at *;go_loopw [17] (λi wr=>∃k:Nat,k<=n/\i=.int .i64 (k:Int)/\Ig wr (some ⟨w.heap.size,0,none⟩) n (fil (P.counts.take k) n)/\Below w.heap.size w wr) (λi _=>n-(intOf i).toNat)
 case atStart=>exact⟨0,az _,rfl,H.o,G.o⟩
 case round=>
  obtain⟨i,U,rfl,q,hb⟩:=hrel;have m:=iJ q;have v:=iJ hb;clear q hb H G;by_cases E:i<n
  . have K:i<P.pg.length:=by rw[O.o];exact E
    obtain⟨I,J⟩:=(R.o.keep v.o).pgAt K;have y:=iJ (wO K);obtain⟨x,t⟩:∃x,P.pg.getD i Pg.zero=x:=⟨_,rfl⟩;rw[t] at I J y;obtain⟨d,l⟩:=x;simp only at I J y;have tl:(P.counts.take i).length=i:=by rw[bi,B.o];omega
    have aa:(i:Int)<(n:Int):=by omega
    have j:=al wr (.cells #[.int .i64 d,.bool l] 133);have A:=m.o.keep j;have Z:(wr.alloc (.cells #[.int .i64 d,.bool l] 133)).cell? ⟨w.heap.size,i,none⟩=_:=A.cell (i:=i) (by rw[yC (by rw[tl];exact U)];exact E)
    have fg:(wr.alloc (.cells #[.int .i64 d,.bool l] 133)).frozen? ⟨w.heap.size,i,none⟩=false:=by
     rcases A.cases with⟨h0,_⟩|⟨g',cur,h0,q,_⟩
     . cases h0
     . cases h0;simp[World.frozen?,q]
    have ab:w.heap.size<wr.heap.size:=m.o.lt rfl
    have N:=iJ (show Ig ((wr.setCell ⟨w.heap.size,i,none⟩ (.int .i64 d)).alloc (.cells #[.int .i64 d,.bool l] 133)) (some ⟨w.heap.size,0,none⟩) n (fil (P.counts.take (i+1)) n) by
     have s:=m.o.set i d;have f:=FC (L:=P.counts.take i) (n:=n) (by rw[tl];exact E) d
     rw[tl] at f;rw[f,<-y.o] at s;exact s.keep (al _ _))
    have M:=iJ (show Below w.heap.size w ((wr.setCell ⟨w.heap.size,i,none⟩ (.int .i64 d)).alloc (.cells #[.int .i64 d,.bool l] 133)) from bt ((But.setCell (S:=λ_=>False) (But.ofBelow v.o) (p:=⟨w.heap.size,i,none⟩) (λh=>by have h:w.heap.size<w.heap.size:=h;omega) _).below (λ_ _ h=>h)) (al _ _))
    clear t j A tl;go_wp2;go_roundw
    case rel=>exact⟨i+1,by omega,by go_num,N.o,M.o⟩
    case measure=>simp[intOf];omega
  . obtain rfl:i=n:=by omega
    go_wp2;go_ret;refine⟨_,_,rfl,?_,λx t=>.inr (by cases t;exact ai _),v.o⟩
    have g:=m.o;rw[show P.counts.take i=P.counts by rw[<-B.o,cJ]] at g
    have e:fil P.counts i=P.counts:=by unfold fil;rw[B.o,df];simp
    rwa [e] at g
theorem Bi(w:World):yN prog 151 #[] enI [] w (λ_=>False):=by
 intro l J f W b i h g m j d;refine gR func151 rfl trivial ?_ rfl;simp only[ntmps151,dm,bf,bj,Nat.reduceAdd,Nat.reduceSub,dG,dH,dY,dO,cY,dw];gi_wp2
 go_end0
 exact⟨⟨_,rfl⟩,But.refl _ _,b,λk e=>.inl e,.inl d⟩
structure Wlk(w w':World)(gf:Nat)(lb:Array Value)(xs:List Int)(X:Nat->Prop):Prop where
 seq:yN prog gf lb enI xs w' X
 en:∀args w,(callFunc gf args).run prog w=.ok (.enter gf args) w
 nw:∀k,X k->w.heap.size<=k/\k<w'.heap.size
 bl:Below w.heap.size w w'
theorem Pm.rn{w:World}{b:Nat}{col:Nat->Nat}{D:Pd}(h:Pm w b P col D){s:Nat}(e:s<5):∀r∈D.L s,r.1<=r.2/\Nm r.1/\Nm r.2:=λr d=>⟨(h.q.set s e).can.1 r d,(h.q.set s e).bnd r d⟩
theorem t6(w:World)(b:Nat)(P:Po)(col:Nat->Nat)(h:Pl w b P col)(z:Int):Calls prog 115 #[.pointer (some ⟨b,0,none⟩),.int .i64 z] w λe H=>∃gf lb X,e=.returned (.func (.func gf) #[] lb)/\Wlk w H gf lb (P.pages z) X:=by
 obtain⟨D,h⟩:=h;have C:=iJ (qJ w z);unfold Po.pages;by_cases d:1<=z/\z<=4
 . rw[if_pos d];rw[ax d.1,ax d.2] at C;obtain⟨s,rfl⟩:∃s:Nat,z=(s:Int):=⟨z.toNat,by omega⟩
   rw[di];have J:=h.q.cin (s:=s) (by omega)
   have q:=mo (h.q.set s (by omega)).can (h.mem s (by omega))
   have v:=iJ (xM w (D.s s) (D.a s) (D.c s) (D.L s) (h.q.set s (by omega)))
   have B:=iJ (h.rn (s:=s) (by omega))
   have y:=iJ (h.few (s:=s) (by omega))
   rw[<-q];clear h q;simp only[Bool.and_self] at C;go_enter func115,ntmps115;go_wp2_with fail
   refine C.o.mono ?_;rintro _ I ⟨rfl,j⟩;obtain rfl:=j.symm;go_wp2_with fail
   refine v.o.mono ?_;rintro _ r ⟨E,g,rfl,l,p,i,m,t,hb⟩
   have A:=iJ (show Wlk w r 170 #[.pointer (some ⟨E,0,none⟩)] (jE (D.L s)) _ from⟨vZ r E (some ⟨g,0,none⟩) (D.L s).length (D.L s) i m (by have:=y.o;omega) B.o,enters_of func170 (by kernel_rfl) rfl,λk f=>by
    rcases f with rfl|⟨x,G,rfl⟩
    . exact⟨l,block_lt_of_cell i⟩
    . cases G;exact⟨p,t⟩,hb⟩)
   clear l p i m t hb;go_wp2;go_ret;exact⟨_,_,_,rfl,A.o⟩
 . rw[if_neg d]
   have e:(decide (1<=z)&&decide (z<=4))=false:=by
    by_cases a:1<=z
    . rw[au (show ¬z<=4 by omega)];simp
    . rw[au a];simp
   rw[e] at C;clear h d e;go_enter func115,ntmps115;go_wp2_with fail
   refine C.o.mono ?_;rintro _ I ⟨rfl,j⟩;obtain rfl:=j.symm;go_wp2;go_ret;exact⟨_,_,_,rfl,Bi w,enters_of func151 (by kernel_rfl) rfl,λk f=>f.elim,Below.refl _ _⟩
end Go.Proofs.YtbdkogimlbnlmaaGreat.Q
