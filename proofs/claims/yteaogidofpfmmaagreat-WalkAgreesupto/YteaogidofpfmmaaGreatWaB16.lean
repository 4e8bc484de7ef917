import Derived.Test.YteaogidofpfmmaaGreatWaB15
set_option linter.all false
set_option maxHeartbeats 8000000
set_option maxRecDepth 10000
namespace Go.Proofs.YteaogidofpfmmaaGreat
open Go.Proofs.Tryz
open Go.RowKit
variable {w:World}
theorem Bn.pre{d e:World}{B:List Plx}{j:Nat}{a:Option Addr}{c:Nat}{L:List Plv}(hb:Below w.heap.size w d)(h:Bn d e B j a c L):Bn w e B j a c L:=
 ⟨h.gw,h.ln,h.pl,λx b=>⟨(h.el x b).1.pre hb,(h.el x b).2⟩,λx b=>ay hb.size (h.nw x b),bt hb h.b⟩
theorem Sound.key_len{p:Pg}(h:Sound p)(hk:p.kind=2){i:Nat}(hi:i<p.items.length):(p.at i).key.length<=24:=by
 by_cases a:i=0
 . subst a;rw[h.key0 hk hi];exact an _
 . have:=h.keyK hi (.inr a);simp[isK] at this;omega
theorem iK{a:World}{k:Nat}{x:Obj}(hb:Below w.heap.size w a)(h:w.heap[k]?=some x):a.heap[k]?=some x:=(hb.block k (ae.1 h).1).trans h
theorem pR:rX:=by
 intro w p q aE aC ay aF hk aG aH;obtain⟨t0,t1,ah,_⟩:=iS w (.cells p.cs 148) (.cells q.cs 77) (Below.refl _ _);have A0:=ix ah;have HP:=ix (ay.keep ah);have HR:=ix (aE.keep ah);have aW:=ix (λ(wx:World)(a:Option Addr)(ab:Nat)(L:List Plv)(ag:Bn ((w.alloc (.cells p.cs 148)).alloc (.cells q.cs 77)) wx (ben p.px q.pg) q.items.length a ab L)=>(ag.pre ah).done)
 have BA:=ix (λ(j:Nat)(ag:j<q.items.length)=>Hh (at_:=p.px) (p:=q.pg) (j:=j) (by simpa[Pv.pg] using ag))
 have RB:=ix aC;have SN:=ix aF;have HK:=ix hk;obtain⟨no,d,r⟩:=p;obtain⟨kind,Z,aI,G,L,R,T,Y,next⟩:=q
 have h:=ix t0;have X1:=ix t1;have aG:1<=d:=aG;have aH:d<=11:=aH;have hn:L.length<=2199023255520:=ay.it.2.1;unfold Plv.vl Pv.vl;simp only[Plv.cs,Pv.cs] at *;clear aE aC ay aF hk t0 t1 ah;go_enter func119,ntmps119;go_wp2;generalize aM:(w.alloc _).alloc _=w1 at *;clear aM;have aZ:L.length<=8:=(SN.o.node (.inr (show kind=2 from HK.o))).2.2.1|>λag=>by simpa[Pv.pg] using ag
 go_loopw [5,12] (λaJ q wr=>∃(j:Nat)(a:Option Addr)(ab:Nat)(aa:List Plv),aJ=.slice a j ab/\q=.int .i64 j/\j<=L.length/\Bn w1 wr (ben (⟨no,d,r⟩:Plv).px (⟨kind,Z,aI,G,L,R,T,Y,next⟩:Pv).pg) j a ab aa) (λ_ q _=>L.length-(intOf q).toNat)
 case atStart=>exact⟨0,none,0,[],rfl,rfl,an _,⟨Q.Gw.nil _ _ _,rfl,rfl,(λx hx=>by cases hx),(λx hx=>by cases hx),Below.refl _ _⟩⟩
 case round=>
  obtain⟨j,a,ab,aa,rfl,rfl,hj,D⟩:=hrel;have f:=ix D;obtain⟨k0,k1,k2,k3,k4⟩:=i6 (iK f.o.b h.o);obtain⟨m0,m1,m2,m3,m4⟩:=i6 (iK f.o.b X1.o);clear D;by_cases ao:j<L.length
  . have a1:(j:Int)<(L.length:Int):=by omega
    obtain⟨l,n,rfl,cA⟩:=(HP.o.it.keep f.o.b).at ao;obtain⟨d0,d1,d2,d3⟩:=jn cA;have XI:=ix (((HP.o.it.keep f.o.b).1 _ (iH ao)));have BJ:=ix (BA.o j ao);have ej:(⟨kind,Z,some ⟨l,n,none⟩,G,L,R,T,Y,next⟩:Pv).pg.at j=(L.getD j Iv.zero).it:=js L j
    have RW:=ix (HR.o.keep f.o.b);clear cA;by_cases ak:j+1<L.length
    . obtain⟨b2,o2,e2,cB⟩:=(HP.o.it.keep f.o.b).at ak;simp only[au,Addr.mk.injEq] at e2;obtain⟨rfl,rfl,_⟩:=e2;obtain⟨f0,f1,f2,f3⟩:=jn cB;have YI:=ix (((HP.o.it.keep f.o.b).1 _ (iH ak)));have aB:(⟨kind,Z,some ⟨l,n,none⟩,G,L,R,T,Y,next⟩:Pv).pg.at (j+1)=(L.getD (j+1) Iv.zero).it:=js L (j+1)
      clear cB;have aX:(j:Int)+1<(L.length:Int):=by omega
      generalize L.getD j Iv.zero=x at *;generalize L.getD (j+1) Iv.zero=y at *;have J:=iS wr (.cells #[.slice x.aK x.key.length x.cK,.slice x.aV x.val.length x.cV,.int .i64 x.child,.int .i64 x.size] 89) (.cells #[.slice x.aK x.key.length x.cK,.slice none 0 0,.bool true] 62) (Below.refl _ _);have AV:=ix J.2.2.1;have ax:=ix J.1;have av:=ix J.2.1;obtain⟨p0,p1,p2,p3⟩:=jJ J.1;obtain⟨q0,q1,q2⟩:=je J.2.1;obtain⟨aN,aO,aP,aQ,aR⟩:=i6 (iK AV.o (iK f.o.b h.o));obtain⟨aS,aT,aq,aU,aV⟩:=i6 (iK AV.o (iK f.o.b X1.o));have aw:=(AV.o.cell (p:=⟨l,n+(j+1)*4,none⟩) (block_lt_of_cell f0)).trans f0;clear J f1 f2 f3;generalize hV:(wr.alloc (.cells #[.slice x.aK x.key.length x.cK,.slice x.aV x.val.length x.cV,.int .i64 x.child,.int .i64 x.size] 89)).alloc (.cells #[.slice x.aK x.key.length x.cK,.slice none 0 0,.bool true] 62)=V at *;go_wp2;have aY:(0:Int)<=(j:Int)+1:=by omega
      have a0:((j:Int)+1).toNat=j+1:=by omega
      have aK:IntKind.i64.wrap ((j:Int)+1)=(j:Int)+1:=iQ (by omega) (by omega)
      have DR:=ix (dr2 V);have H7:Hid ((λW=>W.cell? ⟨wr.heap.size,0,none⟩=some (.slice x.aK x.key.length x.cK)/\W.cell? ⟨w.heap.size+1,2,none⟩=some (.slice (some ⟨l,n,none⟩) L.length G)/\W.cell? ⟨l,n+(j+1)*4,none⟩=some (.slice y.aK y.key.length y.cK)) V.drew):=⟨(DR.o.cell (p:=⟨wr.heap.size,0,none⟩) (block_lt_of_cell p0)).trans p0,(DR.o.cell (p:=⟨w.heap.size+1,2,none⟩) (block_lt_of_cell aq)).trans aq,(DR.o.cell (p:=⟨l,n+(j+1)*4,none⟩) (block_lt_of_cell aw)).trans aw⟩
      refine be (S:=λW=>W.cell? ⟨wr.heap.size,0,none⟩=some (.slice x.aK x.key.length x.cK)/\W.cell? ⟨w.heap.size+1,2,none⟩=some (.slice (some ⟨l,n,none⟩) L.length G)/\W.cell? ⟨l,n+(j+1)*4,none⟩=some (.slice y.aK y.key.length y.cK)) (by kernel_rfl) H7.o (λhHeld=>?_)
      refine tkd 0 1 2 3 ?_;refine tkd 4 5 6 7 ?_;refine tkb 8 9 ?_;refine tw 10 λKx O=>?_
      rw[if_pos (by rfl)]
      refine fQ 62 _ _ rfl (wr.heap.size+1) #[.slice x.aK x.key.length x.cK,.slice y.aK y.key.length y.cK,.bool false] (by simp[Act.eval]) (by simp[Act.eval]) 62 _ (show V.drew.heap[wr.heap.size+1]?=_ from av.o) iY rfl (by simp[Value.oneCell']) ?_
      have BS:=ix ((But.ofBelow (S:=λk=>k=wr.heap.size+1) DR.o).trans (Q.iD V.drew (wr.heap.size+1) #[.slice x.aK x.key.length x.cK,.slice y.aK y.key.length y.cK,.bool false]) (λ_ _ e=>e))
      have aA:Hid ((λW=>W.cell? ⟨wr.heap.size,0,none⟩=some (.slice x.aK x.key.length x.cK)/\W.cell? ⟨w.heap.size+1,2,none⟩=some (.slice (some ⟨l,n,none⟩) L.length G)/\W.cell? ⟨l,n+(j+1)*4,none⟩=some (.slice y.aK y.key.length y.cK)) (V.drew.setRow (wr.heap.size+1) #[.slice x.aK x.key.length x.cK,.slice y.aK y.key.length y.cK,.bool false])):=⟨(BS.o.cell (p:=⟨wr.heap.size,0,none⟩) (block_lt_of_cell p0) (λe=>by have e:wr.heap.size=wr.heap.size+1:=e;omega)).trans p0,(BS.o.cell (p:=⟨w.heap.size+1,2,none⟩) (block_lt_of_cell aq) (λe=>by have e:w.heap.size+1=wr.heap.size+1:=e;have:=block_lt_of_cell m2;omega)).trans aq,(BS.o.cell (p:=⟨l,n+(j+1)*4,none⟩) (block_lt_of_cell aw) (λe=>by have e:l=wr.heap.size+1:=e;have:l<wr.heap.size:=block_lt_of_cell f0;omega)).trans aw⟩
      refine O.o _ _ aA.o (λhHeld=>?_)
      clear H7 aA hHeld;refine td ?_;have Y0:=ix (BS.o.same ax.o (λe=>by have e:wr.heap.size=wr.heap.size+1:=e;omega))
      have Y1:Hid ((V.drew.setRow (wr.heap.size+1) #[.slice x.aK x.key.length x.cK,.slice y.aK y.key.length y.cK,.bool false]).heap[wr.heap.size+1]?=some (.cells #[.slice x.aK x.key.length x.cK,.slice y.aK y.key.length y.cK,.bool false] 62 (0,0))):=bu _ _ _ _ _ _ av.o;have B8:=ix (((But.ofBelow (S:=λk=>k=wr.heap.size+1) AV.o).trans BS.o (λ_ _ e=>e)).below (λk hk e=>by have e:k=wr.heap.size+1:=e;omega))
      have SK:Hid (Ri (V.drew.setRow (wr.heap.size+1) #[.slice x.aK x.key.length x.cK,.slice y.aK y.key.length y.cK,.bool false]) ⟨x.aK,x.cK,x.key,y.aK,y.cK,y.key,false⟩):=⟨XI.o.bk.keep B8.o,XI.o.ck,YI.o.bk.keep B8.o,YI.o.ck⟩
      have EQ:Hid (wth (⟨kind,Z,some ⟨l,n,none⟩,G,L,R,T,Y,next⟩:Pv).pg j r.rg=jK r.rg (⟨x.aK,x.cK,x.key,y.aK,y.cK,y.key,false⟩:Rv).rg):=by
       show _=_;unfold wth;rw[ej,aB];have ar:j+1<(⟨kind,Z,some ⟨l,n,none⟩,G,L,R,T,Y,next⟩:Pv).pg.items.length:=by simpa[Pv.pg] using ak
       rw[if_pos ar];simp only[ar,not_true_eq_false,decide_false];rfl
      have X:Hid (Rb ⟨x.aK,x.cK,x.key,y.aK,y.cK,y.key,false⟩):=by
       have l1:=SN.o.key_len HK.o (i:=j) (by simpa[Pv.pg] using ao)
       have l2:=SN.o.key_len HK.o (i:=j+1) (by simpa[Pv.pg] using ak)
       rw[ej] at l1;rw[aB] at l2;have l1:x.key.length<=24:=l1;have l2:y.key.length<=24:=l2;exact⟨show x.key.length<=_ by omega,show y.key.length<=_ by omega⟩
      obtain⟨b,ad⟩:∃b:Rv,b=⟨x.aK,x.cK,x.key,y.aK,y.cK,y.key,false⟩:=⟨_,rfl⟩;have aj:Hid ((V.drew.setRow (wr.heap.size+1) #[.slice x.aK x.key.length x.cK,.slice y.aK y.key.length y.cK,.bool false]).heap[wr.heap.size+1]?=some (.cells b.cs 62 (0,0))):=by rw[ad];exact Y1.o
      rw[<-ad] at SK X EQ;clear Y1 ad;have Y1:=ix (show _=some (Obj.cells #[.slice b.aL b.lo.length b.cL,.slice b.aH b.hi.length b.cH,.bool b.op] 62 (0,0)) from aj.o)
      clear aj;generalize V.drew.setRow (wr.heap.size+1) #[.slice x.aK x.key.length x.cK,.slice y.aK y.key.length y.cK,.bool false]=K at *;go_wp2_with fail
      have c:Hid (∀U:World,Below K.heap.size K U->U.cell? ⟨wr.heap.size,2,none⟩=some (.int .i64 x.child)/\U.cell? ⟨w.heap.size,1,none⟩=some (.int .i64 d)/\(U.cell? ⟨w.heap.size,2,none⟩=some (.slice r.aL r.lo.length r.cL)/\U.cell? ⟨w.heap.size,3,none⟩=some (.slice r.aH r.hi.length r.cH)/\U.cell? ⟨w.heap.size,4,none⟩=some (.bool r.op))/\U.cell? ⟨wr.heap.size+1,0,none⟩=some (.slice b.aL b.lo.length b.cL)/\U.cell? ⟨wr.heap.size+1,1,none⟩=some (.slice b.aH b.hi.length b.cH)/\U.cell? ⟨wr.heap.size+1,2,none⟩=some (.bool b.op)):=λU hb=>by
       obtain⟨_,_,z2,_⟩:=jJ (iK hb Y0.o);obtain⟨_,z4,z5,z6,z7⟩:=i6 (iK (bt (bt f.o.b B8.o) hb) h.o);obtain⟨z8,z9,af⟩:=je (iK hb Y1.o);exact⟨z2,z4,⟨z5,z6,z7⟩,z8,z9,af⟩
      have M:=ix (dr2 K);have MT:=ix (λ(U:World)(hb:Below K.heap.size K U)=>qm U r b (RW.o.keep (bt B8.o hb)) (SK.o.keep hb) RB.o X.o)
      have aL:IntKind.i64.wrap (d-1)=d-1:=iQ (by omega) (by omega)
      refine be (S:=λW=>W.cell? ⟨wr.heap.size,2,none⟩=some (.int .i64 x.child)/\W.cell? ⟨w.heap.size,1,none⟩=some (.int .i64 d)/\(W.cell? ⟨w.heap.size,2,none⟩=some (.slice r.aL r.lo.length r.cL)/\W.cell? ⟨w.heap.size,3,none⟩=some (.slice r.aH r.hi.length r.cH)/\W.cell? ⟨w.heap.size,4,none⟩=some (.bool r.op))/\W.cell? ⟨wr.heap.size+1,0,none⟩=some (.slice b.aL b.lo.length b.cL)/\W.cell? ⟨wr.heap.size+1,1,none⟩=some (.slice b.aH b.hi.length b.cH)/\W.cell? ⟨wr.heap.size+1,2,none⟩=some (.bool b.op)) (by kernel_rfl) (c.o _ M.o) (λhHeld=>?_)
      refine tkd 0 1 2 3 ?_;refine tkd 4 5 6 7 ?_;refine tk 8 ?_;refine tw 9 λKx O=>?_
      go_simp;refine(MT.o _ M.o).mono ?_;rintro e P ⟨⟨t,B,m,s,A,g,C⟩,rfl,ac,ap⟩;have I:=ix (bt M.o ac.l.b);have RO:=ix (ac.pre M.o);have RG:=ix ap;have H:=ix (al P (.cells (⟨x.child,d-1,⟨t,B,m,s,A,g,C⟩⟩:Plv).cs 148));have X3:=ix (bj P (.cells (⟨x.child,d-1,⟨t,B,m,s,A,g,C⟩⟩:Plv).cs 148))
      have PX:Hid ((ben (⟨no,d,r⟩:Plv).px (⟨kind,Z,some ⟨l,n,none⟩,G,L,R,T,Y,next⟩:Pv).pg)[j]?=some (⟨x.child,d-1,⟨t,B,m,s,A,g,C⟩⟩:Plv).px):=by
       show _=_;rw[BJ.o,ej];show some (Plx.mk _ _ (wth _ j r.rg))=_;rw[EQ.o,<-RG.o];rfl
      have XB:Hid (Rb (⟨t,B,m,s,A,g,C⟩:Rv)):=by
       have e:=RG.o;have e1:m=(jK r.rg b.rg).lo:=by rw[<-e];rfl
       have e2:g=(jK r.rg b.rg).hi:=by rw[<-e];rfl
       exact⟨by rw[e1];exact pC RB.o.1 X.o.1,by
        show g.length<=_;rw[e2];unfold jK;dsimp only;split<;>split
        . exact an _
        . exact X.o.2
        . exact RB.o.2
        . exact pH RB.o.2 X.o.2⟩
      clear ac ap;simp only[Rv.val,Rv.cs];refine O.o _ _ (c.o _ I.o) (λhHeld=>?_)
      refine tk 10 ?_;refine tw 11 λKx O=>?_
      go_simp;refine O.o _ _ (c.o _ (bt I.o H.o)) (λhHeld=>?_)
      try simp only[pt]
      have R3:=ix ((RO.o.pre B8.o).keep H.o);have BN:=ix (f.o.keep (bt (bt B8.o I.o) H.o))
      have ai:Hid (∀(F N:Nat)(E:World),Q.Gw 148 5 E (some ⟨F,0,none⟩) N (j+1) (mg aa++(⟨x.child,d-1,⟨t,B,m,s,A,g,C⟩⟩:Plv).cs.toList)->New (P.alloc (.cells (⟨x.child,d-1,⟨t,B,m,s,A,g,C⟩⟩:Plv).cs 148)) a (some ⟨F,0,none⟩)->But (Q.InA a) (P.alloc (.cells (⟨x.child,d-1,⟨t,B,m,s,A,g,C⟩⟩:Plv).cs 148)) E->(∀U,U=E->(U.cell? ⟨wr.heap.size,2,none⟩=some (.int .i64 x.child)/\U.cell? ⟨w.heap.size,1,none⟩=some (.int .i64 d)/\(U.cell? ⟨w.heap.size,2,none⟩=some (.slice r.aL r.lo.length r.cL)/\U.cell? ⟨w.heap.size,3,none⟩=some (.slice r.aH r.hi.length r.cH)/\U.cell? ⟨w.heap.size,4,none⟩=some (.bool r.op))/\U.cell? ⟨wr.heap.size+1,0,none⟩=some (.slice b.aL b.lo.length b.cL)/\U.cell? ⟨wr.heap.size+1,1,none⟩=some (.slice b.aH b.hi.length b.cH)/\U.cell? ⟨wr.heap.size+1,2,none⟩=some (.bool b.op)))/\Bn w1 E (ben (⟨no,d,r⟩:Plv).px (⟨kind,Z,some ⟨l,n,none⟩,G,L,R,T,Y,next⟩:Pv).pg) (j+1) (some ⟨F,0,none⟩) N (aa++[⟨x.child,d-1,⟨t,B,m,s,A,g,C⟩⟩])):=λF N E hG hN D=>by
       refine⟨λU hU=>?_,BN.o.app (R3.o.pre f.o.b) XB.o PX.o hG hN D⟩
       subst hU;have nl:∀k,wr.heap.size<=k->¬Q.InA a k:=λk hk ⟨y,hy,e⟩=>by have:=f.o.gw.lt hy;omega
       have nw:¬Q.InA a w.heap.size:=λ⟨y,hy,e⟩=>by have:=f.o.nw y hy;have:=(ae.1 h.o).1;omega
       obtain⟨_,_,z2,_⟩:=jJ (D.same (iK (bt I.o H.o) Y0.o) (nl _ (am _)));obtain⟨_,z4,z5,z6,z7⟩:=i6 (D.same (iK (bt (bt f.o.b B8.o) (bt I.o H.o)) h.o) nw);obtain⟨z8,z9,af⟩:=je (D.same (iK (bt I.o H.o) Y1.o) (nl _ (by omega)))
       exact⟨z2,z4,⟨z5,z6,z7⟩,z8,z9,af⟩
      have az:j+1<=maxLen:=by unfold maxLen;omega
      refine tw 12 λKx O=>?_
      refine ox underlying203 xC rfl (by decide) rfl _ _ rfl a j ab (mg aa) (by first|(simp[Act.eval];done)|simp[Act.eval,Act.put]) BN.o.gw ⟨P.heap.size,0,none⟩ 1 (⟨x.child,d-1,⟨t,B,m,s,A,g,C⟩⟩:Plv).cs.toList (by first|(simp[Act.eval];done)|simp[Act.eval,Act.put]) rfl (xT X3.o) xw az (by omega) ?_
      intro F N E hG hN D;obtain⟨v,r5⟩:=ai.o F N E hG hN D;have R5:=ix r5;have v:=v E rfl;clear hG hN D r5 ai;refine O.o _ _ v (λhHeld=>?_)
      clear v;refine tk 13 ?_;refine td ?_;clear hHeld c;go_wp2_with fail
      go_roundw
      case rel=>exact⟨j+1,some ⟨F,0,none⟩,N,_,rfl,by go_num,by omega,R5.o⟩
      case measure=>simp[intOf];omega
    . have aX:¬(j:Int)+1<(L.length:Int):=by omega
      generalize L.getD j Iv.zero=x at *;have J:=iS wr (.cells #[.slice x.aK x.key.length x.cK,.slice x.aV x.val.length x.cV,.int .i64 x.child,.int .i64 x.size] 89) (.cells #[.slice x.aK x.key.length x.cK,.slice none 0 0,.bool true] 62) (Below.refl _ _);have AV:=ix J.2.2.1;have ax:=ix J.1;have av:=ix J.2.1;obtain⟨p0,p1,p2,p3⟩:=jJ J.1;obtain⟨q0,q1,q2⟩:=je J.2.1;obtain⟨aN,aO,aP,aQ,aR⟩:=i6 (iK AV.o (iK f.o.b h.o));obtain⟨aS,aT,aq,aU,aV⟩:=i6 (iK AV.o (iK f.o.b X1.o));clear J;generalize hV:(wr.alloc (.cells #[.slice x.aK x.key.length x.cK,.slice x.aV x.val.length x.cV,.int .i64 x.child,.int .i64 x.size] 89)).alloc (.cells #[.slice x.aK x.key.length x.cK,.slice none 0 0,.bool true] 62)=K at *;have aK:IntKind.i64.wrap ((j:Int)+1)=(j:Int)+1:=iQ (by omega) (by omega)
      have Y0:=ax;have B8:=AV;have SK:Hid (Ri K ⟨x.aK,x.cK,x.key,none,0,[],true⟩):=⟨XI.o.bk.keep B8.o,XI.o.ck,⟨(λx hx=>by cases hx),an _,.inl rfl⟩,am _⟩
      have EQ:Hid (wth (⟨kind,Z,some ⟨l,n,none⟩,G,L,R,T,Y,next⟩:Pv).pg j r.rg=jK r.rg (⟨x.aK,x.cK,x.key,none,0,[],true⟩:Rv).rg):=by
       show _=_;unfold wth;rw[ej];have ar:¬j+1<(⟨kind,Z,some ⟨l,n,none⟩,G,L,R,T,Y,next⟩:Pv).pg.items.length:=by simpa[Pv.pg] using ak
       rw[if_neg ar];simp only[ar,not_false_eq_true,decide_true];rfl
      have X:Hid (Rb ⟨x.aK,x.cK,x.key,none,0,[],true⟩):=by
       have l1:=SN.o.key_len HK.o (i:=j) (by simpa[Pv.pg] using ao)
       rw[ej] at l1;have l1:x.key.length<=24:=l1;exact⟨show x.key.length<=_ by omega,an _⟩
      obtain⟨b,ad⟩:∃b:Rv,b=⟨x.aK,x.cK,x.key,none,0,[],true⟩:=⟨_,rfl⟩;have aj:Hid (K.heap[wr.heap.size+1]?=some (.cells b.cs 62 (0,0))):=by rw[ad];exact av.o
      rw[<-ad] at SK X EQ;have Y1:=ix (show _=some (Obj.cells #[.slice b.aL b.lo.length b.cL,.slice b.aH b.hi.length b.cH,.bool b.op] 62 (0,0)) from aj.o)
      go_wp2;clear aj ad
      have c:Hid (∀U:World,Below K.heap.size K U->U.cell? ⟨wr.heap.size,2,none⟩=some (.int .i64 x.child)/\U.cell? ⟨w.heap.size,1,none⟩=some (.int .i64 d)/\(U.cell? ⟨w.heap.size,2,none⟩=some (.slice r.aL r.lo.length r.cL)/\U.cell? ⟨w.heap.size,3,none⟩=some (.slice r.aH r.hi.length r.cH)/\U.cell? ⟨w.heap.size,4,none⟩=some (.bool r.op))/\U.cell? ⟨wr.heap.size+1,0,none⟩=some (.slice b.aL b.lo.length b.cL)/\U.cell? ⟨wr.heap.size+1,1,none⟩=some (.slice b.aH b.hi.length b.cH)/\U.cell? ⟨wr.heap.size+1,2,none⟩=some (.bool b.op)):=λU hb=>by
       obtain⟨_,_,z2,_⟩:=jJ (iK hb Y0.o);obtain⟨_,z4,z5,z6,z7⟩:=i6 (iK (bt (bt f.o.b B8.o) hb) h.o);obtain⟨z8,z9,af⟩:=je (iK hb Y1.o);exact⟨z2,z4,⟨z5,z6,z7⟩,z8,z9,af⟩
      have M:=ix (dr2 K);have MT:=ix (λ(U:World)(hb:Below K.heap.size K U)=>qm U r b (RW.o.keep (bt B8.o hb)) (SK.o.keep hb) RB.o X.o)
      have aL:IntKind.i64.wrap (d-1)=d-1:=iQ (by omega) (by omega)
      refine be (S:=λW=>W.cell? ⟨wr.heap.size,2,none⟩=some (.int .i64 x.child)/\W.cell? ⟨w.heap.size,1,none⟩=some (.int .i64 d)/\(W.cell? ⟨w.heap.size,2,none⟩=some (.slice r.aL r.lo.length r.cL)/\W.cell? ⟨w.heap.size,3,none⟩=some (.slice r.aH r.hi.length r.cH)/\W.cell? ⟨w.heap.size,4,none⟩=some (.bool r.op))/\W.cell? ⟨wr.heap.size+1,0,none⟩=some (.slice b.aL b.lo.length b.cL)/\W.cell? ⟨wr.heap.size+1,1,none⟩=some (.slice b.aH b.hi.length b.cH)/\W.cell? ⟨wr.heap.size+1,2,none⟩=some (.bool b.op)) (by kernel_rfl) (c.o _ M.o) (λhHeld=>?_)
      refine tkd 0 1 2 3 ?_;refine tkd 4 5 6 7 ?_;refine tk 8 ?_;refine tw 9 λKx O=>?_
      go_simp;refine(MT.o _ M.o).mono ?_;rintro e P ⟨⟨t,B,m,s,A,g,C⟩,rfl,ac,ap⟩;have I:=ix (bt M.o ac.l.b);have RO:=ix (ac.pre M.o);have RG:=ix ap;have H:=ix (al P (.cells (⟨x.child,d-1,⟨t,B,m,s,A,g,C⟩⟩:Plv).cs 148));have X3:=ix (bj P (.cells (⟨x.child,d-1,⟨t,B,m,s,A,g,C⟩⟩:Plv).cs 148))
      have PX:Hid ((ben (⟨no,d,r⟩:Plv).px (⟨kind,Z,some ⟨l,n,none⟩,G,L,R,T,Y,next⟩:Pv).pg)[j]?=some (⟨x.child,d-1,⟨t,B,m,s,A,g,C⟩⟩:Plv).px):=by
       show _=_;rw[BJ.o,ej];show some (Plx.mk _ _ (wth _ j r.rg))=_;rw[EQ.o,<-RG.o];rfl
      have XB:Hid (Rb (⟨t,B,m,s,A,g,C⟩:Rv)):=by
       have e:=RG.o;have e1:m=(jK r.rg b.rg).lo:=by rw[<-e];rfl
       have e2:g=(jK r.rg b.rg).hi:=by rw[<-e];rfl
       exact⟨by rw[e1];exact pC RB.o.1 X.o.1,by
        show g.length<=_;rw[e2];unfold jK;dsimp only;split<;>split
        . exact an _
        . exact X.o.2
        . exact RB.o.2
        . exact pH RB.o.2 X.o.2⟩
      clear ac ap;simp only[Rv.val,Rv.cs];refine O.o _ _ (c.o _ I.o) (λhHeld=>?_)
      refine tk 10 ?_;refine tw 11 λKx O=>?_
      go_simp;refine O.o _ _ (c.o _ (bt I.o H.o)) (λhHeld=>?_)
      try simp only[pt]
      have R3:=ix ((RO.o.pre B8.o).keep H.o);have BN:=ix (f.o.keep (bt (bt B8.o I.o) H.o))
      have ai:Hid (∀(F N:Nat)(E:World),Q.Gw 148 5 E (some ⟨F,0,none⟩) N (j+1) (mg aa++(⟨x.child,d-1,⟨t,B,m,s,A,g,C⟩⟩:Plv).cs.toList)->New (P.alloc (.cells (⟨x.child,d-1,⟨t,B,m,s,A,g,C⟩⟩:Plv).cs 148)) a (some ⟨F,0,none⟩)->But (Q.InA a) (P.alloc (.cells (⟨x.child,d-1,⟨t,B,m,s,A,g,C⟩⟩:Plv).cs 148)) E->(∀U,U=E->(U.cell? ⟨wr.heap.size,2,none⟩=some (.int .i64 x.child)/\U.cell? ⟨w.heap.size,1,none⟩=some (.int .i64 d)/\(U.cell? ⟨w.heap.size,2,none⟩=some (.slice r.aL r.lo.length r.cL)/\U.cell? ⟨w.heap.size,3,none⟩=some (.slice r.aH r.hi.length r.cH)/\U.cell? ⟨w.heap.size,4,none⟩=some (.bool r.op))/\U.cell? ⟨wr.heap.size+1,0,none⟩=some (.slice b.aL b.lo.length b.cL)/\U.cell? ⟨wr.heap.size+1,1,none⟩=some (.slice b.aH b.hi.length b.cH)/\U.cell? ⟨wr.heap.size+1,2,none⟩=some (.bool b.op)))/\Bn w1 E (ben (⟨no,d,r⟩:Plv).px (⟨kind,Z,some ⟨l,n,none⟩,G,L,R,T,Y,next⟩:Pv).pg) (j+1) (some ⟨F,0,none⟩) N (aa++[⟨x.child,d-1,⟨t,B,m,s,A,g,C⟩⟩])):=λF N E hG hN D=>by
       refine⟨λU hU=>?_,BN.o.app (R3.o.pre f.o.b) XB.o PX.o hG hN D⟩
       subst hU;have nl:∀k,wr.heap.size<=k->¬Q.InA a k:=λk hk ⟨y,hy,e⟩=>by have:=f.o.gw.lt hy;omega
       have nw:¬Q.InA a w.heap.size:=λ⟨y,hy,e⟩=>by have:=f.o.nw y hy;have:=(ae.1 h.o).1;omega
       obtain⟨_,_,z2,_⟩:=jJ (D.same (iK (bt I.o H.o) Y0.o) (nl _ (am _)));obtain⟨_,z4,z5,z6,z7⟩:=i6 (D.same (iK (bt (bt f.o.b B8.o) (bt I.o H.o)) h.o) nw);obtain⟨z8,z9,af⟩:=je (D.same (iK (bt I.o H.o) Y1.o) (nl _ (by omega)))
       exact⟨z2,z4,⟨z5,z6,z7⟩,z8,z9,af⟩
      have az:j+1<=maxLen:=by unfold maxLen;omega
      refine tw 12 λKx O=>?_
      refine ox underlying203 xC rfl (by decide) rfl _ _ rfl a j ab (mg aa) (by first|(simp[Act.eval];done)|simp[Act.eval,Act.put]) BN.o.gw ⟨P.heap.size,0,none⟩ 1 (⟨x.child,d-1,⟨t,B,m,s,A,g,C⟩⟩:Plv).cs.toList (by first|(simp[Act.eval];done)|simp[Act.eval,Act.put]) rfl (xT X3.o) xw az (by omega) ?_
      intro F N E hG hN D;obtain⟨v,r5⟩:=ai.o F N E hG hN D;have R5:=ix r5;have v:=v E rfl;clear hG hN D r5 ai;refine O.o _ _ v (λhHeld=>?_)
      clear v;refine tk 13 ?_;refine td ?_;clear hHeld c;go_wp2_with fail
      go_roundw
      case rel=>exact⟨j+1,some ⟨F,0,none⟩,N,_,rfl,by go_num,by omega,R5.o⟩
      case measure=>simp[intOf];omega
  . obtain rfl:j=L.length:=by omega
    go_wp2;go_ret;exact aW.o _ _ _ _ f.o
theorem jW{a:Func}{p:Tmp}{b:TypeId}(h:a.results=#[.cell p b])(tmps:Array Value)(w:World)(g:Nat)(v:Value)
 (d:tmps.getD p undef=.pointer (some ⟨g,0,none⟩)) (f:w.cell? ⟨g,0,none⟩=some v) (c:(loadVar b ⟨g,0,none⟩).run prog w=.ok v w):
 (results a tmps).run prog w=.ok v w:=by
 have e:tmps[p]?.getD undef=.pointer (some ⟨g,0,none⟩):=by simpa using d
 simp[results,h,e,asAddr,c]
theorem jG(w:World)(g:Nat)(v:Value)(a:w.cell? ⟨g,0,none⟩=some v):(loadVar 39 ⟨g,0,none⟩).run prog w=.ok v w:=by
 go_simp
theorem uK(w:World)(cs:Array Value)(e:Int):((w.alloc (.cells cs 34)).alloc (.cells #[.int .i64 e] 39)).cell? ⟨w.heap.size+1,0,none⟩=some (.int .i64 e)/\Below w.heap.size w ((w.alloc (.cells cs 34)).alloc (.cells #[.int .i64 e] 39)):=by
 have:=ag (w.alloc (.cells cs 34)) (.cells #[.int .i64 e] 39);rw[size_alloc] at this;exact⟨by rw[ai _ _ _ _ _ _ this];rfl,bt (al w (.cells cs 34)) (al (w.alloc (.cells cs 34)) (.cells #[.int .i64 e] 39))⟩
theorem zf(w:World)(b:Nat)(rd:Int->Option Pg)(t:Tr)(i:t.root=0/\t.height=0/\t.items=0\/(t.root=0\/t.height<1\/12<t.height\/t.items<1)):
 Calls prog 36 #[.pointer (some ⟨b,0,none⟩),.agg #[.int .i64 t.root,.int .i64 t.height,.int .i64 t.items]] w λe l=>e=.returned (.int .i64 ((chk rd t:Nat):Int))/\Below w.heap.size w l:=by
 have f:=ix (bt (al w (.cells #[.int .i64 t.root,.int .i64 t.height,.int .i64 t.items] 34)) (al (w.alloc (.cells #[.int .i64 t.root,.int .i64 t.height,.int .i64 t.items] 34)) (.cells #[.int .i64 0] 39)));obtain⟨c,a,d⟩:=t;have i:c=0/\a=0/\d=0\/(c=0\/a<1\/12<a\/d<1):=i;by_cases h:c=0/\a=0/\d=0
 . obtain⟨rfl,rfl,rfl⟩:=h;have g:chk rd ⟨0,0,0⟩=0:=by unfold chk;exact if_pos ⟨rfl,rfl,rfl⟩
   rw[g];simp only at f ⊢;go_enter func36,ntmps36;go_wp2
   have j:((w.alloc (.cells #[.int .i64 0,.int .i64 0,.int .i64 0] 34)).alloc (.cells #[.int .i64 0] 39)).cell? ⟨w.heap.size+1,0,none⟩=some (.int .i64 0):=by
    have:=ag (w.alloc (.cells #[.int .i64 0,.int .i64 0,.int .i64 0] 34)) (.cells #[.int .i64 0] 39);rw[size_alloc] at this;rw[ai _ _ _ _ _ _ this];rfl
   refine az (jW results36 _ _ (w.heap.size+1) _ rfl j (jG _ _ _ j)) rfl ?_;exact⟨rfl,f.o⟩
 . have k:c=0\/a<1\/12<a\/d<1:=i.resolve_left h
   have g:chk rd ⟨c,a,d⟩=5:=by
    unfold chk;rw[if_neg h,if_pos k]
   rw[g];have m:((decide (c=0)&&(decide (a=0)&&decide (d=0))))=false:=by simp;omega
   simp only at f ⊢;go_enter func36,ntmps36;go_wp2
   all_goals
    first
    |(refine az (jW results36 _ _ (w.heap.size+1) _ rfl (uK w _ _).1 (jG _ _ _ (uK w _ _).1)) rfl ?_
      exact⟨rfl,(uK w _ _).2⟩)
    |(exfalso;simp_all;omega)
end Go.Proofs.YteaogidofpfmmaaGreat
namespace Go.Proofs.YteaogidofpfmmaaGreat
open Go.Proofs.Tryz
variable {rd:Int->Option Pg}{G:List Int}{N:Nat}{p:Pg}
theorem ml:∀(N:Nat)(G:List Int),G.Nodup->(∀n∈G,1<=n/\n<=(N:Int))->G.length<=N
 |0,G,_,h=>by
  cases G with
  |nil=>exact am _
  |cons x L=>have:=h x bG;omega
 |N+1,G,hn,h=>by
  by_cases c:((N:Int)+1)∈G
  . have f:=ml N (G.erase ((N:Int)+1)) (hn.erase _) (λn a=>by
     have b:=h n (List.mem_of_mem_erase a);have d:n≠(N:Int)+1:=λe=>by subst e;exact(List.Nodup.not_mem_erase hn) a
     omega)
    have b:=List.length_erase_of_mem c;omega
  . have:=ml N G hn (λn a=>by
     have b:=h n a;have d:n≠(N:Int)+1:=λe=>by subst e;exact c a
     omega)
    omega
structure Gok(rd:Int->Option Pg)(G:List Int):Prop where
 nd:G.Nodup
 ex:∀n∈G,(rd n).isSome=true
theorem Gok.nil(rd:Int->Option Pg):Gok rd []:=⟨List.nodup_nil,λn h=>by cases h⟩
theorem Gok.cons(h:Gok rd G){n:Int}(b:rd n=some p)(a:n∉G):Gok rd (n::G):=⟨e6.2 ⟨a,h.nd⟩,λk hk=>by
 rcases bQ.1 hk with rfl|hk
 . rw[b];rfl
 . exact h.ex k hk⟩
def jx(rd:Int->Option Pg)(N:Nat):Prop:=∀n,(rd n).isSome=true->1<=n/\n<=(N:Int)
theorem Gok.len(h:Gok rd G)(a:jx rd N):G.length<=N:=ml N G h.nd λn b=>a n (h.ex n b)
theorem qt{rd:Int->Option Pg}:∀(t:Nat)(G:List Int)(n l:Int),Gok rd G->Gok rd (iX rd t G n l).1/\G.length<=(iX rd t G n l).1.length
 |0,G,n,l,h=>⟨h,am _⟩
 |t+1,G,n,l,h=>by
  unfold iX;split
  . exact⟨h,am _⟩
  . cases hp:rd n with
    |none=>exact⟨h,am _⟩
    |some p=>
     simp only;split
     . exact⟨h,am _⟩
     . rename_i hn;have h2:=h.cons hp hn;split
       . exact⟨h2,eS _⟩
       . split
         . exact⟨h2,eS _⟩
         . have:=qt t (n::G) p.next (l-480) h2;exact⟨this.1,ay (eS _) this.2⟩
theorem qC{rd:Int->Option Pg}{r:Rg}:∀(L:List It)(G:List Int),Gok rd G->Gok rd (jb rd r L G).1/\G.length<=(jb rd r L G).1.length
 | [],G,h=>⟨h,am _⟩
 |x::L,G,h=>by
  unfold jb;split
  . exact⟨h,am _⟩
  . split
    . exact qC L G h
    . have h1:=qt 8 G x.child x.size h;split
      . exact h1
      . have a:=qC (r:=r) L _ h1.1;exact⟨a.1,ay h1.2 a.2⟩
structure Kb(rd:Int->Option Pg)(s:Cst):Prop where
 g:Gok rd s.G
 k:s.ks<=8*s.G.length
theorem Kb.len{s:Cst}(h:Kb rd s)(a:jx rd N):s.ks<=8*N:=by
 have:=h.g.len a;have:=h.k;omega
theorem Kb.tel{root:Int}{s:Cst}(h:Kb rd s){a:Plx}(e:rd a.no=some p)(d:a.no∉s.G)(f:p.items.length<=8):Kb rd (ju rd root {s with G:=a.no::s.G} a p):=by
 have g:=h.g.cons e d;have k:=h.k;have b:s.ks<=8*(a.no::s.G).length:=by rw[a7];omega
 have c:=qC (r:=a.keys) p.items (a.no::s.G) g;unfold ju;split
 . exact⟨g,b⟩
 . split
   . split
     . exact⟨c.1,by have:=c.2;simp only at b ⊢;omega⟩
     . refine⟨c.1,?_⟩;have c2:=c.2;rw[a7] at c2;simp only;omega
   . exact⟨g,b⟩
end Go.Proofs.YteaogidofpfmmaaGreat
namespace Go.Proofs.YteaogidofpfmmaaGreat
open Go.Proofs.Tryz
open Go.RowKit Go.Shelf
attribute [local go_sem] Oper.semAt_some
variable {rd:Int->Option Pg}{n:Nat}{F S:Nat->Prop}{W W':World}
theorem Ce:(prog.info? 143).map (·.size)=some 4:=by kernel_rfl
def ckF(n k:Nat):Prop:=k=n+1\/k=n+2\/k=n+4
structure CkI(n:Nat)(rd:Int->Option Pg)(F:Nat->Prop)(s:Cst)(W:World):Prop where
 f:∀k,F k↔ckF n k
 kb:Kb rd s
 er:s.er=0
 m:Mp W (n+2) (gnf s.G)
 e:W.heap[n+1]?=some (.cells #[.int .i64 0] 39 (0,0))
 k:W.heap[n+4]?=some (.cells #[.int .i64 ((s.ks:Nat):Int)] 3 (0,0))
structure CkX(n:Nat)(F:Nat->Prop)(s:Cst)(W:World):Prop where
 f:∀k,F k↔ckF n k
 l:n+4<W.heap.size
 er:s.er≠0
 e:W.heap[n+1]?=some (.cells #[.int .i64 ((s.er:Nat):Int)] 39 (0,0))
theorem CkI.but{s:Cst}(h:CkI n rd F s W)(hb:But S W W')(a:∀k,ckF n k->¬S k):CkI n rd F s W':=⟨h.f,h.kb,h.er,h.m.but hb (a _ (.inr (.inl rfl))),hb.same h.e (a _ (.inl rfl)),hb.same h.k (a _ (.inr (.inr rfl)))⟩
theorem CkX.but{s:Cst}(h:CkX n F s W)(hb:But S W W')(a:∀k,ckF n k->¬S k):CkX n F s W':=⟨h.f,a6 h.l hb.size,h.er,hb.same h.e (a _ (.inl rfl))⟩
theorem CkI.lt{s:Cst}(h:CkI n rd F s W):n+4<W.heap.size:=(ae.1 h.k).1
theorem De(w:World)(c0 v s:Array Value):∃U:World,(((((w.alloc (.cells c0 34)).alloc (.cells #[.int .i64 0] 39)).alloc (.map #[] 0)).alloc (.cells v 143)).setRow (w.heap.size+1+1+1) s).alloc (.cells #[.int .i64 0] 3)=U/\U.heap[w.heap.size]?=some (.cells c0 34 (0,0))/\U.heap[w.heap.size+1]?=some (.cells #[.int .i64 0] 39 (0,0))/\Mp U (w.heap.size+2) (gnf [])/\U.heap[w.heap.size+3]?=some (.cells s 143 (0,0))/\U.heap[w.heap.size+4]?=some (.cells #[.int .i64 0] 3 (0,0))/\Below w.heap.size w U/\U.heap.size=w.heap.size+5:=by
 obtain⟨a,i⟩:∃U,w.alloc (.cells c0 34)=U:=⟨_,rfl⟩;obtain⟨b,j⟩:∃U,a.alloc (.cells #[.int .i64 0] 39)=U:=⟨_,rfl⟩;obtain⟨c,l⟩:∃U,b.alloc (.map #[] 0)=U:=⟨_,rfl⟩;obtain⟨d,m⟩:∃U,c.alloc (.cells v 143)=U:=⟨_,rfl⟩;obtain⟨f,p⟩:∃U,d.setRow (w.heap.size+1+1+1) s=U:=⟨_,rfl⟩;obtain⟨g,q⟩:∃U,f.alloc (.cells #[.int .i64 0] 3)=U:=⟨_,rfl⟩;have A:a.heap.size=w.heap.size+1:=by rw[<-i,size_alloc]
 have B:b.heap.size=w.heap.size+2:=by rw[<-j,size_alloc,A]
 have C:c.heap.size=w.heap.size+3:=by rw[<-l,size_alloc,B]
 have H:d.heap.size=w.heap.size+4:=by rw[<-m,size_alloc,C]
 have D:f.heap.size=w.heap.size+4:=by rw[<-p,<-H];simp
 have I:g.heap.size=w.heap.size+5:=by rw[<-q,size_alloc,D]
 have E:Below w.heap.size w a:=by rw[<-i];exact al _ _
 have x:Below a.heap.size a b:=by rw[<-j];exact al _ _
 have t:Below b.heap.size b c:=by rw[<-l];exact al _ _
 have h:Below c.heap.size c d:=by rw[<-m];exact al _ _
 have G:But (λk=>k=w.heap.size+3) d f:=by rw[<-p];exact Q.iD _ _ _
 have y:Below f.heap.size f g:=by rw[<-q];exact al _ _
 have r:But (λk=>k=w.heap.size+3) d g:=G.andBelow y
 have J:a.heap[w.heap.size]?=some (.cells c0 34 (0,0)):=by rw[<-i];exact ag _ _
 have K:b.heap[w.heap.size+1]?=some (.cells #[.int .i64 0] 39 (0,0)):=by rw[<-A,<-j];exact ag _ _
 have L:Mp c (w.heap.size+2) (gnf []):=by rw[<-B,<-l];exact(Mp.made _).congr (λk=>by simp[gnf])
 have M:d.heap[w.heap.size+3]?=some (.cells v 143 (0,0)):=by rw[<-C,<-m];exact ag _ _
 have N:f.heap[w.heap.size+3]?=some (.cells s 143 (0,0)):=by rw[<-p];exact bu _ _ _ _ _ _ M
 have O:g.heap[w.heap.size+4]?=some (.cells #[.int .i64 0] 3 (0,0)):=by rw[<-D,<-q];exact ag _ _
 refine⟨g,by rw[i,j,l,m,p,q],?_,?_,?_,?_,O,?_,I⟩
 . exact r.same ((bt (bt x t) h).block _ (by omega) |>.trans J) (λe=>by omega)
 . exact r.same ((bt t h).block _ (by omega) |>.trans K) (λe=>by omega)
 . exact(L.keep h).but r (λe=>by omega)
 . exact(y.block _ (by omega)).trans N
 . exact(((But.ofBelow (S:=λk=>k=w.heap.size+3) (bt (bt (bt E x) t) h)).trans r (λ_ _ e=>e)).below (λk hk e=>by omega))
theorem qO(w:World)(ac:Nat)(rd:Int->Option Pg)(hA:iF rd)(aG:Nat)(hN:jx rd aG)(bv:aG<=65536)(XV:Nat->Prop)(hR:i9 52 (.pointer (some ⟨ac,0,none⟩)) rd XV w)(hX:∀k,XV k->k<w.heap.size)(t:Tr):
 Calls prog 36 #[.pointer (some ⟨ac,0,none⟩),.agg #[.int .i64 t.root,.int .i64 t.height,.int .i64 t.items]] w λe w'=>e=.returned (.int .i64 ((chk rd t:Nat):Int))/\Below w.heap.size w w':=by
 by_cases ht:t.root=0/\t.height=0/\t.items=0\/(t.root=0\/t.height<1\/12<t.height\/t.items<1)
 . exact zf w ac rd t ht
 have a3:chk rd t=if (kO rd t).er≠0 then (kO rd t).er else if ((kO rd t).ks:Int)≠t.items then 4 else 0:=by
  unfold chk;rw[if_neg (λh=>ht (.inl h)),if_neg (λh=>ht (.inr h))]
 obtain⟨root,H,P⟩:=t;have ht:¬(root=0/\H=0/\P=0\/(root=0\/H<1\/12<H\/P<1)):=ht;have aJ:=ix a3;have h1:¬root=0:=λh=>ht (.inr (.inl h))
 have h2:1<=H:=by omega
 have h3:H<=12:=by omega
 have I:1<=P:=by omega
 have b1:(root==0)=false:=by simp[h1]
 have l1:¬H<1:=by omega
 have l2:¬12<H:=by omega
 have l3:¬P<1:=by omega
 clear ht a3;obtain⟨ch,a0⟩:∃af,chk rd ⟨root,H,P⟩=af:=⟨_,rfl⟩;rw[a0] at aJ ⊢;clear a0;have c:=λ(W:World)(k:Nat)(cs:Array Value)(t:TypeId)(e:W.heap.size=k)=>(e▸ag W (.cells cs t):(W.alloc (.cells cs t)).heap[k]?=some (.cells cs t (0,0)))
 have bj:= @run_makeMap prog;have RO:=ix (λ(W:World)=>rp W root H P h2 h3)
 have ST:=ix (λ(W:World)=>pk W (w.heap.size+3) ⟨root,H-1,⟨none,0,[],none,0,[],true⟩⟩)
 simp only;refine(dc (n:=0)).1 ?_;refine dM func36 rfl trivial ?_ rfl;simp only[ntmps36,cR,a7,bg,Nat.reduceAdd,Nat.reduceSub,cx,cM,dg,c7,b9,b7];refine d6.2 ?_;go_upto_region 8 with(first|(refine bz rfl 143 _ _ rfl (w.heap.size+1+1+1) _ rfl rfl 143 _ (c _ _ _ _ (by simp[size_alloc])) Ce rfl (by simp[Value.oneCell']) ?_)|fail)
 obtain⟨a5,hU,X0,X1,XM,X3,X4,BU,sU⟩:=De w #[.int .i64 root,.int .i64 H,.int .i64 P] #[.pointer none,.map none,.nilFunc,.int .i64 0] #[.pointer (some ⟨ac,0,none⟩),.map (some (w.heap.size+1+1)),.func (.func 69) #[] #[],.int .i64 0];rw[hU];clear hU c bj;have HR:=ix (hR.keep BU);have X0:=ix X0;have X1:=ix X1;have XM:=ix XM;have X3:=ix X3;have X4:=ix X4;have BU:=ix BU;clear hR;unfold Plv.vl at ST;simp only[Plv.cs,bg] at ST;obtain⟨t0,t1,t2⟩:=je X0.o;go_wp2_with fail
 refine(RO.o _).mono ?_;rintro _ U ⟨rfl,aZ⟩;have B1:=ix aZ;clear aZ RO;go_wp2_with fail
 refine(ST.o _).mono ?_;rintro _ U2 ⟨rfl,aM⟩;obtain⟨w1,w2,aH,bo⟩:=iS U (.cells #[.pointer (some ⟨w.heap.size+3,0,none⟩)] 198) (.cells #[.int .i64 root,.int .i64 (H-1),.slice none 0 0,.slice none 0 0,.bool true] 148) (Below.refl _ _);have bG:U2.heap.size=U.heap.size+2:=by rw[aM,size_alloc,size_alloc]
 rw[<-aM] at w1 w2 aH bo;have B2:=ix (bt B1.o aH);have c1:U2.cell? ⟨U.heap.size,0,none⟩=some (.pointer (some ⟨w.heap.size+3,0,none⟩)):=by rw[ai _ _ _ _ _ _ w1];rfl
 have w2:=ix w2;have W1:=ix c1;have bB:a5.heap.size<=U.heap.size:=B1.o.size;have aX:=ix ((B2.o.block (w.heap.size+3) (ae.1 X3.o).1).trans X3.o);have I2:Hid (CkI w.heap.size rd (ckF w.heap.size) ⟨[],0,0⟩ U2):=ix ⟨λ_=>dT,⟨Gok.nil _,an _⟩,rfl,XM.o.keep B2.o,(B2.o.block _ (ae.1 X1.o).1).trans X1.o,(B2.o.block _ (ae.1 X4.o).1).trans X4.o⟩
 have aW:=ix (HR.o.keep B2.o);have TT:Hid (Tou U2 (w.heap.size+3) (w.heap.size+2) ac 69 #[] true rd XV (λ_=>true) (λ_=>False)):=ix ⟨aX.o,aW.o,us U2,λk h=>by have:=hX k h;omega,λk h=>h.elim⟩
 have T2:=ix ((B2.o.block w.heap.size (ae.1 X0.o).1).trans X0.o);have aI:=ix (bt BU.o B2.o)
 have XX:Hid (∀k,XS (w.heap.size+3) U.heap.size (U.heap.size+1) ⟨root,H-1,⟨none,0,[],none,0,[],true⟩⟩ XV (λ_=>False) k->k<U2.heap.size/\¬ckF w.heap.size k):=ix (λk hk=>by
  unfold ckF;rcases hk with rfl|rfl|rfl|h|h|⟨a8,hy,_⟩|⟨a8,hy,_⟩
  . omega
  . omega
  . omega
  . have:=hX k h;omega
  . exact h.elim
  . cases hy
  . cases hy)
 have SQ:=ix (tT (iM rd root) rd hA ac (w.heap.size+3) (w.heap.size+2) 69 #[] (enters_of func69 (by kernel_rfl) rfl) true XV (λ_=>true) (λ_=>False) (λ_ _=>rfl) (λ_=>rfl) pR (H-1).toNat U2 U.heap.size (U.heap.size+1) ⟨root,H-1,⟨none,0,[],none,0,[],true⟩⟩ ⟨[],0,0⟩ (by show H-1<=_;omega) W1.o w2.o ⟨Bs.nil _,am _,Bs.nil _,am _⟩ ⟨an _,an _⟩ (show N64 (H-1) from⟨by omega,by omega⟩) TT.o rfl (λk hk=>(XX.o k hk).1))
 have hA2:=ix hA;clear w1 c1 aH aM ST t0 t1 t2 aX X0 X1 XM X3 X4 hA;go_wp2_with fail
 refine(d6 (n:=0)).1 ?_
 refine jX (gf:=116) (lb:=#[.pointer (some ⟨U.heap.size,0,none⟩),.pointer (some ⟨U.heap.size+1,0,none⟩)]) rfl (enters_of func116 (by kernel_rfl) rfl) SQ.o (But.refl _ _) (λk hk=>(XX.o k hk).1)
  (by rintro s W0 W1 br E er Gv (⟨p',q',rfl,_⟩|⟨rfl,_⟩)<;>rfl)
  (ckF w.heap.size) (λk hk b=>(XX.o k b).2 hk) (CkI w.heap.size rd) (λaf F s W=>af=.ret/\CkX w.heap.size F s W)
  (λF s aF a4 h hb=>h.but hb (λk hk e=>e.1 ((h.f k).2 hk)))
  (λF s aF h k hk=>by have:=h.lt;rcases (h.f k).1 hk with rfl|rfl|rfl<;>omega)
  (λaf F s aF a4 h hb=>⟨h.1,h.2.but hb (λk hk e=>e.1 ((h.2.f k).2 hk))⟩)
  (λaf F s aF h k hk=>by have:=h.2.l;rcases (h.2.f k).1 hk with rfl|rfl|rfl<;>omega)
  (λF s W h=>⟨h.m,λk hk=>(h.f k).2 (.inr (.inl hk))⟩)
  I2.o ?round ?done ?stop
 case round=>
  rintro l F s W0 W br E er Gv ak aa bd aY bw bu bs bA be aw ⟨r0,a2⟩;have bH:=aa.size;have C:=ix ak.f;have EW:=ix (aa.same ak.e (λe=>by have e:w.heap.size+1=w.heap.size+2:=e;omega))
  have KW:=ix (aa.same ak.k (λe=>by have e:w.heap.size+4=w.heap.size+2:=e;omega))
  have KB:=ix ak.kb;have bb:=ak.er;have TW:=ix (aa.same (aw.same T2.o (λe=>by rcases e with e|e|e<;>omega)) (λe=>by have e:w.heap.size=w.heap.size+2:=e;omega))
  have GW:=ix (aa.same (aw.same TT.o.tt (λe=>by rcases e with e|e|e<;>omega)) (λe=>by have e:w.heap.size+3=w.heap.size+2:=e;omega))
  have RW:=ix ((aW.o.but aw (λk hk b=>by have:=hX k b;rcases hk with h|h|h<;>omega)).but aa (λk hk b=>by have:=hX k b;have hk:k=w.heap.size+2:=hk;omega))
  obtain⟨G,d,e0⟩:=s;obtain rfl:e0=0:=bb;have bf:l<W0.heap.size:=be;clear ak;rcases bd with⟨p,q,rfl,hR',hRb',hP',hrd',hlv',hng',hM',hs',rfl,hGv'⟩|⟨rfl,hM',rfl,hGv'⟩
  . obtain⟨g,lv,r⟩:=p;obtain⟨X,lq,aq,cq,L,ad,cd,aj,nx⟩:=q;have aB:=ix (hA2.o _ _ hrd');have au:=ix (show E=ju rd root ⟨g::G,d,0⟩ ⟨g,lv,r.rg⟩ (Pv.pg ⟨X,lq,aq,cq,L,ad,cd,aj,nx⟩) from hs')
    clear hs';simp only[kU];gi_wp2
    refine⟨al _ _,λm I r4 bm=>?_⟩
    have O:=al W (.cells #[.int .i64 g,.int .i64 lv,.slice r.aL r.lo.length r.cL,.slice r.aH r.hi.length r.cH,.bool r.op,.int .i64 X,.int .i64 lq,.slice aq L.length cq,.slice ad aj.length cd,.int .i64 nx] 151);have az:=ag W (.cells #[.int .i64 g,.int .i64 lv,.slice r.aL r.lo.length r.cL,.slice r.aH r.hi.length r.cH,.bool r.op,.int .i64 X,.int .i64 lq,.slice aq L.length cq,.slice ad aj.length cd,.int .i64 nx] 151);have bp:=size_alloc W (.cells #[.int .i64 g,.int .i64 lv,.slice r.aL r.lo.length r.cL,.slice r.aH r.hi.length r.cH,.bool r.op,.int .i64 X,.int .i64 lq,.slice aq L.length cq,.slice ad aj.length cd,.int .i64 nx] 151);generalize W.alloc (.cells #[.int .i64 g,.int .i64 lv,.slice r.aL r.lo.length r.cL,.slice r.aH r.hi.length r.cH,.bool r.op,.int .i64 X,.int .i64 lq,.slice aq L.length cq,.slice ad aj.length cd,.int .i64 nx] 151)=aU at *;have M:=ix (I.same ((O.block _ (ae.1 EW.o).1).trans EW.o) (λe=>by have e:w.heap.size+1=l:=e;omega))
    have y:=ix (I.same ((O.block _ (ae.1 KW.o).1).trans KW.o) (λe=>by have e:w.heap.size+4=l:=e;omega))
    have ax:w.heap.size+4<m.heap.size:=(ae.1 y.o).1;have R:∀v:Value,But F m (m.setCell ⟨w.heap.size+1,0,none⟩ v):=λv=>(But.refl F m).setCell (p:=⟨w.heap.size+1,0,none⟩) (λ_=>(C.o _).2 (.inl rfl)) v
    have aS:∀v:Value,w.heap.size+4<(m.setCell ⟨w.heap.size+1,0,none⟩ v).heap.size:=λv=>a6 ax (R v).size
    have ah:=ix (λv:Value=>(show(m.setCell ⟨w.heap.size+1,0,none⟩ v).heap[w.heap.size+1]?=some (.cells #[v] 39 (0,0)) from aE m (w.heap.size+1) 0 _ _ v M.o))
    have BS:=ix R;have HS:=ix aS;have e0:m.cell? ⟨w.heap.size+1,0,none⟩=some (.int .i64 0):=by rw[ai _ _ _ _ _ _ M.o];rfl
    have z0:=bq m (w.heap.size+1) 0 _ _ M.o
    have aQ:L.length<=8\/X=3:=by
     rcases aB.o.kind with h|h|h
     . left;have:=(aB.o.node (.inl h)).2.2.1;simpa[Pv.pg] using this
     . left;have:=(aB.o.node (.inr h)).2.2.1;simpa[Pv.pg] using this
     . exact .inr h
    have aQ:L.length<=8:=aQ.resolve_right (λh=>(jA.1 hlv').1 h)
    obtain⟨k0,k1,k2,k3,k4,k5,k6,k7,k8,k9⟩:=lg (I.same az (λe=>by have e:W.heap.size=l:=e;omega))
    have B4:=ix (((But.ofBelow (S:=λk=>k=l) O).trans I (λ_ _ e=>e)))
    obtain⟨t0,t1,t2⟩:=je (B4.o.same TW.o (λe=>by have e:w.heap.size=l:=e;omega))
    have M4:=ix ((hM'.keep O).but I (λe=>by have e:w.heap.size+2=l:=e;omega))
    have KT:=ix (KB.o.tel (root:=root) (a:=⟨g,lv,r.rg⟩) hrd' hng' (by simpa[Pv.pg] using aQ))
    have aK:Hid (Kb rd E):=ix (by rw[au.o];exact KT.o)
    have KN:Hid (d<=8*65536):=ix (by have:=KB.o.len hN;have h:d<=8*aG:=this;omega)
    have SZ:Hid (X=1->∀x∈L,0<=x.size/\x.size<=3840):=ix (λh1 x b=>by
     have:=(aB.o.fits (x:=x.it) (bE.2 ⟨x,b,rfl⟩)).leaf h1;exact⟨this.1,this.2.1⟩)
    have JS:=ix (((((hP'.keep O).old I (λk e=>by have e:k=l:=e;rw[e];exact bf)).pi (show L.length<=2199023255520 by omega)).it))
    have aR:aU.heap[l]?=some (.loop r0):=(O.block l (ae.1 a2).1).trans a2;have a9:Hid (Ri m r):=ix ⟨(hR'.bl.keep O).loop I aR,hR'.cl,(hR'.bh.keep O).loop I aR,hR'.ch⟩;have G4:=ix (B4.o.same GW.o (λe=>by have e:w.heap.size+3=l:=e;omega))
    have R4:=ix (RW.o.but B4.o (λk hk b=>by have:=hX k b;have hk:k=l:=hk;omega))
    have aC:=ix (I.same az (λe=>by have e:W.heap.size=l:=e;omega))
    clear hR' hRb' hP' hrd' hlv' hng' hM' hGv' aY KT aw aa az O I aR;by_cases B:g≠root/\L.length<4
    . have i:Hid (E=⟨g::G,d,5⟩):=ix (by
       rw[au.o];unfold ju;rw[if_pos ⟨B.1,by simpa[Pv.pg] using B.2⟩])
      have bn:(g==root)=false:=by simp[B.1]
      have ao:¬g=root:=B.1;have aL:(L.length:Int)<4:=by have:=B.2;omega
      clear B au;gi_wp2
      exact⟨F,(BS.o _).ing,λk hk=>.inl hk,by show decide (E.er≠0)=true;rw[i.o];rfl,rfl,C.o,HS.o _,by rw[i.o];exact(by decide:(5:Nat)≠0),by rw[i.o];exact ah.o _⟩
    . have CT:Hid (E=if X=1 then (if (jb rd r.rg (L.map Iv.it) (g::G)).2≠0 then ⟨(jb rd r.rg (L.map Iv.it) (g::G)).1,d,(jb rd r.rg (L.map Iv.it) (g::G)).2⟩ else ⟨(jb rd r.rg (L.map Iv.it) (g::G)).1,d+L.length,0⟩) else ⟨g::G,d,0⟩):=ix (by
       rw[au.o];unfold ju;rw[if_neg (λh=>B ⟨h.1,by simpa[Pv.pg] using h.2⟩)]
       show(if X=1 then (if (jb rd r.rg (L.map Iv.it) (g::G)).2≠0 then _ else (⟨_,d+(L.map Iv.it).length,0⟩:Cst)) else _)=_
       rw[bM];rfl)
      have aO:g=root\/¬g=root/\¬L.length<4:=by
       by_cases e:g=root
       . exact .inl e
       . exact .inr ⟨e,λh=>B ⟨e,h⟩⟩
      clear B au;by_cases aP:X=1
      . subst aP;have CL:=ix (sL m (w.heap.size+3) (w.heap.size+2) ac (.func (.func 69) #[] #[]) true rd hA2.o XV (g::G) ⟨g,lv,r⟩ ⟨1,lq,aq,cq,L,ad,cd,aj,nx⟩ a9.o JS.o (SZ.o rfl) G4.o M4.o R4.o (λh=>by have:=hX _ h;omega) (by omega))
        obtain⟨ab,hZ⟩:∃ab,jb rd r.rg (L.map Iv.it) (g::G)=ab:=⟨_,rfl⟩;have ap:Hid (E=if ab.2≠0 then ⟨ab.1,d,ab.2⟩ else ⟨ab.1,d+L.length,0⟩):=ix (by rw[CT.o,if_pos rfl,hZ])
        simp only[hZ] at CL;simp only[kU] at CL;clear CT hZ;obtain⟨Z1,Z2⟩:=ab;simp only at ap CL;by_cases c:Z2=0
        . subst c;have i:Hid (E=⟨Z1,d+L.length,0⟩):=ix (ap.o.trans (if_neg (by simp)))
          have a1:((d+L.length:Nat):Int)=(d:Int)+(L.length:Int):=by omega
          have bx:IntKind.i64.wrap ((d:Int)+(L.length:Int))=(d:Int)+(L.length:Int):=by have:=KN.o;exact iQ (by omega) (by omega)
          clear ap;rcases aO with rfl|⟨ao,I⟩
          . gi_wp2_with (refine⟨trivial,rfl,?_⟩;refine CallsIn.mono (CallsIn.inRound l (dc.2 CL.o)) ?_;rintro _ f ⟨rfl,j,Y⟩;have M5:=ix Y;have A:=ix j;have J:=ix (j.same M.o (λe=>by have e:w.heap.size+1=w.heap.size+2:=e;omega));have K:=ix (j.same y.o (λe=>by have e:w.heap.size+4=w.heap.size+2:=e;omega));obtain⟨q0,q1,q2,q3,q4,q5,q6,q7,q8,q9⟩:=lg (j.same aC.o (λe=>by have e:W.heap.size=w.heap.size+2:=e;omega));have e5:f.cell? ⟨w.heap.size+1,0,none⟩=some (.int .i64 0):=(by rw[ai _ _ _ _ _ _ J.o];rfl);have z5:=bq f (w.heap.size+1) 0 _ _ J.o;have y5:f.cell? ⟨w.heap.size+4,0,none⟩=some (.int .i64 ((d:Nat):Int)):=(by rw[ai _ _ _ _ _ _ K.o];rfl);have u5:=bq f (w.heap.size+4) 0 _ _ K.o;clear j Y)
            have bK:=(But.refl F f).setCell (p:=⟨w.heap.size+4,0,none⟩) (λ_=>(C.o _).2 (.inr (.inr rfl))) (.int .i64 ((d:Int)+(L.length:Int)))
            have av:=(But.refl (λk=>k=w.heap.size+4) f).setCell (p:=⟨w.heap.size+4,0,none⟩) (λ_=>rfl) (.int .i64 ((d:Int)+(L.length:Int)))
            have xk:(f.setCell ⟨w.heap.size+4,0,none⟩ (.int .i64 ((d:Int)+(L.length:Int)))).heap[w.heap.size+4]?=some (.cells #[.int .i64 (((d+L.length:Nat):Nat):Int)] 3 (0,0)):=by
             rw[a1];exact aE f (w.heap.size+4) 0 _ _ (.int .i64 ((d:Int)+(L.length:Int))) K.o
            exact⟨F,((A.o.mono (T:=F) λk _ e=>(C.o k).2 (.inr (.inl e))).trans bK (λ_ _ e=>e)).ing,λk hk=>.inl hk,λ_=>by show decide (E.er≠0)=false;rw[i.o];rfl,C.o,aK.o,by rw[i.o],by rw[i.o];exact M5.o.but av (λe=>by have e:w.heap.size+2=w.heap.size+4:=e;omega),av.same J.o (λe=>by have e:w.heap.size+1=w.heap.size+4:=e;omega),by rw[i.o];exact xk⟩
          . have bn:(g==root)=false:=by simp[ao]
            have aL:¬(L.length:Int)<4:=by omega
            gi_wp2_with (refine⟨trivial,rfl,?_⟩;refine CallsIn.mono (CallsIn.inRound l (dc.2 CL.o)) ?_;rintro _ f ⟨rfl,j,Y⟩;have M5:=ix Y;have A:=ix j;have J:=ix (j.same M.o (λe=>by have e:w.heap.size+1=w.heap.size+2:=e;omega));have K:=ix (j.same y.o (λe=>by have e:w.heap.size+4=w.heap.size+2:=e;omega));obtain⟨q0,q1,q2,q3,q4,q5,q6,q7,q8,q9⟩:=lg (j.same aC.o (λe=>by have e:W.heap.size=w.heap.size+2:=e;omega));have e5:f.cell? ⟨w.heap.size+1,0,none⟩=some (.int .i64 0):=(by rw[ai _ _ _ _ _ _ J.o];rfl);have z5:=bq f (w.heap.size+1) 0 _ _ J.o;have y5:f.cell? ⟨w.heap.size+4,0,none⟩=some (.int .i64 ((d:Nat):Int)):=(by rw[ai _ _ _ _ _ _ K.o];rfl);have u5:=bq f (w.heap.size+4) 0 _ _ K.o;clear j Y)
            have bK:=(But.refl F f).setCell (p:=⟨w.heap.size+4,0,none⟩) (λ_=>(C.o _).2 (.inr (.inr rfl))) (.int .i64 ((d:Int)+(L.length:Int)))
            have av:=(But.refl (λk=>k=w.heap.size+4) f).setCell (p:=⟨w.heap.size+4,0,none⟩) (λ_=>rfl) (.int .i64 ((d:Int)+(L.length:Int)))
            have xk:(f.setCell ⟨w.heap.size+4,0,none⟩ (.int .i64 ((d:Int)+(L.length:Int)))).heap[w.heap.size+4]?=some (.cells #[.int .i64 (((d+L.length:Nat):Nat):Int)] 3 (0,0)):=by
             rw[a1];exact aE f (w.heap.size+4) 0 _ _ (.int .i64 ((d:Int)+(L.length:Int))) K.o
            exact⟨F,((A.o.mono (T:=F) λk _ e=>(C.o k).2 (.inr (.inl e))).trans bK (λ_ _ e=>e)).ing,λk hk=>.inl hk,λ_=>by show decide (E.er≠0)=false;rw[i.o];rfl,C.o,aK.o,by rw[i.o],by rw[i.o];exact M5.o.but av (λe=>by have e:w.heap.size+2=w.heap.size+4:=e;omega),av.same J.o (λe=>by have e:w.heap.size+1=w.heap.size+4:=e;omega),by rw[i.o];exact xk⟩
        . have i:Hid (E=⟨Z1,d,Z2⟩):=ix (ap.o.trans (if_pos c));have bC:((Z2:Int)==0)=false:=by simp[c]
          have bF:¬(Z2:Int)=0:=by omega
          clear ap;rcases aO with rfl|⟨ao,I⟩
          . gi_wp2_with (refine⟨trivial,rfl,?_⟩;refine CallsIn.mono (CallsIn.inRound l (dc.2 CL.o)) ?_;rintro _ f ⟨rfl,j,Y⟩;have M5:=ix Y;have A:=ix j;have J:=ix (j.same M.o (λe=>by have e:w.heap.size+1=w.heap.size+2:=e;omega));have K:=ix (j.same y.o (λe=>by have e:w.heap.size+4=w.heap.size+2:=e;omega));obtain⟨q0,q1,q2,q3,q4,q5,q6,q7,q8,q9⟩:=lg (j.same aC.o (λe=>by have e:W.heap.size=w.heap.size+2:=e;omega));have e5:f.cell? ⟨w.heap.size+1,0,none⟩=some (.int .i64 0):=(by rw[ai _ _ _ _ _ _ J.o];rfl);have z5:=bq f (w.heap.size+1) 0 _ _ J.o;have y5:f.cell? ⟨w.heap.size+4,0,none⟩=some (.int .i64 ((d:Nat):Int)):=(by rw[ai _ _ _ _ _ _ K.o];rfl);have u5:=bq f (w.heap.size+4) 0 _ _ K.o;clear j Y)
            exact⟨F,((A.o.mono (T:=F) λk _ e=>(C.o k).2 (.inr (.inl e))).trans ((But.refl F f).setCell (p:=⟨w.heap.size+1,0,none⟩) (λ_=>(C.o _).2 (.inl rfl)) _) (λ_ _ e=>e)).ing,λk hk=>.inl hk,by show decide (E.er≠0)=true;rw[i.o];simp[c],rfl,C.o,a6 ax (ay A.o.size ((But.refl F f).setCell (p:=⟨w.heap.size+1,0,none⟩) (λ_=>(C.o _).2 (.inl rfl)) _).size),by rw[i.o];exact c,by rw[i.o];exact aE f (w.heap.size+1) 0 _ _ (.int .i64 (Z2:Int)) J.o⟩
          . have bn:(g==root)=false:=by simp[ao]
            have aL:¬(L.length:Int)<4:=by omega
            gi_wp2_with (refine⟨trivial,rfl,?_⟩;refine CallsIn.mono (CallsIn.inRound l (dc.2 CL.o)) ?_;rintro _ f ⟨rfl,j,Y⟩;have M5:=ix Y;have A:=ix j;have J:=ix (j.same M.o (λe=>by have e:w.heap.size+1=w.heap.size+2:=e;omega));have K:=ix (j.same y.o (λe=>by have e:w.heap.size+4=w.heap.size+2:=e;omega));obtain⟨q0,q1,q2,q3,q4,q5,q6,q7,q8,q9⟩:=lg (j.same aC.o (λe=>by have e:W.heap.size=w.heap.size+2:=e;omega));have e5:f.cell? ⟨w.heap.size+1,0,none⟩=some (.int .i64 0):=(by rw[ai _ _ _ _ _ _ J.o];rfl);have z5:=bq f (w.heap.size+1) 0 _ _ J.o;have y5:f.cell? ⟨w.heap.size+4,0,none⟩=some (.int .i64 ((d:Nat):Int)):=(by rw[ai _ _ _ _ _ _ K.o];rfl);have u5:=bq f (w.heap.size+4) 0 _ _ K.o;clear j Y)
            exact⟨F,((A.o.mono (T:=F) λk _ e=>(C.o k).2 (.inr (.inl e))).trans ((But.refl F f).setCell (p:=⟨w.heap.size+1,0,none⟩) (λ_=>(C.o _).2 (.inl rfl)) _) (λ_ _ e=>e)).ing,λk hk=>.inl hk,by show decide (E.er≠0)=true;rw[i.o];simp[c],rfl,C.o,a6 ax (ay A.o.size ((But.refl F f).setCell (p:=⟨w.heap.size+1,0,none⟩) (λ_=>(C.o _).2 (.inl rfl)) _).size),by rw[i.o];exact c,by rw[i.o];exact aE f (w.heap.size+1) 0 _ _ (.int .i64 (Z2:Int)) J.o⟩
      . have i:Hid (E=⟨g::G,d,0⟩):=ix (by rw[CT.o,if_neg aP])
        have IM:=ix (show CkI w.heap.size rd F E m from⟨C.o,aK.o,by rw[i.o],by rw[i.o];exact M4.o,M.o,by rw[i.o];exact y.o⟩)
        have bk:(X==1)=false:=by simp[aP]
        clear CT;rcases aO with rfl|⟨ao,I⟩
        . gi_wp2
          exact⟨F,(But.refl F _).ing,λk hk=>.inl hk,λ_=>by show decide (E.er≠0)=false;rw[i.o];rfl,IM.o⟩
        . have bn:(g==root)=false:=by simp[ao]
          have aL:¬(L.length:Int)<4:=by omega
          gi_wp2
          exact⟨F,(But.refl F _).ing,λk hk=>.inl hk,λ_=>by show decide (E.er≠0)=false;rw[i.o];rfl,IM.o⟩
  . have aV:E.er=15:=by
     rcases hM' with⟨rfl,_⟩|⟨n,rfl,_⟩<;>rfl
    simp only[jZ];gi_wp2
    refine⟨al _ _,λm I r4 bm=>?_⟩
    have O:=al W (.cells #[.int .i64 0,.int .i64 0,.slice none 0 0,.slice none 0 0,.bool false,.int .i64 0,.int .i64 0,.slice none 0 0,.slice none 0 0,.int .i64 0] 151);have az:=ag W (.cells #[.int .i64 0,.int .i64 0,.slice none 0 0,.slice none 0 0,.bool false,.int .i64 0,.int .i64 0,.slice none 0 0,.slice none 0 0,.int .i64 0] 151);have bp:=size_alloc W (.cells #[.int .i64 0,.int .i64 0,.slice none 0 0,.slice none 0 0,.bool false,.int .i64 0,.int .i64 0,.slice none 0 0,.slice none 0 0,.int .i64 0] 151);generalize W.alloc (.cells #[.int .i64 0,.int .i64 0,.slice none 0 0,.slice none 0 0,.bool false,.int .i64 0,.int .i64 0,.slice none 0 0,.slice none 0 0,.int .i64 0] 151)=aU at *;have M:=ix (I.same ((O.block _ (ae.1 EW.o).1).trans EW.o) (λe=>by have e:w.heap.size+1=l:=e;omega))
    have y:=ix (I.same ((O.block _ (ae.1 KW.o).1).trans KW.o) (λe=>by have e:w.heap.size+4=l:=e;omega))
    have ax:w.heap.size+4<m.heap.size:=(ae.1 y.o).1;have R:∀v:Value,But F m (m.setCell ⟨w.heap.size+1,0,none⟩ v):=λv=>(But.refl F m).setCell (p:=⟨w.heap.size+1,0,none⟩) (λ_=>(C.o _).2 (.inl rfl)) v
    have aS:∀v:Value,w.heap.size+4<(m.setCell ⟨w.heap.size+1,0,none⟩ v).heap.size:=λv=>a6 ax (R v).size
    have ah:=ix (λv:Value=>(show(m.setCell ⟨w.heap.size+1,0,none⟩ v).heap[w.heap.size+1]?=some (.cells #[v] 39 (0,0)) from aE m (w.heap.size+1) 0 _ _ v M.o))
    have BS:=ix R;have HS:=ix aS;have e0:m.cell? ⟨w.heap.size+1,0,none⟩=some (.int .i64 0):=by rw[ai _ _ _ _ _ _ M.o];rfl
    have z0:=bq m (w.heap.size+1) 0 _ _ M.o;obtain⟨k0,k1,k2,k3,k4,k5,k6,k7,k8,k9⟩:=lg (I.same az (λe=>by have e:W.heap.size=l:=e;omega))
    have aT:=ix aV;clear aV hM' hGv' aY aw aa;gi_wp2
    exact⟨F,(BS.o _).ing,λk hk=>.inl hk,by show decide (E.er≠0)=true;rw[aT.o];rfl,rfl,C.o,HS.o _,by rw[aT.o];decide,by rw[aT.o];exact ah.o _⟩
 case done=>
  rintro D F s W hD bc hI N hB hF aD;have N:s=kO rd ⟨root,H,P⟩:=N;have aA:Hid (ch=if ((s.ks:Nat):Int)≠P then 4 else 0):=ix (by rw[aJ.o,<-N];exact if_neg (by rw[hI.er];simp))
  obtain⟨G,d,e0⟩:=s;have ba:=ix (hB.same T2.o (λe=>by rcases e with e|e|e<;>omega))
  obtain⟨t0,t1,t2⟩:=je ba.o;have y0:W.cell? ⟨w.heap.size+4,0,none⟩=some (.int .i64 ((d:Nat):Int)):=by rw[ai _ _ _ _ _ _ hI.k];rfl
  have e1:W.cell? ⟨w.heap.size+1,0,none⟩=some (.int .i64 0):=by rw[ai _ _ _ _ _ _ hI.e];rfl
  have z1:=bq W (w.heap.size+1) 0 _ _ hI.e
  have ah:=ix (λv:Value=>(show(W.setCell ⟨w.heap.size+1,0,none⟩ v).cell? ⟨w.heap.size+1,0,none⟩=some v from by
   rw[ai _ _ _ _ _ _ (aE W (w.heap.size+1) 0 _ _ v hI.e)];rfl))
  clear N hI;by_cases hi:((d:Nat):Int)=P
  . have ar:Hid (ch=0):=ix (aA.o.trans (if_neg (by simpa using hi)))
    subst hi;clear aA;go_wp2_with fail
    have R:=(But.refl (λk=>k=w.heap.size+1) W).setCell (p:=⟨w.heap.size+1,0,none⟩) (λ_=>rfl) (.int .i64 0)
    have cS:=ah.o (.int .i64 0);refine⟨by simp,.inl ⟨_,_,rfl,cw (R.same aD (λe=>by have e:D=w.heap.size+1:=e;omega)),?_⟩⟩
    have Z:=(But.refl (λk=>k=D) (W.setCell ⟨w.heap.size+1,0,none⟩ (.int .i64 0))).putObj (λ_=>rfl) (.deferred none)
    have V:=(Z.cell (p:=⟨w.heap.size+1,0,none⟩) (block_lt_of_cell cS) (λe=>by have e:w.heap.size+1=D:=e;omega)).trans cS
    refine⟨_,jW results36 _ _ (w.heap.size+1) _ rfl V (jG _ _ _ V),by rw[ar.o];rfl,?_⟩
    exact((((But.ofBelow (S:=λk=>w.heap.size<=k) aI.o).trans (hB.mono (T:=λk=>w.heap.size<=k) λk _ e=>by rcases e with e|e|e<;>omega) (λ_ _ e=>e)).trans (R.mono (T:=λk=>w.heap.size<=k) λk _ e=>by have e:k=w.heap.size+1:=e;omega) (λ_ _ e=>e)).trans (Z.mono (T:=λk=>w.heap.size<=k) λk _ e=>by have e:k=D:=e;omega) (λ_ _ e=>e)).below (λk hk e=>by omega)
  . have ar:Hid (ch=4):=ix (aA.o.trans (if_pos hi));have bi:(((d:Nat):Int)==P)=false:=by simp[hi]
    clear aA;go_wp2_with fail
    have R:=(But.refl (λk=>k=w.heap.size+1) W).setCell (p:=⟨w.heap.size+1,0,none⟩) (λ_=>rfl) (.int .i64 4)
    have cS:=ah.o (.int .i64 4);refine⟨by simp,.inl ⟨_,_,rfl,cw (R.same aD (λe=>by have e:D=w.heap.size+1:=e;omega)),?_⟩⟩
    have Z:=(But.refl (λk=>k=D) (W.setCell ⟨w.heap.size+1,0,none⟩ (.int .i64 4))).putObj (λ_=>rfl) (.deferred none)
    have V:=(Z.cell (p:=⟨w.heap.size+1,0,none⟩) (block_lt_of_cell cS) (λe=>by have e:w.heap.size+1=D:=e;omega)).trans cS
    refine⟨_,jW results36 _ _ (w.heap.size+1) _ rfl V (jG _ _ _ V),by rw[ar.o];rfl,?_⟩
    exact((((But.ofBelow (S:=λk=>w.heap.size<=k) aI.o).trans (hB.mono (T:=λk=>w.heap.size<=k) λk _ e=>by rcases e with e|e|e<;>omega) (λ_ _ e=>e)).trans (R.mono (T:=λk=>w.heap.size<=k) λk _ e=>by have e:k=w.heap.size+1:=e;omega) (λ_ _ e=>e)).trans (Z.mono (T:=λk=>w.heap.size<=k) λk _ e=>by have e:k=D:=e;omega) (λ_ _ e=>e)).below (λk hk e=>by omega)
 case stop=>
  rintro D af F s W hD bc ⟨rfl,aN⟩ N hB hF aD;have N:s=kO rd ⟨root,H,P⟩:=N;have ar:Hid (ch=s.er):=ix (by rw[aJ.o,<-N];exact if_pos aN.er)
  have hE:=aN.e;clear N aN;gi_wp2
  refine⟨by simp,.inl ⟨_,_,rfl,cw aD,?_⟩⟩
  have Z:=(But.refl (λk=>k=D) W).putObj (λ_=>rfl) (.deferred none)
  have cS:W.cell? ⟨w.heap.size+1,0,none⟩=some (.int .i64 ((s.er:Nat):Int)):=by rw[ai _ _ _ _ _ _ hE];rfl
  have V:=(Z.cell (p:=⟨w.heap.size+1,0,none⟩) (block_lt_of_cell cS) (λe=>by have e:w.heap.size+1=D:=e;omega)).trans cS
  refine⟨_,jW results36 _ _ (w.heap.size+1) _ rfl V (jG _ _ _ V),by rw[ar.o],?_⟩
  exact(((But.ofBelow (S:=λk=>w.heap.size<=k) aI.o).trans (hB.mono (T:=λk=>w.heap.size<=k) λk _ e=>by rcases e with e|e|e<;>omega) (λ_ _ e=>e)).trans (Z.mono (T:=λk=>w.heap.size<=k) λk _ e=>by have e:k=D:=e;omega) (λ_ _ e=>e)).below (λk hk e=>by omega)
end Go.Proofs.YteaogidofpfmmaaGreat
