import Derived.Test.YtnnieandfdbhgaaGreatWkB15
set_option linter.all false
set_option maxHeartbeats 8000000
set_option maxRecDepth 10000
namespace Go.Proofs.YtnnieandfdbhgaaGreat
open Go.Proofs.Tryz
open Go.RowKit
variable {w:World}
theorem Bn.pre{d e:World}{B:List Plx}{j:Nat}{a:Option Addr}{c:Nat}{L:List Plv}(hb:Below w.heap.size w d)(h:Bn d e B j a c L):Bn w e B j a c L:=
 ⟨h.gw,h.ln,h.pl,λx b=>⟨(h.el x b).1.pre hb,(h.el x b).2⟩,λx b=>az hb.size (h.nw x b),bt hb h.b⟩
theorem Sound.key_len{p:Pg}(h:Sound p)(b:p.kind=2){i:Nat}(hi:i<p.items.length):(p.at i).key.length<=24:=by
 by_cases a:i=0
 . subst a;rw[h.key0 b hi];exact ar _
 . have:=h.keyK hi (.inr a);simp[isK] at this;omega
theorem fj{a:World}{k:Nat}{x:Obj}(hb:Below w.heap.size w a)(h:w.heap[k]?=some x):a.heap[k]?=some x:=(hb.block k (ae.1 h).1).trans h
theorem ld:mY:=by
 intro w p q aE aC ay aG hk aH aJ;obtain⟨t0,t1,ah,_⟩:=fK w (.cells p.cs 148) (.cells q.cs 77) (Below.refl _ _);have A0:=e7 ah;have HP:=e7 (ay.keep ah);have HR:=e7 (aE.keep ah);have aY:=e7 (λ(wx:World)(a:Option Addr)(ab:Nat)(L:List Plv)(ag:Bn ((w.alloc (.cells p.cs 148)).alloc (.cells q.cs 77)) wx (ben p.px q.pg) q.items.length a ab L)=>(ag.pre ah).done)
 have BA:=e7 (λ(j:Nat)(ag:j<q.items.length)=>yA (at_:=p.px) (p:=q.pg) (j:=j) (by simpa[Pv.pg] using ag))
 have RB:=e7 aC;have SN:=e7 aG;have HK:=e7 hk;obtain⟨no,d,r⟩:=p;obtain⟨kind,Z,aI,G,L,R,T,Y,next⟩:=q
 have h:=e7 t0;have X1:=e7 t1;have aH:1<=d:=aH;have aJ:d<=11:=aJ;have hn:L.length<=2199023255520:=ay.it.2.1;unfold Plv.vl Pv.vl;simp only[Plv.cs,Pv.cs] at *;clear aE aC ay aG hk t0 t1 ah;go_enter func119,ntmps119;go_wp2;generalize aN:(w.alloc _).alloc _=w1 at *;clear aN;have a1:L.length<=8:=(SN.o.node (.inr (show kind=2 from HK.o))).2.2.1|>λag=>by simpa[Pv.pg] using ag
 go_loopw [5,12] (λaK q wr=>∃(j:Nat)(a:Option Addr)(ab:Nat)(aa:List Plv),aK=.slice a j ab/\q=.int .i64 j/\j<=L.length/\Bn w1 wr (ben (⟨no,d,r⟩:Plv).px (⟨kind,Z,aI,G,L,R,T,Y,next⟩:Pv).pg) j a ab aa) (λ_ q _=>L.length-(intOf q).toNat)
 case atStart=>exact⟨0,none,0,[],rfl,rfl,ar _,⟨Q.Gw.nil _ _ _,rfl,rfl,(λx hx=>by cases hx),(λx hx=>by cases hx),Below.refl _ _⟩⟩
 case round=>
  obtain⟨j,a,ab,aa,rfl,rfl,hj,D⟩:=hrel;have f:=e7 D;obtain⟨k0,k1,k2,k3,k4⟩:=fC (fj f.o.b h.o);obtain⟨m0,m1,m2,m3,m4⟩:=fC (fj f.o.b X1.o);clear D;by_cases an:j<L.length
  . have a3:(j:Int)<(L.length:Int):=by omega
    obtain⟨l,n,rfl,cA⟩:=(HP.o.it.keep f.o.b).at an;obtain⟨d0,d1,d2,d3⟩:=fY cA;have XI:=e7 (((HP.o.it.keep f.o.b).1 _ (fh an)));have BJ:=e7 (BA.o j an);have ej:(⟨kind,Z,some ⟨l,n,none⟩,G,L,R,T,Y,next⟩:Pv).pg.at j=(L.getD j Iv.zero).it:=fT L j
    have RW:=e7 (HR.o.keep f.o.b);clear cA;by_cases am:j+1<L.length
    . obtain⟨b2,o2,e2,cB⟩:=(HP.o.it.keep f.o.b).at am;simp only[au,Addr.mk.injEq] at e2;obtain⟨rfl,rfl,_⟩:=e2;obtain⟨f0,f1,f2,f3⟩:=fY cB;have YI:=e7 (((HP.o.it.keep f.o.b).1 _ (fh am)));have aB:(⟨kind,Z,some ⟨l,n,none⟩,G,L,R,T,Y,next⟩:Pv).pg.at (j+1)=(L.getD (j+1) Iv.zero).it:=fT L (j+1)
      clear cB;have aZ:(j:Int)+1<(L.length:Int):=by omega
      generalize L.getD j Iv.zero=x at *;generalize L.getD (j+1) Iv.zero=y at *;have J:=fK wr (.cells #[.slice x.aK x.key.length x.cK,.slice x.aV x.val.length x.cV,.int .i64 x.child,.int .i64 x.size] 89) (.cells #[.slice x.aK x.key.length x.cK,.slice none 0 0,.bool true] 62) (Below.refl _ _);have AV:=e7 J.2.2.1;have ax:=e7 J.1;have av:=e7 J.2.1;obtain⟨p0,p1,p2,p3⟩:=fO J.1;obtain⟨q0,q1,q2⟩:=ix J.2.1;obtain⟨aO,aP,aQ,aR,aS⟩:=fC (fj AV.o (fj f.o.b h.o));obtain⟨aT,aU,ap,aV,aW⟩:=fC (fj AV.o (fj f.o.b X1.o));have aw:=(AV.o.cell (p:=⟨l,n+(j+1)*4,none⟩) (block_lt_of_cell f0)).trans f0;clear J f1 f2 f3;generalize hV:(wr.alloc (.cells #[.slice x.aK x.key.length x.cK,.slice x.aV x.val.length x.cV,.int .i64 x.child,.int .i64 x.size] 89)).alloc (.cells #[.slice x.aK x.key.length x.cK,.slice none 0 0,.bool true] 62)=V at *;go_wp2;have a0:(0:Int)<=(j:Int)+1:=by omega
      have a2:((j:Int)+1).toNat=j+1:=by omega
      have aL:IntKind.i64.wrap ((j:Int)+1)=(j:Int)+1:=fB (by omega) (by omega)
      have DR:=e7 (dr2 V);have H7:Hid ((λW=>W.cell? ⟨wr.heap.size,0,none⟩=some (.slice x.aK x.key.length x.cK)/\W.cell? ⟨w.heap.size+1,2,none⟩=some (.slice (some ⟨l,n,none⟩) L.length G)/\W.cell? ⟨l,n+(j+1)*4,none⟩=some (.slice y.aK y.key.length y.cK)) V.drew):=⟨(DR.o.cell (p:=⟨wr.heap.size,0,none⟩) (block_lt_of_cell p0)).trans p0,(DR.o.cell (p:=⟨w.heap.size+1,2,none⟩) (block_lt_of_cell ap)).trans ap,(DR.o.cell (p:=⟨l,n+(j+1)*4,none⟩) (block_lt_of_cell aw)).trans aw⟩
      refine aX (S:=λW=>W.cell? ⟨wr.heap.size,0,none⟩=some (.slice x.aK x.key.length x.cK)/\W.cell? ⟨w.heap.size+1,2,none⟩=some (.slice (some ⟨l,n,none⟩) L.length G)/\W.cell? ⟨l,n+(j+1)*4,none⟩=some (.slice y.aK y.key.length y.cK)) (by kernel_rfl) H7.o (λhHeld=>?_)
      refine tkd 0 1 2 3 ?_;refine tkd 4 5 6 7 ?_;refine tkb 8 9 ?_;refine tw 10 λKx O=>?_
      rw[if_pos (by rfl)]
      refine wp_store_row 62 _ _ rfl (wr.heap.size+1) #[.slice x.aK x.key.length x.cK,.slice y.aK y.key.length y.cK,.bool false] (by simp[Act.eval]) (by simp[Act.eval]) 62 _ (show V.drew.heap[wr.heap.size+1]?=_ from av.o) fw rfl (by simp[Value.oneCell']) ?_
      have BS:=e7 ((But.ofBelow (S:=λk=>k=wr.heap.size+1) DR.o).trans (Q.ft V.drew (wr.heap.size+1) #[.slice x.aK x.key.length x.cK,.slice y.aK y.key.length y.cK,.bool false]) (λ_ _ e=>e))
      have aA:Hid ((λW=>W.cell? ⟨wr.heap.size,0,none⟩=some (.slice x.aK x.key.length x.cK)/\W.cell? ⟨w.heap.size+1,2,none⟩=some (.slice (some ⟨l,n,none⟩) L.length G)/\W.cell? ⟨l,n+(j+1)*4,none⟩=some (.slice y.aK y.key.length y.cK)) (V.drew.setRow (wr.heap.size+1) #[.slice x.aK x.key.length x.cK,.slice y.aK y.key.length y.cK,.bool false])):=⟨(BS.o.cell (p:=⟨wr.heap.size,0,none⟩) (block_lt_of_cell p0) (λe=>by have e:wr.heap.size=wr.heap.size+1:=e;omega)).trans p0,(BS.o.cell (p:=⟨w.heap.size+1,2,none⟩) (block_lt_of_cell ap) (λe=>by have e:w.heap.size+1=wr.heap.size+1:=e;have:=block_lt_of_cell m2;omega)).trans ap,(BS.o.cell (p:=⟨l,n+(j+1)*4,none⟩) (block_lt_of_cell aw) (λe=>by have e:l=wr.heap.size+1:=e;have:l<wr.heap.size:=block_lt_of_cell f0;omega)).trans aw⟩
      refine O.o _ _ aA.o (λhHeld=>?_)
      clear H7 aA hHeld;refine td ?_;have Y0:=e7 (BS.o.same ax.o (λe=>by have e:wr.heap.size=wr.heap.size+1:=e;omega))
      have Y1:Hid ((V.drew.setRow (wr.heap.size+1) #[.slice x.aK x.key.length x.cK,.slice y.aK y.key.length y.cK,.bool false]).heap[wr.heap.size+1]?=some (.cells #[.slice x.aK x.key.length x.cK,.slice y.aK y.key.length y.cK,.bool false] 62 (0,0))):=br _ _ _ _ _ _ av.o;have B8:=e7 (((But.ofBelow (S:=λk=>k=wr.heap.size+1) AV.o).trans BS.o (λ_ _ e=>e)).below (λk hk e=>by have e:k=wr.heap.size+1:=e;omega))
      have SK:Hid (Ri (V.drew.setRow (wr.heap.size+1) #[.slice x.aK x.key.length x.cK,.slice y.aK y.key.length y.cK,.bool false]) ⟨x.aK,x.cK,x.key,y.aK,y.cK,y.key,false⟩):=⟨XI.o.bk.keep B8.o,XI.o.ck,YI.o.bk.keep B8.o,YI.o.ck⟩
      have EQ:Hid (wth (⟨kind,Z,some ⟨l,n,none⟩,G,L,R,T,Y,next⟩:Pv).pg j r.rg=gZ r.rg (⟨x.aK,x.cK,x.key,y.aK,y.cK,y.key,false⟩:Rv).rg):=by
       show _=_;unfold wth;rw[ej,aB];have aq:j+1<(⟨kind,Z,some ⟨l,n,none⟩,G,L,R,T,Y,next⟩:Pv).pg.items.length:=by simpa[Pv.pg] using am
       rw[if_pos aq];simp only[aq,not_true_eq_false,decide_false];rfl
      have X:Hid (Rb ⟨x.aK,x.cK,x.key,y.aK,y.cK,y.key,false⟩):=by
       have l1:=SN.o.key_len HK.o (i:=j) (by simpa[Pv.pg] using an)
       have l2:=SN.o.key_len HK.o (i:=j+1) (by simpa[Pv.pg] using am)
       rw[ej] at l1;rw[aB] at l2;have l1:x.key.length<=24:=l1;have l2:y.key.length<=24:=l2;exact⟨show x.key.length<=_ by omega,show y.key.length<=_ by omega⟩
      obtain⟨b,ad⟩:∃b:Rv,b=⟨x.aK,x.cK,x.key,y.aK,y.cK,y.key,false⟩:=⟨_,rfl⟩;have ak:Hid ((V.drew.setRow (wr.heap.size+1) #[.slice x.aK x.key.length x.cK,.slice y.aK y.key.length y.cK,.bool false]).heap[wr.heap.size+1]?=some (.cells b.cs 62 (0,0))):=by rw[ad];exact Y1.o
      rw[<-ad] at SK X EQ;clear Y1 ad;have Y1:=e7 (show _=some (Obj.cells #[.slice b.aL b.lo.length b.cL,.slice b.aH b.hi.length b.cH,.bool b.op] 62 (0,0)) from ak.o)
      clear ak;generalize V.drew.setRow (wr.heap.size+1) #[.slice x.aK x.key.length x.cK,.slice y.aK y.key.length y.cK,.bool false]=K at *;go_wp2_with fail
      have c:Hid (∀U:World,Below K.heap.size K U->U.cell? ⟨wr.heap.size,2,none⟩=some (.int .i64 x.child)/\U.cell? ⟨w.heap.size,1,none⟩=some (.int .i64 d)/\(U.cell? ⟨w.heap.size,2,none⟩=some (.slice r.aL r.lo.length r.cL)/\U.cell? ⟨w.heap.size,3,none⟩=some (.slice r.aH r.hi.length r.cH)/\U.cell? ⟨w.heap.size,4,none⟩=some (.bool r.op))/\U.cell? ⟨wr.heap.size+1,0,none⟩=some (.slice b.aL b.lo.length b.cL)/\U.cell? ⟨wr.heap.size+1,1,none⟩=some (.slice b.aH b.hi.length b.cH)/\U.cell? ⟨wr.heap.size+1,2,none⟩=some (.bool b.op)):=λU hb=>by
       obtain⟨_,_,z2,_⟩:=fO (fj hb Y0.o);obtain⟨_,z4,z5,z6,z7⟩:=fC (fj (bt (bt f.o.b B8.o) hb) h.o);obtain⟨z8,z9,af⟩:=ix (fj hb Y1.o);exact⟨z2,z4,⟨z5,z6,z7⟩,z8,z9,af⟩
      have M:=e7 (dr2 K);have MT:=e7 (λ(U:World)(hb:Below K.heap.size K U)=>lI U r b (RW.o.keep (bt B8.o hb)) (SK.o.keep hb) RB.o X.o)
      have aM:IntKind.i64.wrap (d-1)=d-1:=fB (by omega) (by omega)
      refine aX (S:=λW=>W.cell? ⟨wr.heap.size,2,none⟩=some (.int .i64 x.child)/\W.cell? ⟨w.heap.size,1,none⟩=some (.int .i64 d)/\(W.cell? ⟨w.heap.size,2,none⟩=some (.slice r.aL r.lo.length r.cL)/\W.cell? ⟨w.heap.size,3,none⟩=some (.slice r.aH r.hi.length r.cH)/\W.cell? ⟨w.heap.size,4,none⟩=some (.bool r.op))/\W.cell? ⟨wr.heap.size+1,0,none⟩=some (.slice b.aL b.lo.length b.cL)/\W.cell? ⟨wr.heap.size+1,1,none⟩=some (.slice b.aH b.hi.length b.cH)/\W.cell? ⟨wr.heap.size+1,2,none⟩=some (.bool b.op)) (by kernel_rfl) (c.o _ M.o) (λhHeld=>?_)
      refine tkd 0 1 2 3 ?_;refine tkd 4 5 6 7 ?_;refine tk 8 ?_;refine tw 9 λKx O=>?_
      go_simp;refine(MT.o _ M.o).mono ?_;rintro e P ⟨⟨t,B,m,s,A,g,C⟩,rfl,ac,ao⟩;have I:=e7 (bt M.o ac.l.b);have RO:=e7 (ac.pre M.o);have RG:=e7 ao;have H:=e7 (al P (.cells (⟨x.child,d-1,⟨t,B,m,s,A,g,C⟩⟩:Plv).cs 148));have X3:=e7 (aF P (.cells (⟨x.child,d-1,⟨t,B,m,s,A,g,C⟩⟩:Plv).cs 148))
      have PX:Hid ((ben (⟨no,d,r⟩:Plv).px (⟨kind,Z,some ⟨l,n,none⟩,G,L,R,T,Y,next⟩:Pv).pg)[j]?=some (⟨x.child,d-1,⟨t,B,m,s,A,g,C⟩⟩:Plv).px):=by
       show _=_;rw[BJ.o,ej];show some (Plx.mk _ _ (wth _ j r.rg))=_;rw[EQ.o,<-RG.o];rfl
      have XB:Hid (Rb (⟨t,B,m,s,A,g,C⟩:Rv)):=by
       have e:=RG.o;have e1:m=(gZ r.rg b.rg).lo:=by rw[<-e];rfl
       have e2:g=(gZ r.rg b.rg).hi:=by rw[<-e];rfl
       exact⟨by rw[e1];exact kU RB.o.1 X.o.1,by
        show g.length<=_;rw[e2];unfold gZ;dsimp only;split<;>split
        . exact ar _
        . exact X.o.2
        . exact RB.o.2
        . exact kP RB.o.2 X.o.2⟩
      clear ac ao;simp only[Rv.val,Rv.cs];refine O.o _ _ (c.o _ I.o) (λhHeld=>?_)
      refine tk 10 ?_;refine tw 11 λKx O=>?_
      go_simp;refine O.o _ _ (c.o _ (bt I.o H.o)) (λhHeld=>?_)
      try simp only[pt]
      have R3:=e7 ((RO.o.pre B8.o).keep H.o);have BN:=e7 (f.o.keep (bt (bt B8.o I.o) H.o))
      have aj:Hid (∀(F N:Nat)(E:World),Q.Gw 148 5 E (some ⟨F,0,none⟩) N (j+1) (iX aa++(⟨x.child,d-1,⟨t,B,m,s,A,g,C⟩⟩:Plv).cs.toList)->New (P.alloc (.cells (⟨x.child,d-1,⟨t,B,m,s,A,g,C⟩⟩:Plv).cs 148)) a (some ⟨F,0,none⟩)->But (Q.InA a) (P.alloc (.cells (⟨x.child,d-1,⟨t,B,m,s,A,g,C⟩⟩:Plv).cs 148)) E->(∀U,U=E->(U.cell? ⟨wr.heap.size,2,none⟩=some (.int .i64 x.child)/\U.cell? ⟨w.heap.size,1,none⟩=some (.int .i64 d)/\(U.cell? ⟨w.heap.size,2,none⟩=some (.slice r.aL r.lo.length r.cL)/\U.cell? ⟨w.heap.size,3,none⟩=some (.slice r.aH r.hi.length r.cH)/\U.cell? ⟨w.heap.size,4,none⟩=some (.bool r.op))/\U.cell? ⟨wr.heap.size+1,0,none⟩=some (.slice b.aL b.lo.length b.cL)/\U.cell? ⟨wr.heap.size+1,1,none⟩=some (.slice b.aH b.hi.length b.cH)/\U.cell? ⟨wr.heap.size+1,2,none⟩=some (.bool b.op)))/\Bn w1 E (ben (⟨no,d,r⟩:Plv).px (⟨kind,Z,some ⟨l,n,none⟩,G,L,R,T,Y,next⟩:Pv).pg) (j+1) (some ⟨F,0,none⟩) N (aa++[⟨x.child,d-1,⟨t,B,m,s,A,g,C⟩⟩])):=λF N E hG hN D=>by
       refine⟨λU hU=>?_,BN.o.app (R3.o.pre f.o.b) XB.o PX.o hG hN D⟩
       subst hU;have nl:∀k,wr.heap.size<=k->¬Q.InA a k:=λk hk ⟨y,hy,e⟩=>by have:=f.o.gw.lt hy;omega
       have nw:¬Q.InA a w.heap.size:=λ⟨y,hy,e⟩=>by have:=f.o.nw y hy;have:=(ae.1 h.o).1;omega
       obtain⟨_,_,z2,_⟩:=fO (D.same (fj (bt I.o H.o) Y0.o) (nl _ (ai _)));obtain⟨_,z4,z5,z6,z7⟩:=fC (D.same (fj (bt (bt f.o.b B8.o) (bt I.o H.o)) h.o) nw);obtain⟨z8,z9,af⟩:=ix (D.same (fj (bt I.o H.o) Y1.o) (nl _ (by omega)))
       exact⟨z2,z4,⟨z5,z6,z7⟩,z8,z9,af⟩
      have az:j+1<=maxLen:=by unfold maxLen;omega
      refine tw 12 λKx O=>?_
      refine jV underlying203 rI rfl (by decide) rfl _ _ rfl a j ab (iX aa) (by first|(simp[Act.eval];done)|simp[Act.eval,Act.put]) BN.o.gw ⟨P.heap.size,0,none⟩ 1 (⟨x.child,d-1,⟨t,B,m,s,A,g,C⟩⟩:Plv).cs.toList (by first|(simp[Act.eval];done)|simp[Act.eval,Act.put]) rfl (ry X3.o) rC az (by omega) ?_
      intro F N E hG hN D;obtain⟨v,r5⟩:=aj.o F N E hG hN D;have R5:=e7 r5;have v:=v E rfl;clear hG hN D r5 aj;refine O.o _ _ v (λhHeld=>?_)
      clear v;refine tk 13 ?_;refine td ?_;clear hHeld c;go_wp2_with fail
      go_roundw
      case rel=>exact⟨j+1,some ⟨F,0,none⟩,N,_,rfl,by go_num,by omega,R5.o⟩
      case measure=>simp[intOf];omega
    . have aZ:¬(j:Int)+1<(L.length:Int):=by omega
      generalize L.getD j Iv.zero=x at *;have J:=fK wr (.cells #[.slice x.aK x.key.length x.cK,.slice x.aV x.val.length x.cV,.int .i64 x.child,.int .i64 x.size] 89) (.cells #[.slice x.aK x.key.length x.cK,.slice none 0 0,.bool true] 62) (Below.refl _ _);have AV:=e7 J.2.2.1;have ax:=e7 J.1;have av:=e7 J.2.1;obtain⟨p0,p1,p2,p3⟩:=fO J.1;obtain⟨q0,q1,q2⟩:=ix J.2.1;obtain⟨aO,aP,aQ,aR,aS⟩:=fC (fj AV.o (fj f.o.b h.o));obtain⟨aT,aU,ap,aV,aW⟩:=fC (fj AV.o (fj f.o.b X1.o));clear J;generalize hV:(wr.alloc (.cells #[.slice x.aK x.key.length x.cK,.slice x.aV x.val.length x.cV,.int .i64 x.child,.int .i64 x.size] 89)).alloc (.cells #[.slice x.aK x.key.length x.cK,.slice none 0 0,.bool true] 62)=K at *;have aL:IntKind.i64.wrap ((j:Int)+1)=(j:Int)+1:=fB (by omega) (by omega)
      have Y0:=ax;have B8:=AV;have SK:Hid (Ri K ⟨x.aK,x.cK,x.key,none,0,[],true⟩):=⟨XI.o.bk.keep B8.o,XI.o.ck,⟨(λx hx=>by cases hx),ar _,.inl rfl⟩,ai _⟩
      have EQ:Hid (wth (⟨kind,Z,some ⟨l,n,none⟩,G,L,R,T,Y,next⟩:Pv).pg j r.rg=gZ r.rg (⟨x.aK,x.cK,x.key,none,0,[],true⟩:Rv).rg):=by
       show _=_;unfold wth;rw[ej];have aq:¬j+1<(⟨kind,Z,some ⟨l,n,none⟩,G,L,R,T,Y,next⟩:Pv).pg.items.length:=by simpa[Pv.pg] using am
       rw[if_neg aq];simp only[aq,not_false_eq_true,decide_true];rfl
      have X:Hid (Rb ⟨x.aK,x.cK,x.key,none,0,[],true⟩):=by
       have l1:=SN.o.key_len HK.o (i:=j) (by simpa[Pv.pg] using an)
       rw[ej] at l1;have l1:x.key.length<=24:=l1;exact⟨show x.key.length<=_ by omega,ar _⟩
      obtain⟨b,ad⟩:∃b:Rv,b=⟨x.aK,x.cK,x.key,none,0,[],true⟩:=⟨_,rfl⟩;have ak:Hid (K.heap[wr.heap.size+1]?=some (.cells b.cs 62 (0,0))):=by rw[ad];exact av.o
      rw[<-ad] at SK X EQ;have Y1:=e7 (show _=some (Obj.cells #[.slice b.aL b.lo.length b.cL,.slice b.aH b.hi.length b.cH,.bool b.op] 62 (0,0)) from ak.o)
      go_wp2;clear ak ad
      have c:Hid (∀U:World,Below K.heap.size K U->U.cell? ⟨wr.heap.size,2,none⟩=some (.int .i64 x.child)/\U.cell? ⟨w.heap.size,1,none⟩=some (.int .i64 d)/\(U.cell? ⟨w.heap.size,2,none⟩=some (.slice r.aL r.lo.length r.cL)/\U.cell? ⟨w.heap.size,3,none⟩=some (.slice r.aH r.hi.length r.cH)/\U.cell? ⟨w.heap.size,4,none⟩=some (.bool r.op))/\U.cell? ⟨wr.heap.size+1,0,none⟩=some (.slice b.aL b.lo.length b.cL)/\U.cell? ⟨wr.heap.size+1,1,none⟩=some (.slice b.aH b.hi.length b.cH)/\U.cell? ⟨wr.heap.size+1,2,none⟩=some (.bool b.op)):=λU hb=>by
       obtain⟨_,_,z2,_⟩:=fO (fj hb Y0.o);obtain⟨_,z4,z5,z6,z7⟩:=fC (fj (bt (bt f.o.b B8.o) hb) h.o);obtain⟨z8,z9,af⟩:=ix (fj hb Y1.o);exact⟨z2,z4,⟨z5,z6,z7⟩,z8,z9,af⟩
      have M:=e7 (dr2 K);have MT:=e7 (λ(U:World)(hb:Below K.heap.size K U)=>lI U r b (RW.o.keep (bt B8.o hb)) (SK.o.keep hb) RB.o X.o)
      have aM:IntKind.i64.wrap (d-1)=d-1:=fB (by omega) (by omega)
      refine aX (S:=λW=>W.cell? ⟨wr.heap.size,2,none⟩=some (.int .i64 x.child)/\W.cell? ⟨w.heap.size,1,none⟩=some (.int .i64 d)/\(W.cell? ⟨w.heap.size,2,none⟩=some (.slice r.aL r.lo.length r.cL)/\W.cell? ⟨w.heap.size,3,none⟩=some (.slice r.aH r.hi.length r.cH)/\W.cell? ⟨w.heap.size,4,none⟩=some (.bool r.op))/\W.cell? ⟨wr.heap.size+1,0,none⟩=some (.slice b.aL b.lo.length b.cL)/\W.cell? ⟨wr.heap.size+1,1,none⟩=some (.slice b.aH b.hi.length b.cH)/\W.cell? ⟨wr.heap.size+1,2,none⟩=some (.bool b.op)) (by kernel_rfl) (c.o _ M.o) (λhHeld=>?_)
      refine tkd 0 1 2 3 ?_;refine tkd 4 5 6 7 ?_;refine tk 8 ?_;refine tw 9 λKx O=>?_
      go_simp;refine(MT.o _ M.o).mono ?_;rintro e P ⟨⟨t,B,m,s,A,g,C⟩,rfl,ac,ao⟩;have I:=e7 (bt M.o ac.l.b);have RO:=e7 (ac.pre M.o);have RG:=e7 ao;have H:=e7 (al P (.cells (⟨x.child,d-1,⟨t,B,m,s,A,g,C⟩⟩:Plv).cs 148));have X3:=e7 (aF P (.cells (⟨x.child,d-1,⟨t,B,m,s,A,g,C⟩⟩:Plv).cs 148))
      have PX:Hid ((ben (⟨no,d,r⟩:Plv).px (⟨kind,Z,some ⟨l,n,none⟩,G,L,R,T,Y,next⟩:Pv).pg)[j]?=some (⟨x.child,d-1,⟨t,B,m,s,A,g,C⟩⟩:Plv).px):=by
       show _=_;rw[BJ.o,ej];show some (Plx.mk _ _ (wth _ j r.rg))=_;rw[EQ.o,<-RG.o];rfl
      have XB:Hid (Rb (⟨t,B,m,s,A,g,C⟩:Rv)):=by
       have e:=RG.o;have e1:m=(gZ r.rg b.rg).lo:=by rw[<-e];rfl
       have e2:g=(gZ r.rg b.rg).hi:=by rw[<-e];rfl
       exact⟨by rw[e1];exact kU RB.o.1 X.o.1,by
        show g.length<=_;rw[e2];unfold gZ;dsimp only;split<;>split
        . exact ar _
        . exact X.o.2
        . exact RB.o.2
        . exact kP RB.o.2 X.o.2⟩
      clear ac ao;simp only[Rv.val,Rv.cs];refine O.o _ _ (c.o _ I.o) (λhHeld=>?_)
      refine tk 10 ?_;refine tw 11 λKx O=>?_
      go_simp;refine O.o _ _ (c.o _ (bt I.o H.o)) (λhHeld=>?_)
      try simp only[pt]
      have R3:=e7 ((RO.o.pre B8.o).keep H.o);have BN:=e7 (f.o.keep (bt (bt B8.o I.o) H.o))
      have aj:Hid (∀(F N:Nat)(E:World),Q.Gw 148 5 E (some ⟨F,0,none⟩) N (j+1) (iX aa++(⟨x.child,d-1,⟨t,B,m,s,A,g,C⟩⟩:Plv).cs.toList)->New (P.alloc (.cells (⟨x.child,d-1,⟨t,B,m,s,A,g,C⟩⟩:Plv).cs 148)) a (some ⟨F,0,none⟩)->But (Q.InA a) (P.alloc (.cells (⟨x.child,d-1,⟨t,B,m,s,A,g,C⟩⟩:Plv).cs 148)) E->(∀U,U=E->(U.cell? ⟨wr.heap.size,2,none⟩=some (.int .i64 x.child)/\U.cell? ⟨w.heap.size,1,none⟩=some (.int .i64 d)/\(U.cell? ⟨w.heap.size,2,none⟩=some (.slice r.aL r.lo.length r.cL)/\U.cell? ⟨w.heap.size,3,none⟩=some (.slice r.aH r.hi.length r.cH)/\U.cell? ⟨w.heap.size,4,none⟩=some (.bool r.op))/\U.cell? ⟨wr.heap.size+1,0,none⟩=some (.slice b.aL b.lo.length b.cL)/\U.cell? ⟨wr.heap.size+1,1,none⟩=some (.slice b.aH b.hi.length b.cH)/\U.cell? ⟨wr.heap.size+1,2,none⟩=some (.bool b.op)))/\Bn w1 E (ben (⟨no,d,r⟩:Plv).px (⟨kind,Z,some ⟨l,n,none⟩,G,L,R,T,Y,next⟩:Pv).pg) (j+1) (some ⟨F,0,none⟩) N (aa++[⟨x.child,d-1,⟨t,B,m,s,A,g,C⟩⟩])):=λF N E hG hN D=>by
       refine⟨λU hU=>?_,BN.o.app (R3.o.pre f.o.b) XB.o PX.o hG hN D⟩
       subst hU;have nl:∀k,wr.heap.size<=k->¬Q.InA a k:=λk hk ⟨y,hy,e⟩=>by have:=f.o.gw.lt hy;omega
       have nw:¬Q.InA a w.heap.size:=λ⟨y,hy,e⟩=>by have:=f.o.nw y hy;have:=(ae.1 h.o).1;omega
       obtain⟨_,_,z2,_⟩:=fO (D.same (fj (bt I.o H.o) Y0.o) (nl _ (ai _)));obtain⟨_,z4,z5,z6,z7⟩:=fC (D.same (fj (bt (bt f.o.b B8.o) (bt I.o H.o)) h.o) nw);obtain⟨z8,z9,af⟩:=ix (D.same (fj (bt I.o H.o) Y1.o) (nl _ (by omega)))
       exact⟨z2,z4,⟨z5,z6,z7⟩,z8,z9,af⟩
      have az:j+1<=maxLen:=by unfold maxLen;omega
      refine tw 12 λKx O=>?_
      refine jV underlying203 rI rfl (by decide) rfl _ _ rfl a j ab (iX aa) (by first|(simp[Act.eval];done)|simp[Act.eval,Act.put]) BN.o.gw ⟨P.heap.size,0,none⟩ 1 (⟨x.child,d-1,⟨t,B,m,s,A,g,C⟩⟩:Plv).cs.toList (by first|(simp[Act.eval];done)|simp[Act.eval,Act.put]) rfl (ry X3.o) rC az (by omega) ?_
      intro F N E hG hN D;obtain⟨v,r5⟩:=aj.o F N E hG hN D;have R5:=e7 r5;have v:=v E rfl;clear hG hN D r5 aj;refine O.o _ _ v (λhHeld=>?_)
      clear v;refine tk 13 ?_;refine td ?_;clear hHeld c;go_wp2_with fail
      go_roundw
      case rel=>exact⟨j+1,some ⟨F,0,none⟩,N,_,rfl,by go_num,by omega,R5.o⟩
      case measure=>simp[intOf];omega
  . obtain rfl:j=L.length:=by omega
    go_wp2;go_ret;exact aY.o _ _ _ _ f.o
theorem i9{a:Func}{p:Tmp}{b:TypeId}(h:a.results=#[.cell p b])(tmps:Array Value)(w:World)(g:Nat)(v:Value)
 (d:tmps.getD p undef=.pointer (some ⟨g,0,none⟩)) (f:w.cell? ⟨g,0,none⟩=some v) (c:(loadVar b ⟨g,0,none⟩).run prog w=.ok v w):
 (results a tmps).run prog w=.ok v w:=by
 have e:tmps[p]?.getD undef=.pointer (some ⟨g,0,none⟩):=by simpa using d
 simp[results,h,e,asAddr,c]
theorem gJ(w:World)(g:Nat)(v:Value)(a:w.cell? ⟨g,0,none⟩=some v):(loadVar 39 ⟨g,0,none⟩).run prog w=.ok v w:=by
 go_simp
theorem qe(w:World)(cs:Array Value)(e:Int):((w.alloc (.cells cs 34)).alloc (.cells #[.int .i64 e] 39)).cell? ⟨w.heap.size+1,0,none⟩=some (.int .i64 e)/\Below w.heap.size w ((w.alloc (.cells cs 34)).alloc (.cells #[.int .i64 e] 39)):=by
 have:=ag (w.alloc (.cells cs 34)) (.cells #[.int .i64 e] 39);rw[size_alloc] at this;exact⟨by rw[ah _ _ _ _ _ _ this];rfl,bt (al w (.cells cs 34)) (al (w.alloc (.cells cs 34)) (.cells #[.int .i64 e] 39))⟩
theorem sM(w:World)(b:Nat)(rd:Int->Option Pg)(t:Tr)(i:t.root=0/\t.height=0/\t.items=0\/(t.root=0\/t.height<1\/12<t.height\/t.items<1)):
 Calls prog 36 #[.pointer (some ⟨b,0,none⟩),.agg #[.int .i64 t.root,.int .i64 t.height,.int .i64 t.items]] w λe l=>e=.returned (.int .i64 ((chk rd t:Nat):Int))/\Below w.heap.size w l:=by
 have f:=e7 (bt (al w (.cells #[.int .i64 t.root,.int .i64 t.height,.int .i64 t.items] 34)) (al (w.alloc (.cells #[.int .i64 t.root,.int .i64 t.height,.int .i64 t.items] 34)) (.cells #[.int .i64 0] 39)));obtain⟨c,a,d⟩:=t;have i:c=0/\a=0/\d=0\/(c=0\/a<1\/12<a\/d<1):=i;by_cases h:c=0/\a=0/\d=0
 . obtain⟨rfl,rfl,rfl⟩:=h;have g:chk rd ⟨0,0,0⟩=0:=by unfold chk;exact if_pos ⟨rfl,rfl,rfl⟩
   rw[g];simp only at f ⊢;go_enter func36,ntmps36;go_wp2
   have j:((w.alloc (.cells #[.int .i64 0,.int .i64 0,.int .i64 0] 34)).alloc (.cells #[.int .i64 0] 39)).cell? ⟨w.heap.size+1,0,none⟩=some (.int .i64 0):=by
    have:=ag (w.alloc (.cells #[.int .i64 0,.int .i64 0,.int .i64 0] 34)) (.cells #[.int .i64 0] 39);rw[size_alloc] at this;rw[ah _ _ _ _ _ _ this];rfl
   refine aG (i9 results36 _ _ (w.heap.size+1) _ rfl j (gJ _ _ _ j)) rfl ?_;exact⟨rfl,f.o⟩
 . have k:c=0\/a<1\/12<a\/d<1:=i.resolve_left h
   have g:chk rd ⟨c,a,d⟩=5:=by
    unfold chk;rw[if_neg h,if_pos k]
   rw[g];have m:((decide (c=0)&&(decide (a=0)&&decide (d=0))))=false:=by simp;omega
   simp only at f ⊢;go_enter func36,ntmps36;go_wp2
   all_goals
    first
    |(refine aG (i9 results36 _ _ (w.heap.size+1) _ rfl (qe w _ _).1 (gJ _ _ _ (qe w _ _).1)) rfl ?_
      exact⟨rfl,(qe w _ _).2⟩)
    |(exfalso;simp_all;omega)
end Go.Proofs.YtnnieandfdbhgaaGreat
namespace Go.Proofs.YtnnieandfdbhgaaGreat
open Go.Proofs.Tryz
variable {rd:Int->Option Pg}{G:List Int}{N:Nat}{p:Pg}
theorem nj:∀(N:Nat)(G:List Int),G.Nodup->(∀n∈G,1<=n/\n<=(N:Int))->G.length<=N
 |0,G,_,h=>by
  cases G with
  |nil=>exact ai _
  |cons x L=>have:=h x cU;omega
 |N+1,G,hn,h=>by
  by_cases c:((N:Int)+1)∈G
  . have f:=nj N (G.erase ((N:Int)+1)) (hn.erase _) (λn a=>by
     have b:=h n (List.mem_of_mem_erase a);have d:n≠(N:Int)+1:=λe=>by subst e;exact(List.Nodup.not_mem_erase hn) a
     omega)
    have b:=List.length_erase_of_mem c;omega
  . have:=nj N G hn (λn a=>by
     have b:=h n a;have d:n≠(N:Int)+1:=λe=>by subst e;exact c a
     omega)
    omega
structure Gok(rd:Int->Option Pg)(G:List Int):Prop where
 nd:G.Nodup
 ex:∀n∈G,(rd n).isSome=true
theorem Gok.nil(rd:Int->Option Pg):Gok rd []:=⟨List.nodup_nil,λn h=>by cases h⟩
theorem Gok.cons(h:Gok rd G){n:Int}(b:rd n=some p)(a:n∉G):Gok rd (n::G):=⟨List.nodup_cons.2 ⟨a,h.nd⟩,λk hk=>by
 rcases b8.1 hk with rfl|hk
 . rw[b];rfl
 . exact h.ex k hk⟩
def jc(rd:Int->Option Pg)(N:Nat):Prop:=∀n,(rd n).isSome=true->1<=n/\n<=(N:Int)
theorem Gok.len(h:Gok rd G)(a:jc rd N):G.length<=N:=nj N G h.nd λn b=>a n (h.ex n b)
theorem lY{rd:Int->Option Pg}:∀(t:Nat)(G:List Int)(n l:Int),Gok rd G->Gok rd (fy rd t G n l).1/\G.length<=(fy rd t G n l).1.length
 |0,G,n,l,h=>⟨h,ai _⟩
 |t+1,G,n,l,h=>by
  unfold fy;split
  . exact⟨h,ai _⟩
  . cases hp:rd n with
    |none=>exact⟨h,ai _⟩
    |some p=>
     simp only;split
     . exact⟨h,ai _⟩
     . rename_i hn;have h2:=h.cons hp hn;split
       . exact⟨h2,eC _⟩
       . split
         . exact⟨h2,eC _⟩
         . have:=lY t (n::G) p.next (l-480) h2;exact⟨this.1,az (eC _) this.2⟩
theorem lF{rd:Int->Option Pg}{r:Rg}:∀(L:List It)(G:List Int),Gok rd G->Gok rd (fE rd r L G).1/\G.length<=(fE rd r L G).1.length
 | [],G,h=>⟨h,ai _⟩
 |x::L,G,h=>by
  unfold fE;split
  . exact⟨h,ai _⟩
  . split
    . exact lF L G h
    . have h1:=lY 8 G x.child x.size h;split
      . exact h1
      . have a:=lF (r:=r) L _ h1.1;exact⟨a.1,az h1.2 a.2⟩
structure Kb(rd:Int->Option Pg)(s:Cst):Prop where
 g:Gok rd s.G
 k:s.ks<=8*s.G.length
theorem Kb.len{s:Cst}(h:Kb rd s)(a:jc rd N):s.ks<=8*N:=by
 have:=h.g.len a;have:=h.k;omega
theorem Kb.tel{root:Int}{s:Cst}(h:Kb rd s){a:Plx}(e:rd a.no=some p)(d:a.no∉s.G)(f:p.items.length<=8):Kb rd (iy rd root {s with G:=a.no::s.G} a p):=by
 have g:=h.g.cons e d;have k:=h.k;have b:s.ks<=8*(a.no::s.G).length:=by rw[aR];omega
 have c:=lF (r:=a.keys) p.items (a.no::s.G) g;unfold iy;split
 . exact⟨g,b⟩
 . split
   . split
     . exact⟨c.1,by have:=c.2;simp only at b ⊢;omega⟩
     . refine⟨c.1,?_⟩;have c2:=c.2;rw[aR] at c2;simp only;omega
   . exact⟨g,b⟩
end Go.Proofs.YtnnieandfdbhgaaGreat
namespace Go.Proofs.YtnnieandfdbhgaaGreat
open Go.Proofs.Tryz
open Go.RowKit Go.Shelf
attribute [local go_sem] Oper.semAt_some
variable {rd:Int->Option Pg}{n:Nat}{F S:Nat->Prop}{W W':World}
theorem vo:(prog.info? 143).map (·.size)=some 4:=by kernel_rfl
def ckF(n k:Nat):Prop:=k=n+1\/k=n+2\/k=n+4
structure CkI(n:Nat)(rd:Int->Option Pg)(F:Nat->Prop)(s:Cst)(W:World):Prop where
 f:∀k,F k↔ckF n k
 kb:Kb rd s
 er:s.er=0
 m:Mp W (n+2) (gnf s.G)
 e:W.heap[n+1]?=some (.cells #[.int .i64 0] 39 (0,0))
 k:W.heap[n+4]?=some (.cells #[.int .i64 ((s.ks:Nat):Int)] 3 (0,0))
structure CkX(n:Nat)(F:Nat->Prop)(s:Cst)(W:World):Prop where
 f:∀k,F k↔ckF n k
 l:n+4<W.heap.size
 er:s.er≠0
 e:W.heap[n+1]?=some (.cells #[.int .i64 ((s.er:Nat):Int)] 39 (0,0))
theorem CkI.but{s:Cst}(h:CkI n rd F s W)(hb:But S W W')(a:∀k,ckF n k->¬S k):CkI n rd F s W':=⟨h.f,h.kb,h.er,h.m.but hb (a _ (.inr (.inl rfl))),hb.same h.e (a _ (.inl rfl)),hb.same h.k (a _ (.inr (.inr rfl)))⟩
theorem CkX.but{s:Cst}(h:CkX n F s W)(hb:But S W W')(a:∀k,ckF n k->¬S k):CkX n F s W':=⟨h.f,aE h.l hb.size,h.er,hb.same h.e (a _ (.inl rfl))⟩
theorem CkI.lt{s:Cst}(h:CkI n rd F s W):n+4<W.heap.size:=(ae.1 h.k).1
theorem ws(w:World)(c0 v s:Array Value):∃U:World,(((((w.alloc (.cells c0 34)).alloc (.cells #[.int .i64 0] 39)).alloc (.map #[] 0)).alloc (.cells v 143)).setRow (w.heap.size+1+1+1) s).alloc (.cells #[.int .i64 0] 3)=U/\U.heap[w.heap.size]?=some (.cells c0 34 (0,0))/\U.heap[w.heap.size+1]?=some (.cells #[.int .i64 0] 39 (0,0))/\Mp U (w.heap.size+2) (gnf [])/\U.heap[w.heap.size+3]?=some (.cells s 143 (0,0))/\U.heap[w.heap.size+4]?=some (.cells #[.int .i64 0] 3 (0,0))/\Below w.heap.size w U/\U.heap.size=w.heap.size+5:=by
 obtain⟨a,i⟩:∃U,w.alloc (.cells c0 34)=U:=⟨_,rfl⟩;obtain⟨b,j⟩:∃U,a.alloc (.cells #[.int .i64 0] 39)=U:=⟨_,rfl⟩;obtain⟨c,l⟩:∃U,b.alloc (.map #[] 0)=U:=⟨_,rfl⟩;obtain⟨d,m⟩:∃U,c.alloc (.cells v 143)=U:=⟨_,rfl⟩;obtain⟨f,p⟩:∃U,d.setRow (w.heap.size+1+1+1) s=U:=⟨_,rfl⟩;obtain⟨g,q⟩:∃U,f.alloc (.cells #[.int .i64 0] 3)=U:=⟨_,rfl⟩;have A:a.heap.size=w.heap.size+1:=by rw[<-i,size_alloc]
 have B:b.heap.size=w.heap.size+2:=by rw[<-j,size_alloc,A]
 have C:c.heap.size=w.heap.size+3:=by rw[<-l,size_alloc,B]
 have H:d.heap.size=w.heap.size+4:=by rw[<-m,size_alloc,C]
 have D:f.heap.size=w.heap.size+4:=by rw[<-p,<-H];simp
 have I:g.heap.size=w.heap.size+5:=by rw[<-q,size_alloc,D]
 have E:Below w.heap.size w a:=by rw[<-i];exact al _ _
 have x:Below a.heap.size a b:=by rw[<-j];exact al _ _
 have t:Below b.heap.size b c:=by rw[<-l];exact al _ _
 have h:Below c.heap.size c d:=by rw[<-m];exact al _ _
 have G:But (λk=>k=w.heap.size+3) d f:=by rw[<-p];exact Q.ft _ _ _
 have y:Below f.heap.size f g:=by rw[<-q];exact al _ _
 have r:But (λk=>k=w.heap.size+3) d g:=G.andBelow y
 have J:a.heap[w.heap.size]?=some (.cells c0 34 (0,0)):=by rw[<-i];exact ag _ _
 have K:b.heap[w.heap.size+1]?=some (.cells #[.int .i64 0] 39 (0,0)):=by rw[<-A,<-j];exact ag _ _
 have L:Mp c (w.heap.size+2) (gnf []):=by rw[<-B,<-l];exact(Mp.made _).congr (λk=>by simp[gnf])
 have M:d.heap[w.heap.size+3]?=some (.cells v 143 (0,0)):=by rw[<-C,<-m];exact ag _ _
 have N:f.heap[w.heap.size+3]?=some (.cells s 143 (0,0)):=by rw[<-p];exact br _ _ _ _ _ _ M
 have O:g.heap[w.heap.size+4]?=some (.cells #[.int .i64 0] 3 (0,0)):=by rw[<-D,<-q];exact ag _ _
 refine⟨g,by rw[i,j,l,m,p,q],?_,?_,?_,?_,O,?_,I⟩
 . exact r.same ((bt (bt x t) h).block _ (by omega) |>.trans J) (λe=>by omega)
 . exact r.same ((bt t h).block _ (by omega) |>.trans K) (λe=>by omega)
 . exact(L.keep h).but r (λe=>by omega)
 . exact(y.block _ (by omega)).trans N
 . exact(((But.ofBelow (S:=λk=>k=w.heap.size+3) (bt (bt (bt E x) t) h)).trans r (λ_ _ e=>e)).below (λk P e=>by omega))
theorem jL(w:World)(ac:Nat)(rd:Int->Option Pg)(hA:gc rd)(aH:Nat)(hN:jc rd aH)(bx:aH<=65536)(XV:Nat->Prop)(hR:gu 52 (.pointer (some ⟨ac,0,none⟩)) rd XV w)(hX:∀k,XV k->k<w.heap.size)(t:Tr):
 Calls prog 36 #[.pointer (some ⟨ac,0,none⟩),.agg #[.int .i64 t.root,.int .i64 t.height,.int .i64 t.items]] w λe w'=>e=.returned (.int .i64 ((chk rd t:Nat):Int))/\Below w.heap.size w w':=by
 by_cases ht:t.root=0/\t.height=0/\t.items=0\/(t.root=0\/t.height<1\/12<t.height\/t.items<1)
 . exact sM w ac rd t ht
 have a8:chk rd t=if (jb rd t).er≠0 then (jb rd t).er else if ((jb rd t).ks:Int)≠t.items then 4 else 0:=by
  unfold chk;rw[if_neg (λh=>ht (.inl h)),if_neg (λh=>ht (.inr h))]
 obtain⟨root,I,R⟩:=t;have ht:¬(root=0/\I=0/\R=0\/(root=0\/I<1\/12<I\/R<1)):=ht;have aK:=e7 a8;have h1:¬root=0:=λh=>ht (.inr (.inl h))
 have h2:1<=I:=by omega
 have h3:I<=12:=by omega
 have J:1<=R:=by omega
 have b1:(root==0)=false:=by simp[h1]
 have l1:¬I<1:=by omega
 have l2:¬12<I:=by omega
 have l3:¬R<1:=by omega
 clear ht a8;obtain⟨ch,a5⟩:∃af,chk rd ⟨root,I,R⟩=af:=⟨_,rfl⟩;rw[a5] at aK ⊢;clear a5;have A:=λ(W:World)(k:Nat)(cs:Array Value)(t:TypeId)(e:W.heap.size=k)=>(e▸ag W (.cells cs t):(W.alloc (.cells cs t)).heap[k]?=some (.cells cs t (0,0)))
 have bp:= @run_makeMap prog;have RO:=e7 (λ(W:World)=>mI W root I R h2 h3)
 have ST:=e7 (λ(W:World)=>kx W (w.heap.size+3) ⟨root,I-1,⟨none,0,[],none,0,[],true⟩⟩)
 simp only;refine(cW (n:=0)).1 ?_;refine dg func36 rfl trivial ?_ rfl;simp only[ntmps36,bM,aR,aO,Nat.reduceAdd,Nat.reduceSub,bT,bX,cG,b7,cu,cM];refine dW.2 ?_;go_upto_region 8 with(first|(refine aZ rfl 143 _ _ rfl (w.heap.size+1+1+1) _ rfl rfl 143 _ (A _ _ _ _ (by simp[size_alloc])) vo rfl (by simp[Value.oneCell']) ?_)|fail)
 obtain⟨ba,hU,X0,X1,XM,X3,X4,BU,sU⟩:=ws w #[.int .i64 root,.int .i64 I,.int .i64 R] #[.pointer none,.map none,.nilFunc,.int .i64 0] #[.pointer (some ⟨ac,0,none⟩),.map (some (w.heap.size+1+1)),.func (.func 69) #[] #[],.int .i64 0];rw[hU];clear hU A bp;have HR:=e7 (hR.keep BU);have X0:=e7 X0;have X1:=e7 X1;have XM:=e7 XM;have X3:=e7 X3;have X4:=e7 X4;have BU:=e7 BU;clear hR;unfold Plv.vl at ST;simp only[Plv.cs,aO] at ST;obtain⟨t0,t1,t2⟩:=ix X0.o;go_wp2_with fail
 refine(RO.o _).mono ?_;rintro _ c ⟨rfl,a4⟩;have B1:=e7 a4;clear a4 RO;go_wp2_with fail
 refine(ST.o _).mono ?_;rintro _ U2 ⟨rfl,aN⟩;obtain⟨w1,w2,aI,br⟩:=fK c (.cells #[.pointer (some ⟨w.heap.size+3,0,none⟩)] 198) (.cells #[.int .i64 root,.int .i64 (I-1),.slice none 0 0,.slice none 0 0,.bool true] 148) (Below.refl _ _);have bG:U2.heap.size=c.heap.size+2:=by rw[aN,size_alloc,size_alloc]
 rw[<-aN] at w1 w2 aI br;have B2:=e7 (bt B1.o aI);have c1:U2.cell? ⟨c.heap.size,0,none⟩=some (.pointer (some ⟨w.heap.size+3,0,none⟩)):=by rw[ah _ _ _ _ _ _ w1];rfl
 have w2:=e7 w2;have W1:=e7 c1;have bC:ba.heap.size<=c.heap.size:=B1.o.size;have a2:=e7 ((B2.o.block (w.heap.size+3) (ae.1 X3.o).1).trans X3.o);have I2:Hid (CkI w.heap.size rd (ckF w.heap.size) ⟨[],0,0⟩ U2):=e7 ⟨λ_=>df,⟨Gok.nil _,ar _⟩,rfl,XM.o.keep B2.o,(B2.o.block _ (ae.1 X1.o).1).trans X1.o,(B2.o.block _ (ae.1 X4.o).1).trans X4.o⟩
 have a1:=e7 (HR.o.keep B2.o);have TT:Hid (Tou U2 (w.heap.size+3) (w.heap.size+2) ac 69 #[] true rd XV (λ_=>true) (λ_=>False)):=e7 ⟨a2.o,a1.o,pB U2,λk h=>by have:=hX k h;omega,λk h=>h.elim⟩
 have T2:=e7 ((B2.o.block w.heap.size (ae.1 X0.o).1).trans X0.o);have aJ:=e7 (bt BU.o B2.o)
 have XX:Hid (∀k,XS (w.heap.size+3) c.heap.size (c.heap.size+1) ⟨root,I-1,⟨none,0,[],none,0,[],true⟩⟩ XV (λ_=>False) k->k<U2.heap.size/\¬ckF w.heap.size k):=e7 (λk d=>by
  unfold ckF;rcases d with rfl|rfl|rfl|h|h|⟨bb,hy,_⟩|⟨bb,hy,_⟩
  . omega
  . omega
  . omega
  . have:=hX k h;omega
  . exact h.elim
  . cases hy
  . cases hy)
 have SQ:=e7 (oH (fG rd root) rd hA ac (w.heap.size+3) (w.heap.size+2) 69 #[] (enters_of func69 (by kernel_rfl) rfl) true XV (λ_=>true) (λ_=>False) (λ_ _=>rfl) (λ_=>rfl) ld (I-1).toNat U2 c.heap.size (c.heap.size+1) ⟨root,I-1,⟨none,0,[],none,0,[],true⟩⟩ ⟨[],0,0⟩ (by show I-1<=_;omega) W1.o w2.o ⟨Bs.nil _,ai _,Bs.nil _,ai _⟩ ⟨ar _,ar _⟩ (show N64 (I-1) from⟨by omega,by omega⟩) TT.o rfl (λk d=>(XX.o k d).1))
 have hA2:=e7 hA;clear w1 c1 aI aN ST t0 t1 t2 a2 X0 X1 XM X3 X4 hA;go_wp2_with fail
 refine(dW (n:=0)).1 ?_
 refine iO (gf:=116) (lb:=#[.pointer (some ⟨c.heap.size,0,none⟩),.pointer (some ⟨c.heap.size+1,0,none⟩)]) rfl (enters_of func116 (by kernel_rfl) rfl) SQ.o (But.refl _ _) (λk d=>(XX.o k d).1)
  (by rintro s W0 W1 bu H er Gv (⟨p',q',rfl,_⟩|⟨rfl,_⟩)<;>rfl)
  (ckF w.heap.size) (λk d N=>(XX.o k N).2 d) (CkI w.heap.size rd) (λaf F s W=>af=.ret/\CkX w.heap.size F s W)
  (λF s aG a9 h hb=>h.but hb (λk d e=>e.1 ((h.f k).2 d)))
  (λF s aG h k d=>by have:=h.lt;rcases (h.f k).1 d with rfl|rfl|rfl<;>omega)
  (λaf F s aG a9 h hb=>⟨h.1,h.2.but hb (λk d e=>e.1 ((h.2.f k).2 d))⟩)
  (λaf F s aG h k d=>by have:=h.2.l;rcases (h.2.f k).1 d with rfl|rfl|rfl<;>omega)
  (λF s W h=>⟨h.m,λk d=>(h.f k).2 (.inr (.inl d))⟩)
  I2.o ?round ?done ?stop
 case round=>
  rintro l F s W0 W bu H er Gv am aa bj a3 bz bw bv bB bm aw ⟨r0,a7⟩;have bH:=aa.size;have E:=e7 am.f;have EW:=e7 (aa.same am.e (λe=>by have e:w.heap.size+1=w.heap.size+2:=e;omega))
  have KW:=e7 (aa.same am.k (λe=>by have e:w.heap.size+4=w.heap.size+2:=e;omega))
  have KB:=e7 am.kb;have be:=am.er;have TW:=e7 (aa.same (aw.same T2.o (λe=>by rcases e with e|e|e<;>omega)) (λe=>by have e:w.heap.size=w.heap.size+2:=e;omega))
  have GW:=e7 (aa.same (aw.same TT.o.tt (λe=>by rcases e with e|e|e<;>omega)) (λe=>by have e:w.heap.size+3=w.heap.size+2:=e;omega))
  have RW:=e7 ((a1.o.but aw (λk d N=>by have:=hX k N;rcases d with h|h|h<;>omega)).but aa (λk d N=>by have:=hX k N;have d:k=w.heap.size+2:=d;omega))
  obtain⟨G,f,e0⟩:=s;obtain rfl:e0=0:=be;have bo:l<W0.heap.size:=bm;clear am;rcases bj with⟨p,q,rfl,hR',hRb',hP',hrd',hlv',hng',hM',hs',rfl,hGv'⟩|⟨rfl,hM',rfl,hGv'⟩
  . obtain⟨i,lv,r⟩:=p;obtain⟨Y,lq,aq,cq,L,ad,cd,ak,nx⟩:=q;have aC:=e7 (hA2.o _ _ hrd');have au:=e7 (show H=iy rd root ⟨i::G,f,0⟩ ⟨i,lv,r.rg⟩ (Pv.pg ⟨Y,lq,aq,cq,L,ad,cd,ak,nx⟩) from hs')
    clear hs';simp only[il];gi_wp2
    refine⟨al _ _,λC J r4 bq=>?_⟩
    have P:=al W (.cells #[.int .i64 i,.int .i64 lv,.slice r.aL r.lo.length r.cL,.slice r.aH r.hi.length r.cH,.bool r.op,.int .i64 Y,.int .i64 lq,.slice aq L.length cq,.slice ad ak.length cd,.int .i64 nx] 151);have aA:=ag W (.cells #[.int .i64 i,.int .i64 lv,.slice r.aL r.lo.length r.cL,.slice r.aH r.hi.length r.cH,.bool r.op,.int .i64 Y,.int .i64 lq,.slice aq L.length cq,.slice ad ak.length cd,.int .i64 nx] 151);have bs:=size_alloc W (.cells #[.int .i64 i,.int .i64 lv,.slice r.aL r.lo.length r.cL,.slice r.aH r.hi.length r.cH,.bool r.op,.int .i64 Y,.int .i64 lq,.slice aq L.length cq,.slice ad ak.length cd,.int .i64 nx] 151);generalize W.alloc (.cells #[.int .i64 i,.int .i64 lv,.slice r.aL r.lo.length r.cL,.slice r.aH r.hi.length r.cH,.bool r.op,.int .i64 Y,.int .i64 lq,.slice aq L.length cq,.slice ad ak.length cd,.int .i64 nx] 151)=aY at *;have O:=e7 (J.same ((P.block _ (ae.1 EW.o).1).trans EW.o) (λe=>by have e:w.heap.size+1=l:=e;omega))
    have Z:=e7 (J.same ((P.block _ (ae.1 KW.o).1).trans KW.o) (λe=>by have e:w.heap.size+4=l:=e;omega))
    have ax:w.heap.size+4<C.heap.size:=(ae.1 Z.o).1;have X:∀v:Value,But F C (C.setCell ⟨w.heap.size+1,0,none⟩ v):=λv=>(But.refl F C).setCell (p:=⟨w.heap.size+1,0,none⟩) (λ_=>(E.o _).2 (.inl rfl)) v
    have aW:∀v:Value,w.heap.size+4<(C.setCell ⟨w.heap.size+1,0,none⟩ v).heap.size:=λv=>aE ax (X v).size
    have aj:=e7 (λv:Value=>(show(C.setCell ⟨w.heap.size+1,0,none⟩ v).heap[w.heap.size+1]?=some (.cells #[v] 39 (0,0)) from ay C (w.heap.size+1) 0 _ _ v O.o))
    have BS:=e7 X;have HS:=e7 aW;have e0:C.cell? ⟨w.heap.size+1,0,none⟩=some (.int .i64 0):=by rw[ah _ _ _ _ _ _ O.o];rfl
    have z0:=aQ C (w.heap.size+1) 0 _ _ O.o
    have aU:L.length<=8\/Y=3:=by
     rcases aC.o.kind with h|h|h
     . left;have:=(aC.o.node (.inl h)).2.2.1;simpa[Pv.pg] using this
     . left;have:=(aC.o.node (.inr h)).2.2.1;simpa[Pv.pg] using this
     . exact .inr h
    have aU:L.length<=8:=aU.resolve_right (λh=>(iM.1 hlv').1 h)
    obtain⟨k0,k1,k2,k3,k4,k5,k6,k7,k8,k9⟩:=iD (J.same aA (λe=>by have e:W.heap.size=l:=e;omega))
    have B4:=e7 (((But.ofBelow (S:=λk=>k=l) P).trans J (λ_ _ e=>e)))
    obtain⟨t0,t1,t2⟩:=ix (B4.o.same TW.o (λe=>by have e:w.heap.size=l:=e;omega))
    have M4:=e7 ((hM'.keep P).but J (λe=>by have e:w.heap.size+2=l:=e;omega))
    have KT:=e7 (KB.o.tel (root:=root) (a:=⟨i,lv,r.rg⟩) hrd' hng' (by simpa[Pv.pg] using aU))
    have aL:Hid (Kb rd H):=e7 (by rw[au.o];exact KT.o)
    have KN:Hid (f<=8*65536):=e7 (by have:=KB.o.len hN;have h:f<=8*aH:=this;omega)
    have SZ:Hid (Y=1->∀x∈L,0<=x.size/\x.size<=3840):=e7 (λh1 x N=>by
     have:=(aC.o.fits (x:=x.it) (bN.2 ⟨x,N,rfl⟩)).leaf h1;exact⟨this.1,this.2.1⟩)
    have JS:=e7 (((((hP'.keep P).old J (λk e=>by have e:k=l:=e;rw[e];exact bo)).pi (show L.length<=2199023255520 by omega)).it))
    have aV:aY.heap[l]?=some (.loop r0):=(P.block l (ae.1 a7).1).trans a7;have bc:Hid (Ri C r):=e7 ⟨(hR'.bl.keep P).loop J aV,hR'.cl,(hR'.bh.keep P).loop J aV,hR'.ch⟩;have G4:=e7 (B4.o.same GW.o (λe=>by have e:w.heap.size+3=l:=e;omega))
    have R4:=e7 (RW.o.but B4.o (λk d N=>by have:=hX k N;have d:k=l:=d;omega))
    have aD:=e7 (J.same aA (λe=>by have e:W.heap.size=l:=e;omega))
    clear hR' hRb' hP' hrd' hlv' hng' hM' hGv' a3 KT aw aa aA P J aV;by_cases b:i≠root/\L.length<4
    . have j:Hid (H=⟨i::G,f,5⟩):=e7 (by
       rw[au.o];unfold iy;rw[if_pos ⟨b.1,by simpa[Pv.pg] using b.2⟩])
      have bn:(i==root)=false:=by simp[b.1]
      have an:¬i=root:=b.1;have aM:(L.length:Int)<4:=by have:=b.2;omega
      clear b au;gi_wp2
      exact⟨F,(BS.o _).ing,λk d=>.inl d,by show decide (H.er≠0)=true;rw[j.o];rfl,rfl,E.o,HS.o _,by rw[j.o];exact(by decide:(5:Nat)≠0),by rw[j.o];exact aj.o _⟩
    . have CT:Hid (H=if Y=1 then (if (fE rd r.rg (L.map Iv.it) (i::G)).2≠0 then ⟨(fE rd r.rg (L.map Iv.it) (i::G)).1,f,(fE rd r.rg (L.map Iv.it) (i::G)).2⟩ else ⟨(fE rd r.rg (L.map Iv.it) (i::G)).1,f+L.length,0⟩) else ⟨i::G,f,0⟩):=e7 (by
       rw[au.o];unfold iy;rw[if_neg (λh=>b ⟨h.1,by simpa[Pv.pg] using h.2⟩)]
       show(if Y=1 then (if (fE rd r.rg (L.map Iv.it) (i::G)).2≠0 then _ else (⟨_,f+(L.map Iv.it).length,0⟩:Cst)) else _)=_
       rw[bf];rfl)
      have aS:i=root\/¬i=root/\¬L.length<4:=by
       by_cases e:i=root
       . exact .inl e
       . exact .inr ⟨e,λh=>b ⟨e,h⟩⟩
      clear b au;by_cases aT:Y=1
      . subst aT;have CL:=e7 (ng C (w.heap.size+3) (w.heap.size+2) ac (.func (.func 69) #[] #[]) true rd hA2.o XV (i::G) ⟨i,lv,r⟩ ⟨1,lq,aq,cq,L,ad,cd,ak,nx⟩ bc.o JS.o (SZ.o rfl) G4.o M4.o R4.o (λh=>by have:=hX _ h;omega) (by omega))
        obtain⟨ab,hZ⟩:∃ab,fE rd r.rg (L.map Iv.it) (i::G)=ab:=⟨_,rfl⟩;have ao:Hid (H=if ab.2≠0 then ⟨ab.1,f,ab.2⟩ else ⟨ab.1,f+L.length,0⟩):=e7 (by rw[CT.o,if_pos rfl,hZ])
        simp only[hZ] at CL;simp only[il] at CL;clear CT hZ;obtain⟨Z1,Z2⟩:=ab;simp only at ao CL;by_cases A:Z2=0
        . subst A;have j:Hid (H=⟨Z1,f+L.length,0⟩):=e7 (ao.o.trans (if_neg (by simp)))
          have a6:((f+L.length:Nat):Int)=(f:Int)+(L.length:Int):=by omega
          have bA:IntKind.i64.wrap ((f:Int)+(L.length:Int))=(f:Int)+(L.length:Int):=by have:=KN.o;exact fB (by omega) (by omega)
          clear ao;rcases aS with rfl|⟨an,J⟩
          . gi_wp2_with (refine⟨trivial,rfl,?_⟩;refine CallsIn.mono (CallsIn.inRound l (cW.2 CL.o)) ?_;rintro _ g ⟨rfl,m,U⟩;have M5:=e7 U;have B:=e7 m;have K:=e7 (m.same O.o (λe=>by have e:w.heap.size+1=w.heap.size+2:=e;omega));have M:=e7 (m.same Z.o (λe=>by have e:w.heap.size+4=w.heap.size+2:=e;omega));obtain⟨q0,q1,q2,q3,q4,q5,q6,q7,q8,q9⟩:=iD (m.same aD.o (λe=>by have e:W.heap.size=w.heap.size+2:=e;omega));have e5:g.cell? ⟨w.heap.size+1,0,none⟩=some (.int .i64 0):=(by rw[ah _ _ _ _ _ _ K.o];rfl);have z5:=aQ g (w.heap.size+1) 0 _ _ K.o;have y5:g.cell? ⟨w.heap.size+4,0,none⟩=some (.int .i64 ((f:Nat):Int)):=(by rw[ah _ _ _ _ _ _ M.o];rfl);have u5:=aQ g (w.heap.size+4) 0 _ _ M.o;clear m U)
            have bK:=(But.refl F g).setCell (p:=⟨w.heap.size+4,0,none⟩) (λ_=>(E.o _).2 (.inr (.inr rfl))) (.int .i64 ((f:Int)+(L.length:Int)))
            have av:=(But.refl (λk=>k=w.heap.size+4) g).setCell (p:=⟨w.heap.size+4,0,none⟩) (λ_=>rfl) (.int .i64 ((f:Int)+(L.length:Int)))
            have xk:(g.setCell ⟨w.heap.size+4,0,none⟩ (.int .i64 ((f:Int)+(L.length:Int)))).heap[w.heap.size+4]?=some (.cells #[.int .i64 (((f+L.length:Nat):Nat):Int)] 3 (0,0)):=by
             rw[a6];exact ay g (w.heap.size+4) 0 _ _ (.int .i64 ((f:Int)+(L.length:Int))) M.o
            exact⟨F,((B.o.mono (T:=F) λk _ e=>(E.o k).2 (.inr (.inl e))).trans bK (λ_ _ e=>e)).ing,λk d=>.inl d,λ_=>by show decide (H.er≠0)=false;rw[j.o];rfl,E.o,aL.o,by rw[j.o],by rw[j.o];exact M5.o.but av (λe=>by have e:w.heap.size+2=w.heap.size+4:=e;omega),av.same K.o (λe=>by have e:w.heap.size+1=w.heap.size+4:=e;omega),by rw[j.o];exact xk⟩
          . have bn:(i==root)=false:=by simp[an]
            have aM:¬(L.length:Int)<4:=by omega
            gi_wp2_with (refine⟨trivial,rfl,?_⟩;refine CallsIn.mono (CallsIn.inRound l (cW.2 CL.o)) ?_;rintro _ g ⟨rfl,m,U⟩;have M5:=e7 U;have B:=e7 m;have K:=e7 (m.same O.o (λe=>by have e:w.heap.size+1=w.heap.size+2:=e;omega));have M:=e7 (m.same Z.o (λe=>by have e:w.heap.size+4=w.heap.size+2:=e;omega));obtain⟨q0,q1,q2,q3,q4,q5,q6,q7,q8,q9⟩:=iD (m.same aD.o (λe=>by have e:W.heap.size=w.heap.size+2:=e;omega));have e5:g.cell? ⟨w.heap.size+1,0,none⟩=some (.int .i64 0):=(by rw[ah _ _ _ _ _ _ K.o];rfl);have z5:=aQ g (w.heap.size+1) 0 _ _ K.o;have y5:g.cell? ⟨w.heap.size+4,0,none⟩=some (.int .i64 ((f:Nat):Int)):=(by rw[ah _ _ _ _ _ _ M.o];rfl);have u5:=aQ g (w.heap.size+4) 0 _ _ M.o;clear m U)
            have bK:=(But.refl F g).setCell (p:=⟨w.heap.size+4,0,none⟩) (λ_=>(E.o _).2 (.inr (.inr rfl))) (.int .i64 ((f:Int)+(L.length:Int)))
            have av:=(But.refl (λk=>k=w.heap.size+4) g).setCell (p:=⟨w.heap.size+4,0,none⟩) (λ_=>rfl) (.int .i64 ((f:Int)+(L.length:Int)))
            have xk:(g.setCell ⟨w.heap.size+4,0,none⟩ (.int .i64 ((f:Int)+(L.length:Int)))).heap[w.heap.size+4]?=some (.cells #[.int .i64 (((f+L.length:Nat):Nat):Int)] 3 (0,0)):=by
             rw[a6];exact ay g (w.heap.size+4) 0 _ _ (.int .i64 ((f:Int)+(L.length:Int))) M.o
            exact⟨F,((B.o.mono (T:=F) λk _ e=>(E.o k).2 (.inr (.inl e))).trans bK (λ_ _ e=>e)).ing,λk d=>.inl d,λ_=>by show decide (H.er≠0)=false;rw[j.o];rfl,E.o,aL.o,by rw[j.o],by rw[j.o];exact M5.o.but av (λe=>by have e:w.heap.size+2=w.heap.size+4:=e;omega),av.same K.o (λe=>by have e:w.heap.size+1=w.heap.size+4:=e;omega),by rw[j.o];exact xk⟩
        . have j:Hid (H=⟨Z1,f,Z2⟩):=e7 (ao.o.trans (if_pos A));have bE:((Z2:Int)==0)=false:=by simp[A]
          have bF:¬(Z2:Int)=0:=by omega
          clear ao;rcases aS with rfl|⟨an,J⟩
          . gi_wp2_with (refine⟨trivial,rfl,?_⟩;refine CallsIn.mono (CallsIn.inRound l (cW.2 CL.o)) ?_;rintro _ g ⟨rfl,m,U⟩;have M5:=e7 U;have B:=e7 m;have K:=e7 (m.same O.o (λe=>by have e:w.heap.size+1=w.heap.size+2:=e;omega));have M:=e7 (m.same Z.o (λe=>by have e:w.heap.size+4=w.heap.size+2:=e;omega));obtain⟨q0,q1,q2,q3,q4,q5,q6,q7,q8,q9⟩:=iD (m.same aD.o (λe=>by have e:W.heap.size=w.heap.size+2:=e;omega));have e5:g.cell? ⟨w.heap.size+1,0,none⟩=some (.int .i64 0):=(by rw[ah _ _ _ _ _ _ K.o];rfl);have z5:=aQ g (w.heap.size+1) 0 _ _ K.o;have y5:g.cell? ⟨w.heap.size+4,0,none⟩=some (.int .i64 ((f:Nat):Int)):=(by rw[ah _ _ _ _ _ _ M.o];rfl);have u5:=aQ g (w.heap.size+4) 0 _ _ M.o;clear m U)
            exact⟨F,((B.o.mono (T:=F) λk _ e=>(E.o k).2 (.inr (.inl e))).trans ((But.refl F g).setCell (p:=⟨w.heap.size+1,0,none⟩) (λ_=>(E.o _).2 (.inl rfl)) _) (λ_ _ e=>e)).ing,λk d=>.inl d,by show decide (H.er≠0)=true;rw[j.o];simp[A],rfl,E.o,aE ax (az B.o.size ((But.refl F g).setCell (p:=⟨w.heap.size+1,0,none⟩) (λ_=>(E.o _).2 (.inl rfl)) _).size),by rw[j.o];exact A,by rw[j.o];exact ay g (w.heap.size+1) 0 _ _ (.int .i64 (Z2:Int)) K.o⟩
          . have bn:(i==root)=false:=by simp[an]
            have aM:¬(L.length:Int)<4:=by omega
            gi_wp2_with (refine⟨trivial,rfl,?_⟩;refine CallsIn.mono (CallsIn.inRound l (cW.2 CL.o)) ?_;rintro _ g ⟨rfl,m,U⟩;have M5:=e7 U;have B:=e7 m;have K:=e7 (m.same O.o (λe=>by have e:w.heap.size+1=w.heap.size+2:=e;omega));have M:=e7 (m.same Z.o (λe=>by have e:w.heap.size+4=w.heap.size+2:=e;omega));obtain⟨q0,q1,q2,q3,q4,q5,q6,q7,q8,q9⟩:=iD (m.same aD.o (λe=>by have e:W.heap.size=w.heap.size+2:=e;omega));have e5:g.cell? ⟨w.heap.size+1,0,none⟩=some (.int .i64 0):=(by rw[ah _ _ _ _ _ _ K.o];rfl);have z5:=aQ g (w.heap.size+1) 0 _ _ K.o;have y5:g.cell? ⟨w.heap.size+4,0,none⟩=some (.int .i64 ((f:Nat):Int)):=(by rw[ah _ _ _ _ _ _ M.o];rfl);have u5:=aQ g (w.heap.size+4) 0 _ _ M.o;clear m U)
            exact⟨F,((B.o.mono (T:=F) λk _ e=>(E.o k).2 (.inr (.inl e))).trans ((But.refl F g).setCell (p:=⟨w.heap.size+1,0,none⟩) (λ_=>(E.o _).2 (.inl rfl)) _) (λ_ _ e=>e)).ing,λk d=>.inl d,by show decide (H.er≠0)=true;rw[j.o];simp[A],rfl,E.o,aE ax (az B.o.size ((But.refl F g).setCell (p:=⟨w.heap.size+1,0,none⟩) (λ_=>(E.o _).2 (.inl rfl)) _).size),by rw[j.o];exact A,by rw[j.o];exact ay g (w.heap.size+1) 0 _ _ (.int .i64 (Z2:Int)) K.o⟩
      . have j:Hid (H=⟨i::G,f,0⟩):=e7 (by rw[CT.o,if_neg aT])
        have IM:=e7 (show CkI w.heap.size rd F H C from⟨E.o,aL.o,by rw[j.o],by rw[j.o];exact M4.o,O.o,by rw[j.o];exact Z.o⟩)
        have bk:(Y==1)=false:=by simp[aT]
        clear CT;rcases aS with rfl|⟨an,J⟩
        . gi_wp2
          exact⟨F,(But.refl F _).ing,λk d=>.inl d,λ_=>by show decide (H.er≠0)=false;rw[j.o];rfl,IM.o⟩
        . have bn:(i==root)=false:=by simp[an]
          have aM:¬(L.length:Int)<4:=by omega
          gi_wp2
          exact⟨F,(But.refl F _).ing,λk d=>.inl d,λ_=>by show decide (H.er≠0)=false;rw[j.o];rfl,IM.o⟩
  . have a0:H.er=15:=by
     rcases hM' with⟨rfl,_⟩|⟨n,rfl,_⟩<;>rfl
    simp only[fZ];gi_wp2
    refine⟨al _ _,λC J r4 bq=>?_⟩
    have P:=al W (.cells #[.int .i64 0,.int .i64 0,.slice none 0 0,.slice none 0 0,.bool false,.int .i64 0,.int .i64 0,.slice none 0 0,.slice none 0 0,.int .i64 0] 151);have aA:=ag W (.cells #[.int .i64 0,.int .i64 0,.slice none 0 0,.slice none 0 0,.bool false,.int .i64 0,.int .i64 0,.slice none 0 0,.slice none 0 0,.int .i64 0] 151);have bs:=size_alloc W (.cells #[.int .i64 0,.int .i64 0,.slice none 0 0,.slice none 0 0,.bool false,.int .i64 0,.int .i64 0,.slice none 0 0,.slice none 0 0,.int .i64 0] 151);generalize W.alloc (.cells #[.int .i64 0,.int .i64 0,.slice none 0 0,.slice none 0 0,.bool false,.int .i64 0,.int .i64 0,.slice none 0 0,.slice none 0 0,.int .i64 0] 151)=aY at *;have O:=e7 (J.same ((P.block _ (ae.1 EW.o).1).trans EW.o) (λe=>by have e:w.heap.size+1=l:=e;omega))
    have Z:=e7 (J.same ((P.block _ (ae.1 KW.o).1).trans KW.o) (λe=>by have e:w.heap.size+4=l:=e;omega))
    have ax:w.heap.size+4<C.heap.size:=(ae.1 Z.o).1;have X:∀v:Value,But F C (C.setCell ⟨w.heap.size+1,0,none⟩ v):=λv=>(But.refl F C).setCell (p:=⟨w.heap.size+1,0,none⟩) (λ_=>(E.o _).2 (.inl rfl)) v
    have aW:∀v:Value,w.heap.size+4<(C.setCell ⟨w.heap.size+1,0,none⟩ v).heap.size:=λv=>aE ax (X v).size
    have aj:=e7 (λv:Value=>(show(C.setCell ⟨w.heap.size+1,0,none⟩ v).heap[w.heap.size+1]?=some (.cells #[v] 39 (0,0)) from ay C (w.heap.size+1) 0 _ _ v O.o))
    have BS:=e7 X;have HS:=e7 aW;have e0:C.cell? ⟨w.heap.size+1,0,none⟩=some (.int .i64 0):=by rw[ah _ _ _ _ _ _ O.o];rfl
    have z0:=aQ C (w.heap.size+1) 0 _ _ O.o;obtain⟨k0,k1,k2,k3,k4,k5,k6,k7,k8,k9⟩:=iD (J.same aA (λe=>by have e:W.heap.size=l:=e;omega))
    have aX:=e7 a0;clear a0 hM' hGv' a3 aw aa;gi_wp2
    exact⟨F,(BS.o _).ing,λk d=>.inl d,by show decide (H.er≠0)=true;rw[aX.o];rfl,rfl,E.o,HS.o _,by rw[aX.o];decide,by rw[aX.o];exact aj.o _⟩
 case done=>
  rintro D F s W hD bg hI y hB hF aF;have y:s=jb rd ⟨root,I,R⟩:=y;have aB:Hid (ch=if ((s.ks:Nat):Int)≠R then 4 else 0):=e7 (by rw[aK.o,<-y];exact if_neg (by rw[hI.er];simp))
  obtain⟨G,f,e0⟩:=s;have bd:=e7 (hB.same T2.o (λe=>by rcases e with e|e|e<;>omega))
  obtain⟨t0,t1,t2⟩:=ix bd.o;have y0:W.cell? ⟨w.heap.size+4,0,none⟩=some (.int .i64 ((f:Nat):Int)):=by rw[ah _ _ _ _ _ _ hI.k];rfl
  have e1:W.cell? ⟨w.heap.size+1,0,none⟩=some (.int .i64 0):=by rw[ah _ _ _ _ _ _ hI.e];rfl
  have z1:=aQ W (w.heap.size+1) 0 _ _ hI.e
  have aj:=e7 (λv:Value=>(show(W.setCell ⟨w.heap.size+1,0,none⟩ v).cell? ⟨w.heap.size+1,0,none⟩=some v from by
   rw[ah _ _ _ _ _ _ (ay W (w.heap.size+1) 0 _ _ v hI.e)];rfl))
  clear y hI;by_cases hi:((f:Nat):Int)=R
  . have ap:Hid (ch=0):=e7 (aB.o.trans (if_neg (by simpa using hi)))
    subst hi;clear aB;go_wp2_with fail
    have X:=(But.refl (λk=>k=w.heap.size+1) W).setCell (p:=⟨w.heap.size+1,0,none⟩) (λ_=>rfl) (.int .i64 0)
    have cS:=aj.o (.int .i64 0);refine⟨by simp,.inl ⟨_,_,rfl,bQ (X.same aF (λe=>by have e:D=w.heap.size+1:=e;omega)),?_⟩⟩
    have V:=(But.refl (λk=>k=D) (W.setCell ⟨w.heap.size+1,0,none⟩ (.int .i64 0))).putObj (λ_=>rfl) (.deferred none)
    have c4:=(V.cell (p:=⟨w.heap.size+1,0,none⟩) (block_lt_of_cell cS) (λe=>by have e:w.heap.size+1=D:=e;omega)).trans cS
    refine⟨_,i9 results36 _ _ (w.heap.size+1) _ rfl c4 (gJ _ _ _ c4),by rw[ap.o];rfl,?_⟩
    exact((((But.ofBelow (S:=λk=>w.heap.size<=k) aJ.o).trans (hB.mono (T:=λk=>w.heap.size<=k) λk _ e=>by rcases e with e|e|e<;>omega) (λ_ _ e=>e)).trans (X.mono (T:=λk=>w.heap.size<=k) λk _ e=>by have e:k=w.heap.size+1:=e;omega) (λ_ _ e=>e)).trans (V.mono (T:=λk=>w.heap.size<=k) λk _ e=>by have e:k=D:=e;omega) (λ_ _ e=>e)).below (λk d e=>by omega)
  . have ap:Hid (ch=4):=e7 (aB.o.trans (if_pos hi));have bi:(((f:Nat):Int)==R)=false:=by simp[hi]
    clear aB;go_wp2_with fail
    have X:=(But.refl (λk=>k=w.heap.size+1) W).setCell (p:=⟨w.heap.size+1,0,none⟩) (λ_=>rfl) (.int .i64 4)
    have cS:=aj.o (.int .i64 4);refine⟨by simp,.inl ⟨_,_,rfl,bQ (X.same aF (λe=>by have e:D=w.heap.size+1:=e;omega)),?_⟩⟩
    have V:=(But.refl (λk=>k=D) (W.setCell ⟨w.heap.size+1,0,none⟩ (.int .i64 4))).putObj (λ_=>rfl) (.deferred none)
    have c4:=(V.cell (p:=⟨w.heap.size+1,0,none⟩) (block_lt_of_cell cS) (λe=>by have e:w.heap.size+1=D:=e;omega)).trans cS
    refine⟨_,i9 results36 _ _ (w.heap.size+1) _ rfl c4 (gJ _ _ _ c4),by rw[ap.o];rfl,?_⟩
    exact((((But.ofBelow (S:=λk=>w.heap.size<=k) aJ.o).trans (hB.mono (T:=λk=>w.heap.size<=k) λk _ e=>by rcases e with e|e|e<;>omega) (λ_ _ e=>e)).trans (X.mono (T:=λk=>w.heap.size<=k) λk _ e=>by have e:k=w.heap.size+1:=e;omega) (λ_ _ e=>e)).trans (V.mono (T:=λk=>w.heap.size<=k) λk _ e=>by have e:k=D:=e;omega) (λ_ _ e=>e)).below (λk d e=>by omega)
 case stop=>
  rintro D af F s W hD bg ⟨rfl,aP⟩ y hB hF aF;have y:s=jb rd ⟨root,I,R⟩:=y;have ap:Hid (ch=s.er):=e7 (by rw[aK.o,<-y];exact if_pos aP.er)
  have hE:=aP.e;clear y aP;gi_wp2
  refine⟨by simp,.inl ⟨_,_,rfl,bQ aF,?_⟩⟩
  have V:=(But.refl (λk=>k=D) W).putObj (λ_=>rfl) (.deferred none)
  have cS:W.cell? ⟨w.heap.size+1,0,none⟩=some (.int .i64 ((s.er:Nat):Int)):=by rw[ah _ _ _ _ _ _ hE];rfl
  have c4:=(V.cell (p:=⟨w.heap.size+1,0,none⟩) (block_lt_of_cell cS) (λe=>by have e:w.heap.size+1=D:=e;omega)).trans cS
  refine⟨_,i9 results36 _ _ (w.heap.size+1) _ rfl c4 (gJ _ _ _ c4),by rw[ap.o],?_⟩
  exact(((But.ofBelow (S:=λk=>w.heap.size<=k) aJ.o).trans (hB.mono (T:=λk=>w.heap.size<=k) λk _ e=>by rcases e with e|e|e<;>omega) (λ_ _ e=>e)).trans (V.mono (T:=λk=>w.heap.size<=k) λk _ e=>by have e:k=D:=e;omega) (λ_ _ e=>e)).below (λk d e=>by omega)
end Go.Proofs.YtnnieandfdbhgaaGreat
