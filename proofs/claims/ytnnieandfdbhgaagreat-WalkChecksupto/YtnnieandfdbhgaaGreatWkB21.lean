import Derived.Test.YtnnieandfdbhgaaGreatWkB20
set_option linter.all false
set_option maxHeartbeats 16000000
set_option maxRecDepth 10000
namespace Go.Proofs.YtnnieandfdbhgaaGreat
open Go.Proofs.Tryz
open Go.RowKit Go.Shelf
attribute [local go_sem] Oper.semAt_some
theorem o5{gf:Nat}{lb:Array Value}(eg:∀args w,(callFunc gf args).run prog w=.ok (.enter gf args) w){w0 w:World}{X:Nat->Prop}{Fin:List (List Nat×List Nat)×Nat->Prop}{B:Nat}(hB:B<=1048576)
 (aI:jE prog gf lb Yl.ystp (EnR Yl (λc=>c.1.length) B) (λ_=>False) (λ_ _=>True) ([],0) Fin w0 X) (av:But (λk=>¬X k) w0 w) (az:∀k,X k->k<w.heap.size):
 Calls prog 56 #[.func (.func gf) #[] lb] w λe w'=>Below w.heap.size w w'/\∃s,Fin s/\CoR w w' e s:=by
 have EG:=e7 eg;have SQ:=e7 aI;have XW:=e7 az;clear eg aI az;refine(cW (n:=0)).1 ?_;refine dg func56 rfl trivial ?_ rfl;simp only[ntmps56,bM,aR,aO,Nat.reduceAdd,Nat.reduceSub,bT,bX,cG,b7,cu,cM];refine dW.2 ?_;go_wp2_with fail
 obtain⟨a1,hU,I0,L,sU⟩:=uP w;rw[hU];have I0:=e7 I0;have L:=e7 L;have X0:=e7 (av.andBelow L.o);clear hU av;refine(dW (n:=0)).1 ?_
 refine iO (gf:=gf) (lb:=lb) rfl EG.o SQ.o X0.o (λk b=>aE (XW.o k b) L.o.size)
  (by rintro s W0 W1 a0 U er R (⟨K,ar,rfl,_⟩|⟨e,rfl,_⟩)<;>rfl)
  (λk=>k=w.heap.size\/k=w.heap.size+1\/k=w.heap.size+2) (λk b q=>by have:=XW.o k q;omega) (CoI w.heap.size) (λc F s W=>c=.ret/\CoX w.heap.size F s W)
  (λF s an B h hb=>h.but hb (λk b e=>e.1 b))
  (λF s an h=>h.siz)
  (λc F s an B h hb=>⟨h.1,h.2.but hb (λk b e=>e.1 b)⟩)
  (λc F s an h=>h.2.1)
  (λF s W h=>⟨trivial,λk h=>h.elim⟩)
  I0.o ?round ?done ?stop
 case round=>
  rintro l F s W0 W a0 U er R hI aH aY ap a4 a3 aw a5 a6 a2 ⟨r0,aD⟩;have ax:=e7 (hI.but aH (λk _ h=>h))
  have bd:=aH.size;clear hI;rcases aY with⟨K,ar,rfl,hK,hK8,hV,hV8,hKV,hs',rfl,hcn,hGe⟩|⟨e,rfl,he,hs',rfl,hGe⟩
  . have V:=e7 hs';have CN:=e7 hcn;have aM:=e7 hKV;have GE:=e7 hGe;have aL:=e7 hK8;have aS:=e7 hV8;have aJ:=e7 ap;clear hs' hcn hKV hGe hK8 hV8 ap;obtain⟨f,r,v⟩:=K;obtain⟨i,t,E⟩:=ar;have HK:=e7 hK;have HV:=e7 hV;clear hK hV;simp only at HK HV V GE ⊢
    have KL:Hid (∀k,((∃x,f=some x/\x.block=k)\/∃x,i=some x/\x.block=k)->¬k=l):=e7 (λk b e=>by
     subst e;rcases b with⟨x,q,e⟩|⟨x,q,e⟩
     . obtain⟨aT,hc⟩:=HK.o.blk q;rw[e,aD] at hc;cases hc
     . obtain⟨aT,hc⟩:=HV.o.blk q;rw[e,aD] at hc;cases hc)
    gi_wp2
    refine⟨al _ _,λd I r4 aZ=>?_⟩
    have ab:=al W (.cells #[.slice f v.length r,.slice i E.length t] 45);have aG:=ag W (.cells #[.slice f v.length r,.slice i E.length t] 45);have ba:=size_alloc W (.cells #[.slice f v.length r,.slice i E.length t] 45);generalize W.alloc (.cells #[.slice f v.length r,.slice i E.length t] 45)=V3 at *;have a7:=I.size;have aU:∀x,f=some x->¬x.block=l:=λx q e=>KL.o x.block (.inl ⟨x,q,rfl⟩) e
    have aW:∀x,i=some x->¬x.block=l:=λx q e=>KL.o x.block (.inr ⟨x,q,rfl⟩) e
    have B4:=e7 ((But.ofBelow (S:=λk=>k=l) ab).trans I (λ_ _ e=>e))
    have x4:=I.same aG (λe=>by have e:W.heap.size=l:=e;omega)
    have I4:=e7 (ax.o.but B4.o (λk b e=>by have e:k=l:=e;rw[e] at b;exact aw b))
    have k0:d.cell? ⟨W.heap.size,0,none⟩=some (.slice f v.length r):=by rw[ah _ _ _ _ _ _ x4];rfl
    have k1:d.cell? ⟨W.heap.size,1,none⟩=some (.slice i E.length t):=by rw[ah _ _ _ _ _ _ x4];rfl
    clear aG ab I x4
    have P:Hid (∃(a:Option Addr)(m c:Nat)(ak:List Value),d.cell? ⟨w.heap.size+2,0,none⟩=some (.slice a m c)/\m<1048576/\Q.Gw 45 2 (d.alloc (.cells #[.slice f v.length r,.slice i E.length t] 45)) a c m ak/\
     ∀g J H,Q.Gw 45 2 H (some ⟨g,0,none⟩) J (m+1) (ak++[.slice f v.length r,.slice i E.length t])->New (d.alloc (.cells #[.slice f v.length r,.slice i E.length t] 45)) a (some ⟨g,0,none⟩)->But (Q.InA a) (d.alloc (.cells #[.slice f v.length r,.slice i E.length t] 45)) H->
      H.cell? ⟨w.heap.size+2,0,none⟩=some (.slice a m c)/\H.frozen? ⟨w.heap.size+2,0,none⟩=false/\
      ∃M:Nat->Prop,But (λk=>F k\/R k) d (H.setCell ⟨w.heap.size+2,0,none⟩ (.slice (some ⟨g,0,none⟩) (m+1) J))/\(∀k,M k->F k\/R k\/W.heap.size<=k)/\(false=false->Yl.ystp U=false)/\CoI w.heap.size M U (H.setCell ⟨w.heap.size+2,0,none⟩ (.slice (some ⟨g,0,none⟩) (m+1) J))):=e7 (by
     obtain⟨a,c,C,G,h2,j,I,h5,u,Y⟩:=I4.o;have cn:(prl C).length<B:=by have:=CN.o;rw[j] at this;exact this
     rw[rY] at cn;have ac:=al d (.cells #[.slice f v.length r,.slice i E.length t] 45);have bc:=size_alloc d (.cells #[.slice f v.length r,.slice i E.length t] 45);refine⟨a,C.length,c,prv C,by rw[ah _ _ _ _ _ _ u];rfl,by omega,h2.row.keep ac,λg J H hR hN Z=>?_⟩
     generalize d.alloc (.cells #[.slice f v.length r,.slice i E.length t] 45)=V5 at *;have Z:But (Q.InA a) V5 H:=Z;have nA:∀k,Q.InA a k->w.heap.size+2<k:=λk ⟨x,q,e⟩=>Y k (.inl ⟨x,q,e⟩)
     have b5:But (Q.InA a) d H:=(But.ofBelow (S:=Q.InA a) ac).trans Z (λ_ _ h=>h)
     have n4:=b5.same I (λh=>by have:=nA _ h;omega)
     have n5:=b5.same h5 (λh=>by have:=nA _ h;omega)
     have n6:=b5.same u (λh=>by have:=nA _ h;omega)
     have gb:w.heap.size+2<g/\(F g\/d.heap.size<=g):=by
      rcases hN ⟨g,0,none⟩ rfl with⟨y,hy,e⟩|h
      . have e:y.block=g:=e;exact⟨nA g ⟨y,hy,e⟩,.inl ((G g).2 (.inr (.inr (.inr (.inl ⟨y,hy,e⟩)))))⟩
      . have h:V5.heap.size<=g:=h;have l6:=(ae.1 u).1;exact⟨by omega,.inr (by omega)⟩
     have b6:But (λk=>k=w.heap.size+2) H (H.setCell ⟨w.heap.size+2,0,none⟩ (.slice (some ⟨g,0,none⟩) (C.length+1) J)):=(But.refl (λk=>k=w.heap.size+2) H).setCell (p:=⟨w.heap.size+2,0,none⟩) (λ_=>rfl) _
     have O:∀k,((∃x,f=some x/\x.block=k)\/∃x,i=some x/\x.block=k)->¬F k/\w.heap.size+2<k/\k<W.heap.size/\R k:=λk b=>by
      have aA:=(GE.o k).2 b;have:=aJ.o k aA;exact⟨this.1,by omega,this.2.2,aA⟩
     have PP:Prs H (some ⟨g,0,none⟩) J (C++[(⟨f,r,v⟩,⟨i,t,E⟩)]):=(h2.keep5 ac).app (K:=⟨f,r,v⟩) (Vl:=⟨i,t,E⟩) ⟨(HK.o.but B4.o (λx q e=>by have e:x.block=l:=e;have:=(O x.block (.inl ⟨x,q,rfl⟩)).1;exact aU x q e)).keep ac,aL.o⟩ ⟨(HV.o.but B4.o (λx q e=>aW x q e)).keep ac,aS.o⟩ aM.o (λk b=>⟨λh=>(O k (.inl h)).1 ((G k).2 (.inr (.inr (.inr b)))),λh=>(O k (.inr h)).1 ((G k).2 (.inr (.inr (.inr b))))⟩) hR Z
     have P6:Prs (H.setCell ⟨w.heap.size+2,0,none⟩ (.slice (some ⟨g,0,none⟩) (C.length+1) J)) (some ⟨g,0,none⟩) J (C++[(⟨f,r,v⟩,⟨i,t,E⟩)]):=PP.but b6 (λk b e=>by
      have e:k=w.heap.size+2:=e;rcases lG.1 b with⟨x,q,N⟩|h|h|h
      . cases q;have N:g=k:=N;omega
      . have:=Y k (.inr h);omega
      . have:=(O k (.inl h)).2.1;omega
      . have:=(O k (.inr h)).2.1;omega)
     have hs:U=(prl (C++[(⟨f,r,v⟩,⟨i,t,E⟩)]),0):=by rw[V.o,j,ww];rfl
     refine⟨by rw[ah _ _ _ _ _ _ n6];rfl,aQ H (w.heap.size+2) 0 _ _ n6,λk=>k=w.heap.size\/k=w.heap.size+1\/k=w.heap.size+2\/prO (some ⟨g,0,none⟩) (C++[(⟨f,r,v⟩,⟨i,t,E⟩)]) k,?_,?_,λ_=>by rw[hs];rfl,some ⟨g,0,none⟩,J,_,λk=>df,P6,hs,b6.same n4 (λe=>by have e:w.heap.size=w.heap.size+2:=e;omega),b6.same n5 (λe=>by have e:w.heap.size+1=w.heap.size+2:=e;omega),by rw[af];exact ay H (w.heap.size+2) 0 _ _ _ n6,?_⟩
     . exact(b5.mono (T:=λk=>F k\/R k) λk _ ⟨x,q,e⟩=>.inl ((G k).2 (.inr (.inr (.inr (.inl ⟨x,q,e⟩)))))).trans b6 (λk _ e=>.inl ((G k).2 (.inr (.inr (.inl e)))))
     . rintro k (h|h|h|h)
       . exact .inl ((G k).2 (.inl h))
       . exact .inl ((G k).2 (.inr (.inl h)))
       . exact .inl ((G k).2 (.inr (.inr (.inl h))))
       . rcases lG.1 h with⟨x,q,N⟩|h|h|h
         . cases q;have N:g=k:=N;rw[<-N];rcases gb.2 with h|h
           . exact .inl h
           . exact .inr (.inr (by omega))
         . exact .inl ((G k).2 (.inr (.inr (.inr (.inr h)))))
         . exact .inr (.inl (O k (.inl h)).2.2.2)
         . exact .inr (.inl (O k (.inr h)).2.2.2)
     . intro k h;rcases lG.1 h with⟨x,q,N⟩|h|h|h
       . cases q;have N:g=k:=N;omega
       . exact Y k (.inr h)
       . exact(O k (.inl h)).2.1
       . exact(O k (.inr h)).2.1)
    have NC:Hid (∀ao am,([.slice f v.length r,.slice i E.length t]:List Value)[ao]?=some am->(d.alloc (.cells #[.slice f v.length r,.slice i E.length t] 45)).cell? ((⟨d.heap.size,0,none⟩:Addr).add ao)=some am):=e7 (λao am hu=>by
     rw[Addr.add_mid,bP,ah _ _ _ _ _ _ (ag d (.cells #[.slice f v.length r,.slice i E.length t] 45)),<-hu];simp)
    obtain⟨a,m,c,ak,o4,hm,G5,FN⟩:=P.o;have HM:=e7 hm;have G5:=e7 G5;have FN:=e7 FN;clear hm P;have aC:m+1<=maxLen:=by have:=HM.o;unfold maxLen;omega
    have aB:(m+1)*48<=140737488355328:=by have:=HM.o;omega
    have aP:=e7 aC;have aN:=e7 aB;clear aC aB;gi_wp2_with (refine qj underlying60 us rfl (by decide) rfl _ _ rfl a m c ak (by simp[Act.eval]) G5.o ⟨d.heap.size,0,none⟩ 1 [.slice f v.length r,.slice i E.length t] (by simp[Act.eval]) rfl NC.o (λam hu=>by simp only[b8,bZ,or_false] at hu;rcases hu with rfl|rfl<;>rfl) aP.o aN.o ?_;intro g J H hR hN Z;obtain⟨f5,f6,f7⟩:=FN.o g J H hR hN Z;have F7:=e7 f7;clear f7 hR hN Z FN)
    obtain⟨M,q1,q2,q3,q4⟩:=F7.o;exact⟨M,q1,q2,λ_=>q3 trivial,q4⟩
  . have V:=e7 hs';have HE:=e7 he;clear hs' hGe ap;simp only at V ⊢;gi_wp2
    refine⟨al _ _,λd I aZ=>?_⟩
    have ab:=al W (.cells #[.slice none 0 0,.slice none 0 0] 45);generalize W.alloc (.cells #[.slice none 0 0,.slice none 0 0] 45)=V3 at *;have B4:=e7 ((But.ofBelow (S:=λk=>k=l) ab).trans I (λ_ _ e=>e))
    have I4:=e7 (ax.o.but B4.o (λk b e=>by have e:k=l:=e;rw[e] at b;exact aw b))
    clear ab I
    have P:Hid (d.cell? ⟨w.heap.size,0,none⟩=some (.slice none 0 0)/\d.frozen? ⟨w.heap.size,0,none⟩=false/\(d.setCell ⟨w.heap.size,0,none⟩ (.slice none 0 0)).cell? ⟨w.heap.size+1,0,none⟩=some (.int .i64 0)/\(d.setCell ⟨w.heap.size,0,none⟩ (.slice none 0 0)).frozen? ⟨w.heap.size+1,0,none⟩=false/\
     ∃M:Nat->Prop,But (λk=>F k\/R k) d ((d.setCell ⟨w.heap.size,0,none⟩ (.slice none 0 0)).setCell ⟨w.heap.size+1,0,none⟩ (.int .i64 (e:Int)))/\(∀k,M k->F k\/R k\/W.heap.size<=k)/\Yl.ystp U=true/\CoX w.heap.size M U ((d.setCell ⟨w.heap.size,0,none⟩ (.slice none 0 0)).setCell ⟨w.heap.size+1,0,none⟩ (.int .i64 (e:Int)))):=e7 (by
     have sz:=I4.o.siz;obtain⟨a,c,C,G,h2,j,I,h5,u,Y⟩:=I4.o;have c1:But (λk=>k=w.heap.size) d (d.setCell ⟨w.heap.size,0,none⟩ (.slice none 0 0)):=(But.refl (λk=>k=w.heap.size) d).setCell (p:=⟨w.heap.size,0,none⟩) (λ_=>rfl) _
     have x1:=ay d w.heap.size 0 _ _ (.slice none 0 0) I;have A:=c1.same h5 (λe=>by have e:w.heap.size+1=w.heap.size:=e;omega)
     have c2:But (λk=>k=w.heap.size+1) (d.setCell ⟨w.heap.size,0,none⟩ (.slice none 0 0)) ((d.setCell ⟨w.heap.size,0,none⟩ (.slice none 0 0)).setCell ⟨w.heap.size+1,0,none⟩ (.int .i64 (e:Int))):=(But.refl (λk=>k=w.heap.size+1) _).setCell (p:=⟨w.heap.size+1,0,none⟩) (λ_=>rfl) _
     have y2:=ay _ (w.heap.size+1) 0 _ _ (.int .i64 (e:Int)) A;have bb:=(c1.mono (T:=F) λk _ e=>(G k).2 (.inl e)).trans c2 (λk _ e=>(G k).2 (.inr (.inl e)))
     have aF:U.2=e:=by rw[V.o];rfl
     refine⟨by rw[ah _ _ _ _ _ _ I];rfl,aQ d w.heap.size 0 _ _ I,by rw[ah _ _ _ _ _ _ A];rfl,aQ _ (w.heap.size+1) 0 _ _ A,F,bb.ing,λk b=>.inl b,by rw[V.o];exact uu _ _ HE.o,λk b=>aE (sz k b) bb.size,(G _).2 (.inl rfl),(G _).2 (.inr (.inl rfl)),by rw[aF];exact HE.o,c2.same x1 (λe=>by have e:w.heap.size=w.heap.size+1:=e;omega),by rw[aF];exact y2⟩)
    obtain⟨f1,f2,f3,f4,f5⟩:=P.o;have F5:=e7 f5;have a8:((e:Int)==0)=false:=by simp[HE.o]
    have a9:¬(e:Int)=0:=by have:=HE.o;omega
    clear f5 P;gi_wp2
    obtain⟨M,q1,q2,q3,q4⟩:=F5.o;exact⟨M,q1,q2,q3,rfl,q4⟩
 case done=>
  rintro D F s W hD aa hI aj ad hF ai;have aq:=e7 aj
  have P:Hid (∃(a:Option Addr)(m c:Nat),W.cell? ⟨w.heap.size+2,0,none⟩=some (.slice a m c)/\W.cell? ⟨w.heap.size,0,none⟩=some (.slice none 0 0)/\W.frozen? ⟨w.heap.size,0,none⟩=false/\(W.setCell ⟨w.heap.size,0,none⟩ (.slice a m c)).cell? ⟨w.heap.size+1,0,none⟩=some (.int .i64 0)/\(W.setCell ⟨w.heap.size,0,none⟩ (.slice a m c)).frozen? ⟨w.heap.size+1,0,none⟩=false/\
   ((W.setCell ⟨w.heap.size,0,none⟩ (.slice a m c)).setCell ⟨w.heap.size+1,0,none⟩ (.int .i64 0)).heap[D]?=some (.deferred (some []))/\
   (((W.setCell ⟨w.heap.size,0,none⟩ (.slice a m c)).setCell ⟨w.heap.size+1,0,none⟩ (.int .i64 0)).putObj D (.deferred none)).cell? ⟨w.heap.size,0,none⟩=some (.slice a m c)/\
   (((W.setCell ⟨w.heap.size,0,none⟩ (.slice a m c)).setCell ⟨w.heap.size+1,0,none⟩ (.int .i64 0)).putObj D (.deferred none)).cell? ⟨w.heap.size+1,0,none⟩=some (.int .i64 0)/\
   Below w.heap.size w (((W.setCell ⟨w.heap.size,0,none⟩ (.slice a m c)).setCell ⟨w.heap.size+1,0,none⟩ (.int .i64 0)).putObj D (.deferred none))/\
   ∀e:Ending,e=.returned (.tuple #[.slice a m c,.int .i64 0])->CoR w (((W.setCell ⟨w.heap.size,0,none⟩ (.slice a m c)).setCell ⟨w.heap.size+1,0,none⟩ (.int .i64 0)).putObj D (.deferred none)) e s):=e7 (by
   obtain⟨a,c,C,G,h2,j,I,h5,u,Y⟩:=hI;have nD:D≠w.heap.size/\D≠w.heap.size+1:=⟨λe=>aa ((G D).2 (.inl e)),λe=>aa ((G D).2 (.inr (.inl e)))⟩
   have c1:But (λk=>k=w.heap.size) W (W.setCell ⟨w.heap.size,0,none⟩ (.slice a C.length c)):=(But.refl (λk=>k=w.heap.size) W).setCell (p:=⟨w.heap.size,0,none⟩) (λ_=>rfl) _
   have x1:=ay W w.heap.size 0 _ _ (.slice a C.length c) I;have A:=c1.same h5 (λe=>by have e:w.heap.size+1=w.heap.size:=e;omega)
   have c2:But (λk=>k=w.heap.size+1) (W.setCell ⟨w.heap.size,0,none⟩ (.slice a C.length c)) ((W.setCell ⟨w.heap.size,0,none⟩ (.slice a C.length c)).setCell ⟨w.heap.size+1,0,none⟩ (.int .i64 0)):=(But.refl (λk=>k=w.heap.size+1) _).setCell (p:=⟨w.heap.size+1,0,none⟩) (λ_=>rfl) _
   have x2:=c2.same x1 (λe=>by have e:w.heap.size=w.heap.size+1:=e;omega)
   have y2:=ay _ (w.heap.size+1) 0 _ _ (.int .i64 0) A;have d2:=c2.same (c1.same ai nD.1) nD.2;have c3:=(But.refl (λk=>k=D) ((W.setCell ⟨w.heap.size,0,none⟩ (.slice a C.length c)).setCell ⟨w.heap.size+1,0,none⟩ (.int .i64 0))).putObj (λ_=>rfl) (.deferred none)
   have x3:=c3.same x2 (λe=>nD.1 e.symm)
   have y3:=c3.same y2 (λe=>nD.2 e.symm)
   have bb:=((c1.mono (T:=λk=>k=w.heap.size\/k=w.heap.size+1\/k=D) λk _ e=>.inl e).trans c2 (λk _ e=>.inr (.inl e))).trans c3 (λk _ e=>.inr (.inr e))
   refine⟨a,C.length,c,by rw[ah _ _ _ _ _ _ u];rfl,by rw[ah _ _ _ _ _ _ I];rfl,aQ W w.heap.size 0 _ _ I,by rw[ah _ _ _ _ _ _ A];rfl,aQ _ (w.heap.size+1) 0 _ _ A,d2,by rw[ah _ _ _ _ _ _ x3];rfl,by rw[ah _ _ _ _ _ _ y3];rfl,?_,λe he=>.inr ⟨by rw[j],a,c,C,he,h2.but bb (λk b e=>?_),by rw[j],λk b=>by have:=Y k b;omega⟩⟩
   . exact(((But.ofBelow (S:=λk=>w.heap.size<=k) L.o).trans (ad.mono (T:=λk=>w.heap.size<=k) λk _ e=>by rcases e with e|e|e<;>omega) (λ_ _ e=>e)).trans (bb.mono (T:=λk=>w.heap.size<=k) λk _ e=>by rcases e with e|e|e<;>omega) (λ_ _ e=>e)).below (λk b e=>by omega)
   . have:=Y k b;rcases e with e|e|e
     . omega
     . omega
     . exact aa ((G D).2 (.inr (.inr (.inr (e▸b))))))
  obtain⟨a,m,c,f1,f2,f3,f4,f5,f6,f7,f8,f9,au⟩:=P.o;have F6:=e7 f6;have F7:=e7 f7;have F8:=e7 f8;have F9:=e7 f9;have FT:=e7 au;clear hI f6 f7 f8 f9 au P aj ad hF ai;go_wp2_with fail
  refine⟨by simp,.inl ⟨_,_,rfl,bQ F6.o,?_⟩⟩
  exact⟨_,mA results56 _ _ w.heap.size (w.heap.size+1) _ _ rfl rfl (mH _ _ _ F7.o) (gJ _ _ _ F8.o),F9.o,s,aq.o,FT.o _ rfl⟩
 case stop=>
  rintro D c F s W hD aa ⟨rfl,aX⟩ aj ad hF ai;have aq:=e7 aj;obtain⟨g1,g2,g3,g4,g5,g6⟩:=aX;have bD:=(But.refl (λk=>k=D) W).putObj (λ_=>rfl) (.deferred none)
  have x5:=bD.same g5 (λe=>aa (by have e:w.heap.size=D:=e;rw[<-e];exact g2))
  have x6:=bD.same g6 (λe=>aa (by have e:w.heap.size+1=D:=e;rw[<-e];exact g3))
  have F7:Hid ((W.putObj D (.deferred none)).cell? ⟨w.heap.size,0,none⟩=some (.slice none 0 0)):=e7 (by rw[ah _ _ _ _ _ _ x5];rfl)
  have F8:Hid ((W.putObj D (.deferred none)).cell? ⟨w.heap.size+1,0,none⟩=some (.int .i64 (s.2:Int))):=e7 (by rw[ah _ _ _ _ _ _ x6];rfl)
  have F9:Hid (Below w.heap.size w (W.putObj D (.deferred none))):=e7 ((((But.ofBelow (S:=λk=>w.heap.size<=k) L.o).trans (ad.mono (T:=λk=>w.heap.size<=k) λk _ e=>by rcases e with e|e|e<;>omega) (λ_ _ e=>e)).trans (bD.mono (T:=λk=>w.heap.size<=k) λk _ e=>by have e:k=D:=e;omega) (λ_ _ e=>e)).below (λk b e=>by omega))
  have KD:=e7 ai;have G4:=e7 g4;clear g1 g2 g3 g4 g5 g6 bD x5 x6 aj ad hF ai;gi_wp2
  refine⟨by simp,.inl ⟨_,_,rfl,bQ KD.o,?_⟩⟩
  exact⟨_,mA results56 _ _ w.heap.size (w.heap.size+1) _ _ rfl rfl (mH _ _ _ F7.o) (gJ _ _ _ F8.o),F9.o,s,aq.o,.inl ⟨G4.o,rfl⟩⟩
theorem mT(w:World)(j k l m:Obj):∃U:World,(((w.alloc j).alloc k).alloc l).alloc m=U/\U.heap[w.heap.size]?=some j/\U.heap[w.heap.size+1]?=some k/\U.heap[w.heap.size+2]?=some l/\U.heap[w.heap.size+3]?=some m/\Below w.heap.size w U/\U.heap.size=w.heap.size+4:=by
 obtain⟨a,f⟩:∃U,w.alloc j=U:=⟨_,rfl⟩;obtain⟨b,g⟩:∃U,a.alloc k=U:=⟨_,rfl⟩;obtain⟨c,h⟩:∃U,b.alloc l=U:=⟨_,rfl⟩;obtain⟨d,i⟩:∃U,c.alloc m=U:=⟨_,rfl⟩;have q:a.heap.size=w.heap.size+1:=by rw[<-f,size_alloc]
 have r:b.heap.size=w.heap.size+2:=by rw[<-g,size_alloc,q]
 have s:c.heap.size=w.heap.size+3:=by rw[<-h,size_alloc,r]
 have v:d.heap.size=w.heap.size+4:=by rw[<-i,size_alloc,s]
 have t:Below w.heap.size w a:=by rw[<-f];exact al _ _
 have p:Below a.heap.size a b:=by rw[<-g];exact al _ _
 have n:Below b.heap.size b c:=by rw[<-h];exact al _ _
 have e:Below c.heap.size c d:=by rw[<-i];exact al _ _
 have x:a.heap[w.heap.size]?=some j:=by rw[<-f];exact ag _ _
 have y:b.heap[w.heap.size+1]?=some k:=by rw[<-q,<-g];exact ag _ _
 have A:c.heap[w.heap.size+2]?=some l:=by rw[<-r,<-h];exact ag _ _
 have B:d.heap[w.heap.size+3]?=some m:=by rw[<-s,<-i];exact ag _ _
 exact⟨d,by rw[f,g,h,i],((bt (bt p n) e).block _ (by omega)).trans x,((bt n e).block _ (by omega)).trans y,(e.block _ (by omega)).trans A,B,bt (bt (bt t p) n) e,v⟩
def PrM(w w':World)(b:Nat)(root height items:Int)(r:Rv)(ov:Int):Prop:=
 w'.cell? ⟨w.heap.size,0,none⟩=some (.pointer (some ⟨b,0,none⟩))/\w'.heap[w.heap.size+1]?=some (.cells #[.int .i64 root,.int .i64 height,.int .i64 items] 34 (0,0))/\w'.heap[w.heap.size+2]?=some (.cells r.cs 62 (0,0))/\w'.cell? ⟨w.heap.size+3,0,none⟩=some (.int .i64 ov)/\Below w.heap.size w w'/\w'.heap.size=w.heap.size+4
theorem uh(w:World)(b:Nat)(root d c:Int)(r:Rv)(a:Int):
 Calls prog 47 #[.pointer (some ⟨b,0,none⟩),.agg #[.int .i64 root,.int .i64 d,.int .i64 c],r.val,.int .i64 a] w λe p=>
  e=.returned (.func (.func 86) #[] #[.pointer (some ⟨w.heap.size+1,0,none⟩),.pointer (some ⟨w.heap.size+2,0,none⟩),.pointer (some ⟨w.heap.size,0,none⟩),.pointer (some ⟨w.heap.size+3,0,none⟩)])/\PrM w p b root d c r a:=by
 obtain⟨U,i,k,l,m,n,g,j⟩:=mT w (.cells #[.pointer (some ⟨b,0,none⟩)] 28) (.cells #[.int .i64 root,.int .i64 d,.int .i64 c] 34) (.cells r.cs 62) (.cells #[.int .i64 a] 104);have M:Hid (PrM w U b root d c r a):=e7 ⟨by rw[ah _ _ _ _ _ _ k];rfl,l,m,by rw[ah _ _ _ _ _ _ n];rfl,g,j⟩
 have f:=e7 i;clear i k l m n g j;unfold Rv.val;simp only[Rv.cs] at f ⊢;go_enter func47,ntmps47;go_wp2;go_ret;refine⟨rfl,?_⟩;have h:=M.o;rw[<-f.o] at h;exact h
theorem vC(w:World)(b:Nat)(rd:Int->Option Pg)(F:gc rd)(N:Nat)(G:jc rd N)(af:N<=65536)(p:Nat->Prop)(g:gu 52 (.pointer (some ⟨b,0,none⟩)) rd p w)(H:∀k,p k->k<w.heap.size)(root d l:Int)(h2:1<=d)(h3:d<=12)(r:Rv)(T:Ri w r)(S:Rb r)(U:∀k,iY r k->k<w.heap.size):
 Calls prog 26 #[.pointer (some ⟨b,0,none⟩),.agg #[.int .i64 root,.int .i64 d,.int .i64 l],r.val] w λe P=>Below w.heap.size w P/\CoR w P e (fs (prM Yl rd r.rg true) rd (iz r.rg) true (d-1).toNat ⟨[],([],0)⟩ (i8 root d)).c:=by
 have n:=e7 (λ(W:World)=>uh W b root d l r 0)
 obtain⟨x,y,j,s0⟩:=fK w (.cells #[.int .i64 root,.int .i64 d,.int .i64 l] 34) (.cells r.cs 62) (Below.refl _ _);have j:=e7 j;have Z:=e7 g;have HX:=e7 H;have ac:=e7 T;have ab:=e7 S;have ad:=e7 U;have X:=e7 F;have Y:=e7 G;clear g H T S U F G;unfold Rv.val at n ⊢;simp only[Rv.cs] at n x y j s0 ⊢;obtain⟨t0,t1,t2⟩:=ix x;obtain⟨r0,r1,r2⟩:=ix y;go_enter func26,ntmps26;obtain⟨R,A⟩:∃R,(fs (prM Yl rd r.rg true) rd (iz r.rg) true (d-1).toNat ⟨[],([],0)⟩ (i8 root d)).c=R:=⟨_,rfl⟩;rw[A];have aa:=e7 A;clear A;go_wp2_with fail
 generalize (w.alloc (.cells #[.int .i64 root,.int .i64 d,.int .i64 l] 34)).alloc (.cells #[.slice r.aL r.lo.length r.cL,.slice r.aH r.hi.length r.cH,.bool r.op] 62)=f at *;refine(n.o _).mono ?_;rintro _ v ⟨rfl,J,K,L,M,O,ms⟩;have m:=e7 (bt j.o O);have ag:w.heap.size<=f.heap.size:=j.o.size
 have t:Hid (∀k,(k=f.heap.size+1\/k=f.heap.size+2\/k=f.heap.size\/k=f.heap.size+3\/p k\/iY r k)->k<v.heap.size):=e7 (λk i=>by
  rcases i with h|h|h|h|h|h
  . omega
  . omega
  . omega
  . omega
  . have:=HX.o k h;omega
  . have:=ad.o k h;omega)
 have E:=e7 (o5 (B:=8*N) (enters_of func86 (by kernel_rfl) rfl) (by omega) (ss Yl uu rd X.o (λc=>c.1.length) yE N Y.o b p v (f.heap.size+1) (f.heap.size+2) f.heap.size (f.heap.size+3) root d l h2 h3 r true K L J (by rw[if_pos rfl];exact M) (ac.o.keep m.o) ab.o (Z.o.keep m.o) (λk i=>t.o k (.inr (.inr (.inr (.inr (.inl i)))))) (λk i=>t.o k (.inr (.inr (.inr (.inr (.inr i)))))) ([],0) rfl rfl) (But.refl _ _) t.o)
 clear J K L M O ms t0 t1 t2 r0 r1 r2 x y n;go_wp2_with fail
 refine E.o.mono ?_;rintro e U3 ⟨V,s,I,hc⟩;have D:=e7 (bt m.o V);have g:s=R:=I.trans aa.o;have ae:w.heap.size<=v.heap.size:=m.o.size;clear I E V;rcases hc with⟨hz,rfl⟩|⟨hz,a,c,C,rfl,hP,hl,hn⟩
 . have q:Hid (R.2≠0/\R.2=s.2):=e7 ⟨by rw[<-g];exact hz,by rw[g]⟩
   clear hz g;go_wp2;go_ret2
   exact⟨D.o,.inl ⟨q.o.1,by rw[q.o.2];rfl⟩⟩
 . have q:Hid (CoR w U3 (.returned (.tuple #[.slice a C.length c,.int .i64 0])) R):=e7 (.inr ⟨by rw[<-g];exact hz,a,c,C,rfl,hP,by rw[<-g];exact hl,λk i=>az ae (hn k i)⟩)
   clear hz g hP hl hn;go_wp2;go_ret2
   exact⟨D.o,q.o⟩
end Go.Proofs.YtnnieandfdbhgaaGreat
namespace Go.Proofs.YtnnieandfdbhgaaGreat
open Go.Proofs.Tryz
open Go.RowKit
variable {B:List Nat}{y:Nat}{P:Pv}{W w:World}
def mj(B:List Nat):Pg:=⟨1,0,B.map λx=>⟨[x],[x,x],0,2⟩,[],0⟩
def livI:Pg:=⟨2,1,[⟨[],[],1,0⟩,⟨[109],[],2,0⟩],[],0⟩
def se:List (Int×Pg):=[(1,mj [97,99,101,103]),(2,mj [109,112,114,116,118]),(3,livI)]
def ia:Int->Option Pg:=(fp 2 [1,1,1] se).2
set_option maxRecDepth 20000 in
theorem yr:(fp 2 [1,1,1] se).1=0:=by kernel_rfl
set_option maxRecDepth 20000 in
theorem uR:chk ia ⟨3,2,9⟩=0:=by kernel_rfl
set_option maxRecDepth 20000 in
theorem vB:chk ia ⟨3,2,8⟩=4:=by kernel_rfl
set_option maxRecDepth 20000 in
theorem xM:qC ia [112] 2 3=([112,112],true,0):=by kernel_rfl
def livR:Rg:=⟨[101],[112],false⟩
set_option maxRecDepth 20000 in
theorem wB:(fs (prM Yl ia livR true) ia (iz livR) true 1 ⟨[],([],0)⟩ (i8 3 2)).c=([([101],[101,101]),([103],[103,103]),([109],[109,109])],0):=by kernel_rfl
theorem Pn.push14{w i f g:World}{P:Pv}{x:Iv}{k c2:Nat}(h:Pn w i P)(C:P.aD=none)(m:Io i f x)(D:N64 x.child/\N64 x.size)(p:w.heap.size<=i.heap.size)
 (v:Jw g (some ⟨k,0,none⟩) c2 (P.items++[x])) (A:New f P.aI (some ⟨k,0,none⟩)) (q:But (Q.InA P.aI) f g):
 Pn w g ⟨P.kind,P.level,some ⟨k,0,none⟩,c2,P.items++[x],P.aD,P.cD,P.data,P.next⟩:=by
 have d:=h.keep m.k.b;have hr:∀{a c l},Rw f a c l->Rw g a c l:=λhr=>hr.but q λy b ⟨z,n,e⟩=>d.it.ne hr n b e
 have j:=m.fam;refine⟨v,d.itn.trans A (az p m.k.b.size),hr d.d,h.dn,λt ht=>?_,?_,h.d8,λr hr=>?_,h.nk,h.nl,h.nn⟩
 . rw[gR,jj] at ht;rcases bg.1 ht with ht|ht
   . exact⟨hr (d.fr t ht).1,(d.fr t ht).2⟩
   . obtain⟨o,G⟩:=j.own t ht;exact⟨hr o.r,o.n.mono p,G⟩
 . rw[gR,jj];have E:=bz.1 h.dist;refine bz.2 ⟨λt _ y z b _=>?_,cO.2 ⟨E.2,j.dist,λs F t ht y z b n e=>?_⟩⟩
   . simp only at b;rw[C] at b;cases b
   . have H:=(h.fr s F).1.lt b;have I:=(j.own t ht).1.fresh n;omega
 . rcases bg.1 hr with hr|hr
   . exact h.ns r hr
   . rw[aS.1 hr];exact D
structure Grp(w W:World)(y:Nat)(P:Pv)(B:List Nat):Prop where
 but:But (λk=>k=y) w W
 box:W.heap[y]?=some (.cells P.cs 77 (0,0))
 pn:Pn w W P
 dn:P.aD=none
 pg:P.pg=mj B
 lt:y<w.heap.size
theorem Grp.len(h:Grp w W y P B):P.items.length=B.length:=by
 have e:=aU (λg:Pg=>g.items.length) h.pg
 simpa[Pv.pg,mj] using e
theorem Grp.push{d a:World}{x:Nat}{v:Iv}{g c n:Nat}(h:Grp w W y P B)(I:P.items.length=n)(b:Io W d v)(i:v.it=⟨[x],[x,x],0,2⟩)(C:Q.Gw 89 4 a (some ⟨g,0,none⟩) c (n+1) (Jc P.items++v.cs.toList))(E:New d P.aI (some ⟨g,0,none⟩))(f:But (Q.InA P.aI) d a):
 Grp w (a.setCell ⟨y,2,none⟩ (.slice (some ⟨g,0,none⟩) (n+1) c)) y ⟨P.kind,P.level,some ⟨g,0,none⟩,c,P.items++[v],P.aD,P.cD,P.data,P.next⟩ (B++[x]):=by
 subst I
 have D:Jw a (some ⟨g,0,none⟩) c (P.items++[v]):=by
  show Q.Gw 89 4 a (some ⟨g,0,none⟩) c (P.items++[v]).length (Jc (P.items++[v]));rw[rs,af];exact C
 have F:N64 v.child/\N64 v.size:=by
  obtain⟨J,L,O,K,M,val,S,R⟩:=v;simp only[Iv.it,It.mk.injEq] at i;obtain⟨_,_,rfl,rfl⟩:=i;show N64 0/\N64 2;exact⟨⟨by decide,by decide⟩,⟨by decide,by decide⟩⟩
 have l:=fF h.box b.k.b;have G:¬Q.InA P.aI y:=λ⟨z,j,e⟩=>(h.pn.it.keep b.k.b).nty l (by decide) j e
 have m:a.heap[y]?=some (.cells P.cs 77 (0,0)):=f.same l G;have H:=h.pn.push14 h.dn b F h.but.size D E f;have bs:But (λk=>k=y) a (a.setCell ⟨y,2,none⟩ (.slice (some ⟨g,0,none⟩) (P.items.length+1) c)):=(But.refl (λk=>k=y) a).setCell (p:=⟨y,2,none⟩) (λ_=>rfl) _
 refine⟨((h.but.andBelow b.k.b).trans f (λk N ⟨z,j,e⟩=>?_)).trans bs (λ_ _ e=>e),?_,H.but bs (λk e=>⟨77,P.cs,by rw[e];exact m,by decide,by decide⟩),h.dn,?_,h.lt⟩
 . exfalso;have:=yq h.pn.itn j;omega
 . rw[ay _ _ _ _ _ _ m];show some (Obj.cells _ _ _)=some (Obj.cells (Pv.cs _) _ _);unfold Pv.cs;simp only[af];rfl
 . have e:=h.pg;simp only[Pv.pg,mj,Pg.mk.injEq] at e ⊢;obtain⟨q,r,s,t,A⟩:=e;refine⟨q,r,?_,t,A⟩;rw[dh,dh,s,List.map_singleton,List.map_singleton,i]
theorem kT(w:World)(l:List Nat)(d:l.length<=1000)(cs:Array Value)(a:cs.toList=l.map λx:Nat=>Value.int .u8 ((x:Nat):Int)):Own w (w.alloc (.cells cs 5)) (some ⟨w.heap.size,0,none⟩) l.length l:=by
 have b:cs.size=l.length:=by
  have:=aU List.length a;simpa using this
 refine⟨Rw.mk (ag w (.cells cs 5)) (ai _) (by unfold maxLen;omega) b ?_,λy c=>?_,al w _⟩
 . rw[a,<-bf (f:=λx:Nat=>Value.int .u8 ((x:Nat):Int)),ce]
   rfl
 . cases c;exact .inr (ai _)
end Go.Proofs.YtnnieandfdbhgaaGreat
