import Derived.Test.YtbdkogimlbnlmaaGreatWqB10
set_option linter.unusedVariables false
set_option linter.unusedSimpArgs false
set_option maxHeartbeats 8000000
set_option maxRecDepth 8000
namespace Go.Proofs.YtbdkogimlbnlmaaGreat
open Go.RowKit
variable {b fl m:Nat}{col pc:Nat->Nat}{D:Vd}{w:World}
theorem Ex(w:World)(p:Pv)(hP:Pi w p)(hk:p.kind=2):Calls Tryz.prog 148 #[p.vl] w λe w'=>∃a c,e=.returned (.slice a (p.pg.kids).length c)/\IOwn w w' a c p.pg.kids:=by
 rw[lF p (by omega)]
 have hin:p.items.length<=2199023255489:=hP.it.2.1;have HP:=gZ (hP.keep (al w (.cells p.cs 31)));have B0:=gZ (Bx.new w 31 p.cs);have HW:=gZ (al w (.cells p.cs 31));obtain⟨v,hv⟩:∃v,w.alloc (.cells p.cs 31)=v:=⟨_,rfl⟩;rw[hv] at HP B0 HW;have PG:=gZ λ(w1:World)(hb:Below v.heap.size v w1)=>Bx.page (B0.o.keep hb)
 have HR:=gZ λ(w1:World)(hb:Below v.heap.size v w1)(k:Nat)(hk:k<p.items.length)=>(HP.o.it.keep hb).at hk
 have HKS:=gZ λ(k:Nat)(hk:k<p.items.length)=>kF p.kind p.items k hk
 have HKL:=gZ λ(k:Nat)=>(show(iG p.kind (p.items.take k)).length<=k from aU (kN _ _) (by rw[bh];omega))
 have HALL:Hid (p.items.take p.items.length=p.items):=cM;clear hP;obtain⟨kind,level,aI,cI,items,aD,cD,data,next⟩:=p
 unfold Pv.vl;simp only[Pv.cs] at *;subst hk;obtain⟨b0,b1,b2,b3,b4⟩:=PG.o _ (Below.refl _ _);go_enter Tryz.func148,Tryz.ntmps148;go_wp2;go_loopw [3,5,14] (λo _ i wx=>∃(k:Nat)(ak:Option Addr)(ck:Nat),k<=items.length/\i=.int .i64 k/\o=.slice ak (iG 2 (items.take k)).length ck/\IOwn v wx ak ck (iG 2 (items.take k))) (λ_ _ i _=>items.length-(intOf i).toNat)
 case atStart=>exact⟨0,none,0,aF _,rfl,rfl,Ig.nil _,New.none _ _,Below.refl _ _⟩
 case round=>
  clear hv b0 b1 b2 b3 b4;obtain⟨k,ak,ck,hk,rfl,rfl,hO⟩:=hrel;have O0:=gZ hO;obtain⟨c0,c1,c2,c3,c4⟩:=PG.o _ hO.b;clear hO;by_cases hlt:k<items.length
  . have hlti:(k:Int)<(items.length:Int):=by omega
    have hj1:=w64 (j:=k) (by omega)
    obtain⟨bI,off,rfl,hr⟩:=HR.o _ O0.o.b k hlt;obtain⟨k0,k1,k2,k3⟩:=iY hr;have HS1:=gZ (HKS.o k hlt);have HL1:=HKL.o k;clear hr HR HKS HKL;generalize items.getD k Iv.zero=x at *;have hb1:=al wr (.cells x.cs 51);have O1:=gZ (O0.o.keep hb1);obtain⟨e0,e1,e2,e3,e4⟩:=PG.o _ O1.o.b;obtain⟨aK,cK,key,aV,cV,val,child,size⟩:=x;simp only[Iv.cs] at *;generalize iG 2 (items.take k)=L at *;have HLE:Hid (L++[child]=iG 2 (items.take (k+1))):=by show _=_;rw[HS1.o];simp
    go_wp2_with (at_builtin;refine i9 rfl _ _ rfl ak L.length ck L rfl rfl (O1.o.r.keep ((Below.refl _ _).alloc (ai _) _)) ⟨wr.heap.size+1,0,none⟩ 1 child rfl ?c1 (by omega) ?_)
    try case c1=>simp
    intro g c2' w2 hR hN hg hlt2;have O2:=gZ (O1.o.step (al _ _) hR hN hg);rw[HLE.o] at O2;have HLN:=gZ (aY List.length HLE.o);clear hR hN hg;go_wp2;go_roundw
    case rel=>exact⟨k+1,_,c2',by omega,by first|(go_num;done)|exact aY (Value.int IntKind.i64) (by omega),by rw[<-HLN.o];simp,O2.o⟩
    case measure=>first|exact iA _ _ _ hj1 hlt|exact iA _ _ _ rfl hlt|(simp[intOf];omega)
  . obtain rfl:k=items.length:=by omega
    rw[HALL.o] at O0 ⊢;go_wp2;go_ret;exact⟨ak,ck,rfl,O0.o.r,O0.o.n.mono HW.o.size,bt HW.o O0.o.b⟩
theorem DL(w:World)(p:Pv)(hP:Pi w p)(hk:p.kind=1):Calls Tryz.prog 148 #[p.vl] w λe w'=>∃a c,e=.returned (.slice a (p.pg.kids).length c)/\IOwn w w' a c p.pg.kids:=by
 rw[lF p (by omega)]
 have hin:p.items.length<=2199023255489:=hP.it.2.1;have HP:=gZ (hP.keep (al w (.cells p.cs 31)));have B0:=gZ (Bx.new w 31 p.cs);have HW:=gZ (al w (.cells p.cs 31));obtain⟨v,hv⟩:∃v,w.alloc (.cells p.cs 31)=v:=⟨_,rfl⟩;rw[hv] at HP B0 HW;have PG:=gZ λ(w1:World)(hb:Below v.heap.size v w1)=>Bx.page (B0.o.keep hb)
 have HR:=gZ λ(w1:World)(hb:Below v.heap.size v w1)(k:Nat)(hk:k<p.items.length)=>(HP.o.it.keep hb).at hk
 have HKS:=gZ λ(k:Nat)(hk:k<p.items.length)=>kF p.kind p.items k hk
 have HKL:=gZ λ(k:Nat)=>(show(iG p.kind (p.items.take k)).length<=k from aU (kN _ _) (by rw[bh];omega))
 have HALL:Hid (p.items.take p.items.length=p.items):=cM;clear hP;obtain⟨kind,level,aI,cI,items,aD,cD,data,next⟩:=p
 unfold Pv.vl;simp only[Pv.cs] at *;subst hk;obtain⟨b0,b1,b2,b3,b4⟩:=PG.o _ (Below.refl _ _);go_enter Tryz.func148,Tryz.ntmps148;go_wp2;go_loopw [3,5,14] (λo _ i wx=>∃(k:Nat)(ak:Option Addr)(ck:Nat),k<=items.length/\i=.int .i64 k/\o=.slice ak (iG 1 (items.take k)).length ck/\IOwn v wx ak ck (iG 1 (items.take k))) (λ_ _ i _=>items.length-(intOf i).toNat)
 case atStart=>exact⟨0,none,0,aF _,rfl,rfl,Ig.nil _,New.none _ _,Below.refl _ _⟩
 case round=>
  clear hv b0 b1 b2 b3 b4;obtain⟨k,ak,ck,hk,rfl,rfl,hO⟩:=hrel;have O0:=gZ hO;obtain⟨c0,c1,c2,c3,c4⟩:=PG.o _ hO.b;clear hO;by_cases hlt:k<items.length
  . have hlti:(k:Int)<(items.length:Int):=by omega
    have hj1:=w64 (j:=k) (by omega)
    obtain⟨bI,off,rfl,hr⟩:=HR.o _ O0.o.b k hlt;obtain⟨k0,k1,k2,k3⟩:=iY hr;have HS1:=gZ (HKS.o k hlt);have HL1:=HKL.o k;clear hr HR HKS HKL;generalize items.getD k Iv.zero=x at *;have hb1:=al wr (.cells x.cs 51);have O1:=gZ (O0.o.keep hb1);obtain⟨e0,e1,e2,e3,e4⟩:=PG.o _ O1.o.b;obtain⟨aK,cK,key,aV,cV,val,child,size⟩:=x;simp only[Iv.cs] at *;generalize iG 1 (items.take k)=L at *;by_cases h0:child=0
    . subst h0;have HLE:Hid (L=iG 1 (items.take (k+1))):=by show _=_;rw[HS1.o];simp
      go_wp2;go_roundw
      case rel=>exact⟨k+1,ak,ck,by omega,by first|(go_num;done)|exact aY (Value.int IntKind.i64) (by omega),by rw[<-HLE.o],by rw[<-HLE.o];exact O1.o⟩
      case measure=>first|exact iA _ _ _ hj1 hlt|exact iA _ _ _ rfl hlt|(simp[intOf];omega)
    . have h0':(child==0)=false:=by simpa using h0
      have HLE:Hid (L++[child]=iG 1 (items.take (k+1))):=by show _=_;rw[HS1.o];simp[h0]
      go_wp2_with (at_builtin;refine i9 rfl _ _ rfl ak L.length ck L rfl rfl (O1.o.r.keep ((Below.refl _ _).alloc (ai _) _)) ⟨wr.heap.size+1,0,none⟩ 1 child rfl ?c1 (by omega) ?_)
      try case c1=>simp
      intro g c2' w2 hR hN hg hlt2;have O2:=gZ (O1.o.step (al _ _) hR hN hg);rw[HLE.o] at O2;have HLN:=gZ (aY List.length HLE.o);clear hR hN hg;go_wp2;go_roundw
      case rel=>exact⟨k+1,_,c2',by omega,by first|(go_num;done)|exact aY (Value.int IntKind.i64) (by omega),by rw[<-HLN.o];simp,O2.o⟩
      case measure=>first|exact iA _ _ _ hj1 hlt|exact iA _ _ _ rfl hlt|(simp[intOf];omega)
  . obtain rfl:k=items.length:=by omega
    rw[HALL.o] at O0 ⊢;go_wp2;go_ret;exact⟨ak,ck,rfl,O0.o.r,O0.o.n.mono HW.o.size,bt HW.o O0.o.b⟩
theorem yI(w:World)(p:Pv)(h1:p.kind≠1)(h2:p.kind≠2):Calls Tryz.prog 148 #[p.vl] w λe w'=>∃a c,e=.returned (.slice a (p.pg.kids).length c)/\IOwn w w' a c p.pg.kids:=by
 have hk:p.pg.kids=if p.kind=3/\p.next≠0 then [p.next] else []:=by
  unfold Pg.kids;rw[if_neg (show ¬p.pg.kind=2 from h2),if_neg (show ¬p.pg.kind=1 from h1)]
  rfl
 rw[hk];clear hk;obtain⟨kind,level,aI,cI,items,aD,cD,data,next⟩:=p
 unfold Pv.vl;simp only[Pv.cs] at *;have h1':(kind==1)=false:=by simpa using h1
 have h2':(kind==2)=false:=by simpa using h2
 by_cases h3:kind=3
 . subst h3;by_cases h0:next=0
   . subst h0;go_enter Tryz.func148,Tryz.ntmps148;go_wp2;go_ret;exact⟨none,0,by simp,Ig.nil _,New.none _ _,al _ _⟩
   . have h0':(next==0)=false:=by simpa using h0
     rw[if_pos ⟨rfl,h0⟩];go_enter Tryz.func148,Tryz.ntmps148;go_wp2_with (at_builtin;refine i9 rfl _ _ rfl none 0 0 [] rfl rfl (Ig.nil _) ⟨w.heap.size+1,0,none⟩ 1 next rfl ?c1 (by decide) ?_)
     try case c1=>simp
     intro g c2' w2 hR hN hg hlt2;have O2:Hid (IOwn w w2 (some ⟨g,0,none⟩) c2' ([]++[next])):=IOwn.step (w:=w) (wx:=w) ⟨Ig.nil _,New.none _ _,Below.refl _ _⟩ (bt (al _ _) (al _ _)) hR hN hg
     clear hR hN hg;go_wp2;go_ret;exact⟨_,c2',rfl,O2.o⟩
 . have h3':(kind==3)=false:=by simpa using h3
   rw[if_neg (λh=>h3 h.1)]
   go_enter Tryz.func148,Tryz.ntmps148;go_wp2;go_ret;exact⟨none,0,rfl,Ig.nil _,New.none _ _,al _ _⟩
theorem uo(w:World)(p:Pv)(hP:Pi w p):Calls Tryz.prog 148 #[p.vl] w λe w'=>∃a c,e=.returned (.slice a (p.pg.kids).length c)/\IOwn w w' a c p.pg.kids:=by
 by_cases h1:p.kind=1
 . exact DL w p hP h1
 . by_cases h2:p.kind=2
   . exact Ex w p hP h2
   . exact yI w p h1 h2
theorem Ec(w:World)(b:Nat)(P:Q.Po)(fl:Nat)(D:Vd)(pc col:Nat->Nat)(h:Vq w b P fl D pc col)(k m:Nat)(hm:m<=D.ch.length)(hk:P.mark<=9223372036854775807)(e:Int)(he:e≠0):
 Calls Tryz.prog 99 #[.pointer (some ⟨b,0,none⟩),.agg #[.int .i64 ((k:Nat):Int),.int .i64 ((m:Nat):Int)],.int .i64 e] w λx w'=>x=.returned (.int .i64 e)/\∃pc' col',Vq w' b (P.undo ((k:Nat):Int)) fl {D with f:=unl D.f (D.ch.drop m),ch:=D.ch.take m} pc' col'/\Vf w col w' col':=by
 have aB:=al w (.cells #[.int .i64 ((k:Nat):Int),.int .i64 ((m:Nat):Int)] 137);obtain⟨x0,x1⟩:=iq (az w (.cells #[.int .i64 ((k:Nat):Int),.int .i64 ((m:Nat):Int)] 137));have BK:=gZ (sT _ b P fl D pc col (h.keep aB) k m hm hk);have AB:=gZ aB;have e0:(e==0)=false:=by simp[he]
 clear h aB hm;go_enter Tryz.func99,Tryz.ntmps99;go_wp2_with fail
 refine BK.o.mono ?_;rintro _ w1 ⟨rfl,pc1,col1,hv,hf⟩;have V1:=gZ hv;have F1:=gZ ((Vf.keep AB.o).trans hf);clear hv hf BK x0 x1;go_wp2;go_ret;exact⟨rfl,_,_,V1.o,F1.o⟩
theorem rd:∀(L:List (Nat×Nat))(i:Nat),i<L.length->(plc L)[i*2]?=some (.int .i64 (((L.getD i (0,0)).1:Nat):Int))/\(plc L)[i*2+1]?=some (.int .i64 (((L.getD i (0,0)).2:Nat):Int))
 | [],i,h=>absurd h (by simp)
 |x::L,0,h=>by simp[plc]
 |x::L,i+1,h=>by
  have k:=rd L i (by simpa using h)
  rw[show plc (x::L)=[.int .i64 ((x.1:Nat):Int),.int .i64 ((x.2:Nat):Int)]++plc L by simp[plc],show(i+1)*2=i*2+2 by omega,bi (by simp),bi (by simp)]
  exact k
theorem zx(L:List (Nat×Nat))(m:Nat)(h:m<=L.length):(plc L).take (m*2)=plc (L.take m):=by
 have e:plc L=plc (L.take m)++plc (L.drop m):=by rw[<-qj,cJ]
 rw[e,dE (by rw[kQ,bh];omega),da (by rw[kQ,bh];omega)]
theorem BV{a:Option Addr}{cap n:Nat}{L:List (Nat×Nat)}(h:Q.Gw 137 2 w a cap n (plc L))(hn:n=L.length)(hm:m<=n):Q.Gw 137 2 w a cap m (plc (L.take m)):=by
 rcases h.cases with⟨rfl,rfl,rfl,h4⟩|⟨g,cur,rfl,hg,h1,h2,h3,h4⟩
 . obtain rfl:m=0:=by omega
   exact Q.Gw.nil _ _ _
 . refine Q.Gw.mk (by rw[kQ,bh];omega) hg (by omega) h2 h3 ?_
   rw[<-zx L m (by omega),<-h4,eZ,cY (by omega)]
theorem Vq.cutA{P:Q.Po}(h:Vq w b P fl D pc col)(hm:m<=D.al.length):
 Vq (w.setCell ⟨b,3,none⟩ (.slice D.aa m D.ca)) b P fl {D with al:=D.al.take m} pc col/\Vf w col (w.setCell ⟨b,3,none⟩ (.slice D.aa m D.ca)) col:=by
 have hb:But (λk=>k=b) w (w.setCell ⟨b,3,none⟩ (.slice D.aa m D.ca)):=(But.refl (λk=>k=b) w).setCell (p:=⟨b,3,none⟩) (λ_=>rfl) _
 have ne:∀{k:Nat},col k≠1->¬(k=b):=λh1 e=>h1 (by rw[e];exact h.cb)
 have hl:(D.al.take m).length=m:=by rw[bh];omega
 refine⟨⟨?_,h.mp.but hb (ne (by rw[h.cm];decide)),h.chr.but hb (λx hx=>ne (by rw[h.cc x hx];decide)),?_,h.pool.but hb (λk hk=>ne (by rw[h.cp k hk];decide)),λk p hp=>(h.fz k p hp).but hb (λk _ e=>ne (by omega)),λx hx=>(h.cz x hx).but hb (λk _ e=>ne (by omega)),h.cb,h.cm,h.cc,h.ca,h.cp,λk hk=>aZ (h.lt k hk) hb.size⟩,hb.mono (λk _ e=>by rw[e,h.cb];decide),λ_ _=>rfl⟩
 . rw[aR _ _ _ _ _ _ h.box];show some (Obj.cells _ _ _)=some (Obj.cells (kA fl _) _ _);unfold kA;rw[hl];rfl
 . show Q.Gw _ _ _ D.aa D.ca (D.al.take m).length _;rw[hl];exact(BV h.acr rfl hm).but hb (λx hx=>ne (by rw[h.ca x hx];decide))
def Vd.to(D:Vd)(t:Nat):Vd:={D with f:=unl D.f (D.ch.drop (D.al.getD t (0,0)).2),ch:=D.ch.take (D.al.getD t (0,0)).2,al:=D.al.take t}
theorem A6(w:World)(b:Nat)(P:Q.Po)(fl:Nat)(D:Vd)(pc col:Nat->Nat)(h:Vq w b P fl D pc col)(n:Int)(hm:fl+D.al.length<=9223372036854775807)(hn:n<(fl:Int)\/((fl+D.al.length:Nat):Int)<n):
 Calls Tryz.prog 117 #[.pointer (some ⟨b,0,none⟩),.int .i64 n] w λx w'=>x=.returned (.bool false)/\Below w.heap.size w w':=by
 obtain⟨-,-,-,-,c4⟩:=h.cells;have MK:=gZ (kG w b P fl D pc col h hm);clear h;by_cases h1:n<(fl:Int)
 . have d1:decide (n<(fl:Int))=true:=ay h1;go_enter Tryz.func117,Tryz.ntmps117;go_wp2;go_ret;exact⟨rfl,Below.refl _ _⟩
 . have d1:decide (n<(fl:Int))=false:=au h1;obtain⟨M,hM⟩:∃M,fl+D.al.length=M:=⟨_,rfl⟩;rw[hM] at MK hn;have d2:decide ((M:Int)<n)=true:=ay (by omega)
   clear hM hm hn;go_enter Tryz.func117,Tryz.ntmps117;go_wp2_with fail
   refine MK.o.mono ?_;rintro _ w1 ⟨rfl,hb⟩;have HB:=gZ hb;clear hb MK;go_wp2;go_ret;exact⟨rfl,HB.o⟩
theorem xe(w:World)(b:Nat)(P:Q.Po)(fl:Nat)(D:Vd)(pc col:Nat->Nat)(h:Vq w b P fl D pc col)(hm:fl+D.al.length<=9223372036854775807):
 Calls Tryz.prog 117 #[.pointer (some ⟨b,0,none⟩),.int .i64 ((fl+D.al.length:Nat):Int)] w λx w'=>x=.returned (.bool true)/\Below w.heap.size w w':=by
 obtain⟨-,-,-,-,c4⟩:=h.cells;have MK:=gZ λ(W:World)(hb:Below w.heap.size w W)=>kG W b P fl D pc col (h.keep hb) hm
 clear h;obtain⟨M,hM⟩:∃M,fl+D.al.length=M:=⟨_,rfl⟩;have d1:decide ((M:Int)<(fl:Int))=false:=au (by omega)
 have d1':decide (M<fl)=false:=au (by omega)
 rw[hM] at MK ⊢;clear hM hm;go_enter Tryz.func117,Tryz.ntmps117;go_wp2_with fail
 refine(MK.o _ (Below.refl _ _)).mono ?_;rintro _ w1 ⟨rfl,hb⟩;have HB:=gZ hb;clear hb;go_wp2_with fail
 refine(MK.o _ HB.o).mono ?_;rintro _ w2 ⟨rfl,hb⟩;have HB2:=gZ (bt HB.o hb);clear hb;go_wp2;go_ret;exact⟨rfl,HB2.o⟩
theorem yS(w:World)(b:Nat)(P:Q.Po)(fl:Nat)(D:Vd)(pc col:Nat->Nat)(h:Vq w b P fl D pc col)(t:Nat)(hm:fl+D.al.length<=9223372036854775807)(ht:t<D.al.length)(hc:(D.al.getD t (0,0)).2<=D.ch.length)(hk:P.mark<=9223372036854775807):
 Calls Tryz.prog 117 #[.pointer (some ⟨b,0,none⟩),.int .i64 ((fl+t:Nat):Int)] w λx w'=>x=.returned (.bool true)/\∃pc' col',Vq w' b (P.undo (((D.al.getD t (0,0)).1:Nat):Int)) fl (D.to t) pc' col'/\Vf w col w' col':=by
 have HV:=gZ h;have MK:=gZ λ(W:World)(hb:Below w.heap.size w W)=>kG W b P fl D pc col (h.keep hb) hm
 obtain⟨g,ha⟩:=h.acr.addr (by omega)
 have hR:=h.acr;rw[ha] at hR;have k0:=hR.cell (rd D.al t ht).1;have k1:=hR.cell (rd D.al t ht).2;have hcap:=h.acr.capLe;have BK:=gZ λ(W:World)(hb:Below w.heap.size w W)=>sT W b P fl D pc col (h.keep hb) (D.al.getD t (0,0)).1 (D.al.getD t (0,0)).2 hc hk
 obtain⟨-,-,-,c3,c4⟩:=h.cells;rw[ha] at c3;have HA:=gZ ha;have S:=gZ λ(W:World)(hb:Below w.heap.size w W)=>(show W.cell? ⟨b,3,none⟩=_/\W.cell? ⟨b,4,none⟩=_/\W.cell? ⟨g,t*2,none⟩=_/\W.cell? ⟨g,t*2+1,none⟩=_ from⟨(hb.cell (p:=⟨b,3,none⟩) (block_lt_of_cell c3)).trans c3,(hb.cell (p:=⟨b,4,none⟩) (block_lt_of_cell c4)).trans c4,(hb.cell (p:=⟨g,t*2,none⟩) (block_lt_of_cell k0)).trans k0,(hb.cell (p:=⟨g,t*2+1,none⟩) (block_lt_of_cell k1)).trans k1⟩)
 obtain⟨x,hx⟩:∃x,D.al.getD t (0,0)=x:=⟨_,rfl⟩;unfold Vd.to;rw[hx] at k0 k1 S BK ⊢;obtain⟨u,v⟩:=x;obtain⟨n,hn⟩:∃n,D.al.length=n:=⟨_,rfl⟩;rw[hn] at ht hm hcap c3 MK S;have HN:=gZ hn;have d1:decide (((fl+t:Nat):Int)<(fl:Int))=false:=au (by omega)
 have d2:decide (((fl+n:Nat):Int)<((fl+t:Nat):Int))=false:=au (by omega)
 have d3:decide (((fl+t:Nat):Int)<((fl+n:Nat):Int))=true:=ay (by omega)
 have n1:decide (fl+t<fl)=false:=au (by omega)
 have n2:decide (fl+n<fl+t)=false:=au (by omega)
 have n3:decide (fl+t<fl+n)=true:=ay (by omega)
 have e1:IntKind.i64.wrap (((fl+t:Nat):Int)-(fl:Int))=(t:Int):=by rw[im (by omega) (by omega)];omega
 have htI:(t:Int)<(n:Int):=by omega
 have htc:(t:Int)<=(D.ca:Int):=by omega
 obtain⟨M,hM⟩:∃M,fl+t=M:=⟨_,rfl⟩;obtain⟨M2,hM2⟩:∃M2,fl+n=M2:=⟨_,rfl⟩;have E1:=gZ e1;have HTL:=gZ ht;rw[hM] at d1 d2 d3 n1 n2 n3 E1 ⊢;rw[hM2] at d2 d3 n2 n3 MK;clear h hR ha hx hn e1 k0 k1 hm hM hM2 hc hk ht;simp only at S BK;go_enter Tryz.func117,Tryz.ntmps117;go_wp2_with fail
 refine(MK.o _ (Below.refl _ _)).mono ?_;rintro _ w1 ⟨rfl,hb⟩;have HB:=gZ hb;clear hb c3 c4;go_wp2_with fail
 refine(MK.o _ HB.o).mono ?_;rintro _ w2 ⟨rfl,hb⟩;have HB2:=gZ (bt HB.o hb);clear hb HB;obtain⟨c3,c4,k0,k1⟩:=S.o _ HB2.o;have e1:=E1.o;go_wp2_with fail
 refine(BK.o _ HB2.o).mono ?_;rintro _ w3 ⟨rfl,pc3,col3,hv,hf⟩;obtain⟨v4,f4⟩:=hv.cutA (m:=t) (by show t<=D.al.length;rw[HN.o];exact fI HTL.o)
 have V4:=gZ v4;have F4:=gZ ((Vf.keep HB2.o).trans (hf.trans f4));have q3:=hv.cells.2.2.2.1;have fS:=hv.free 3;simp only at q3 V4 F4;rw[HA.o,HN.o] at q3;rw[HA.o] at V4 F4;clear hv hf v4 f4 c3 c4 k0 k1 e1;go_wp2;go_ret;refine⟨rfl,pc3,col3,?_,F4.o⟩;rw[HA.o];exact V4.o
def sH(P:Q.Po)(D:Vd)(n:Int):Vd:=if (P.dec n).1.2=0/\(P.dec n).2.state n=1 then {D with f:=iK D.f n Pv.zero,ch:=D.ch++[(n,lu D n)]} else D
theorem yY(w:World)(b:Nat)(P:Q.Po)(fl:Nat)(D:Vd)(pc col:Nat->Nat)(h:Vq w b P fl D pc col)(n:Int)(hm:P.ac.length+1<=17592186044416)(hlen:D.ch.length+1<=1759218604441):
 Calls Tryz.prog 145 #[.pointer (some ⟨b,0,none⟩),.int .i64 n] w λe w'=>e=.returned (.tuple #[.int .i64 (P.dec n).1.1,.int .i64 (P.dec n).1.2])/\∃ac' cc' pc' col',Vq w' b (P.dec n).2 fl {sH P D n with ac:=ac',cc:=cc'} pc' col'/\Vf w col w' col':=by
 obtain⟨c0,-,-,-,-⟩:=h.cells;have DC:=gZ (Q.BE w D.pb P pc h.pool n hm);have HV:=gZ h;clear h;unfold sH;obtain⟨c,hc⟩:∃c,(P.dec n).1.1=c:=⟨_,rfl⟩;obtain⟨e,he⟩:∃e,(P.dec n).1.2=e:=⟨_,rfl⟩;obtain⟨P1,hP⟩:∃P1,(P.dec n).2=P1:=⟨_,rfl⟩;rw[hc,he,hP] at DC ⊢;clear hc he hP hm;by_cases h0:e=0
 . subst h0;by_cases h1:P1.state n=1
   . rw[if_pos ⟨rfl,h1⟩];go_enter Tryz.func145,Tryz.ntmps145;go_wp2_with fail
     refine DC.o.mono ?_;rintro _ w1 ⟨rfl,pc1,hp,hf⟩;obtain⟨v1,f1⟩:=HV.o.pooled hp hf;have V1:=gZ v1;have F1:=gZ f1;have c1:=v1.cells.1;have ST:=gZ (Q.mT w1 D.pb P1 pc1 hp n);rw[h1] at ST;clear hp hf v1 f1 DC c0;go_wp2_with fail
     refine ST.o.mono ?_;rintro _ w2 ⟨rfl,hb⟩;have V2:=gZ (V1.o.keep hb);have F2:=gZ (F1.o.trans (Vf.keep hb));clear hb c1 ST V1 F1;have LY:=gZ (vh w2 b P1 fl D pc1 _ V2.o n Pv.zero (Pz.zero _ _) hlen);unfold Pv.vl at LY;simp only[Pv.cs,Pv.zero,bg] at LY;go_wp2_with fail
     refine LY.o.mono ?_;rintro _ w3 ⟨rfl,ac',cc',col',v3,f3⟩;have V3:=gZ v3;have F3:=gZ (F2.o.trans f3);clear v3 f3 LY;go_wp2;go_ret2
     exact⟨rfl,ac',cc',pc1,col',V3.o,F3.o⟩
   . rw[if_neg (λhh=>h1 hh.2)]
     have e1:((P1.state n:Nat):Int)≠1:=by omega
     have e2:(((P1.state n:Nat):Int)==1)=false:=by simp;omega
     have e3:(P1.state n==1)=false:=by simp;omega
     obtain⟨s,hs⟩:∃s,P1.state n=s:=⟨_,rfl⟩;have SP:=gZ λ(W:World)(pc1:Nat->Nat)(hp:Q.Pl W D.pb P1 pc1)=>Q.mT W D.pb P1 pc1 hp n
     rw[hs] at e1 e2 e3 SP;clear hs h1;go_enter Tryz.func145,Tryz.ntmps145;go_wp2_with fail
     refine DC.o.mono ?_;rintro _ w1 ⟨rfl,pc1,hp,hf⟩;obtain⟨v1,f1⟩:=HV.o.pooled hp hf;have V1:=gZ v1;have F1:=gZ f1;have c1:=v1.cells.1;have ST:=gZ (SP.o w1 pc1 hp);clear hp hf v1 f1 DC c0;go_wp2_with fail
     refine ST.o.mono ?_;rintro _ w2 ⟨rfl,hb⟩;have V2:=gZ (V1.o.keep hb);have F2:=gZ (F1.o.trans (Vf.keep hb));clear hb c1 ST V1 F1;go_wp2;go_ret2
     exact⟨rfl,D.ac,D.cc,pc1,_,V2.o,F2.o⟩
 . rw[if_neg (λhh=>h0 hh.1)]
   have e2:(e==0)=false:=by simp[h0]
   go_enter Tryz.func145,Tryz.ntmps145;go_wp2_with fail
   refine DC.o.mono ?_;rintro _ w1 ⟨rfl,pc1,hp,hf⟩;obtain⟨v1,f1⟩:=HV.o.pooled hp hf;have V1:=gZ v1;have F1:=gZ f1;clear hp hf v1 f1 DC c0;go_wp2;go_ret2
   exact⟨rfl,D.ac,D.cc,pc1,_,V1.o,F1.o⟩
def incAll:Q.Po->List Int->Int×Q.Po
 |P,[]=>(0,P)
 |P,z::L=>if (P.inc z).1=0 then incAll (P.inc z).2 L else P.inc z
theorem ym(P:Q.Po)(z:Int):(P.inc z).2.ac.length<=P.ac.length+1:=by
 unfold Q.Po.inc;split
 . exact dW _
 . split
   . exact dW _
   . simp[Q.Po.act]
theorem Vq.new{w W:World}{b:Nat}{P:Q.Po}{fl:Nat}{D:Vd}{pc col:Nat->Nat}(h:Vq w b P fl D pc col)(hW:w.heap.size<=W.heap.size){a:Option Addr}(hn:New W none a){x:Addr}(hx:a=some x):col x.block=0:=by
 cases e:col x.block with
 |zero=>rfl
 |succ n=>
  have:=h.lt x.block (by omega)
  rcases hn x hx with⟨y,hy,_⟩|h2
  . cases hy
  . have h2:W.heap.size<=x.block:=h2;omega
theorem nG(L:List Int){k:Nat}(h:k<L.length):L.drop k=L.getD k 0::L.drop (k+1):=by
 rw[cw h,aq,aS h];rfl
theorem AN(w:World)(b:Nat)(P:Q.Po)(fl:Nat)(D:Vd)(pc col:Nat->Nat)(h:Vq w b P fl D pc col)(p:Pv)(hp:Pi w p)(hm:P.ac.length+p.pg.kids.length<=17592186044416):
 Calls Tryz.prog 146 #[.pointer (some ⟨b,0,none⟩),p.vl] w λe w'=>e=.returned (.int .i64 (incAll P p.pg.kids).1)/\∃pc' col',Vq w' b (incAll P p.pg.kids).2 fl D pc' col'/\Vf w col w' col':=by
 have aB:=al w (.cells p.cs 31);have hx:=az w (.cells p.cs 31);have KD:=gZ (uo _ p (hp.keep aB));have AB:=gZ aB;have HV:=gZ h;obtain⟨L,hL⟩:∃L,p.pg.kids=L:=⟨_,rfl⟩;rw[hL] at KD hm ⊢;obtain⟨n,hn⟩:∃n,L.length=n:=⟨_,rfl⟩;have HN:=gZ hn;have HM:=gZ hm;rw[hn] at KD HM;have hn64:n<=17592186044416:=by omega
 clear h hp hL aB hn hm;obtain⟨kind,level,aI,cI,items,aD,cD,data,next⟩:=p
 unfold Pv.vl at *;simp only[Pv.cs] at *;obtain⟨x0,x1,x2,x3,x4⟩:=ik hx;clear hx;go_enter Tryz.func146,Tryz.ntmps146;go_wp2_with fail
 refine KD.o.mono ?_;rintro _ w1 ⟨a,c,rfl,hO⟩;have V1:=gZ (HV.o.keep (bt AB.o hO.b));have F1:=gZ (Vf.keep (c:=col) (bt AB.o hO.b));have HI:=gZ hO.r;have HC:=gZ λ(x:Addr)(hx:a=some x)=>HV.o.new AB.o.size hO.n hx
 clear hO KD x0 x1 x2 x3 x4 HV;go_wp2_with fail
 go_loopw [11] (λi wr=>∃(k:Nat)(P':Q.Po)(pc' col':Nat->Nat),k<=n/\i=.int .i64 (k:Int)/\Vq wr b P' fl D pc' col'/\Vf w1 col wr col'/\incAll P' (L.drop k)=incAll P L/\P'.ac.length<=P.ac.length+k) (λi _=>n-(intOf i).toNat)
 case atStart=>exact⟨0,P,pc,col,aF _,rfl,V1.o,Vf.refl _ _,by rw[fs],ai _⟩
 case round=>
  obtain⟨k,P',pc',col',hk,rfl,hV,hF,hE,hA⟩:=hrel;have V2:=gZ hV;have F2:=gZ hF;have HE:=gZ hE;have HA:=gZ hA;have R2:=gZ (HI.o.but hF.b (λx hx e=>by rw[HC.o x hx] at e;omega))
  have c0:=hV.cells.1;clear hV hF hE hA;by_cases hlt:k<n
  . have hkl:k<L.length:=by rw[HN.o];exact hlt
    have hki:(k:Int)<(n:Int):=by omega
    obtain⟨g,off,rfl,cK⟩:=R2.o.ir.at hkl;have hd:=nG L hkl;obtain⟨z,hz⟩:∃z,L.getD k 0=z:=⟨_,rfl⟩;rw[hz] at cK hd;have hE:=HE.o;rw[hd] at hE;have hAC:=ym P' z;have IN:=gZ (Q.u7 wr D.pb P' pc' V2.o.pool z (by have:=HM.o;have:=HA.o;omega))
    obtain⟨e,he⟩:∃e,(P'.inc z).1=e:=⟨_,rfl⟩;obtain⟨P2,hP2⟩:∃P2,(P'.inc z).2=P2:=⟨_,rfl⟩;rw[he,hP2] at IN
    have hE2:(if e=0 then incAll P2 (L.drop (k+1)) else (e,P2))=incAll P L:=by
     rw[<-hE];show _=(if (P'.inc z).1=0 then incAll (P'.inc z).2 (L.drop (k+1)) else P'.inc z)
     rw[he,hP2];split
     . rfl
     . rw[<-he,<-hP2]
    rw[hP2] at hAC;have HE2:=gZ hE2;have HAC:=gZ hAC;clear hE2 hE he hP2 hz hd hAC HE;go_wp2_with fail
    refine IN.o.mono ?_;rintro _ w3 ⟨rfl,pc3,hp,hf⟩;obtain⟨v3,f3⟩:=V2.o.pooled hp hf;have V3:=gZ v3;have F3:=gZ (F2.o.trans f3);clear hp hf v3 f3 IN c0 cK;by_cases h0:e=0
    . subst h0;have hE2:=HE2.o;rw[if_pos rfl] at hE2;have X:=gZ hE2;clear hE2;go_wp2;go_roundw
      case rel=>exact⟨k+1,P2,pc3,_,by omega,by go_num,V3.o,F3.o,X.o,by have:=HAC.o;have:=HA.o;omega⟩
      case measure=>simp[intOf];omega
    . have e0:(e==0)=false:=by simp[h0]
      have hE2:=HE2.o;rw[if_neg h0] at hE2;have X:=gZ hE2;clear hE2;go_wp2;go_ret;rw[<-X.o];exact⟨rfl,pc3,_,V3.o,F1.o.trans F3.o⟩
  . obtain rfl:k=n:=by omega
    have hE:=HE.o;rw[dy (by rw[HN.o];exact ai _)] at hE
    have X:=gZ hE;clear hE;go_wp2;go_ret;rw[<-X.o];exact⟨rfl,pc',col',V2.o,F1.o.trans F2.o⟩
structure Vm where
 P:Q.Po
 f:Int->Option Pv
 ch:List (Int×Pv)
def Vm.on(X:Vm)(z:Int):Pv:=(X.f z).getD Pv.zero
def Vm.less(X:Vm)(z:Int):Vm:=if (X.P.dec z).1.2=0/\(X.P.dec z).2.state z=1 then ⟨(X.P.dec z).2,iK X.f z Pv.zero,X.ch++[(z,X.on z)]⟩ else ⟨(X.P.dec z).2,X.f,X.ch⟩
def Vd.st(D:Vd)(X:Vm)(ac:Option Addr)(cc:Nat):Vd:={D with f:=X.f,ch:=X.ch,ac:=ac,cc:=cc}
def Vx(w:World)(b:Nat)(X:Vm)(fl:Nat)(D:Vd)(pc col:Nat->Nat):Prop:=∃ac cc,Vq w b X.P fl (D.st X ac cc) pc col
theorem Vx.keep{w':World}{X:Vm}(h:Vx w b X fl D pc col)(hb:Below w.heap.size w w'):Vx w' b X fl D pc col:=by
 obtain⟨ac,cc,h⟩:=h;exact⟨ac,cc,h.keep hb⟩
theorem Vx.ok{X:Vm}(h:Vx w b X fl D pc col):X.P.Ok:=by
 obtain⟨ac,cc,h⟩:=h;obtain⟨_,k⟩:=h.pool;exact k.ok
def tot(P:Q.Po):Nat:=(P.pg.map λx=>x.1.toNat).sum
theorem kU{α:Type}(g:α->Nat)(d x:α):∀(L:List α)(i:Nat),i<L.length->((L.set i x).map g).sum+g (L.getD i d)=(L.map g).sum+g x
 | [],i,h=>absurd h (by simp)
 |y::L,0,h=>by simp;omega
 |y::L,i+1,h=>by
  have k:=kU g d x L i (by simpa using h)
  simp only[fY,bz,List.sum_cons,List.getD_cons_succ];omega
theorem qM{P:Q.Po}(h:P.Ok)(z:Int):((P.dec z).1.2=0->tot (P.dec z).2+1=tot P/\(P.dec z).2.ac.length=P.ac.length+1)/\((P.dec z).1.2≠0->(P.dec z).2=P):=by
 unfold Q.Po.dec;split
 . exact⟨λe=>absurd e (by simp),λ_=>rfl⟩
 . rename_i hc;refine⟨λ_=>⟨?_,by simp[Q.Po.act]⟩,λe=>absurd rfl e⟩
   obtain⟨h1,h2⟩:=Q.Po.count_has hc;have hi:z.toNat-1<P.pg.length:=by omega
   have e:P.count z=(P.pg.getD (z.toNat-1) Q.Pg.zero).1:=by
    unfold Q.Po.count;rw[if_pos (by unfold Q.Po.has;simp only[bO,bL];exact⟨h1,h2⟩),show(z-1).toNat=z.toNat-1 by omega]
   have k:=kU (λx:Q.Pg=>x.1.toNat) Q.Pg.zero (P.count z-1,(P.at z.toNat).2) P.pg (z.toNat-1) hi
   have hp:=h.cs _ (Q.jK hi);have e2:tot (P.act z.toNat (P.count z-1))=((P.pg.set (z.toNat-1) (P.count z-1,(P.at z.toNat).2)).map λx=>x.1.toNat).sum:=rfl
   show tot (P.act z.toNat (P.count z-1))+1=tot P;rw[e2];have e3:tot P=(P.pg.map λx=>x.1.toNat).sum:=rfl
   rw[e3];simp only at k;rw[<-e] at k hp;omega
theorem Vm.less_P(X:Vm)(z:Int):(X.less z).P=(X.P.dec z).2:=by unfold Vm.less;split<;>rfl
theorem Vm.less_ch(X:Vm)(z:Int):(X.less z).ch.length<=X.ch.length+1:=by unfold Vm.less;split<;>simp
theorem Vm.less_no(X:Vm)(z:Int)(h:(X.P.dec z).1.2≠0):(X.less z).ch=X.ch:=by unfold Vm.less;rw[if_neg (λe=>h e.1)]
theorem vO(w:World)(b:Nat)(X:Vm)(fl:Nat)(D:Vd)(pc col:Nat->Nat)(h:Vx w b X fl D pc col)(n:Int)(hm:X.P.ac.length+1<=17592186044416)(hlen:X.ch.length+1<=1759218604441):
 Calls Tryz.prog 145 #[.pointer (some ⟨b,0,none⟩),.int .i64 n] w λe w'=>e=.returned (.tuple #[.int .i64 (X.P.dec n).1.1,.int .i64 (X.P.dec n).1.2])/\∃pc' col',Vx w' b (X.less n) fl D pc' col'/\Vf w col w' col':=by
 obtain⟨ac,cc,h⟩:=h;refine(yY w b X.P fl (D.st X ac cc) pc col h n hm hlen).mono ?_;rintro _ w' ⟨rfl,ac',cc',pc',col',hv,hf⟩;refine⟨rfl,pc',col',⟨ac',cc',?_⟩,hf⟩;rw[Vm.less_P]
 have e:({sH X.P (D.st X ac cc) n with ac:=ac',cc:=cc'}:Vd)=D.st (X.less n) ac' cc':=by
  unfold sH Vm.less;split<;>rfl
 rw[<-e];exact hv
def dropL(F:Vm->Int->Int×Vm):Vm->List Int->Int×Vm
 |X,[]=>(0,X)
 |X,z::L=>if (F X z).1=0 then dropL F (F X z).2 L else F X z
def dropM:Nat->Vm->Int->Int×Vm
 |0,X,_=>(0,X)
 |t+1,X,z=>if (X.P.dec z).1.2≠0\/0<(X.P.dec z).1.1 then ((X.P.dec z).1.2,X.less z) else dropL (dropM t) (X.less z) (X.on z).pg.kids
theorem Vx.on_z{X:Vm}(h:Vx w b X fl D pc col)(z:Int):Pz (λk=>col k=6) w (X.on z):=by
 obtain⟨ac,cc,h⟩:=h;exact vL h z
theorem Vx.look{X:Vm}(h:Vx w b X fl D pc col)(z:Int):(Instr.lookup 81 (.map (some D.mb)) (.int .i64 z) false).run Tryz.prog w=.ok (X.on z).vl w:=by
 obtain⟨ac,cc,h⟩:=h;exact ru h z
theorem Vx.c01{X:Vm}(h:Vx w b X fl D pc col):w.cell? ⟨b,0,none⟩=some (.pointer (some ⟨D.pb,0,none⟩))/\w.cell? ⟨b,1,none⟩=some (.map (some D.mb)):=by
 obtain⟨ac,cc,h⟩:=h;exact⟨h.cells.1,h.cells.2.1⟩
theorem Vx.lb{X:Vm}(h:Vx w b X fl D pc col):b<w.heap.size:=by
 obtain⟨ac,cc,h⟩:=h;exact h.lb
theorem Vx.z{w:World}{b:Nat}{X:Vm}{fl:Nat}{D:Vd}{pc col:Nat->Nat}(h:Vx w b X fl D pc col){k:Nat}(hk:w.heap.size<=k):col k=0:=by
 obtain⟨ac,cc,h⟩:=h;cases e:col k with
 |zero=>rfl
 |succ n=>have:=h.lt k (by omega);omega
theorem zF(t:Nat)(IH:∀(w:World)(b:Nat)(X:Vm)(fl:Nat)(D:Vd)(pc col:Nat->Nat)(z:Int),Vx w b X fl D pc col->tot X.P<t->X.P.ac.length+tot X.P+1<=17592186044416->X.ch.length+tot X.P+1<=1759218604441->
 Calls Tryz.prog 110 #[.pointer (some ⟨b,0,none⟩),.int .i64 z] w λe w'=>e=.returned (.int .i64 (dropM t X z).1)/\(tot (dropM t X z).2.P<=tot X.P/\(dropM t X z).2.P.ac.length+tot (dropM t X z).2.P<=X.P.ac.length+tot X.P/\(dropM t X z).2.ch.length+tot (dropM t X z).2.P<=X.ch.length+tot X.P)/\∃pc' col',Vx w' b (dropM t X z).2 fl D pc' col'/\Vf w col w' col')
 (w:World) (b:Nat) (X:Vm) (fl:Nat) (D:Vd) (pc col:Nat->Nat) (z:Int) (h:Vx w b X fl D pc col) (ht:tot X.P<t+1) (hm:X.P.ac.length+tot X.P+1<=17592186044416) (hc:X.ch.length+tot X.P+1<=1759218604441):
 Calls Tryz.prog 110 #[.pointer (some ⟨b,0,none⟩),.int .i64 z] w λe w'=>e=.returned (.int .i64 (dropM (t+1) X z).1)/\(tot (dropM (t+1) X z).2.P<=tot X.P/\(dropM (t+1) X z).2.P.ac.length+tot (dropM (t+1) X z).2.P<=X.P.ac.length+tot X.P/\(dropM (t+1) X z).2.ch.length+tot (dropM (t+1) X z).2.P<=X.ch.length+tot X.P)/\∃pc' col',Vx w' b (dropM (t+1) X z).2 fl D pc' col'/\Vf w col w' col':=by
 have HV:=gZ h;obtain⟨c0,c1⟩:=h.c01;have hl:=h.look z;have HZ:=gZ (h.on_z z);obtain⟨q,hq⟩:∃q,X.on z=q:=⟨_,rfl⟩;rw[hq] at hl HZ;have aB:=al w (.cells q.cs 31);have HX:=gZ (az w (.cells q.cs 31));have LS:=gZ (vO _ b X fl D pc col (h.keep aB) z (by omega) (by omega))
 have AB:=gZ aB;have CX:Hid (col w.heap.size=0):=h.z (ai _);have hok:=h.ok;obtain⟨dt1,dt2⟩:=qM hok z;have DM:dropM (t+1) X z=if (X.P.dec z).1.2≠0\/0<(X.P.dec z).1.1 then ((X.P.dec z).1.2,X.less z) else dropL (dropM t) (X.less z) q.pg.kids:=by rw[<-hq];rfl
 have LP:=X.less_P z;have LC:=X.less_ch z;have LN:=X.less_no z;obtain⟨X1,hX1⟩:∃X1,X.less z=X1:=⟨_,rfl⟩;rw[hX1] at DM LP LC LN LS;rw[<-LP] at dt1 dt2;obtain⟨c,hcc⟩:∃c,(X.P.dec z).1.1=c:=⟨_,rfl⟩;obtain⟨e,hee⟩:∃e,(X.P.dec z).1.2=e:=⟨_,rfl⟩;rw[hcc,hee] at DM LS;rw[hee] at dt1 dt2 LN
 have BND:Hid (tot X1.P<=tot X.P/\X1.P.ac.length+tot X1.P<=X.P.ac.length+tot X.P/\X1.ch.length+tot X1.P<=X.ch.length+tot X.P):=by
  show _/\_/\_;by_cases h0:e=0
  . have:=dt1 h0;omega
  . rw[dt2 h0,LN h0];exact⟨ai _,ai _,ai _⟩
 have DT:=gZ dt1;have IHH:=gZ IH;have HT:=gZ ht;have HM:=gZ hm;have HC:=gZ hc;rw[DM];clear h DM LP LC LN hX1 hcc hee dt1 dt2 hq aB IH ht hm hc hok;have HQ:=gZ (show ∀(W:World)(col':Nat->Nat),Vf w col W col'->Pi W q from λW col' hf=>(HZ.o.but hf.b (λk _ e hk=>by omega)).pi)
 have KD:=gZ λ(W:World)(hp:Pi W q)=>uo W q hp
 obtain⟨L,hL⟩:∃L,q.pg.kids=L:=⟨_,rfl⟩;rw[hL] at KD ⊢;obtain⟨n,hn⟩:∃n,L.length=n:=⟨_,rfl⟩;rw[hn] at KD;have HN:=gZ hn;clear hL hn;obtain⟨kp,lp,aIp,cIp,itp,aDp,cDp,dap,nxp⟩:=q;unfold Pv.vl at hl KD;simp only[Pv.cs] at hl KD LS HX AB;by_cases h0:e=0
 . subst h0;have DT1:=gZ (DT.o rfl);clear DT;by_cases hc0:0<c
   . rw[if_pos (.inr hc0)];have d0:decide (0<c)=true:=ay hc0;go_enter Tryz.func110,Tryz.ntmps110;go_wp2_with fail
     refine LS.o.mono ?_;rintro _ w1 ⟨rfl,pc1,col1,v1,f1⟩;have V1:=gZ v1;have F1:=gZ ((Vf.keep AB.o).trans f1);clear v1 f1 LS hl c0 c1;go_wp2;go_ret;exact⟨rfl,BND.o,pc1,col1,V1.o,F1.o⟩
   . rw[if_neg (by simp;omega)]
     have d0:decide (0<c)=false:=au hc0;go_enter Tryz.func110,Tryz.ntmps110;go_wp2_with fail
     refine LS.o.mono ?_;rintro _ w1 ⟨rfl,pc1,col1,v1,f1⟩;have V1:=gZ v1;have F1:=gZ ((Vf.keep AB.o).trans f1);have hb1:=f1.b.same HX.o (λe=>by rw[CX.o] at e;omega)
     obtain⟨x0,x1,x2,x3,x4⟩:=ik hb1;clear v1 f1 LS hl c0 c1 hb1;go_wp2_with fail
     refine(KD.o _ (HQ.o _ _ F1.o)).mono ?_;rintro _ w2 ⟨a,ca,rfl,hO⟩;have V2:=gZ (V1.o.keep hO.b);have F2:=gZ (F1.o.trans (Vf.keep hO.b));have HI:=gZ hO.r
     have hn64:n<=9223372036854775807:=by
      have k:=(show Q.Gw 3 1 w2 a ca L.length (vi L) from hO.r).capLe
      rw[HN.o] at k;unfold maxLen at k;omega
     have HCZ:=gZ λ(x:Addr)(hx:a=some x)=>(show col1 x.block=0 from by
      rcases hO.n x hx with⟨y,hy,_⟩|h2
      . cases hy
      . exact V1.o.z h2)
     clear hO KD x0 x1 x2 x3 x4 V1 F1 HQ;go_wp2_with fail
     go_loopw [33] (λi wr=>∃(k:Nat)(X':Vm)(pc' col':Nat->Nat),k<=n/\i=.int .i64 (k:Int)/\Vx wr b X' fl D pc' col'/\Vf w2 col1 wr col'/\dropL (dropM t) X' (L.drop k)=dropL (dropM t) X1 L/\(tot X'.P<=tot X1.P/\X'.P.ac.length+tot X'.P<=X1.P.ac.length+tot X1.P/\X'.ch.length+tot X'.P<=X1.ch.length+tot X1.P)) (λi _=>n-(intOf i).toNat)
     case atStart=>exact⟨0,X1,pc1,col1,aF _,rfl,V2.o,Vf.refl _ _,by rw[fs],ai _,ai _,ai _⟩
     case round=>
      obtain⟨k,X',pc',col',hk,rfl,hV,hF,hE,hA⟩:=hrel;have V3:=gZ hV;have F3:=gZ hF;have HE:=gZ hE;have HA:=gZ hA;have R3:=gZ (HI.o.but hF.b (λx hx e=>by rw[HCZ.o x hx] at e;omega))
      clear hV hF hE hA;by_cases hlt:k<n
      . have hkl:k<L.length:=by rw[HN.o];exact hlt
        have hki:(k:Int)<(n:Int):=by omega
        obtain⟨g,off,rfl,cK⟩:=R3.o.ir.at hkl;have hd:=nG L hkl;obtain⟨y,hy⟩:∃y,L.getD k 0=y:=⟨_,rfl⟩;rw[hy] at cK hd;have hE:=HE.o;rw[hd] at hE;have IN:=gZ (IHH.o wr b X' fl D pc' col' y V3.o (by have:=HA.o;have:=HT.o;have:=DT1.o;omega) (by have:=HA.o;have:=HM.o;have:=BND.o;omega) (by have:=HA.o;have:=HC.o;have:=BND.o;omega))
        have hE2:(if (dropM t X' y).1=0 then dropL (dropM t) (dropM t X' y).2 (L.drop (k+1)) else dropM t X' y)=dropL (dropM t) X1 L:=hE
        obtain⟨r,hxy⟩:∃r,dropM t X' y=r:=⟨_,rfl⟩;rw[hxy] at IN hE2;clear hxy;obtain⟨ey,X2⟩:=r;simp only at IN hE2;have HE2:=gZ hE2;clear hE2 hE hy hd HE;go_wp2_with fail
        refine IN.o.mono ?_;rintro _ w4 ⟨rfl,hbn,pc4,col4,v4,f4⟩;have V4:=gZ v4;have F4:=gZ (F3.o.trans f4);have BN:=gZ hbn;clear v4 f4 hbn IN cK;by_cases h0:ey=0
        . subst h0;have hE2:=HE2.o;rw[if_pos rfl] at hE2;have Y:=gZ hE2;clear hE2;go_wp2;go_roundw
          case rel=>exact⟨k+1,X2,pc4,col4,by omega,by go_num,V4.o,F4.o,Y.o,by have:=BN.o;have:=HA.o;omega⟩
          case measure=>simp[intOf];omega
        . have e0:(ey==0)=false:=by simp[h0]
          have hE2:=HE2.o;rw[if_neg h0] at hE2;have Y:=gZ hE2;clear hE2;go_wp2;go_ret;rw[<-Y.o];exact⟨rfl,(show tot X2.P<=tot X.P/\X2.P.ac.length+tot X2.P<=X.P.ac.length+tot X.P/\X2.ch.length+tot X2.P<=X.ch.length+tot X.P from by have:=BN.o;have:=HA.o;have:=BND.o;omega),pc4,col4,V4.o,F2.o.trans F4.o⟩
      . obtain rfl:k=n:=by omega
        have hE:=HE.o;rw[dy (by rw[HN.o];exact ai _)] at hE
        have Y:=gZ hE;clear hE;go_wp2;go_ret;rw[<-Y.o];exact⟨rfl,(show tot X'.P<=tot X.P/\X'.P.ac.length+tot X'.P<=X.P.ac.length+tot X.P/\X'.ch.length+tot X'.P<=X.ch.length+tot X.P from by have:=HA.o;have:=BND.o;omega),pc',col',V3.o,F2.o.trans F3.o⟩
 . rw[if_pos (.inl h0)];have e0:(e==0)=false:=by simp[h0]
   go_enter Tryz.func110,Tryz.ntmps110;go_wp2_with fail
   refine LS.o.mono ?_;rintro _ w1 ⟨rfl,pc1,col1,v1,f1⟩;have V1:=gZ v1;have F1:=gZ ((Vf.keep AB.o).trans f1);clear v1 f1 LS hl c0 c1;go_wp2;go_ret;exact⟨rfl,BND.o,pc1,col1,V1.o,F1.o⟩
theorem tm:∀(t:Nat)(w:World)(b:Nat)(X:Vm)(fl:Nat)(D:Vd)(pc col:Nat->Nat)(z:Int),Vx w b X fl D pc col->tot X.P<t->X.P.ac.length+tot X.P+1<=17592186044416->X.ch.length+tot X.P+1<=1759218604441->
 Calls Tryz.prog 110 #[.pointer (some ⟨b,0,none⟩),.int .i64 z] w λe w'=>e=.returned (.int .i64 (dropM t X z).1)/\(tot (dropM t X z).2.P<=tot X.P/\(dropM t X z).2.P.ac.length+tot (dropM t X z).2.P<=X.P.ac.length+tot X.P/\(dropM t X z).2.ch.length+tot (dropM t X z).2.P<=X.ch.length+tot X.P)/\∃pc' col',Vx w' b (dropM t X z).2 fl D pc' col'/\Vf w col w' col'
 |0,w,b,X,fl,D,pc,col,z,h,ht,hm,hc=>absurd ht (dH _)
 |t+1,w,b,X,fl,D,pc,col,z,h,ht,hm,hc=>zF t (tm t) w b X fl D pc col z h ht hm hc
end Go.Proofs.YtbdkogimlbnlmaaGreat
