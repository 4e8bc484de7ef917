import Derived.Test.YtbdkogimlbnlmaaGreatWqB26
set_option linter.unusedVariables false
set_option linter.unusedSimpArgs false
set_option maxHeartbeats 16000000
set_option maxRecDepth 8000
namespace Go.Proofs.YtbdkogimlbnlmaaGreat
open Go.RowKit
variable {t:TypeId}{v0 v1 v2 v3 v4:Value}{W:World}
theorem um{W:World}{g:Nat}{p:Pv}{t:TypeId}(h:W.heap[g]?=some (.cells #[.int .i64 p.kind,.int .i64 p.level,.slice p.aI p.items.length p.cI,.slice p.aD p.data.length p.cD,.int .i64 p.next] t (0,0))):∀j u,p.cs.toList[j]?=some u->W.cell? ((⟨g,0,none⟩:Addr).add j)=some u:=by
 intro j u hj;match j,hj with
 |0,hj=>simp only[Pv.cs] at hj;simp at hj;subst hj;rw[show((⟨g,0,none⟩:Addr).add 0)=⟨g,0,none⟩ from rfl,ax _ _ _ _ _ _ h];rfl
 |1,hj=>simp only[Pv.cs] at hj;simp at hj;subst hj;rw[show((⟨g,0,none⟩:Addr).add 1)=⟨g,1,none⟩ from rfl,ax _ _ _ _ _ _ h];rfl
 |2,hj=>simp only[Pv.cs] at hj;simp at hj;subst hj;rw[show((⟨g,0,none⟩:Addr).add 2)=⟨g,2,none⟩ from rfl,ax _ _ _ _ _ _ h];rfl
 |3,hj=>simp only[Pv.cs] at hj;simp at hj;subst hj;rw[show((⟨g,0,none⟩:Addr).add 3)=⟨g,3,none⟩ from rfl,ax _ _ _ _ _ _ h];rfl
 |4,hj=>simp only[Pv.cs] at hj;simp at hj;subst hj;rw[show((⟨g,0,none⟩:Addr).add 4)=⟨g,4,none⟩ from rfl,ax _ _ _ _ _ _ h];rfl
 |j+5,hj=>simp[Pv.cs] at hj
theorem tL{p:Pv}:∀u∈p.cs.toList,u.oneCell'=true:=by
 intro u hu;simp only[Pv.cs,bP,bu,fR] at hu;rcases hu with rfl|rfl|rfl|rfl|rfl<;>rfl
theorem ij{g:Nat}(h:W.heap[g]?=some (.cells #[v0,v1,v2,v3,v4] t (0,0))):W.cell? ⟨g,0,none⟩=some v0/\W.cell? ⟨g,1,none⟩=some v1/\W.cell? ⟨g,2,none⟩=some v2/\W.cell? ⟨g,3,none⟩=some v3/\W.cell? ⟨g,4,none⟩=some v4:=by
 refine⟨?_,?_,?_,?_,?_⟩<;>(rw[ax _ _ _ _ _ _ h];rfl)
theorem vK(p:Pv):vpg [p]=p.cs.toList:=by simp[vpg]
structure Kd(v w:World)(col colR:Nat->Nat)(K:Bkk)(p x:Pv):Prop where
 ph:Pw1 v w col colR p
 xh:Pw1 v w col colR x
 e:p.pg=x.pg
 tp:∀q∈K.T,Bdj q p
 xp:∀q∈K.X,Bdj p q
 tx:∀q∈K.T,Bdj q x
 px:Bdj p x
 z:∀k,w.heap.size<=k->col k=0/\colR k=0
 vs:v.heap.size<=w.heap.size
def Kpp(v w:World)(wb b rb:Nat)(col colR:Nat->Nat)(vw:Value)(K:Bkk)(p x:Pv)(e:Ending)(w':World):Prop:=
 e=.returned (.bool true)/\∃K':Bkk,Bo v w' wb b rb col colR vw K'/\K'.T.length<=40/\K'.T.map Pv.pg=K'.X.map Pv.pg/\(∀q∈K'.T,q∈K.T\/q=p)/\(∀q∈K'.X,q∈K.X\/q=x)/\But (K.own wb) w w'/\∀k,K'.own wb k->K.own wb k\/w.heap.size<=k
def KpA(v w1:World)(wb b rb:Nat)(col colR:Nat->Nat)(vw:Value)(K:Bkk)(p:Pv)(g c:Nat)(wx:World):Prop:=Bo v wx wb b rb col colR vw {K with aT:=some ⟨g,0,none⟩,cT:=c,T:=K.T++[p]}/\But (K.own wb) w1 wx/\(Q.InA K.aT g\/w1.heap.size<=g)
def KpB(v w1:World)(wb b rb:Nat)(col colR:Nat->Nat)(vw:Value)(K:Bkk)(p:Pv)(g c:Nat)(wx:World):Prop:=Bo v wx wb b rb col colR vw {K with aX:=some ⟨g,0,none⟩,cX:=c,X:=K.X++[p]}/\But (K.own wb) w1 wx/\(Q.InA K.aX g\/w1.heap.size<=g)
theorem r8(v w:World)(wb b rb:Nat)(col colR:Nat->Nat)(vw:Value)(K:Bkk)(h:Bo v w wb b rb col colR vw K)(he:K.T.map Pv.pg=K.X.map Pv.pg)(h4:K.T.length<=40)(p x:Pv)(hd:Kd v w col colR K p x):
 Calls Tryz.prog 39 #[.pointer (some ⟨wb,0,none⟩),p.vl,x.vl] w λe w'=>Kpp v w wb b rb col colR vw K p x e w':=by
 have A0:=gZ (bt (al w (.cells #[.int .i64 p.kind,.int .i64 p.level,.slice p.aI p.items.length p.cI,.slice p.aD p.data.length p.cD,.int .i64 p.next] 31)) (al (w.alloc (.cells #[.int .i64 p.kind,.int .i64 p.level,.slice p.aI p.items.length p.cI,.slice p.aD p.data.length p.cD,.int .i64 p.next] 31)) (.cells #[.int .i64 x.kind,.int .i64 x.level,.slice x.aI x.items.length x.cI,.slice x.aD x.data.length x.cD,.int .i64 x.next] 31)));have X0:Hid (((w.alloc (.cells #[.int .i64 p.kind,.int .i64 p.level,.slice p.aI p.items.length p.cI,.slice p.aD p.data.length p.cD,.int .i64 p.next] 31)).alloc (.cells #[.int .i64 x.kind,.int .i64 x.level,.slice x.aI x.items.length x.cI,.slice x.aD x.data.length x.cD,.int .i64 x.next] 31)).heap[w.heap.size]?=some (.cells #[.int .i64 p.kind,.int .i64 p.level,.slice p.aI p.items.length p.cI,.slice p.aD p.data.length p.cD,.int .i64 p.next] 31 (0,0))):=ig (aH w _) (al _ _)
 have X1:Hid (((w.alloc (.cells #[.int .i64 p.kind,.int .i64 p.level,.slice p.aI p.items.length p.cI,.slice p.aD p.data.length p.cD,.int .i64 p.next] 31)).alloc (.cells #[.int .i64 x.kind,.int .i64 x.level,.slice x.aI x.items.length x.cI,.slice x.aD x.data.length x.cD,.int .i64 x.next] 31)).heap[w.heap.size+1]?=some (.cells #[.int .i64 x.kind,.int .i64 x.level,.slice x.aI x.items.length x.cI,.slice x.aD x.data.length x.cD,.int .i64 x.next] 31 (0,0))):=by
  have c:=aH (w.alloc (.cells #[.int .i64 p.kind,.int .i64 p.level,.slice p.aI p.items.length p.cI,.slice p.aD p.data.length p.cD,.int .i64 p.next] 31)) (.cells #[.int .i64 x.kind,.int .i64 x.level,.slice x.aI x.items.length x.cI,.slice x.aD x.data.length x.cD,.int .i64 x.next] 31);rw[size_alloc] at c;exact c
 have H1:=gZ (h.keep A0.o);have HP:=gZ hd;have HB0:=gZ h;have HE:=gZ he;have HS:=gZ A0.o.size;have EQ:=gZ λ(W:World)(hp:Pi W p)(hx:Pi W x)=>lN W p x hp hx hd.e
 unfold Pv.vl at EQ ⊢;simp only[Pv.cs] at EQ ⊢;clear h hd he;go_enter Tryz.func39,Tryz.ntmps39;obtain⟨p0,p1,p2,p3,p4⟩:=ij X0.o;obtain⟨x0,x1,x2,x3,x4⟩:=ij X1.o;obtain⟨-,-,-,q3,q4⟩:=ij H1.o.box;have wbl:=H1.o.lb;obtain⟨n,hn⟩:∃n,K.T.length=n:=⟨_,rfl⟩;have HN:=gZ hn
 have HNX:Hid (K.X.length=n):=by
  have e:=aY List.length HE.o;rw[a7,a7] at e;show _=n;omega
 rw[hn] at q3 h4;rw[HNX.o] at q4;clear hn;by_cases hlt:n<40
 . have hltI:(n:Int)<40:=by omega
   have hml:n+1<=maxLen:=by unfold maxLen;omega
   obtain⟨gp,hgp⟩:∃gp,w.heap.size=gp:=⟨_,rfl⟩;obtain⟨gx,hgx⟩:∃gx,gp+1=gx:=⟨_,rfl⟩;have HGP:=gZ hgp;have HGX:=gZ hgx;rw[hgp] at X0 X1 p0 p1 p2 p3 p4 x0 x1 x2 x3 x4;rw[hgx] at X1 x0 x1 x2 x3 x4;go_upto_region 2 with fail
   try simp only[hgp,hgx]
   clear hgp hgx;generalize (w.alloc (.cells #[.int .i64 p.kind,.int .i64 p.level,.slice p.aI p.items.length p.cI,.slice p.aD p.data.length p.cD,.int .i64 p.next] 31)).alloc (.cells #[.int .i64 x.kind,.int .i64 x.level,.slice x.aI x.items.length x.cI,.slice x.aD x.data.length x.cD,.int .i64 x.next] 31)=w1 at *;have GG0:Hid (Q.Gw 31 5 w1 K.aT K.cT n (vpg K.T)):=by have e:=H1.o.gt;rw[HN.o] at e;exact e
   have A2:=gZ (bt (al w1 (.cells #[.int .i64 p.kind,.int .i64 p.level,.slice p.aI p.items.length p.cI,.slice p.aD p.data.length p.cD,.int .i64 p.next] 31)) (dr2 (w1.alloc (.cells #[.int .i64 p.kind,.int .i64 p.level,.slice p.aI p.items.length p.cI,.slice p.aD p.data.length p.cD,.int .i64 p.next] 31))));have X2:Hid ((w1.alloc (.cells #[.int .i64 p.kind,.int .i64 p.level,.slice p.aI p.items.length p.cI,.slice p.aD p.data.length p.cD,.int .i64 p.next] 31)).drew.heap[w1.heap.size]?=some (.cells #[.int .i64 p.kind,.int .i64 p.level,.slice p.aI p.items.length p.cI,.slice p.aD p.data.length p.cD,.int .i64 p.next] 31 (0,0))):=aH w1 _;have G2:Hid (Q.Gw 31 5 (w1.alloc (.cells #[.int .i64 p.kind,.int .i64 p.level,.slice p.aI p.items.length p.cI,.slice p.aD p.data.length p.cD,.int .i64 p.next] 31)).drew K.aT K.cT n (vpg K.T)):=by have e:=GG0.o.keep A2.o;exact e
   have FIN:Hid (∀(g5 c5:Nat)(w5:World),Q.Gw 31 5 w5 (some ⟨g5,0,none⟩) c5 (n+1) (vpg K.T++p.cs.toList)->New (w1.alloc (.cells #[.int .i64 p.kind,.int .i64 p.level,.slice p.aI p.items.length p.cI,.slice p.aD p.data.length p.cD,.int .i64 p.next] 31)).drew K.aT (some ⟨g5,0,none⟩)->But (Q.InA K.aT) (w1.alloc (.cells #[.int .i64 p.kind,.int .i64 p.level,.slice p.aI p.items.length p.cI,.slice p.aD p.data.length p.cD,.int .i64 p.next] 31)).drew w5->(w5.frozen? ⟨wb,3,none⟩=false/\w5.cell? ⟨wb,3,none⟩=some (.slice K.aT n K.cT))/\KpA v w1 wb b rb col colR vw K p g5 c5 (w5.setCell ⟨wb,3,none⟩ (.slice (some ⟨g5,0,none⟩) (n+1) c5))):=λg5 c5 w5 hG hN hB=>by
    have bx:=ig H1.o.box A2.o;have b5:w5.heap[wb]?=_:=hB.same bx (λ⟨y,hy,e⟩=>iO (H1.o.gt.keep A2.o) bx (by decide) y hy e)
    refine⟨⟨by simp[World.frozen?,b5],by rw[ax _ _ _ _ _ _ b5,<-HN.o];rfl⟩,?_⟩
    have k:=H1.o.told A2.o (HP.o.ph.keep A0.o) HP.o.tp HP.o.xp (λk hk=>HP.o.z k (aU HS.o hk)) (aU HP.o.vs HS.o) (by rw[HN.o,qa,vK];exact hG) hN hB
    rw[HN.o] at k;exact k
   go_upto_region 2 with fail
   go_cut [4,5] from 13 to 22 (λs4 s5 wx=>∃(g1 c1:Nat),s4=.pointer (some ⟨gp,0,none⟩)/\s5=.pointer (some ⟨gx,0,none⟩)/\KpA v w1 wb b rb col colR vw K p g1 c1 wx)
   case first=>
    go_region_law
     (refine lf Tryz.underlying53 kH rfl (by decide) rfl _ _ rfl K.aT n K.cT (vpg K.T) (by first|(simp[Act.eval];done)|simp[Act.eval,Act.put]) G2.o ⟨w1.heap.size,0,none⟩ 1 p.cs.toList (by first|(simp[Act.eval];done)|simp[Act.eval,Act.put]) rfl (um X2.o) tL hml (by omega) ?_
      intro g5 c5 w5 hG hN hB;obtain⟨⟨fS,cS⟩,r6⟩:=FIN.o g5 c5 w5 hG hN hB;have R6':=gZ r6;clear hG hN hB r6)
    all_goals
     clear fS cS FIN;go_wp2_with fail
     go_meet
     case rel=>exact⟨g5,c5,rfl,rfl,R6'.o⟩
   case rest=>
    obtain⟨g1,c1,rfl,rfl,hap⟩:=hcut;have P1:=gZ hap;clear hap FIN A2 X2 G2 GG0 q3 q4 p0 p1 p2 p3 p4 x0 x1 x2 x3 x4;generalize wc=w2 at *;have H2:=gZ P1.o.1
    have OFF:Hid (∀k,w.heap.size<=k->k<w1.heap.size->¬K.own wb k):=λk h1 h2 e=>by
     rcases e with e|⟨y,hy,e⟩|⟨y,hy,e⟩
     . have:=HB0.o.lb;omega
     . have:=HB0.o.gt.lt hy;omega
     . have:=HB0.o.gx.lt hy;omega
    have GPL:=gZ (af.1 X0.o).1;have GXL:=gZ (af.1 X1.o).1;have X0:=gZ (P1.o.2.1.same X0.o (OFF.o _ (by have:=HGP.o;omega) (af.1 X0.o).1))
    have X1:=gZ (P1.o.2.1.same X1.o (OFF.o _ (by have:=HGP.o;have:=HGX.o;omega) (af.1 X1.o).1))
    obtain⟨p0,p1,p2,p3,p4⟩:=ij X0.o;obtain⟨x0,x1,x2,x3,x4⟩:=ij X1.o;have q4:w2.cell? ⟨wb,4,none⟩=some (.slice K.aX n K.cX):=by rw[ax _ _ _ _ _ _ H2.o.box,<-HNX.o];rfl
    have wbl:=H2.o.lb;have S12:=gZ P1.o.2.1.size
    have XP2:Hid (Pw1 v w2 col colR x):=(HP.o.xh.keep A0.o).but P1.o.2.1 (λk hk e=>by
     rcases e with e|e|e
     . exact(HP.o.xh.keep A0.o).n.ne hk H1.o.box (by decide) (by decide) e
     . exact(HP.o.xh.keep A0.o).n.ne_row hk H1.o.gt (by decide) (by decide) e
     . exact(HP.o.xh.keep A0.o).n.ne_row hk H1.o.gx (by decide) (by decide) e)
    have XD2:Hid (∀q∈K.T++[p],Bdj q x):=λq hq=>by
     rcases bj.1 hq with hq|hq
     . exact HP.o.tx q hq
     . rw[aQ.1 hq];exact HP.o.px
    have Z2:Hid (∀k,w2.heap.size<=k->col k=0/\colR k=0):=λk hk=>HP.o.z k (aU (aU HS.o S12.o) hk)
    have V2:Hid (v.heap.size<=w2.heap.size):=aU (aU HP.o.vs HS.o) S12.o;have GG0:Hid (Q.Gw 31 5 w2 K.aX K.cX n (vpg K.X)):=by have e:=H2.o.gx;rw[show({K with aT:=some ⟨g1,0,none⟩,cT:=c1,T:=K.T++[p]}:Bkk).X.length=n from HNX.o] at e;exact e
    have A2:=gZ (bt (al w2 (.cells #[.int .i64 x.kind,.int .i64 x.level,.slice x.aI x.items.length x.cI,.slice x.aD x.data.length x.cD,.int .i64 x.next] 31)) (dr2 (w2.alloc (.cells #[.int .i64 x.kind,.int .i64 x.level,.slice x.aI x.items.length x.cI,.slice x.aD x.data.length x.cD,.int .i64 x.next] 31))));have X2:Hid ((w2.alloc (.cells #[.int .i64 x.kind,.int .i64 x.level,.slice x.aI x.items.length x.cI,.slice x.aD x.data.length x.cD,.int .i64 x.next] 31)).drew.heap[w2.heap.size]?=some (.cells #[.int .i64 x.kind,.int .i64 x.level,.slice x.aI x.items.length x.cI,.slice x.aD x.data.length x.cD,.int .i64 x.next] 31 (0,0))):=aH w2 _;have G2:Hid (Q.Gw 31 5 (w2.alloc (.cells #[.int .i64 x.kind,.int .i64 x.level,.slice x.aI x.items.length x.cI,.slice x.aD x.data.length x.cD,.int .i64 x.next] 31)).drew K.aX K.cX n (vpg K.X)):=by have e:=GG0.o.keep A2.o;exact e
    have FIN:Hid (∀(g5 c5:Nat)(w5:World),Q.Gw 31 5 w5 (some ⟨g5,0,none⟩) c5 (n+1) (vpg K.X++x.cs.toList)->New (w2.alloc (.cells #[.int .i64 x.kind,.int .i64 x.level,.slice x.aI x.items.length x.cI,.slice x.aD x.data.length x.cD,.int .i64 x.next] 31)).drew K.aX (some ⟨g5,0,none⟩)->But (Q.InA K.aX) (w2.alloc (.cells #[.int .i64 x.kind,.int .i64 x.level,.slice x.aI x.items.length x.cI,.slice x.aD x.data.length x.cD,.int .i64 x.next] 31)).drew w5->(w5.frozen? ⟨wb,4,none⟩=false/\w5.cell? ⟨wb,4,none⟩=some (.slice K.aX n K.cX))/\KpB v w2 wb b rb col colR vw {K with aT:=some ⟨g1,0,none⟩,cT:=c1,T:=K.T++[p]} x g5 c5 (w5.setCell ⟨wb,4,none⟩ (.slice (some ⟨g5,0,none⟩) (n+1) c5))):=λg5 c5 w5 hG hN hB=>by
     have bx:=ig H2.o.box A2.o;have b5:w5.heap[wb]?=_:=hB.same bx (λ⟨y,hy,e⟩=>iO (H2.o.gx.keep A2.o) bx (by decide) y hy e)
     refine⟨⟨by simp[World.frozen?,b5],by rw[ax _ _ _ _ _ _ b5,<-HNX.o];rfl⟩,?_⟩
     have k:=H2.o.text A2.o XP2.o XD2.o Z2.o V2.o (by show Q.Gw _ _ _ _ _ (K.X.length+1) (vpg (K.X++[x]));rw[HNX.o,qa,vK];exact hG) hN hB
     have e:({K with aT:=some ⟨g1,0,none⟩,cT:=c1,T:=K.T++[p]}:Bkk).X.length=n:=HNX.o;rw[e] at k;exact k
    go_upto_region 3 with fail
    go_cut [4,5] from 23 to 32 (λs4 s5 wx=>∃(h1 d1:Nat),s4=.pointer (some ⟨gp,0,none⟩)/\s5=.pointer (some ⟨gx,0,none⟩)/\KpB v w2 wb b rb col colR vw {K with aT:=some ⟨g1,0,none⟩,cT:=c1,T:=K.T++[p]} x h1 d1 wx)
    case first=>
     go_region_law
      (refine lf Tryz.underlying53 kH rfl (by decide) rfl _ _ rfl K.aX n K.cX (vpg K.X) (by first|(simp[Act.eval];done)|simp[Act.eval,Act.put]) G2.o ⟨w2.heap.size,0,none⟩ 1 x.cs.toList (by first|(simp[Act.eval];done)|simp[Act.eval,Act.put]) rfl (um X2.o) tL hml (by omega) ?_
       intro g5 c5 w5 hG hN hB;obtain⟨⟨fS,cS⟩,r6⟩:=FIN.o g5 c5 w5 hG hN hB;have R6':=gZ r6;clear hG hN hB r6)
     all_goals
      clear fS cS FIN;go_wp2_with fail
      go_meet
      case rel=>exact⟨g5,c5,rfl,rfl,R6'.o⟩
    case rest=>
     obtain⟨g2,c2,rfl,rfl,hap⟩:=hcut;have P2:=gZ hap;clear hap FIN A2 X2 G2 GG0 q4 p0 p1 p2 p3 p4 x0 x1 x2 x3 x4;generalize wc=w3 at *;have H3:=gZ P2.o.1
     have OF2:Hid (∀k,w.heap.size<=k->k<w1.heap.size->¬({K with aT:=some ⟨g1,0,none⟩,cT:=c1,T:=K.T++[p]}:Bkk).own wb k):=λk h1 h2 e=>by
      rcases e with e|⟨y,hy,e⟩|⟨y,hy,e⟩
      . have:=HB0.o.lb;omega
      . cases hy;have e:g1=k:=e;rcases P1.o.2.2 with⟨y,hy,e2⟩|e2
        . have:=HB0.o.gt.lt hy;omega
        . omega
      . have:=HB0.o.gx.lt hy;omega
     have X0:=gZ (P2.o.2.1.same X0.o (OF2.o _ (by have:=HGP.o;omega) GPL.o))
     have X1:=gZ (P2.o.2.1.same X1.o (OF2.o _ (by have:=HGP.o;have:=HGX.o;omega) GXL.o))
     obtain⟨p0,p1,p2,p3,p4⟩:=ij X0.o;obtain⟨x0,x1,x2,x3,x4⟩:=ij X1.o;have PP3:Hid (Pw1 v w3 col colR p):=H3.o.tp p (gI _ (aQ.2 rfl));have XP3:Hid (Pw1 v w3 col colR x):=H3.o.xp x (gI _ (aQ.2 rfl));have EQ3:=gZ (EQ.o w3 PP3.o.pi XP3.o.pi);clear EQ;go_wp2_with fail
     refine EQ3.o.mono ?_;rintro _ w4 ⟨rfl,hb4⟩;have B4:=gZ hb4;have H4:=gZ (H3.o.keep hb4);clear hb4 EQ3;go_wp2_with fail
     go_ret;refine⟨rfl,_,H4.o,?_,?_,?_,?_,?_,?_⟩
     . show(K.T++[p]).length<=40;rw[ae,HN.o];show n+1<=40;omega
     . show(K.T++[p]).map Pv.pg=(K.X++[x]).map Pv.pg;rw[bH,bH,HE.o];show _++[p.pg]=_++[x.pg];rw[HP.o.e]
     . intro q hq;exact(bj.1 hq).imp id (λhq=>aQ.1 hq)
     . intro q hq;exact(bj.1 hq).imp id (λhq=>aQ.1 hq)
     . have b1:But (K.own wb) w w1:=But.ofBelow A0.o;have b2:But (K.own wb) w w2:=b1.trans P1.o.2.1 (λ_ _ e=>e)
       have b3:But (K.own wb) w w3:=b2.trans P2.o.2.1 (λk hk e=>by
        rcases e with e|⟨y,hy,e⟩|⟨y,hy,e⟩
        . exact .inl e
        . cases hy;have e:g1=k:=e;rcases P1.o.2.2 with e2|e2
          . rw[e] at e2;exact .inr (.inl e2)
          . have:=HS.o;omega
        . exact .inr (.inr ⟨y,hy,e⟩))
       exact b3.trans (But.ofBelow (S:=K.own wb) B4.o) (λ_ _ e=>e)
     . intro k hk;have s1:=HS.o;have s2:=S12.o;rcases hk with e|⟨y,hy,e⟩|⟨y,hy,e⟩
       . exact .inl (.inl e)
       . cases hy;have e:g1=k:=e;rcases P1.o.2.2 with e2|e2
         . rw[e] at e2;exact .inl (.inr (.inl e2))
         . exact .inr (by omega)
       . cases hy;have e:g2=k:=e;rcases P2.o.2.2 with e2|e2
         . rw[e] at e2;exact .inl (.inr (.inr e2))
         . exact .inr (by omega)
 . have hltI:¬(n:Int)<40:=by omega
   have PP1:=gZ (HP.o.ph.keep A0.o);have XP1:=gZ (HP.o.xh.keep A0.o);have EQ3:=gZ (EQ.o _ PP1.o.pi XP1.o.pi);clear EQ;go_wp2_with fail
   refine EQ3.o.mono ?_;rintro _ w4 ⟨rfl,hb4⟩;have B4:=gZ (bt A0.o hb4);have H4:=gZ (H1.o.keep hb4);clear hb4 EQ3;go_wp2_with fail
   go_ret;exact⟨rfl,K,H4.o,by rw[HN.o];exact h4,HE.o,λq hq=>.inl hq,λq hq=>.inl hq,But.ofBelow B4.o,λk hk=>.inl hk⟩
structure Va(v w:World)(b rb pb mb:Nat)(S:Vs)(D:Rd)(H:List Sn)(pc col colR:Nat->Nat):Prop where
 V:Vw w b S pb mb pc col
 R:Ra w rb D H colR
 dj:∀k,col k≠0->colR k=0
 vn:∀k,col k≠0->v.heap.size<=k
 rn:∀k,colR k≠0->v.heap.size<=k
 bl:Below v.heap.size v w
section
variable {T:Nat->Prop} {v w w':World} {b rb pb mb:Nat} {S S':Vs} {D D':Rd} {H H':List Sn} {pc pc' col col' colR colR':Nat->Nat}
theorem Ah.but{T:Nat->Prop}(h:Ah w D H col)(hb:But T w w')(hn:∀k,col k≠0->¬T k):Ah w' D H col:=
 ⟨h.ar.but hb (λx hx=>hn _ (by rw[h.ca x hx];decide)),h.na,h.ca,λs hs=>(h.sv s hs).but hb (λk _ e=>hn k (by omega))⟩
theorem Va.keep(h:Va v w b rb pb mb S D H pc col colR)(hb:Below w.heap.size w w'):Va v w' b rb pb mb S D H pc col colR:=⟨h.V.keep hb,h.R.keep hb,h.dj,h.vn,h.rn,bt h.bl hb⟩
theorem Va.z(h:Va v w b rb pb mb S D H pc col colR){k:Nat}(hk:w.heap.size<=k):col k=0/\colR k=0:=⟨h.V.z hk,by
 by_cases e:colR k=0
 . exact e
 . have:=h.R.q.lt k e;omega⟩
theorem Va.but(h:Va v w b rb pb mb S D H pc col colR)(hb:But T w w')(hn:∀k,T k->col k=0/\colR k=0/\v.heap.size<=k):Va v w' b rb pb mb S D H pc col colR:=
 ⟨h.V.but13 hb (λk hk e=>hk (hn k e).1),⟨h.R.q.but hb (λk hk e=>hk (hn k e).2.1),h.R.a.but hb (λk hk e=>hk (hn k e).2.1)⟩,h.dj,h.vn,h.rn,((But.ofBelow (S:=λ_=>False) h.bl).trans hb (λk hk e=>by have:=(hn k e).2.2;omega)).below (λ_ _ e=>e)⟩
theorem Va.prog(h:Va v w b rb pb mb S D H pc col colR)(hV:Vw w' b S' pb mb pc' col')(hf:Vf w col w' col'):Va v w' b rb pb mb S' D H pc' col' colR:=by
 have ne:∀k,colR k≠0->¬(1<=col k/\col k<=5):=λk hk e=>hk (h.dj k (by omega))
 refine⟨hV,⟨h.R.q.but hf.b ne,h.R.a.but hf.b ne⟩,λk hk=>?_,λk hk=>?_,h.rn,?_⟩
 . by_cases hl:k<w.heap.size
   . rw[hf.c k hl] at hk;exact h.dj k hk
   . exact(h.z (by omega)).2
 . by_cases hl:k<w.heap.size
   . rw[hf.c k hl] at hk;exact h.vn k hk
   . have:=h.bl.size;omega
 . exact((But.ofBelow (S:=λ_=>False) h.bl).trans hf.b (λk hk e=>by have:=h.vn k (by omega);omega)).below (λ_ _ e=>e)
theorem Va.doc(h:Va v w b rb pb mb S D H pc col colR)(hR:Ra w' rb D' H' colR')(hf:Vf w colR w' colR'):Va v w' b rb pb mb S D' H' pc col colR':=by
 refine⟨h.V.but13 hf.b (λk hk e=>by have:=h.dj k hk;omega),hR,λk hk=>?_,h.vn,λk hk=>?_,?_⟩
 . by_cases hl:k<w.heap.size
   . rw[hf.c k hl];exact h.dj k hk
   . exact absurd (h.z (by omega)).1 hk
 . by_cases hl:k<w.heap.size
   . rw[hf.c k hl] at hk;exact h.rn k hk
   . have:=h.bl.size;omega
 . exact((But.ofBelow (S:=λ_=>False) h.bl).trans hf.b (λk hk e=>by have:=h.rn k (by omega);omega)).below (λ_ _ e=>e)
end
structure Wl where
 tb:Nat
 a:Option Addr
 c:Nat
 L:List (Int×Pv)
 aN:Option Addr
 cN:Nat
 N:List (Int×Pv)
def Wl.fn(k:Wl):Value:=.func (.func 116) #[] #[.pointer (some ⟨k.tb,0,none⟩)]
def Wl.cs(k:Wl):List Value:=[k.fn,.slice k.aN k.N.length k.cN]
def wlv(W:List Wl):List Value:=(W.map Wl.cs).flatten
theorem wU(A B:List Wl):wlv (A++B)=wlv A++wlv B:=by simp[wlv]
theorem Di(x:Wl):wlv [x]=x.cs:=by simp[wlv]
structure Wt(v w:World)(col colR:Nat->Nat)(tb:Nat)(a:Option Addr)(c:Nat)(L:List (Int×Pv)):Prop where
 bx:w.heap[tb]?=some (.cells #[.slice a L.length c] 36 (0,0))
 tc:col tb=0/\colR tb=0/\v.heap.size<=tb
 lr:Q.Gw 39 6 w a c L.length (nms L)
 la:Ou v col colR a
 lp:∀x∈L,Pz (λj=>col j=6) w x.2
 ls:∀x∈L,Smi x.2
structure Wn(v w:World)(col colR:Nat->Nat)(a:Option Addr)(c:Nat)(N:List (Int×Pv)):Prop where
 nr:Q.Gw 39 6 w a c N.length (nms N)
 na:Ou v col colR a
 np:∀x∈N,Pw1 v w col colR x.2
section
variable {T:Nat->Prop} {v w w':World} {col col' colR colR':Nat->Nat} {tb:Nat} {a:Option Addr} {c:Nat} {L:List (Int×Pv)}
theorem Wt.but(h:Wt v w col colR tb a c L)(hb:But T w w')(h1:¬T tb)(h2:∀y,a=some y->¬T y.block)(h3:∀k,col k=6->¬T k):Wt v w' col colR tb a c L:=⟨hb.same h.bx h1,h.tc,h.lr.but hb h2,h.la,λx hx=>(h.lp x hx).but hb (λk _ e=>h3 k e),h.ls⟩
theorem Wt.keep(h:Wt v w col colR tb a c L)(hb:Below w.heap.size w w'):Wt v w' col colR tb a c L:=h.but (T:=λ_=>False) (But.ofBelow hb) (λe=>e) (λ_ _ e=>e) (λ_ _ e=>e)
theorem Wt.lb(h:Wt v w col colR tb a c L):tb<w.heap.size:=(af.1 h.bx).1
theorem Wt.recol(h:Wt v w col colR tb a c L)(hc:∀k,k<w.heap.size->col' k=col k)(hr:∀k,k<w.heap.size->colR' k=colR k):Wt v w col' colR' tb a c L:=
 ⟨h.bx,by rw[hc _ h.lb,hr _ h.lb];exact h.tc,h.lr,h.la.go (λy hy=>h.lr.lt hy) hc hr,λx hx=>(h.lp x hx).mono (λk hk e=>by rw[hc k hk];exact e),h.ls⟩
theorem Wt.vf(h:Wt v w col colR tb a c L)(hf:Vf w col w' col'):Wt v w' col' colR tb a c L:=by
 have h2:=h.but hf.b (λe=>by have:=h.tc;omega) (λy hy e=>by have:=h.la y hy;omega) (λk e1 e2=>by omega)
 have h3:=h.recol (col':=col') (colR':=colR) hf.c (λ_ _=>rfl)
 exact⟨h2.bx,h3.tc,h2.lr,h3.la,λx hx=>((h3.lp x hx).but hf.b (λk hk e1 e2=>by rw[hf.c k hk] at e1;omega)),h.ls⟩
theorem Wt.vfR(h:Wt v w col colR tb a c L)(hd:∀k,col k≠0->colR k=0)(hf:Vf w colR w' colR'):Wt v w' col colR' tb a c L:=by
 have h2:=h.but hf.b (λe=>by have:=h.tc;omega) (λy hy e=>by have:=h.la y hy;omega) (λk e1 e2=>by have:=hd k (by omega);omega)
 have h3:=h.recol (col':=col) (colR':=colR') (λ_ _=>rfl) hf.c
 exact⟨h2.bx,h3.tc,h2.lr,h3.la,h2.lp,h.ls⟩
theorem Wn.but(h:Wn v w col colR a c L)(hb:But T w w')(h2:∀y,a=some y->¬T y.block)(h3:∀x∈L,∀k,Blk x.2 k->¬T k):Wn v w' col colR a c L:=⟨h.nr.but hb h2,h.na,λx hx=>(h.np x hx).but hb (h3 x hx)⟩
theorem Wn.keep(h:Wn v w col colR a c L)(hb:Below w.heap.size w w'):Wn v w' col colR a c L:=h.but (T:=λ_=>False) (But.ofBelow hb) (λ_ _ e=>e) (λ_ _ _ _ e=>e)
theorem Wn.recol(h:Wn v w col colR a c L)(hc:∀k,k<w.heap.size->col' k=col k)(hr:∀k,k<w.heap.size->colR' k=colR k):Wn v w col' colR' a c L:=⟨h.nr,h.na.go (λy hy=>h.nr.lt hy) hc hr,λx hx=>(h.np x hx).recol hc hr⟩
theorem Wn.vf(h:Wn v w col colR a c L)(hf:Vf w col w' col'):Wn v w' col' colR a c L:=by
 have h2:=h.but hf.b (λy hy e=>by have:=h.na y hy;omega) (λx hx k hk e=>by have:=(h.np x hx).c k hk;omega)
 have h3:=h.recol (col':=col') (colR':=colR) hf.c (λ_ _=>rfl)
 exact⟨h2.nr,h3.na,λx hx=>⟨(h2.np x hx).n,(h.np x hx).l,(h3.np x hx).c⟩⟩
theorem Wn.vfR(h:Wn v w col colR a c L)(hf:Vf w colR w' colR'):Wn v w' col colR' a c L:=by
 have h2:=h.but hf.b (λy hy e=>by have:=h.na y hy;omega) (λx hx k hk e=>by have:=(h.np x hx).c k hk;omega)
 have h3:=h.recol (col':=col) (colR':=colR') (λ_ _=>rfl) hf.c
 exact⟨h2.nr,h3.na,λx hx=>⟨(h2.np x hx).n,(h.np x hx).l,(h3.np x hx).c⟩⟩
end
theorem sL{p q:Pv}(h:Smi p)(e:q.pg=p.pg):Smi q:=by
 have e1:q.data=p.data:=aY Pg.data e;have e2:q.items.map Iv.it=p.items.map Iv.it:=aY Pg.items e;refine⟨⟨by rw[e1];exact h.1.1,λx hx=>?_⟩,by have:=aY List.length e2;rw[a7,a7] at this;rw[this];exact h.2⟩
 have hm:x.it∈p.items.map Iv.it:=e2▸bC.2 ⟨x,hx,rfl⟩;obtain⟨y,hy,e3⟩:=bC.1 hm;have k1:y.key=x.key:=aY It.key e3;have k2:y.val=x.val:=aY It.val e3;rw[<-k1,<-k2];exact h.1.2 y hy
structure Wo(v w:World)(wb b rb pb mb:Nat)(S:Vs)(D:Rd)(H:List Sn)(pc col colR:Nat->Nat)(aW:Option Addr)(cW:Nat)(W:List Wl)(K:Bkk)(M:Nat):Prop where
 va:Va v w b rb pb mb S D H pc col colR
 bo:Bo v w wb b rb col colR (.slice aW W.length cW) K
 gw:Q.Gw 107 2 w aW cW W.length (wlv W)
 oW:Ou v col colR aW
 wt:∀k∈W,Wt v w col colR k.tb k.a k.c k.L
 wn:∀k∈W,Wn v w col colR k.aN k.cN k.N
 we:∀k∈W,nmg k.L=nmg k.N
 tn:∀p∈K.T,∀k∈W,∀x∈k.N,Bdj p x.2
 tw:Tw S D H M
 eq:K.T.map Pv.pg=K.X.map Pv.pg
 l4:K.T.length<=40
 wl:W.length<=M
 sm:∀p∈K.T,Smi p
section
variable {T:Nat->Prop} {v w w':World} {wb b rb pb mb:Nat} {S S':Vs} {D D':Rd} {H H':List Sn} {pc pc' col col' colR colR':Nat->Nat} {aW:Option Addr} {cW:Nat} {W:List Wl} {K K':Bkk} {M N:Nat}
theorem Wo.keep(h:Wo v w wb b rb pb mb S D H pc col colR aW cW W K M)(hb:Below w.heap.size w w'):Wo v w' wb b rb pb mb S D H pc col colR aW cW W K M:=
 ⟨h.va.keep hb,h.bo.keep hb,h.gw.keep hb,h.oW,λk hk=>(h.wt k hk).keep hb,λk hk=>(h.wn k hk).keep hb,h.we,h.tn,h.tw,h.eq,h.l4,h.wl,h.sm⟩
structure Wr(v w:World)(wb b rb:Nat)(col colR:Nat->Nat)(aW:Option Addr)(cW:Nat)(W:List Wl)(K:Bkk):Prop where
 bo:Bo v w wb b rb col colR (.slice aW W.length cW) K
 gw:Q.Gw 107 2 w aW cW W.length (wlv W)
 oW:Ou v col colR aW
 wt:∀k∈W,Wt v w col colR k.tb k.a k.c k.L
 wn:∀k∈W,Wn v w col colR k.aN k.cN k.N
theorem Wo.wr(h:Wo v w wb b rb pb mb S D H pc col colR aW cW W K M):Wr v w wb b rb col colR aW cW W K:=⟨h.bo,h.gw,h.oW,h.wt,h.wn⟩
theorem Wr.keep(h:Wr v w wb b rb col colR aW cW W K)(hb:Below w.heap.size w w'):Wr v w' wb b rb col colR aW cW W K:=⟨h.bo.keep hb,h.gw.keep hb,h.oW,λk hk=>(h.wt k hk).keep hb,λk hk=>(h.wn k hk).keep hb⟩
theorem Wr.vf(h:Wr v w wb b rb col colR aW cW W K)(hf:Vf w col w' col'):Wr v w' wb b rb col' colR aW cW W K:=
 ⟨h.bo.vf hf,h.gw.but hf.b (λy hy e=>by have:=h.oW y hy;omega),h.oW.go (λy hy=>h.gw.lt hy) hf.c (λ_ _=>rfl),λk hk=>(h.wt k hk).vf hf,λk hk=>(h.wn k hk).vf hf⟩
theorem Wr.vfR(h:Wr v w wb b rb col colR aW cW W K)(hd:∀k,col k≠0->colR k=0)(hf:Vf w colR w' colR'):Wr v w' wb b rb col colR' aW cW W K:=
 ⟨h.bo.vfR hf,h.gw.but hf.b (λy hy e=>by have:=h.oW y hy;omega),h.oW.go (λy hy=>h.gw.lt hy) (λ_ _=>rfl) hf.c,λk hk=>(h.wt k hk).vfR hd hf,λk hk=>(h.wn k hk).vfR hf⟩
end
structure Oq where
 kind:Int
 n:Int
 k:Int
 p:Pv
def Oq.cs(o:Oq):Array Value:=#[.int .i64 o.kind,.int .i64 o.n,.int .i64 o.k,.int .i64 o.p.kind,.int .i64 o.p.level,.slice o.p.aI o.p.items.length o.p.cI,.slice o.p.aD o.p.data.length o.p.cD,.int .i64 o.p.next]
def Oq.vl(o:Oq):Value:=.agg o.cs
theorem g7{b:Nat}{v5 v6 v7:Value}(h:W.heap[b]?=some (.cells #[v0,v1,v2,v3,v4,v5,v6,v7] t (0,0))):W.cell? ⟨b,0,none⟩=some v0/\W.cell? ⟨b,1,none⟩=some v1/\W.cell? ⟨b,2,none⟩=some v2/\W.cell? ⟨b,3,none⟩=some v3/\W.cell? ⟨b,4,none⟩=some v4/\W.cell? ⟨b,5,none⟩=some v5/\W.cell? ⟨b,6,none⟩=some v6/\W.cell? ⟨b,7,none⟩=some v7:=by
 refine⟨?_,?_,?_,?_,?_,?_,?_,?_⟩<;>(rw[ax _ _ _ _ _ _ h];rfl)
structure Po2(w:World)(col colR:Nat->Nat)(p:Pv):Prop where
 z:Pz (λk=>¬(1<=col k/\col k<=5)/\¬(1<=colR k/\colR k<=5)) w p
 s:Smi p
def pV(wb:Nat)(aW:Option Addr)(K:Bkk)(k:Nat):Prop:=K.own wb k\/Q.InA aW k\/∃p∈K.T,Blk p k
structure Fx(w:World)(col colR:Nat->Nat)(own:Nat->Prop)(w':World)(col' colR':Nat->Nat):Prop where
 b:But (λk=>(1<=col k/\col k<=5)\/(1<=colR k/\colR k<=5)\/own k) w w'
 c:∀k,k<w.heap.size->col' k=col k
 r:∀k,k<w.heap.size->colR' k=colR k
structure Ws(v w:World)(wb b rb pb mb:Nat)(S:Vs)(D:Rd)(H:List Sn)(pc col colR:Nat->Nat)(aW:Option Addr)(cW:Nat)(W:List Wl)(K:Bkk):Prop where
 va:Va v w b rb pb mb S D H pc col colR
 wr:Wr v w wb b rb col colR aW cW W K
section
variable {v w w' w2:World} {wb b rb pb mb:Nat} {S S':Vs} {D D':Rd} {H H':List Sn} {pc pc' col col' colR colR':Nat->Nat} {aW:Option Addr} {cW:Nat} {W:List Wl} {K K':Bkk} {M N:Nat} {own:Nat->Prop} {p:Pv}
theorem Po2.keep(h:Po2 w col colR p)(hb:Below w.heap.size w w'):Po2 w' col colR p:=⟨h.z.keep hb,h.s⟩
theorem Po2.vf(h:Po2 w col colR p)(hf:Vf w col w' col'):Po2 w' col' colR p:=⟨(h.z.mono (λk hk e=>⟨by rw[hf.c k hk];exact e.1,e.2⟩)).but hf.b (λk hk e hs=>e.1 (by rw[hf.c k hk];exact hs)),h.s⟩
theorem Po2.vfR(h:Po2 w col colR p)(hf:Vf w colR w' colR'):Po2 w' col colR' p:=⟨(h.z.mono (λk hk e=>⟨e.1,by rw[hf.c k hk];exact e.2⟩)).but hf.b (λk hk e hs=>e.2 (by rw[hf.c k hk];exact hs)),h.s⟩
theorem Po2.pfR(h:Po2 w col colR p):Pf colR w p:=h.z.mono (λk _ e=>e.2)
theorem Fx.keep(hb:Below w.heap.size w w'):Fx w col colR own w' col colR:=⟨But.ofBelow hb,λ_ _=>rfl,λ_ _=>rfl⟩
theorem Fx.vf(hf:Vf w col w' col'):Fx w col colR own w' col' colR:=⟨hf.b.mono (λ_ _ e=>.inl e),hf.c,λ_ _=>rfl⟩
theorem Fx.vfR(hf:Vf w colR w' colR'):Fx w col colR own w' col colR':=⟨hf.b.mono (λ_ _ e=>.inr (.inl e)),λ_ _=>rfl,hf.c⟩
theorem Fx.trans{col2 colR2:Nat->Nat}{own2:Nat->Prop}(h:Fx w col colR own w' col' colR')(k:Fx w' col' colR' own2 w2 col2 colR2)(ho:∀j,j<w.heap.size->own2 j->own j):Fx w col colR own w2 col2 colR2:=by
 have s:=h.b.size;exact⟨h.b.trans k.b (λj hj e=>by rw[h.c j hj,h.r j hj] at e;exact e.imp id (λe=>e.imp id (ho j hj))),λj hj=>(k.c j (by omega)).trans (h.c j hj),λj hj=>(k.r j (by omega)).trans (h.r j hj)⟩
theorem Ws.keep(h:Ws v w wb b rb pb mb S D H pc col colR aW cW W K)(hb:Below w.heap.size w w'):Ws v w' wb b rb pb mb S D H pc col colR aW cW W K:=⟨h.va.keep hb,h.wr.keep hb⟩
theorem Ws.prog(h:Ws v w wb b rb pb mb S D H pc col colR aW cW W K)(hV:Vw w' b S' pb mb pc' col')(hf:Vf w col w' col'):Ws v w' wb b rb pb mb S' D H pc' col' colR aW cW W K:=⟨h.va.prog hV hf,h.wr.vf hf⟩
theorem Ws.doc(h:Ws v w wb b rb pb mb S D H pc col colR aW cW W K)(hR:Ra w' rb D' H' colR')(hf:Vf w colR w' colR'):Ws v w' wb b rb pb mb S D' H' pc col colR' aW cW W K:=⟨h.va.doc hR hf,h.wr.vfR h.va.dj hf⟩
theorem Ws.cells(h:Ws v w wb b rb pb mb S D H pc col colR aW cW W K):w.cell? ⟨wb,0,none⟩=some (.pointer (some ⟨b,0,none⟩))/\w.cell? ⟨wb,1,none⟩=some (.pointer (some ⟨rb,0,none⟩))/\w.cell? ⟨wb,2,none⟩=some (.slice aW W.length cW)/\w.cell? ⟨wb,3,none⟩=some (.slice K.aT K.T.length K.cT)/\w.cell? ⟨wb,4,none⟩=some (.slice K.aX K.X.length K.cX):=ij h.wr.bo.box
theorem Wo.ws(h:Wo v w wb b rb pb mb S D H pc col colR aW cW W K M):Ws v w wb b rb pb mb S D H pc col colR aW cW W K:=⟨h.va,h.wr⟩
theorem Ws.wo(h:Ws v w' wb b rb pb mb S' D' H' pc' col' colR' aW cW W K)(h0:Wo v w wb b rb pb mb S D H pc col colR aW cW W K M)(ht:Tw S' D' H' N)(hN:M<=N):Wo v w' wb b rb pb mb S' D' H' pc' col' colR' aW cW W K N:=
 ⟨h.va,h.wr.bo,h.wr.gw,h.wr.oW,h.wr.wt,h.wr.wn,h0.we,h0.tn,ht,h0.eq,h0.l4,aU h0.wl hN,h0.sm⟩
end
def NxV(v w:World)(wb b rb pb mb:Nat)(col colR:Nat->Nat)(aW:Option Addr)(cW:Nat)(W:List Wl)(K:Bkk)(M:Nat)(P:Vs->Prop)(e:Ending)(w':World):Prop:=
 e=.returned (.bool true)/\∃S' D' H' pc' col' colR',P S'/\Wo v w' wb b rb pb mb S' D' H' pc' col' colR' aW cW W K (M+20)/\Fx w col colR (pV wb aW K) w' col' colR'
def Nx(v w:World)(wb b rb pb mb:Nat)(col colR:Nat->Nat)(aW:Option Addr)(K:Bkk)(M:Nat)(e:Ending)(w':World):Prop:=
 e=.returned (.bool true)/\∃S' D' H' pc' col' colR' aW' cW' W' K',Wo v w' wb b rb pb mb S' D' H' pc' col' colR' aW' cW' W' K' (M+20)/\Fx w col colR (pV wb aW K) w' col' colR'
theorem NxV.nx{v w:World}{wb b rb pb mb:Nat}{col colR:Nat->Nat}{aW:Option Addr}{cW:Nat}{W:List Wl}{K:Bkk}{M:Nat}{P:Vs->Prop}{e:Ending}{w':World}(h:NxV v w wb b rb pb mb col colR aW cW W K M P e w'):Nx v w wb b rb pb mb col colR aW K M e w':=by
 obtain⟨e1,S',D',H',pc',col',colR',_,h1,h2⟩:=h;exact⟨e1,S',D',H',pc',col',colR',aW,cW,W,K,h1,h2⟩
theorem xS(w:World)(b:Nat)(S:Vs)(pb mb:Nat)(pc col:Nat->Nat)(h:Vw w b S pb mb pc col)(z:Int)(hs:Sml (S.X.on z))(hm:S.X.P.mark+(S.X.on z).pg.kids.length+1<=17592186044416)(hc:S.X.ch.length+1<=1759218604441)(hl:S.al.length+1<=8796093022208):
 Calls Tryz.prog 37 #[.pointer (some ⟨b,0,none⟩),.int .i64 z] w λx w'=>∃q:Pv,x=.returned (.tuple #[q.vl,.int .i64 (S.X.leave z).1.2])/\q.pg=(S.X.leave z).1.1.pg/\Pn w w' q/\∃pc' col',Vw w' b (S.done (S.X.leave z).1.2 (S.X.leave z).2) pb mb pc' col'/\Vf w col w' col'/\∀k,Blk q k->col' k=0:=by
 have aB:=al w (.cells Pv.zero.cs 31);have HX:=gZ (az w (.cells Pv.zero.cs 31));have HE:=gZ (kT _ b S pb mb pc col (h.keep aB) (by omega))
 obtain⟨aa,ca,hx⟩:=h.vx;have hac:S.X.P.ac.length+(S.X.on z).pg.kids.length+1<=17592186044416:=by unfold Q.Po.mark at hm;omega
 have LE:=gZ λ(W:World)(hb:Below w.heap.size w W)=>rG W b S.X S.fl (vd0 pb mb aa ca S.al) pc col z (hx.keep hb) hac hc
 have LP:=gZ λ(W:World)(col':Nat->Nat)(hf:Vf w col W col')=>kj W (S.X.leave z).1.1 (Vm.leave_pz hx hf z) (Vm.leave_sml hs).1 (Vm.leave_sml hs).2
 have VE:=Ve.leave S.X z;have LAC:(S.X.leave z).2.P.ac.length<=S.X.P.ac.length+(S.X.on z).pg.kids.length+1:=Vm.left_ac S.X z;obtain⟨r,hr⟩:∃r,S.X.leave z=r:=⟨_,rfl⟩;rw[hr] at VE LAC ⊢;simp only[hr] at LE LP;obtain⟨⟨p,e⟩,X1⟩:=r;simp only at LE LP VE LAC ⊢;have EN:=gZ λ(W:World)(pc' col':Nat->Nat)(hv:Vx W b X1 S.fl (vd0 pb mb aa ca S.al) pc' col')=>lj W b S X1 pb mb aa ca pc' col' hv e VE.ch (VE.p.mark_le (by unfold Q.Po.mark at hm;omega)) hl
 obtain⟨S2,hS2⟩:∃S2,S.done e X1=S2:=⟨_,rfl⟩;obtain⟨mk,hmk⟩:∃mk,S.X.P.mark=mk:=⟨_,rfl⟩;obtain⟨cl,hcl⟩:∃cl,S.X.ch.length=cl:=⟨_,rfl⟩;simp only[hmk,hcl,hS2] at HE EN;rw[hS2];have HV:=gZ h;have AB:=gZ aB;clear h hx aB hs hm hc hl hac VE LAC hr hS2 hmk hcl;obtain⟨kp,lp,aIp,cIp,itp,aDp,cDp,dap,nxp⟩:=p;unfold Pv.vl at LE LP;simp only[Pv.cs] at LE LP HX AB HE;simp only[Pv.zero,bg] at HX AB HE;go_enter Tryz.func37,Tryz.ntmps37;go_wp2_with fail
 refine HE.o.mono ?_;rintro _ w1 ⟨rfl,hb⟩;have a1:=al w1 (.cells #[.int .i64 ((mk:Nat):Int),.int .i64 ((cl:Nat):Int)] 137);have B1:=gZ (bt (bt AB.o hb) a1);have X1':=gZ (((bt hb a1).block w.heap.size (af.1 HX.o).1).trans HX.o);have T1:=gZ (az w1 (.cells #[.int .i64 ((mk:Nat):Int),.int .i64 ((cl:Nat):Int)] 137));have ZX:Hid (col w.heap.size=0):=HV.o.z (ai _);have ZT:Hid (col w1.heap.size=0):=HV.o.z (bt AB.o hb).size;have LTW:Hid (w.heap.size<w1.heap.size):=aZ (af.1 HX.o).1 hb.size;clear hb HE a1;go_wp2_with fail
 refine(LE.o _ B1.o).mono ?_;rintro _ w2 ⟨rfl,pc2,col2,v2,f2⟩;have X2:=f2.b.same X1'.o (λe=>by rw[ZX.o] at e;omega)
 have T2:=f2.b.same T1.o (λe=>by rw[ZT.o] at e;omega)
 have zx2:=(f2.c w.heap.size (af.1 X1'.o).1).trans ZX.o;have zt2:=(f2.c w1.heap.size (af.1 T1.o).1).trans ZT.o;have a2:=bt (al w2 (.cells #[.int .i64 kp,.int .i64 lp,.slice aIp itp.length cIp,.slice aDp dap.length cDp,.int .i64 nxp] 31)) (Q.drw _);have U3:=gZ (az w2 (.cells #[.int .i64 kp,.int .i64 lp,.slice aIp itp.length cIp,.slice aDp dap.length cDp,.int .i64 nxp] 31));have X3:=gZ ((a2.block w.heap.size (af.1 X2).1).trans X2);have T3:=gZ ((a2.block w1.heap.size (af.1 T2).1).trans T2);have V3:=gZ (v2.keep a2);have F3:=gZ (((Vf.keep B1.o).trans f2).trans (Vf.keep a2));have ZX2:=gZ zx2;have LT1:Hid (w.heap.size<w1.heap.size):=LTW.o;have LT2:Hid (w.heap.size<w2.heap.size):=(af.1 X2).1;have ZT2:=gZ zt2;have ZU2:Hid (col2 w2.heap.size=0):=v2.z (ai _);clear v2 f2 X2 T2 zx2 zt2 a2 LE X1' T1 ZX ZT;go_wp2_with fail
 refine bE (S:=λW=>(W.cell? ⟨w1.heap.size,0,none⟩=some (.int .i64 ((mk:Nat):Int))/\W.cell? ⟨w1.heap.size,1,none⟩=some (.int .i64 ((cl:Nat):Int)))/\(W.cell? ⟨w2.heap.size,0,none⟩=some (.int .i64 kp)/\W.cell? ⟨w2.heap.size,1,none⟩=some (.int .i64 lp)/\W.cell? ⟨w2.heap.size,2,none⟩=some (.slice aIp itp.length cIp)/\W.cell? ⟨w2.heap.size,3,none⟩=some (.slice aDp dap.length cDp)/\W.cell? ⟨w2.heap.size,4,none⟩=some (.int .i64 nxp))) (by kernel_rfl) (⟨iq T3.o,ik U3.o⟩) (λhHeld=>?_)
 refine tkd 0 2 3 4 ?_;refine tw 1 λK hK=>?_
 go_simp;refine(LP.o _ _ F3.o).mono ?_;rintro _ w4 ⟨q,rfl,hPn,hq,hb⟩;have V4:=gZ (V3.o.keep hb);have F4:=gZ (F3.o.trans (Vf.keep hb));have Q4:=gZ hq;have P4:=gZ hPn;have SZ4:=gZ (λk (hk:(w2.alloc (.cells #[.int .i64 kp,.int .i64 lp,.slice aIp itp.length cIp,.slice aDp dap.length cDp,.int .i64 nxp] 31)).drew.heap.size<=k)=>V3.o.z hk)
 have BK:Hid (∀k,Blk q k->col2 k=0/\k<w4.heap.size):=λk hk=>⟨SZ4.o k (hPn.blk_new hk),hPn.blk_lt hk⟩
 have X4:=gZ ((hb.block w.heap.size (af.1 X3.o).1).trans X3.o);have T4:=gZ ((hb.block w1.heap.size (af.1 T3.o).1).trans T3.o);have U4:=gZ ((hb.block w2.heap.size (af.1 U3.o).1).trans U3.o);clear hPn hq hb;obtain⟨kq,lq,aIq,cIq,itq,aDq,cDq,daq,nxq⟩:=q;try unfold Pv.vl
 try simp only[Pv.cs]
 go_wp2_with fail
 refine hK.o _ _ (⟨iq T4.o,ik U4.o⟩) (λhHeld=>?_)
 clear hK K;try simp only[pt]
 refine tw 5 λK hK=>?_
 go_simp;refine(EN.o _ _ _ V4.o).mono ?_;rintro _ w5 ⟨rfl,pc5,col5,v5,f5⟩;have V5:=gZ v5;have F5:=gZ (F4.o.trans f5);have X5:=gZ (f5.b.same X4.o (λe=>by rw[ZX2.o] at e;omega))
 have T5:=gZ (f5.b.same T4.o (λe=>by rw[ZT2.o] at e;omega))
 have U5:=gZ (f5.b.same U4.o (λe=>by rw[ZU2.o] at e;omega))
 have ZX5:=gZ ((f5.c w.heap.size (af.1 X4.o).1).trans ZX2.o);have ZT5:=gZ ((f5.c w1.heap.size (af.1 T4.o).1).trans ZT2.o);have P5:=gZ ((P4.o.free f5.b (λk hk e=>by rw[SZ4.o k hk] at e;omega)).pre F3.o.b.size)
 have BK5:Hid (∀k,Blk ⟨kq,lq,aIq,cIq,itq,aDq,cDq,daq,nxq⟩ k->col5 k=0):=λk hk=>(f5.c k (BK.o k hk).2).trans (BK.o k hk).1
 clear v5 f5;go_wp2_with fail
 refine hK.o _ _ (⟨iq T5.o,ik U5.o⟩) (λhHeld=>?_)
 clear hK K;try simp only[pt]
 have T6:=gZ λ(cs:Array Value)=>((Q.iE w5 w.heap.size cs).same T5.o (by have:=LT1.o;omega))
 have U6:=gZ λ(cs:Array Value)=>((Q.iE w5 w.heap.size cs).same U5.o (by have:=LT2.o;omega))
 refine tw 6 λK hK=>?_
 rw[if_pos (by rfl)]
 refine gW 31 _ _ rfl w.heap.size _ rfl rfl 31 _ X5.o ie rfl (by simp[Value.oneCell']) ?_
 refine hK.o _ _ ⟨iq (T6.o _),ik (U6.o _)⟩ (λhHeld=>?_)
 clear hK K;try simp only[pt]
 refine tk 7 ?_;refine td ?_;clear hHeld;go_wp2_with fail
 refine bQ (v:=.tuple #[.agg _,_]) (iD Tryz.results37 _ _ w.heap.size 31 _ (0,0) _ rfl (cO _ _ _ _ _ _ X5.o) Tryz.underlying31 rfl ie) rfl ?_;exact⟨_,rfl,Q4.o,P5.o.row X5.o (by decide) (by decide) _,_,_,V5.o.row ZX5.o _,F5.o.row (ai _) _,BK5.o⟩
end Go.Proofs.YtbdkogimlbnlmaaGreat
