import Derived.Test.YteaogidofpfmmaaGreatWaB25
import Derived.Test.YteaogidofpfmmaaGreatWaB26
set_option linter.all false
set_option maxHeartbeats 32000000
set_option maxRecDepth 16000
namespace Go.Proofs.YteaogidofpfmmaaGreat
open Go.Proofs.Tryz
open Go.RowKit
def TreR(w w':World)(e:Ending)(rd:Int->Option Pg)(L:List Tr):Prop:=∃(t:Tr)(B:Bool),e=.returned (.tuple #[.agg #[.int .i64 t.root,.int .i64 t.height,.int .i64 t.items],.bool B])/\Below w.heap.size w w'/\(B=true->chk rd t=0)
theorem lC:(prog.info? 34).map (·.size)=some 3:=by kernel_rfl
theorem zv(w:World)(E:Nat)(D:Rd)(R:Nat->Nat)(s:Rq w E D R)(r:iF (rdR D))(N:Option Addr)(V:Nat)(L:List Tr)(x:Trs w N L)(z:Int):
 Calls prog 9 #[.pointer (some ⟨E,0,none⟩),.slice N L.length V,.int .i64 z] w λe Z=>TreR w Z e (rdR D) L:=by
 have f:=ix (al w (.cells #[.int .i64 0,.int .i64 0,.int .i64 0] 34));have l:=ix (ag w (.cells #[.int .i64 0,.int .i64 0,.int .i64 0] 34));by_cases hz:z<0\/(L.length:Int)<=z
 . clear s r x;rcases hz with hz|hz
   . go_enter func9,ntmps9;go_wp2_with (first|(refine bz rfl 34 _ _ rfl w.heap.size _ rfl rfl 34 _ l.o lC rfl (by simp[Value.oneCell']) ?_)|fail)
     refine az (v:=.tuple #[.agg _,_]) (jR results9 _ _ w.heap.size 34 _ (0,0) _ rfl (bu _ _ _ _ _ _ l.o) underlying34 rfl lC) rfl ?_;exact⟨⟨0,0,0⟩,false,rfl,((But.ofBelow (S:=λk=>k=w.heap.size) f.o).trans (Q.iD _ _ _) (λ_ _ e=>e)).below (λk hk e=>by have e:k=w.heap.size:=e;omega),λh=>by cases h⟩
   . have af:¬z<0:=by omega
     go_enter func9,ntmps9;go_wp2_with (first|(refine bz rfl 34 _ _ rfl w.heap.size _ rfl rfl 34 _ l.o lC rfl (by simp[Value.oneCell']) ?_)|fail)
     refine az (v:=.tuple #[.agg _,_]) (jR results9 _ _ w.heap.size 34 _ (0,0) _ rfl (bu _ _ _ _ _ _ l.o) underlying34 rfl lC) rfl ?_;exact⟨⟨0,0,0⟩,false,rfl,((But.ofBelow (S:=λk=>k=w.heap.size) f.o).trans (Q.iD _ _ _) (λ_ _ e=>e)).below (λk hk e=>by have e:k=w.heap.size:=e;omega),λh=>by cases h⟩
 . obtain⟨k,rfl⟩:∃k:Nat,z=(k:Int):=⟨z.toNat,by omega⟩
   have hk:k<L.length:=by omega
   have ab:¬(k:Int)<0:=by omega
   have ae:¬(L.length:Int)<=(k:Int):=by omega
   have ac:(k:Int)<(L.length:Int):=by omega
   have ad:(0:Int)<=(k:Int):=by omega
   obtain⟨g,b,rfl,n⟩:=x k hk;obtain⟨t,P⟩:∃t,L.getD k ⟨0,0,0⟩=t:=⟨_,rfl⟩;rw[P] at n;have y:w.cell? ⟨g,b+k*3,none⟩=some (.int .i64 t.root):=n 0 _ rfl;have A:w.cell? ⟨g,b+k*3+1,none⟩=some (.int .i64 t.height):=n 1 _ rfl;have C:w.cell? ⟨g,b+k*3+2,none⟩=some (.int .i64 t.items):=n 2 _ rfl;have q:Hid (∀W:World,Below w.heap.size w W->W.cell? ⟨g,b+k*3,none⟩=some (.int .i64 t.root)/\W.cell? ⟨g,b+k*3+1,none⟩=some (.int .i64 t.height)/\W.cell? ⟨g,b+k*3+2,none⟩=some (.int .i64 t.items)):=λW hb=>⟨(hb.cell (p:=⟨g,b+k*3,none⟩) (block_lt_of_cell y)).trans y,(hb.cell (p:=⟨g,b+k*3+1,none⟩) (block_lt_of_cell A)).trans A,(hb.cell (p:=⟨g,b+k*3+2,none⟩) (block_lt_of_cell C)).trans C⟩
   have U:=ix λ(W:World)(hb:Below w.heap.size w W)(a:Option Addr)(c:Nat)(h:Trs W a [t])=>yQ W E D R (s.keep hb) r a c t h
   clear s r x n P y A C hz;go_enter func9,ntmps9;go_upto_region 3 with fail
   generalize w.alloc (.cells #[.int .i64 0,.int .i64 0,.int .i64 0] 34)=d at *;have I:=ix (bt f.o (dr2 d));refine be (S:=λW=>W.cell? ⟨g,b+k*3,none⟩=some (.int .i64 t.root)/\W.cell? ⟨g,b+k*3+1,none⟩=some (.int .i64 t.height)/\W.cell? ⟨g,b+k*3+2,none⟩=some (.int .i64 t.items)) (by kernel_rfl) (q.o _ I.o) (λhHeld=>?_)
   refine tkd 0 1 2 3 ?_;refine tkd 4 5 6 7 ?_;refine tk 8 ?_;refine tw 9 λJ m=>?_
   go_simp;have i:=ix (show Below d.heap.size d (d.alloc (.cells #[.int .i64 t.root,.int .i64 t.height,.int .i64 t.items] 34)).drew from(al d _).drew)
   have K:Hid (Trs (d.alloc (.cells #[.int .i64 t.root,.int .i64 t.height,.int .i64 t.items] 34)).drew (some ⟨d.heap.size,0,none⟩) [t]):=λj X=>by
    obtain rfl:j=0:=by simpa using X
    refine⟨d.heap.size,0,rfl,λk aa Y=>?_⟩
    show(d.alloc (.cells #[.int .i64 t.root,.int .i64 t.height,.int .i64 t.items] 34)).cell? _=_;rw[ai _ _ _ _ _ _ (ag d _),<-Y];simp[Tr.cs]
   refine m.o _ _ (q.o _ (bt f.o i.o)) (λhHeld=>?_)
   refine tw 10 λJ m=>?_
   go_simp;refine(U.o _ (bt f.o i.o) _ 1 K.o).mono ?_;rintro _ u ⟨B,rfl,F,O⟩;have G:=ix (bt (bt f.o i.o) F);have M:=ix (iJ (iJ l.o i.o) F);have T:=ix O;clear F O i K I;go_wp2_with fail
   refine m.o _ _ (q.o _ G.o) (λhHeld=>?_)
   refine tw 11 λJ m=>?_
   rw[if_pos (by rfl)]
   refine fQ 34 _ _ rfl w.heap.size #[.int .i64 t.root,.int .i64 t.height,.int .i64 t.items] (by simp[Act.eval]) (by simp[Act.eval]) 34 _ M.o lC rfl (by simp[Value.oneCell']) ?_
   have H:=ix (((But.ofBelow (S:=λk=>k=w.heap.size) G.o).trans (Q.iD u w.heap.size #[.int .i64 t.root,.int .i64 t.height,.int .i64 t.items]) (λ_ _ e=>e)).below (λk hk e=>by have e:k=w.heap.size:=e;omega))
   refine m.o _ _ (q.o _ H.o) (λhHeld=>?_)
   refine tk 12 ?_;refine td ?_;go_wp2_with fail
   refine az (v:=.tuple #[.agg _,_]) (jR results9 _ _ w.heap.size 34 _ (0,0) _ rfl (bu _ _ _ _ _ _ M.o) underlying34 rfl lC) rfl ?_;exact⟨t,B,rfl,H.o,T.o⟩
theorem ma{W:World}{g:Nat}{u v x:Value}{t:TypeId}(h:W.heap[g]?=some (.cells #[u,v,x] t (0,0))):W.cell? ⟨g,0,none⟩=some u/\W.cell? ⟨g,1,none⟩=some v/\W.cell? ⟨g,2,none⟩=some x:=iz h
theorem rO{C:List (Br×Br)}{L:List (List Nat×List Nat)}(h:prl C=L)(i:Nat):L.getD i p00=((C.getD i br0).1.l,(C.getD i br0).2.l):=by rw[<-h];exact lz C i
theorem Fy{C:List (Br×Br)}{L:List (List Nat×List Nat)}(h:prl C=L){B:Nat}(b:∀p∈L,p.1.length<=B/\p.2.length<=B):∀t∈prR C,t.l.length<=B:=λt a=>by
 unfold prR at a;obtain⟨l,c,a⟩:=d7.1 a;obtain⟨p,e,rfl⟩:=bE.1 c;have d:(p.1.l,p.2.l)∈L:=by rw[<-h];exact bE.2 ⟨p,e,rfl⟩
 have:=b _ d;simp only[bQ,cf,fY] at a;rcases a with rfl|rfl
 . exact this.1
 . exact this.2
def Hn:Prop:=∀(w:World)(b rb:Nat)(rd:Int->Option Pg)(t:Tr)(hA:iF rd)(hck:chk rd t=0)(GT:GeT w b rb rd t (PLt rd t))(hRD:∀W:World,Below w.heap.size w W->∃XV:Nat->Prop,i9 52 (.pointer (some ⟨b,0,none⟩)) rd XV W)(aA:Option Addr)(cA:Nat)(CA:List (Br×Br))(hP:Prs w aA cA CA)(hL:prl CA=PLt rd t)(i:Nat)(hi:i<CA.length)(hlen:CA.length<=524288),
    Calls prog 38 #[.pointer (some ⟨b,0,none⟩),.agg #[.int .i64 t.root,.int .i64 t.height,.int .i64 t.items],.slice aA CA.length cA,.int .i64 (i:Int)] w λe w'=>e=.returned (.bool true)/\Below w.heap.size w w'
theorem ue(cm:Hn)(w:World)(x:Img)(q:Imi w x)(z:Int)(aU:Option Addr)(cU:Nat)(U:List Nat)(hU:Bs w aU U)(cs:U.length<=1048576)(bD:U.length<=cU)(bC:∀x,aU=some x->x.block<w.heap.size):
 Calls prog 6 #[.agg x.cs,.int .i64 z,.slice aU U.length cU] w λe N=>e=.returned (.bool true)/\Below w.heap.size w N:=by
 have LV:=ix λ(W:World)=>Ae W
 have A0:=ix (al w (.cells x.cs 26));have X0:=ix (ag w (.cells x.cs 26));have LD:=ix λ(W:World)(hb:Below w.heap.size w W)=>rB W x (q.keep hb)
 have HT:=ix λ(W:World)(hb:Below w.heap.size w W)=>(q.keep hb).t
 have UB:=ix λ(W:World)(hb:Below w.heap.size w W)=>hU.keep hb
 have UH:=ix bC;clear q hU bC;obtain⟨b1,aC,cC,bY,aN,cN,b0,aT,cT,TT⟩:=x;simp only[Img.cs] at *;unfold rE at LD;obtain⟨bq,hm⟩:∃bq,TT.length=bq:=⟨_,rfl⟩;have HM:=ix hm;simp only[hm] at A0 X0 LD ⊢;clear hm;go_enter func6,ntmps6;obtain⟨x0,x1,x2,x3⟩:=jJ X0.o;go_wp2_with fail
 refine(LD.o _ A0.o).mono ?_;rintro _ w2 (⟨_,rfl,hb⟩|⟨h0,h4,ar,rb,S,pb,mb,pc,cq,bZ,cj,rfl,C⟩)
 . have D:=ix (bt A0.o hb);clear hb x0 x1 x2 x3;go_wp2_with fail
   refine(LV.o _).mono ?_;rintro _ w3 ⟨rfl,ao⟩;have H3:=ix (bt D.o ao);clear ao;go_wp2_with fail
   go_ret;exact⟨rfl,H3.o⟩
 . have LX:=ix C;have B2:=ix (bt A0.o C.bl);have X2:=ix (iJ X0.o C.bl);clear C h0 h4 x0 x1 x2 x3 X0;generalize (iP b1 bY (nmg b0)).2=rd at*
   have TR:=ix (by
    have h:=zv w2 rb bZ cj LX.o.r (by rw[LX.o.rr];exact LX.o.ok) aT cT TT (HT.o _ B2.o) z
    rw[LX.o.rr,HM.o] at h;exact h)
   obtain⟨x0,x1,x2,x3⟩:=jJ X2.o;go_wp2_with fail
   refine TR.o.mono ?_;rintro _ w3 ⟨t,ba,rfl,ao,hB⟩;have bv:=ix (LX.o.keep14 ao);have B3:=ix (bt B2.o ao);have aH:=ix hB;clear ao hB LX X2 x0 x1 x2 x3 TR;have A3:=ix (al w3 (.cells #[.int .i64 t.root,.int .i64 t.height,.int .i64 t.items] 34));have X3:=ix (ag w3 (.cells #[.int .i64 t.root,.int .i64 t.height,.int .i64 t.items] 34));go_upto_region 5 with fail
   obtain⟨r,bo⟩:∃W,w3.alloc (.cells #[.int .i64 t.root,.int .i64 t.height,.int .i64 t.items] 34)=W:=⟨_,rfl⟩;rw[bo] at A3 X3 ⊢;have B4:=ix (bt B3.o A3.o);obtain⟨gt,bm⟩:∃bc,w3.heap.size=bc:=⟨_,rfl⟩;have S4:gt<r.heap.size:=by rw[<-bo,size_alloc,bm];omega
   simp only[bm] at X3 ⊢;have ak:=ix (bv.o.keep14 A3.o);clear bm bo A3 B3 bv HT;by_cases ca:ba=true
   . subst ca;have hA:=ak.o.ok;have aX:=aH.o rfl;have H:=ix (ak.o.lst (aH.o rfl));have LE:=ix (ak.o.get (aH.o rfl)).len;have NR:=ix λ(W:World)(hb:Below r.heap.size r W)(aA:Option Addr)(cA:Nat)(n:List (Br×Br))(hP:Prs W aA cA n)(C:prl n=PLt rd t)(i:Nat)(hi:i<n.length)(hl:n.length<=524288)=>cm W ar rb rd t hA aX ((ak.o.keep14 hb).get aX) ((ak.o.keep14 hb).lst aX).rds aA cA n hP C i hi hl
     obtain⟨L,C⟩:∃L,PLt rd t=L:=⟨_,rfl⟩;rw[C] at H NR LE;clear C ak aH hA aX;obtain⟨a8,a9,aE⟩:=t;dsimp only at H NR X3 ⊢
     have L1:=ix λ(W:World)(hb:Below r.heap.size r W)=>(show Calls prog 26 #[.pointer (some ⟨ar,0,none⟩),.agg #[.int .i64 a8,.int .i64 a9,.int .i64 aE],.agg #[.slice none 0 0,.slice none 0 0,.bool true]] W λe N=>PsP W N e L from by
      have h:=H.o.list W ⟨none,0,[],none,0,[],true⟩ hb ⟨Bs.nil _,am _,Bs.nil _,am _⟩ ⟨an _,an _⟩ (λbd hk=>by rcases hk with⟨x,q,_⟩|⟨x,q,_⟩<;>cases q)
      rw[show(⟨none,0,[],none,0,[],true⟩:Rv).rg=⟨[],[],true⟩ from rfl,Bp H.o.key] at h
      exact h)
     have L2:=ix λ(W:World)(hb:Below r.heap.size r W)=>(show Calls prog 26 #[.pointer (some ⟨ar,0,none⟩),.agg #[.int .i64 a8,.int .i64 a9,.int .i64 aE],.agg #[.slice none 0 0,.slice aU U.length cU,.bool false]] W λe N=>PsP W N e (jt L ⟨[],U,false⟩) from
      H.o.list W ⟨none,0,[],aU,cU,U,false⟩ hb ⟨Bs.nil _,am _,UB.o _ (bt B4.o hb),bD⟩ ⟨an _,by show U.length<=_;omega⟩ (λbd hk=>by
       rcases hk with⟨x,q,_⟩|⟨x,q,rfl⟩
       . cases q
       . exact a6 (UH.o x q) (bt B4.o hb).size))
     have L3:=ix λ(W:World)(hb:Below r.heap.size r W)=>(show Calls prog 26 #[.pointer (some ⟨ar,0,none⟩),.agg #[.int .i64 a8,.int .i64 a9,.int .i64 aE],.agg #[.slice aU U.length cU,.slice none 0 0,.bool true]] W λe N=>PsP W N e (jt L ⟨U,[],true⟩) from
      H.o.list W ⟨aU,cU,U,none,0,[],true⟩ hb ⟨UB.o _ (bt B4.o hb),bD,Bs.nil _,am _⟩ ⟨by show U.length<=_;omega,an _⟩ (λbd hk=>by
       rcases hk with⟨x,q,rfl⟩|⟨x,q,_⟩
       . exact a6 (UH.o x q) (bt B4.o hb).size
       . cases q))
     have BK:=ix λ(W:World)(hb:Below r.heap.size r W)=>(show Calls prog 29 #[.pointer (some ⟨ar,0,none⟩),.agg #[.int .i64 a8,.int .i64 a9,.int .i64 aE],.agg #[.slice none 0 0,.slice none 0 0,.bool true]] W λe N=>ScP W N e L.reverse from by
      have h:=H.o.back W ⟨none,0,[],none,0,[],true⟩ hb ⟨Bs.nil _,am _,Bs.nil _,am _⟩ ⟨an _,an _⟩ (λbd hk=>by rcases hk with⟨x,q,_⟩|⟨x,q,_⟩<;>cases q)
      rw[show(⟨none,0,[],none,0,[],true⟩:Rv).rg=⟨[],[],true⟩ from rfl,Bp H.o.key] at h
      exact h)
     obtain⟨LB,aM⟩:∃LB,jt L ⟨[],U,false⟩=LB:=⟨_,rfl⟩;obtain⟨LF,aO⟩:∃LF,jt L ⟨U,[],true⟩=LF:=⟨_,rfl⟩;have bh:=ix (show LB++LF=L by rw[<-aM,<-aO];exact Hg H.o.key H.o.rise U)
     have b5:=ix (show ∀p∈LB,p.1<U from λp hp=>by
      rw[<-aM,vF H.o.key] at hp;exact fI (dX.1 hp).2)
     have b6:=ix (show ∀p∈LF,U<=p.1 from λp hp=>by
      rw[<-aO,xY H.o.key] at hp;exact fI (dX.1 hp).2)
     rw[aM] at L2;rw[aO] at L3;have ci:=ix H.o.rise;have bX:=ix H.o.many;have br:=ix H.o.items;clear aM aO H;unfold PsP at L1 L2 L3;unfold ScP at BK;obtain⟨F,G,t2⟩:=ma X3.o;go_wp2_with fail
     refine(L1.o _ (Below.refl _ _)).mono ?_;rintro _ w5 ⟨ap,a1,c1,J,rfl,bw,bN,_⟩;have E5:=ix ap;have P1:=ix bw;have H1:=ix bN;have X5:=ix (iJ X3.o ap);clear ap bw bN F G t2;obtain⟨F,G,t2⟩:=ma X5.o;go_wp2_with fail
     refine(L2.o _ E5.o).mono ?_;rintro _ w6 ⟨aR,a2,c2,C2,rfl,bx,bO,_⟩;have E6:=ix (bt E5.o aR);have F6:=ix aR;have P2:=ix bx;have H2:=ix bO;have X6:=ix (iJ X5.o aR);clear aR bx bO F G t2;obtain⟨F,G,t2⟩:=ma X6.o;go_wp2_with fail
     refine(L3.o _ E6.o).mono ?_;rintro _ w7 ⟨aw,a3,c3,C3,rfl,bz,bP,_⟩;have E7:=ix (bt E6.o aw);have aa:=ix (P1.o.keep5 (bt F6.o aw));have b7:=ix (P2.o.keep5 aw);have b8:=ix bz;have H3:=ix bP;have X7:=ix (iJ X6.o aw);clear aw bz bP F G t2 P1 P2 L1 L2 L3 X5 X6 E5 E6 F6 X3;obtain⟨b,a0⟩:∃au,J.length=au:=⟨_,rfl⟩;obtain⟨s,a4⟩:∃au,C2.length=au:=⟨_,rfl⟩;obtain⟨n3,a5⟩:∃au,C3.length=au:=⟨_,rfl⟩;have I:=ix a0;have N2:=ix a4;have N3:=ix a5;have LL:L.length=b:=by rw[<-H1.o,i7,a0]
     have bk:LB.length=s:=by rw[<-H2.o,i7,a4]
     have bu:LF.length=n3:=by rw[<-H3.o,i7,a5]
     have cG:s+n3=b:=by rw[<-LL,<-bh.o,af,bk,bu]
     have cF:(s:Int)+(n3:Int)=(b:Int):=by omega
     obtain rfl:(b:Int)=aE:=by rw[<-LL];exact br.o
     have a7:b<=524288:=by rw[<-LL];exact bX.o
     have bi:=ix LL;have b3:=ix bk;simp only[a0,a4,a5];clear a0 a4 a5 LL bk bu br bX;obtain⟨F,G,t2⟩:=ma X7.o;go_wp2_with fail
     clear F G t2;go_loopw [18] (λvi wx=>∃i:Nat,i<=b/\vi=.int .i64 (i:Int)/\Below w7.heap.size w7 wx) (λvi _=>b-(intOf vi).toNat)
     case atStart=>exact⟨0,an _,rfl,Below.refl _ _⟩
     case round=>
      obtain⟨i,hi,rfl,hb⟩:=hrel;have d:=ix hb;clear hb;by_cases ai:i<b
      . have cd:(i:Int)<(b:Int):=by omega
        have cu:(0:Int)<=(i:Int):=by omega
        have Q1:=aa.o.keep5 d.o;obtain⟨g1,cb,d0,d1,⟨rK,bK⟩,rV,bV⟩:=Q1.at (show i<J.length by rw[I.o];exact ai)
        have ax:=rO H1.o i;obtain⟨⟨⟨Y,Z,aF⟩,⟨m,K,aG⟩⟩,q⟩:∃x,J.getD i br0=x:=⟨_,rfl⟩;rw[q] at d0 d1 rK bK rV bV ax;dsimp only at d0 d1 rK bK rV bV ax;subst cb;obtain⟨aW,aY⟩:=Gg b5.o b6.o (i:=i) (by rw[bh.o,bi.o];exact ai)
        rw[bh.o,b3.o,ax] at aW aY;dsimp only at aW aY;have n:=ix aW;have CZ:=ix aY;have KB:=ix λ(W:World)(hb:Below wr.heap.size wr W)=>(rK.keep hb).bs bK rK.len_le
        have VB:=ix λ(W:World)(hb:Below wr.heap.size wr W)=>(rV.keep hb).bs bV rV.len_le
        have D0:=ix d0;have D1:=ix d1;have c:=ix (al wr (.cells #[.slice Y aF.length Z,.slice m aG.length K] 45));have X8:=ix (ag wr (.cells #[.slice Y aF.length Z,.slice m aG.length K] 45));have b4:=ix ax;clear q ax aW aY rK bK rV bV Q1;go_upto_region 18 with fail
        obtain⟨w9,bS⟩:∃W,wr.alloc (.cells #[.slice Y aF.length Z,.slice m aG.length K] 45)=W:=⟨_,rfl⟩;rw[bS] at c X8 ⊢;clear bS;obtain⟨g,bl⟩:∃bc,wr.heap.size=bc:=⟨_,rfl⟩;have cn:=ix bl;simp only[bl] at X8 ⊢;clear bl;obtain⟨vb,bR⟩:∃vb,decide ((i:Int)<(s:Int))=vb:=⟨_,rfl⟩;go_upto_if 118 with fail
        have bj:=ix bR;clear bR;go_cut [20,21] from 100 to 162 (λcg ch wx=>∃(aP:Option Addr)(cP:Nat)(V:List (Br×Br))(j:Nat),cg=.slice aP V.length cP/\ch=.int .i64 (j:Int)/\j<V.length/\Prs wx aP cP V/\((V.getD j br0).1.l,(V.getD j br0).2.l)=(aF,aG)/\Below w9.heap.size w9 wx)
        case first=>
         cases vb with
         |true=>
          have aD:(i:Int)<(s:Int):=fI bj.o;have aq:i<s:=by omega
          have e:=n.o;rw[if_pos aq,rO H2.o i] at e;have bb:=ix e;clear e;go_wp2_with fail
          go_meet
          case rel=>exact⟨a2,c2,C2,i,by rw[N2.o],rfl,by rw[N2.o];exact aq,(b7.o.keep5 d.o).keep5 c.o,bb.o.symm,Below.refl _ _⟩
         |false=>
          have aD:¬(i:Int)<(s:Int):=of_decide_eq_false bj.o;have aq:¬i<s:=by omega
          have e:=n.o;rw[if_neg aq,rO H3.o (i-s)] at e;have bb:=ix e;clear e;have cE:(i:Int)-(s:Int)=((i-s:Nat):Int):=by omega
          go_wp2_with fail
          go_meet
          case rel=>exact⟨a3,c3,C3,i-s,by rw[N3.o],by first|rfl|exact bf (Value.int IntKind.i64) (by omega),by rw[N3.o];omega,(b8.o.keep5 d.o).keep5 c.o,bb.o.symm,Below.refl _ _⟩
        case rest=>
         obtain⟨aP,cP,V,j,rfl,rfl,bE,bA,aQ,bI⟩:=hcut;have X:=ix bI;obtain⟨T,cc,e0,e1,⟨az,aI⟩,aB,aL⟩:=bA.at bE;subst cc;obtain⟨⟨⟨ab,ad,l⟩,⟨ac,ae,P⟩⟩,bT⟩:∃x,V.getD j br0=x:=⟨_,rfl⟩;rw[bT] at e0 e1 az aI aB aL aQ;dsimp only at e0 e1 az aI aB aL aQ;obtain⟨h1,k⟩:=fG aQ;subst h1 k;obtain⟨m',bn⟩:∃m',V.length=m':=⟨_,rfl⟩;rw[bn] at bE;simp only[bn];generalize wc=f at *;have EQ:=ix λ(W:World)(hb:Below f.heap.size f W)=>kG W Y m ab ac Z K ad ae l.length P.length l P (KB.o _ (bt c.o (bt X.o hb))) (VB.o _ (bt c.o (bt X.o hb))) ((az.keep hb).bs aI az.len_le) ((aB.keep hb).bs aL aB.len_le) rfl rfl
         have av:=ix λ(W:World)(hb:Below f.heap.size f W)=>jo W Y aU l.length U.length Z cU l U (KB.o _ (bt c.o (bt X.o hb))) (UB.o _ (bt B4.o (bt E7.o (bt d.o (bt c.o (bt X.o hb)))))) rfl rfl
         obtain⟨z2,bW⟩:∃z,iy l U=z:=⟨_,rfl⟩;rw[bW] at av CZ;clear bW;have cx:(j:Int)<(m':Int):=by omega
         have cw:(0:Int)<=(j:Int):=by omega
         have D:=ix λ(W:World)(hb:Below f.heap.size f W)=>(show W.cell? ⟨g,0,none⟩=some (.slice Y l.length Z)/\W.cell? ⟨g,1,none⟩=some (.slice m P.length K)/\W.cell? ⟨T,j*2,none⟩=some (.slice ab l.length ad)/\W.cell? ⟨T,j*2+1,none⟩=some (.slice ac P.length ae) from by
          obtain⟨p0,p1⟩:=ld (iJ X8.o (bt X.o hb));exact⟨p0,p1,(hb.cell (p:=⟨T,j*2,none⟩) (block_lt_of_cell e0)).trans e0,(hb.cell (p:=⟨T,j*2+1,none⟩) (block_lt_of_cell e1)).trans e1⟩)
         clear bA aQ bT bn bI az aI aB aL e0 e1 bj;go_upto_region 20 with fail
         by_cases cy:0<i
         . have bM:i-1<J.length:=by rw[I.o];omega
           obtain⟨cr,ck,k0,k1,⟨rJ,bJ⟩,_,_⟩:=(aa.o.keep5 d.o).at bM;cases ck;have bQ:=rO H1.o (i-1);have ay:=kW ci.o (show i-1<i by omega) (by rw[bi.o];exact ai)
           rw[bQ,b4.o] at ay;obtain⟨⟨⟨aJ,cJ,aj⟩,⟨co,cp,J2⟩⟩,bU⟩:∃x,J.getD (i-1) br0=x:=⟨_,rfl⟩;rw[bU] at k0 rJ bJ ay;dsimp only at k0 rJ bJ ay;have bg:=ix λ(W:World)(hb:Below f.heap.size f W)=>jo W aJ Y aj.length l.length cJ Z aj l ((rJ.keep (bt c.o (bt X.o hb))).bs bJ rJ.len_le) (KB.o _ (bt c.o (bt X.o hb))) rfl rfl
           have cf:=kw.2 ay;obtain⟨z1,hz⟩:∃z,iy aj l=z:=⟨_,rfl⟩;rw[hz] at bg cf
           have HI:=ix λ(W:World)(hb:Below f.heap.size f W)=>(show W.cell? ⟨g,0,none⟩=some (.slice Y l.length Z)/\W.cell? ⟨g,1,none⟩=some (.slice m P.length K)/\W.cell? ⟨T,j*2,none⟩=some (.slice ab l.length ad)/\W.cell? ⟨T,j*2+1,none⟩=some (.slice ac P.length ae)/\W.cell? ⟨g1,(i-1)*2,none⟩=some (.slice aJ aj.length cJ) from by
            obtain⟨h1,k,h3,h4⟩:=D.o W hb;exact⟨h1,k,h3,h4,((bt c.o (bt X.o hb)).cell (p:=⟨g1,(i-1)*2,none⟩) (block_lt_of_cell k0)).trans k0⟩)
           clear bQ ay bU hz k0 k1 rJ bJ bM;have ce:(0:Int)<(i:Int):=by omega
           have cl:¬(0:Int)<=z1:=by omega
           have ct:decide ((0:Int)<=z1)=false:=ah cl;have cv:(i:Int)-1=((i-1:Nat):Int):=by omega
           have cD:IntKind.i64.wrap ((i-1:Nat):Int)=((i-1:Nat):Int):=iQ (by omega) (by omega)
           have cB:((i-1:Nat):Int)<(b:Int):=by omega
           have cz:(0:Int)<=((i-1:Nat):Int):=by omega
           by_cases k:i<s
           . have aq:i<s:=k;have aD:(i:Int)<(s:Int):=by omega
             have bp:z2<0:=CZ.o.1 k
             as_aux_lemma=>
              refine be (S:=λW=>W.cell? ⟨g,0,none⟩=some (.slice Y l.length Z)/\W.cell? ⟨g,1,none⟩=some (.slice m P.length K)/\W.cell? ⟨T,j*2,none⟩=some (.slice ab l.length ad)/\W.cell? ⟨T,j*2+1,none⟩=some (.slice ac P.length ae)/\W.cell? ⟨g1,(i-1)*2,none⟩=some (.slice aJ aj.length cJ)) (by kernel_rfl) (HI.o _ (dr2 f)) (λhHeld=>?_)
              refine tkd 0 1 2 3 ?_;refine tk 4 ?_;refine tw 5 λB y=>?_
              go_simp;refine(EQ.o _ (dr2 f)).mono ?_;rintro _ wY ⟨rfl,a⟩;have A:=ix (bt (dr2 f) a);clear a;go_wp2_with fail
              refine y.o _ _ (HI.o _ A.o) (λhHeld=>?_)
              refine tkd 6 7 8 9 ?_;refine tkd 10 11 12 13 ?_;refine tkd 14 15 16 17 ?_;refine tk 18 ?_;refine tw 19 λB y=>?_
              go_simp;refine(bg.o _ A.o).mono ?_;rintro _ wZ ⟨rfl,a⟩;have E:=ix (bt A.o a);clear a;go_wp2_with fail
              refine y.o _ _ (HI.o _ E.o) (λhHeld=>?_)
              refine tkd 20 21 22 23 ?_;refine tkd 24 25 26 27 ?_;refine tkb 28 29 ?_;refine tk 30 ?_;refine tw 31 λB y=>?_
              go_simp;refine(av.o _ E.o).mono ?_;rintro _ wT ⟨rfl,a⟩;have O:=ix (bt E.o a);clear a;go_wp2_with fail
              refine y.o _ _ (HI.o _ O.o) (λhHeld=>?_)
              refine tkb 32 33 ?_;refine tk 34 ?_;refine td ?_;have v:=ix (bt X.o O.o);clear A E O;have X9:=ma (iJ X7.o (bt d.o (bt c.o v.o)));obtain⟨F,G,t2⟩:=X9;have M:=ix (NR.o _ (bt E7.o (bt d.o (bt c.o v.o))) (some ⟨g1,0,none⟩) c1 J ((aa.o.keep5 d.o).keep5 (bt c.o v.o)) H1.o i (by rw[I.o];exact ai) (by rw[I.o];exact a7))
              rw[I.o] at M;go_wp2_with fail
              refine M.o.mono ?_;rintro _ wU ⟨rfl,R⟩;have BU:=ix (bt d.o (bt c.o (bt v.o R)));clear R M F G t2;go_wp2_with fail
              go_roundw
              case rel=>exact⟨i+1,by omega,by first|rfl|(go_num;done)|exact bf (Value.int IntKind.i64) (by omega),BU.o⟩
              case measure=>first|(simp[intOf];done)|(simp[intOf];omega)
           . have aD:¬(i:Int)<(s:Int):=by omega
             have bp:¬z2<0:=λe=>k (CZ.o.2 e)
             as_aux_lemma=>
              refine be (S:=λW=>W.cell? ⟨g,0,none⟩=some (.slice Y l.length Z)/\W.cell? ⟨g,1,none⟩=some (.slice m P.length K)/\W.cell? ⟨T,j*2,none⟩=some (.slice ab l.length ad)/\W.cell? ⟨T,j*2+1,none⟩=some (.slice ac P.length ae)/\W.cell? ⟨g1,(i-1)*2,none⟩=some (.slice aJ aj.length cJ)) (by kernel_rfl) (HI.o _ (dr2 f)) (λhHeld=>?_)
              refine tkd 0 1 2 3 ?_;refine tk 4 ?_;refine tw 5 λB y=>?_
              go_simp;refine(EQ.o _ (dr2 f)).mono ?_;rintro _ wY ⟨rfl,a⟩;have A:=ix (bt (dr2 f) a);clear a;go_wp2_with fail
              refine y.o _ _ (HI.o _ A.o) (λhHeld=>?_)
              refine tkd 6 7 8 9 ?_;refine tkd 10 11 12 13 ?_;refine tkd 14 15 16 17 ?_;refine tk 18 ?_;refine tw 19 λB y=>?_
              go_simp;refine(bg.o _ A.o).mono ?_;rintro _ wZ ⟨rfl,a⟩;have E:=ix (bt A.o a);clear a;go_wp2_with fail
              refine y.o _ _ (HI.o _ E.o) (λhHeld=>?_)
              refine tkd 20 21 22 23 ?_;refine tkd 24 25 26 27 ?_;refine tkb 28 29 ?_;refine tk 30 ?_;refine tw 31 λB y=>?_
              go_simp;refine(av.o _ E.o).mono ?_;rintro _ wT ⟨rfl,a⟩;have O:=ix (bt E.o a);clear a;go_wp2_with fail
              refine y.o _ _ (HI.o _ O.o) (λhHeld=>?_)
              refine tkb 32 33 ?_;refine tk 34 ?_;refine td ?_;have v:=ix (bt X.o O.o);clear A E O;have X9:=ma (iJ X7.o (bt d.o (bt c.o v.o)));obtain⟨F,G,t2⟩:=X9;have M:=ix (NR.o _ (bt E7.o (bt d.o (bt c.o v.o))) (some ⟨g1,0,none⟩) c1 J ((aa.o.keep5 d.o).keep5 (bt c.o v.o)) H1.o i (by rw[I.o];exact ai) (by rw[I.o];exact a7))
              rw[I.o] at M;go_wp2_with fail
              refine M.o.mono ?_;rintro _ wU ⟨rfl,R⟩;have BU:=ix (bt d.o (bt c.o (bt v.o R)));clear R M F G t2;go_wp2_with fail
              go_roundw
              case rel=>exact⟨i+1,by omega,by first|rfl|(go_num;done)|exact bf (Value.int IntKind.i64) (by omega),BU.o⟩
              case measure=>first|(simp[intOf];done)|(simp[intOf];omega)
         . have ce:¬(0:Int)<(i:Int):=by omega
           by_cases k:i<s
           . have aq:i<s:=k;have aD:(i:Int)<(s:Int):=by omega
             have bp:z2<0:=CZ.o.1 k
             as_aux_lemma=>
              refine be (S:=λW=>W.cell? ⟨g,0,none⟩=some (.slice Y l.length Z)/\W.cell? ⟨g,1,none⟩=some (.slice m P.length K)/\W.cell? ⟨T,j*2,none⟩=some (.slice ab l.length ad)/\W.cell? ⟨T,j*2+1,none⟩=some (.slice ac P.length ae)) (by kernel_rfl) (D.o _ (dr2 f)) (λhHeld=>?_)
              refine tkd 0 1 2 3 ?_;refine tk 4 ?_;refine tw 5 λB y=>?_
              go_simp;refine(EQ.o _ (dr2 f)).mono ?_;rintro _ wY ⟨rfl,a⟩;have A:=ix (bt (dr2 f) a);clear a;go_wp2_with fail
              refine y.o _ _ (D.o _ A.o) (λhHeld=>?_)
              refine tkd 6 7 8 9 ?_;refine tk 10 ?_;refine tu 11 ?_;refine tu 12 ?_;refine tu 13 ?_;refine tu 14 ?_;refine tu 15 ?_;refine tu 16 ?_;refine tu 17 ?_;refine tu 18 ?_;refine tu 19 ?_;refine tu 20 ?_;have E:=ix A.o;refine tkd 21 22 23 24 ?_;refine tkd 25 26 27 28 ?_;refine tkb 29 30 ?_;refine tw 31 λB y=>?_
              go_simp;refine(av.o _ E.o).mono ?_;rintro _ wT ⟨rfl,a⟩;have O:=ix (bt E.o a);clear a;go_wp2_with fail
              refine y.o _ _ (D.o _ O.o) (λhHeld=>?_)
              refine tkb 32 33 ?_;refine tk 34 ?_;refine td ?_;have v:=ix (bt X.o O.o);clear A E O;have X9:=ma (iJ X7.o (bt d.o (bt c.o v.o)));obtain⟨F,G,t2⟩:=X9;have M:=ix (NR.o _ (bt E7.o (bt d.o (bt c.o v.o))) (some ⟨g1,0,none⟩) c1 J ((aa.o.keep5 d.o).keep5 (bt c.o v.o)) H1.o i (by rw[I.o];exact ai) (by rw[I.o];exact a7))
              rw[I.o] at M;go_wp2_with fail
              refine M.o.mono ?_;rintro _ wU ⟨rfl,R⟩;have BU:=ix (bt d.o (bt c.o (bt v.o R)));clear R M F G t2;go_wp2_with fail
              go_roundw
              case rel=>exact⟨i+1,by omega,by first|rfl|(go_num;done)|exact bf (Value.int IntKind.i64) (by omega),BU.o⟩
              case measure=>first|(simp[intOf];done)|(simp[intOf];omega)
           . have aD:¬(i:Int)<(s:Int):=by omega
             have bp:¬z2<0:=λe=>k (CZ.o.2 e)
             as_aux_lemma=>
              refine be (S:=λW=>W.cell? ⟨g,0,none⟩=some (.slice Y l.length Z)/\W.cell? ⟨g,1,none⟩=some (.slice m P.length K)/\W.cell? ⟨T,j*2,none⟩=some (.slice ab l.length ad)/\W.cell? ⟨T,j*2+1,none⟩=some (.slice ac P.length ae)) (by kernel_rfl) (D.o _ (dr2 f)) (λhHeld=>?_)
              refine tkd 0 1 2 3 ?_;refine tk 4 ?_;refine tw 5 λB y=>?_
              go_simp;refine(EQ.o _ (dr2 f)).mono ?_;rintro _ wY ⟨rfl,a⟩;have A:=ix (bt (dr2 f) a);clear a;go_wp2_with fail
              refine y.o _ _ (D.o _ A.o) (λhHeld=>?_)
              refine tkd 6 7 8 9 ?_;refine tk 10 ?_;refine tu 11 ?_;refine tu 12 ?_;refine tu 13 ?_;refine tu 14 ?_;refine tu 15 ?_;refine tu 16 ?_;refine tu 17 ?_;refine tu 18 ?_;refine tu 19 ?_;refine tu 20 ?_;have E:=ix A.o;refine tkd 21 22 23 24 ?_;refine tkd 25 26 27 28 ?_;refine tkb 29 30 ?_;refine tw 31 λB y=>?_
              go_simp;refine(av.o _ E.o).mono ?_;rintro _ wT ⟨rfl,a⟩;have O:=ix (bt E.o a);clear a;go_wp2_with fail
              refine y.o _ _ (D.o _ O.o) (λhHeld=>?_)
              refine tkb 32 33 ?_;refine tk 34 ?_;refine td ?_;have v:=ix (bt X.o O.o);clear A E O;have X9:=ma (iJ X7.o (bt d.o (bt c.o v.o)));obtain⟨F,G,t2⟩:=X9;have M:=ix (NR.o _ (bt E7.o (bt d.o (bt c.o v.o))) (some ⟨g1,0,none⟩) c1 J ((aa.o.keep5 d.o).keep5 (bt c.o v.o)) H1.o i (by rw[I.o];exact ai) (by rw[I.o];exact a7))
              rw[I.o] at M;go_wp2_with fail
              refine M.o.mono ?_;rintro _ wU ⟨rfl,R⟩;have BU:=ix (bt d.o (bt c.o (bt v.o R)));clear R M F G t2;go_wp2_with fail
              go_roundw
              case rel=>exact⟨i+1,by omega,by first|rfl|(go_num;done)|exact bf (Value.int IntKind.i64) (by omega),BU.o⟩
              case measure=>first|(simp[intOf];done)|(simp[intOf];omega)
      . have cd:¬(i:Int)<(b:Int):=by omega
        obtain⟨F,G,t2⟩:=ma (iJ X7.o d.o);go_wp2_with fail
        refine(BK.o _ (bt E7.o d.o)).mono ?_;rintro _ wS ⟨bH,gS,aS,cS,CS,rfl,bL,bB,aZ,_,_,_⟩;have BS:=ix (bt d.o bH)
        have GO:=ix (zR wS gS aS cS CS bL bB (Fy aZ (λp hp=>by have:=LE.o p (gZ.1 hp);omega)) (by
         have e:=bf List.length aZ;rw[i7,gy,bi.o] at e;omega) a1 c1 J (aa.o.keep5 BS.o) (by rw[H1.o];exact aZ) 1073741824 (by omega))
        rw[I.o] at GO;clear bH bL bB aZ F G t2;go_wp2_with fail
        refine GO.o.mono ?_;rintro _ wG ⟨rfl,bF⟩;have BG:=ix (bt BS.o bF);clear bF GO;go_wp2_with fail
        refine(LV.o _).mono ?_;rintro _ wH ⟨rfl,bG⟩;have b2:=ix (bt B4.o (bt E7.o (bt BG.o bG)));clear bG;go_wp2_with fail
        go_ret;exact⟨rfl,b2.o⟩
   . have b9:ba=false:=by cases ba<;>simp_all
     subst b9;go_wp2_with fail
     refine(LV.o _).mono ?_;rintro _ w5 ⟨rfl,ap⟩;have H5:=ix (bt B4.o ap);clear ap;go_wp2_with fail
     go_ret;exact⟨rfl,H5.o⟩
end Go.Proofs.YteaogidofpfmmaaGreat
