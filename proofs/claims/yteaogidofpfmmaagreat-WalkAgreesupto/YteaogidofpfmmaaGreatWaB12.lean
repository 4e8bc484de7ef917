import Derived.Test.YteaogidofpfmmaaGreatWaB8
set_option linter.all false
set_option maxHeartbeats 8000000
set_option maxRecDepth 8000
namespace Go.Proofs.YteaogidofpfmmaaGreat
open Go.Proofs.Tryz
open Go.RowKit
variable {x:Addr}{z:Int}{c cap g i rb:Nat}{col pc:Nat->Nat}{S:Nat->Prop}{a:Option Addr}{t:TypeId}{W w w' w5 wx:World}
def pgC(kind level:Int)(aI:Option Addr)(n cI:Nat)(aD:Option Addr)(m cD:Nat)(next:Int):Array Value:=#[.int .i64 kind,.int .i64 level,.slice aI n cI,.slice aD m cD,.int .i64 next]
theorem Co.item{M L:List Iv}(h:Co w W g cap i M L)(hi:i<L.length):(W.cell? ⟨g,i*4,none⟩=some (.slice (L.getD i Iv.zero).aK (L.getD i Iv.zero).key.length (L.getD i Iv.zero).cK)/\W.cell? ⟨g,i*4+1,none⟩=some (.slice (L.getD i Iv.zero).aV (L.getD i Iv.zero).val.length (L.getD i Iv.zero).cV)/\W.cell? ⟨g,i*4+2,none⟩=some (.int .i64 (L.getD i Iv.zero).child)/\W.cell? ⟨g,i*4+3,none⟩=some (.int .i64 (L.getD i Iv.zero).size))/\(∀o,W.frozen? ⟨g,o,none⟩=false):=by
 have b:(M++L.drop i).getD i Iv.zero=L.getD i Iv.zero:=by
  rw[aM,bP (by rw[h.len];exact am _),h.len,eC,List.getElem?_drop,dp,<-aM]
 have f:i<(M++L.drop i).length:=by rw[af,h.len,dv];omega
 rcases h.j.cases with⟨h0,_⟩|⟨g',cur,ha,hg2,h1,h2,h3,h4⟩
 . cases h0
 . cases ha
   have k:∀{j:Nat}{u:Value},j<4->(L.getD i Iv.zero).cs.toList[j]?=some u->W.cell? ⟨g,i*4+j,none⟩=some u:=λ{j u} d l=>by
    have:=vr (M++L.drop i) i j f d;rw[b,l] at this;have e:=h.j.cells (i*4+j) u this;rwa [Addr.add_mid,de] at e
   exact⟨⟨k (j:=0) (by decide) rfl,k (by decide) rfl,k (by decide) rfl,k (by decide) rfl⟩,λo=>by simp[World.frozen?,hg2]⟩
theorem DD{w w':World}{o:Oper}{a:Act}{K:Act->World->Prop}{Q:Exit->Act->World->Prop}(s x:Operand)
 (e:o.op=.call {callee:=.builtin .append,args:=#[s,x],argTypes:=#[75,75]}) (b d v:Value) (j:a.eval s=b) (k:a.eval x=d) (f:(Builtin.append_ #[75,75] o.type #[b,d]).run prog w=.ok v w')
 (h:K (a.put o.dst v) w'):o.wp prog a w K Q:=by
 unfold Oper.wp execOp;simp only[e,resolve,invoke,builtin,eu,ey,dP,eB,bT,eG,j,k,f];exact h
theorem pq{w w':World}{e:Array Oper}{f:List Oper}{o:Oper}{a:Act}{Q:Exit->Act->World->Prop}(p:o.guard=none)(s x:Operand)
 (k:o.op=.call {callee:=.builtin .append,args:=#[s,x],argTypes:=#[75,75]}) (b d v:Value) (m:a.eval s=b) (n:a.eval x=d) (l:(Builtin.append_ #[75,75] o.type #[b,d]).run prog w=.ok v w')
 (h:wpList prog e Q f (a.put o.dst v) w'):wpList prog e Q (o::f) a w:=
 fP p λ_ j=>DD s x k b d v m n l (j _ _ h)
theorem wP(w:World)(p:Pv)(I:Pi w p)(h0:0<p.items.length)(hd:p.data.length<=140737488355264)(hs:∀x∈p.items,x.key.length<=140737488355264/\x.val.length<=140737488355264):
 Calls prog 67 #[p.vl] w λe w'=>∃q:Pv,e=.returned q.vl/\Pn w w' q/\q.pg=p.pg/\Below w.heap.size w w':=by
 obtain⟨kind,d,aI,s,L,f,m,b,next⟩:=p
 unfold Pv.vl;simp only[Pv.cs] at *;have hL:=I.it.2.1;obtain⟨r,hA,aa⟩:=I.it.all h0;simp only at hL hA aa;subst hA;have aB:=al w (.cells (pgC kind d (some r) L.length s f b.length m next) 77)
 have aC:=bt aB (al (w.alloc (.cells (pgC kind d (some r) L.length s f b.length m next) 77)) (.cells (pgC 0 0 none 0 0 none 0 0 0) 77))
 obtain⟨g,cap,C,aj,hJ,hg,h⟩:=Ch ((w.alloc (.cells (pgC kind d (some r) L.length s f b.length m next) 77)).alloc (.cells (pgC 0 0 none 0 0 none 0 0 0) 77)) 75 r s L (λaf aq hj=>(aC.cell (p:=r.add af) (block_lt_of_cell (aa af aq hj))).trans (aa af aq hj)) h0 hL
 have SZ:((w.alloc (.cells (pgC kind d (some r) L.length s f b.length m next) 77)).alloc (.cells (pgC 0 0 none 0 0 none 0 0 0) 77)).heap.size=w.heap.size+2:=by rw[size_alloc,size_alloc]
 have aG:((w.alloc (.cells (pgC kind d (some r) L.length s f b.length m next) 77)).alloc (.cells (pgC 0 0 none 0 0 none 0 0 0) 77)).heap[w.heap.size]?=some (.cells (pgC kind d (some r) L.length s f b.length m next) 77 (0,0)):=((al (w.alloc (.cells (pgC kind d (some r) L.length s f b.length m next) 77)) (.cells (pgC 0 0 none 0 0 none 0 0 0) 77)).block w.heap.size (by rw[size_alloc];omega)).trans (ag w _)
 have aJ:((w.alloc (.cells (pgC kind d (some r) L.length s f b.length m next) 77)).alloc (.cells (pgC 0 0 none 0 0 none 0 0 0) 77)).heap[w.heap.size+1]?=some (.cells (pgC 0 0 none 0 0 none 0 0 0) 77 (0,0)):=by
  have k:=ag (w.alloc (.cells (pgC kind d (some r) L.length s f b.length m next) 77)) (.cells (pgC 0 0 none 0 0 none 0 0 0) 77)
  rwa [size_alloc] at k
 have ab:=(h.block w.heap.size (by omega)).trans aG
 have aL:=(h.block (w.heap.size+1) (by omega)).trans aJ
 rw[SZ] at hg h;have cS:C.cell? ⟨w.heap.size,2,none⟩=some (.slice (some r) L.length s):=by rw[ai _ _ _ _ _ _ ab];rfl
 have fS:C.frozen? ⟨w.heap.size,2,none⟩=false:=by simp[World.frozen?,ab]
 have aH:=aE C w.heap.size 2 _ 77 (.slice (some ⟨g,0,none⟩) L.length cap) ab;have aM:(C.setCell ⟨w.heap.size,2,none⟩ (.slice (some ⟨g,0,none⟩) L.length cap)).heap[w.heap.size+1]?=_:=(Below.heap_setCell _ _ _ _ (show w.heap.size+1≠w.heap.size by omega)).trans aL
 have bS:But (λk=>k=w.heap.size) C (C.setCell ⟨w.heap.size,2,none⟩ (.slice (some ⟨g,0,none⟩) L.length cap)):=(But.refl (λk=>k=w.heap.size) C).setCell (p:=⟨w.heap.size,2,none⟩) (λ_=>rfl) _
 have av:Below w.heap.size w C:=bt aC (by rw[SZ];exact h)
 have aw:Below w.heap.size w (C.setCell ⟨w.heap.size,2,none⟩ (.slice (some ⟨g,0,none⟩) L.length cap)):=((But.ofBelow (S:=λk=>k=w.heap.size) av).trans bS (λ_ _ e=>e)).below (λk hk e=>by omega)
 have C3:Hid (Co w (C.setCell ⟨w.heap.size,2,none⟩ (.slice (some ⟨g,0,none⟩) L.length cap)) g cap 0 [] L):=⟨hJ.but bS (λx F e=>by cases F;have e:g=w.heap.size:=e;omega),rfl,rfl,Fam.nil _ _,(λ_ aO=>by cases aO),aw,by omega⟩
 have X3:Hid ((C.setCell ⟨w.heap.size,2,none⟩ (.slice (some ⟨g,0,none⟩) L.length cap)).heap[w.heap.size]?=some (.cells (pgC kind d (some ⟨g,0,none⟩) L.length cap f b.length m next) 77 (0,0))):=aH
 have Y3:=ix aM;have HG:=ix hg;have IT:=ix λ(W:World)(hb:Below w.heap.size w W)(i:Nat)(hi:i<L.length)=>(I.it.1 _ (iH hi)).keep hb
 have HS:=ix λ(i:Nat)(hi:i<L.length)=>hs _ (iH hi)
 have CD:=ix λ(W:World)(hb:Below w.heap.size w W)=>mz W f m b (I.bd.keep hb) (ay hd (by decide))
 have D8:=ix I.bd.1;have NK:=ix (And.intro I.nk (And.intro I.nl I.nn));simp only at hd D8 NK;obtain⟨n,hn⟩:∃n,L.length=n:=⟨_,rfl⟩;have HN:=ix hn;have a6:n<=2199023255520:=by omega
 rw[hn] at aj cS X3 C3 Y3;unfold pgC at *;have au:=ix aj;clear aj;clear I h0 hd hs hL aa aB aC hJ hg h SZ aG aJ ab aL aH aM bS av aw;rw[hn];clear hn;go_enter func67,ntmps67;go_wp2_with (at_builtin;refine pq rfl _ _ rfl (.slice none 0 0) (.slice (some r) n s) _ rfl rfl au.o ?_)
 clear au cS fS;generalize C.setCell ⟨w.heap.size,2,none⟩ (.slice (some ⟨g,0,none⟩) n cap)=w3 at *;go_loopw [12] (λi wr=>∃(k:Nat)(M:List Iv),k<=n/\i=.int .i64 (k:Int)/\Co w wr g cap k M L/\wr.heap[w.heap.size]?=some (.cells #[.int .i64 kind,.int .i64 d,.slice (some ⟨g,0,none⟩) n cap,.slice f b.length m,.int .i64 next] 77 (0,0))/\wr.heap[w.heap.size+1]?=some (.cells #[.int .i64 0,.int .i64 0,.slice none 0 0,.slice none 0 0,.int .i64 0] 77 (0,0))) (λi _=>n-(intOf i).toNat)
 case atStart=>exact⟨0,[],an _,rfl,C3.o,X3.o,Y3.o⟩
 case round=>
  obtain⟨i,M,hi,rfl,R,j,y⟩:=hrel;have CO:=ix R;have XR:=ix j;have YR:=ix y;by_cases aS:i<n
  . have V:i<L.length:=by rw[HN.o];exact aS
    have a5:(i:Int)<(n:Int):=by omega
    obtain⟨⟨k0,k1,k2,k3⟩,fz⟩:=R.item V;have l:=ix (bt (al wr (.cells (L.getD i Iv.zero).cs 89)) (Q.drw _));have K:=ix (R.keep l.o);have T0:=ix (ag wr (.cells (L.getD i Iv.zero).cs 89));have a7:w.heap.size+1<wr.heap.size:=(ae.1 y).1;have aZ:g<wr.heap.size:=R.j.lt rfl;have a0:=HG.o;have N:=IT.o _ K.o.b i V;have K1:=ix (mz _ _ (L.getD i Iv.zero).cK _ N.bk (ay (HS.o i V).1 (by decide)))
    have K2:=ix λ(W:World)(hb:Below (wr.alloc (.cells (L.getD i Iv.zero).cs 89)).drew.heap.size (wr.alloc (.cells (L.getD i Iv.zero).cs 89)).drew W)=>mz W _ (L.getD i Iv.zero).cV _ (N.bv.keep hb) (ay (HS.o i V).2 (by decide))
    have IM:=ix λ(W:World)(hb:Below (wr.alloc (.cells (L.getD i Iv.zero).cs 89)).drew.heap.size (wr.alloc (.cells (L.getD i Iv.zero).cs 89)).drew W)=>(K.o.keep hb).item V
    have G1:=ix λ(W1 W2:World)(H T:Option Addr)(c1 c2:Nat)(o1:Own (wr.alloc (.cells (L.getD i Iv.zero).cs 89)).drew W1 H c1 (L.getD i Iv.zero).key)(Z:Own W1 W2 T c2 (L.getD i Iv.zero).val)=>K.o.round V ⟨N.nc,N.ns⟩ N.bk.1 N.bv.1 o1 Z
    have XS:=ix λ(W:World)(hb:Below (wr.alloc (.cells (L.getD i Iv.zero).cs 89)).drew.heap.size (wr.alloc (.cells (L.getD i Iv.zero).cs 89)).drew W)=>(show(W.heap[w.heap.size]?=_/\W.heap[w.heap.size+1]?=_)/\W.heap[wr.heap.size]?=_ from⟨⟨((bt l.o hb).block w.heap.size (by omega)).trans j,((bt l.o hb).block (w.heap.size+1) (by omega)).trans y⟩,(hb.block wr.heap.size (ae.1 (show(wr.alloc _).drew.heap[wr.heap.size]?=_ from T0.o)).1).trans T0.o⟩)
    have RF:=ix (Below.refl (wr.alloc (.cells (L.getD i Iv.zero).cs 89)).drew.heap.size (wr.alloc (.cells (L.getD i Iv.zero).cs 89)).drew);clear R j y N K T0 l CO XR YR;generalize L.getD i Iv.zero=v at *;obtain⟨aK,cK,G,aV,cV,val,child,aU⟩:=v;simp only[Iv.cs] at k0 k1 k2 k3 K1 K2 IM G1 XS RF;have Y:=ix λ(W:World)(h1:W.heap[w.heap.size]?=some (.cells #[.int .i64 kind,.int .i64 d,.slice (some ⟨g,0,none⟩) n cap,.slice f b.length m,.int .i64 next] 77 (0,0)))(h2:W.heap[wr.heap.size]?=some (.cells #[.slice aK G.length cK,.slice aV val.length cV,.int .i64 child,.int .i64 aU] 89 (0,0)))=>(show W.cell? ⟨w.heap.size,2,none⟩=some (.slice (some ⟨g,0,none⟩) n cap)/\W.cell? ⟨wr.heap.size,0,none⟩=some (.slice aK G.length cK)/\W.cell? ⟨wr.heap.size,1,none⟩=some (.slice aV val.length cV) from⟨(jk h1).2.2.1,by rw[ai _ _ _ _ _ _ h2];rfl,by rw[ai _ _ _ _ _ _ h2];rfl⟩)
    have a3:(0:Int)<=(i:Int):=by omega
    go_wp2_with fail
    refine be (S:=λW=>W.cell? ⟨w.heap.size,2,none⟩=some (.slice (some ⟨g,0,none⟩) n cap)/\W.cell? ⟨wr.heap.size,0,none⟩=some (.slice aK G.length cK)/\W.cell? ⟨wr.heap.size,1,none⟩=some (.slice aV val.length cV)) (by kernel_rfl) (Y.o _ (XS.o _ RF.o).1.1 (XS.o _ RF.o).2) (λhHeld=>?_)
    refine tkd 0 1 2 3 ?_;refine tkd 4 5 6 7 ?_;refine tkb 9 10 ?_;refine tw 8 λac O=>?_
    go_simp;refine K1.o.mono ?_;rintro _ w5 ⟨H,c1,rfl,o1⟩;have X:=ix o1;clear o1;go_wp2_with fail
    refine O.o _ _ (Y.o _ (XS.o _ X.o.b).1.1 (XS.o _ X.o.b).2) (λhHeld=>?_)
    refine tw 11 λac O=>?_
    go_simp;refine(K2.o _ X.o.b).mono ?_;rintro _ P ⟨T,c2,rfl,Z⟩;have B6:=ix (bt X.o.b Z.b);have CN:=ix (G1.o _ _ _ _ _ _ X.o Z);obtain⟨⟨i0,i1,-,-⟩,ah⟩:=IM.o _ B6.o;have aX:=ah (i*4);have aY:=ah (i*4+1);obtain⟨⟨ao,aN⟩,ak⟩:=XS.o _ B6.o;have X7:=ix ((Below.heap_setCell P ⟨g,i*4,none⟩ (.slice H G.length c1) w.heap.size (show w.heap.size≠g by omega)).trans ao)
    have T7:=ix ((Below.heap_setCell P ⟨g,i*4,none⟩ (.slice H G.length c1) wr.heap.size (show wr.heap.size≠g by omega)).trans ak)
    have Y7:=ix ((Below.heap_setCell P ⟨g,i*4,none⟩ (.slice H G.length c1) (w.heap.size+1) (show w.heap.size+1≠g by omega)).trans aN)
    have XN:=ix ((Below.heap_setCell (P.setCell ⟨g,i*4,none⟩ (.slice H G.length c1)) ⟨g,i*4+1,none⟩ (.slice T val.length c2) w.heap.size (show w.heap.size≠g by omega)).trans X7.o)
    have TN:=ix ((Below.heap_setCell (P.setCell ⟨g,i*4,none⟩ (.slice H G.length c1)) ⟨g,i*4+1,none⟩ (.slice T val.length c2) wr.heap.size (show wr.heap.size≠g by omega)).trans T7.o)
    have YN:=ix ((Below.heap_setCell (P.setCell ⟨g,i*4,none⟩ (.slice H G.length c1)) ⟨g,i*4+1,none⟩ (.slice T val.length c2) (w.heap.size+1) (show w.heap.size+1≠g by omega)).trans Y7.o)
    have X6:=ix ao;have T6:=ix ak;clear Z ah ao aN ak;go_wp2_with fail
    refine O.o _ _ (Y.o _ X6.o T6.o) (λhHeld=>?_)
    refine tkb 12 13 ?_;refine tw 14 λac O=>?_
    go_simp;refine O.o _ _ (Y.o _ X7.o T7.o) (λhHeld=>?_)
    refine tkb 15 16 ?_;refine tw 17 λac O=>?_
    go_simp;refine O.o _ _ (Y.o _ XN.o TN.o) (λhHeld=>?_)
    refine td ?_;clear hHeld;generalize ((P.setCell ⟨g,i*4,none⟩ (.slice H G.length c1)).setCell ⟨g,i*4+1,none⟩ (.slice T val.length c2))=w7 at *;go_wp2;go_roundw
    case rel=>exact⟨i+1,_,by omega,by go_num,CN.o,XN.o,YN.o⟩
    case measure=>simp[intOf];omega
  . obtain rfl:i=n:=by omega
    have hb:=R.b;have aQ:=ix (CD.o wr hb);obtain⟨x0,x1,x2,x3,x4⟩:=jk j;clear R j y hb;go_wp2_with fail
    refine aQ.o.mono ?_;rintro _ A ⟨D,E,rfl,J⟩;have B:=CO.o.keep J.b;have bx:w.heap.size<wr.heap.size:=(ae.1 XR.o).1;have ax:w.heap.size+1<wr.heap.size:=(ae.1 YR.o).1;have u:=(J.b.block w.heap.size bx).trans XR.o;have ap:=(J.b.block (w.heap.size+1) ax).trans YR.o;have cS:A.cell? ⟨w.heap.size,3,none⟩=some (.slice f b.length m):=(jk u).2.2.2.1;have fS:A.frozen? ⟨w.heap.size,3,none⟩=false:=by simp[World.frozen?,u]
    have x5:=aE A w.heap.size 3 _ 77 (.slice D b.length E) u;have Y5:Hid ((A.setCell ⟨w.heap.size,3,none⟩ (.slice D b.length E)).heap[w.heap.size+1]?=some (.cells #[.int .i64 0,.int .i64 0,.slice none 0 0,.slice none 0 0,.int .i64 0] 77 (0,0))):=(Below.heap_setCell _ _ _ _ (show w.heap.size+1≠w.heap.size by omega)).trans ap
    obtain⟨q0,q1,q2,q3,q4⟩:=jk (show(A.setCell ⟨w.heap.size,3,none⟩ (.slice D b.length E)).heap[w.heap.size]?=some (.cells #[.int .i64 kind,.int .i64 d,.slice (some ⟨g,0,none⟩) i cap,.slice D b.length E,.int .i64 next] 77 (0,0)) from x5)
    have aA:M.length=i:=B.len;have aF:L.drop i=[]:=dw (by rw[HN.o];exact am _)
    have ar:=ix λ(cs:Array Value)=>(show Pn w ((A.setCell ⟨w.heap.size,3,none⟩ (.slice D b.length E)).setRow (w.heap.size+1) cs) ⟨kind,d,some ⟨g,0,none⟩,cap,M,D,E,b,next⟩/\Below w.heap.size w ((A.setCell ⟨w.heap.size,3,none⟩ (.slice D b.length E)).setRow (w.heap.size+1) cs) from by
     have hB:But (λk=>k=w.heap.size\/k=w.heap.size+1) A ((A.setCell ⟨w.heap.size,3,none⟩ (.slice D b.length E)).setRow (w.heap.size+1) cs):=((But.refl (λk=>k=w.heap.size\/k=w.heap.size+1) A).setCell (p:=⟨w.heap.size,3,none⟩) (λ_=>.inl rfl) _).trans (Q.iD _ _ _) (λk _ e=>.inr e)
     have nt:∀{a:Option Addr}{c:Nat}{aP:List Nat},Rw A a c aP->∀x,a=some x->¬(x.block=w.heap.size\/x.block=w.heap.size+1):=λhr x F e=>by
      rcases e with e|e
      . exact hr.nty (show Bx A 77 w.heap.size _ from u) (by decide) F e
      . exact hr.nty (show Bx A 77 (w.heap.size+1) _ from ap) (by decide) F e
     have j4:=B.j;rw[aF,dr] at j4;have aT:=CO.o.b.size;refine⟨⟨j4.but hB (λx F e=>?_),λx F=>.inr (by cases F;exact B.gn),J.r.but hB (nt J.r),J.n.mono aT,λt U=>⟨(B.f.own t U).1.r.but hB (nt (B.f.own t U).1.r),(B.f.own t U).1.n,(B.f.own t U).2⟩,dd.2 ⟨λt U x aW F hy e=>?_,B.f.dist⟩,D8.o,B.n,NK.o.1,NK.o.2.1,NK.o.2.2⟩,?_⟩
     . cases F;have:=HG.o;simp only at e;omega
     . have l1:=(CO.o.f.own t U).1.r.lt hy;rcases J.n x F with⟨z,hz,_⟩|h2
       . cases hz
       . have h2:wr.heap.size<=x.block:=h2;omega
     . exact((But.ofBelow (S:=λk=>k=w.heap.size\/k=w.heap.size+1) B.b).trans hB (λ_ _ e=>e)).below (λk hk e=>by omega))
    have PG:Hid ((⟨kind,d,some ⟨g,0,none⟩,cap,M,D,E,b,next⟩:Pv).pg=(⟨kind,d,some r,s,L,f,m,b,next⟩:Pv).pg):=by
     show _=_;unfold Pv.pg;simp only;have e:=B.e;rw[eU (by rw[HN.o];exact am _)] at e
     rw[e]
    have aR:=ix aA;clear B u ap x5 aA aF J bx ax x0 x1 x2 x3 x4;go_wp2_with (first|(refine bz rfl 77 _ _ rfl (w.heap.size+1) _ rfl rfl 77 _ Y5.o iV rfl (by simp[Value.oneCell']) ?_)|fail)
    refine az (v:=.agg _) (dG results67 _ _ (w.heap.size+1) 77 _ (0,0) _ rfl (bu _ _ _ _ _ _ Y5.o) underlying77 rfl iV) rfl ?_;refine⟨⟨kind,d,some ⟨g,0,none⟩,cap,M,D,E,b,next⟩,?_,(ar.o _).1,PG.o,(ar.o _).2⟩
    simp only[aR.o]
theorem FSx(w:World)(a:Option Addr)(c:Nat):(Builtin.append_ #[75,75] 75 #[.slice none 0 0,.slice a 0 c]).run prog w=.ok (.slice none 0 0) w:=by
 obtain⟨d,b,e,f,h⟩:=eo mS;cases a<;>simp[Builtin.append_,dU underlying75,Builtin.lenOf,sizeOf,typeInfo,b,Builtin.firstCells,loadCells,loadCellsFrom]
theorem xd(w:World)(p:Pv)(C:Pi w p)(l:p.items=[])(hd:p.data.length<=140737488355264):
 Calls prog 67 #[p.vl] w λe w'=>∃q:Pv,e=.returned q.vl/\Pn w w' q/\q.pg=p.pg/\Below w.heap.size w w':=by
 obtain⟨kind,d,j,n,an,f,m,b,next⟩:=p
 simp only at l;subst l;unfold Pv.vl;simp only[Pv.cs] at *;have U:=al w (.cells (pgC kind d j 0 n f b.length m next) 77)
 have G:=bt U (al (w.alloc (.cells (pgC kind d j 0 n f b.length m next) 77)) (.cells (pgC 0 0 none 0 0 none 0 0 0) 77))
 have O:((w.alloc (.cells (pgC kind d j 0 n f b.length m next) 77)).alloc (.cells (pgC 0 0 none 0 0 none 0 0 0) 77)).heap.size=w.heap.size+2:=by rw[size_alloc,size_alloc]
 have D:((w.alloc (.cells (pgC kind d j 0 n f b.length m next) 77)).alloc (.cells (pgC 0 0 none 0 0 none 0 0 0) 77)).heap[w.heap.size]?=some (.cells (pgC kind d j 0 n f b.length m next) 77 (0,0)):=((al (w.alloc (.cells (pgC kind d j 0 n f b.length m next) 77)) (.cells (pgC 0 0 none 0 0 none 0 0 0) 77)).block w.heap.size (by rw[size_alloc];omega)).trans (ag w _)
 have J:((w.alloc (.cells (pgC kind d j 0 n f b.length m next) 77)).alloc (.cells (pgC 0 0 none 0 0 none 0 0 0) 77)).heap[w.heap.size+1]?=some (.cells (pgC 0 0 none 0 0 none 0 0 0) 77 (0,0)):=by
  have k:=ag (w.alloc (.cells (pgC kind d j 0 n f b.length m next) 77)) (.cells (pgC 0 0 none 0 0 none 0 0 0) 77)
  rwa [size_alloc] at k
 obtain⟨r,H⟩:∃r,((w.alloc (.cells (pgC kind d j 0 n f b.length m next) 77)).alloc (.cells (pgC 0 0 none 0 0 none 0 0 0) 77))=r:=⟨_,rfl⟩
 have ab:Hid ((Builtin.append_ #[75,75] 75 #[.slice none 0 0,.slice j 0 n]).run prog ((w.alloc (.cells (pgC kind d j 0 n f b.length m next) 77)).alloc (.cells (pgC 0 0 none 0 0 none 0 0 0) 77))=.ok (.slice none 0 0) r):=by
  show _=_;rw[<-H];exact FSx _ j n
 rw[H] at G O D J;have Z:r.cell? ⟨w.heap.size,2,none⟩=some (.slice j 0 n):=by rw[ai _ _ _ _ _ _ D];rfl
 have L:r.frozen? ⟨w.heap.size,2,none⟩=false:=by simp[World.frozen?,D]
 have ad:=aE r w.heap.size 2 _ 77 (.slice none 0 0) D;have af:(r.setCell ⟨w.heap.size,2,none⟩ (.slice none 0 0)).heap[w.heap.size+1]?=_:=(Below.heap_setCell _ _ _ _ (show w.heap.size+1≠w.heap.size by omega)).trans J
 have X:But (λk=>k=w.heap.size) r (r.setCell ⟨w.heap.size,2,none⟩ (.slice none 0 0)):=(But.refl (λk=>k=w.heap.size) r).setCell (p:=⟨w.heap.size,2,none⟩) (λ_=>rfl) _
 have B3:Hid (Below w.heap.size w (r.setCell ⟨w.heap.size,2,none⟩ (.slice none 0 0))):=((But.ofBelow (S:=λk=>k=w.heap.size) G).trans X (λ_ _ e=>e)).below (λk hk e=>by omega)
 have X3:Hid ((r.setCell ⟨w.heap.size,2,none⟩ (.slice none 0 0)).heap[w.heap.size]?=some (.cells (pgC kind d none 0 0 f b.length m next) 77 (0,0))):=ad
 have Y3:=ix af;have CD:=ix λ(W:World)(hb:Below w.heap.size w W)=>mz W f m b (C.bd.keep hb) (ay hd (by decide))
 have N:=ix C.bd.1;have F:=ix (And.intro C.nk (And.intro C.nl C.nn));simp only at N F;unfold pgC at *;clear C hd U G O D J ad af X H;go_enter func67,ntmps67;go_wp2_with (at_builtin;refine pq rfl _ _ rfl (.slice none 0 0) (.slice j 0 n) _ rfl rfl ab.o ?_)
 clear ab Z L;generalize r.setCell ⟨w.heap.size,2,none⟩ (.slice none 0 0)=w3 at *;go_loopw [12] (λi wr=>i=.int .i64 0/\Below w.heap.size w wr/\wr.heap[w.heap.size]?=some (.cells #[.int .i64 kind,.int .i64 d,.slice none 0 0,.slice f b.length m,.int .i64 next] 77 (0,0))/\wr.heap[w.heap.size+1]?=some (.cells #[.int .i64 0,.int .i64 0,.slice none 0 0,.slice none 0 0,.int .i64 0] 77 (0,0))) (λi _=>0)
 case atStart=>exact⟨rfl,B3.o,X3.o,Y3.o⟩
 case round=>
  obtain⟨rfl,hb,I,ah⟩:=hrel;have M:=ix hb;have P:=ix I;have T:=ix ah;have ak:=ix (CD.o wr hb);obtain⟨x0,x1,x2,x3,x4⟩:=jk I;clear I ah hb;go_wp2_with fail
  refine ak.o.mono ?_;rintro _ s ⟨y,A,rfl,B⟩;have V:=bt M.o B.b;have Y:w.heap.size<wr.heap.size:=(ae.1 P.o).1;have ac:w.heap.size+1<wr.heap.size:=(ae.1 T.o).1;have E:=(B.b.block w.heap.size Y).trans P.o;have K:=(B.b.block (w.heap.size+1) ac).trans T.o;have Z:s.cell? ⟨w.heap.size,3,none⟩=some (.slice f b.length m):=(jk E).2.2.2.1;have L:s.frozen? ⟨w.heap.size,3,none⟩=false:=by simp[World.frozen?,E]
  have x5:=aE s w.heap.size 3 _ 77 (.slice y b.length A) E;have R:Hid ((s.setCell ⟨w.heap.size,3,none⟩ (.slice y b.length A)).heap[w.heap.size+1]?=some (.cells #[.int .i64 0,.int .i64 0,.slice none 0 0,.slice none 0 0,.int .i64 0] 77 (0,0))):=(Below.heap_setCell _ _ _ _ (show w.heap.size+1≠w.heap.size by omega)).trans K
  obtain⟨q0,q1,q2,q3,q4⟩:=jk (show(s.setCell ⟨w.heap.size,3,none⟩ (.slice y b.length A)).heap[w.heap.size]?=some (.cells #[.int .i64 kind,.int .i64 d,.slice none 0 0,.slice y b.length A,.int .i64 next] 77 (0,0)) from x5)
  have aa:=ix λ(cs:Array Value)=>(show Pn w ((s.setCell ⟨w.heap.size,3,none⟩ (.slice y b.length A)).setRow (w.heap.size+1) cs) ⟨kind,d,none,0,[],y,A,b,next⟩/\Below w.heap.size w ((s.setCell ⟨w.heap.size,3,none⟩ (.slice y b.length A)).setRow (w.heap.size+1) cs) from by
   have hB:But (λk=>k=w.heap.size\/k=w.heap.size+1) s ((s.setCell ⟨w.heap.size,3,none⟩ (.slice y b.length A)).setRow (w.heap.size+1) cs):=((But.refl (λk=>k=w.heap.size\/k=w.heap.size+1) s).setCell (p:=⟨w.heap.size,3,none⟩) (λ_=>.inl rfl) _).trans (Q.iD _ _ _) (λk _ e=>.inr e)
   have nt:∀{a:Option Addr}{c:Nat}{aj:List Nat},Rw s a c aj->∀x,a=some x->¬(x.block=w.heap.size\/x.block=w.heap.size+1):=λhr x hx e=>by
    rcases e with e|e
    . exact hr.nty (show Bx s 77 w.heap.size _ from E) (by decide) hx e
    . exact hr.nty (show Bx s 77 (w.heap.size+1) _ from K) (by decide) hx e
   have am:=M.o.size;refine⟨⟨Jw.nil _,New.none _ _,B.r.but hB (nt B.r),B.n.mono am,(λ_ h=>by cases h),ft _ _,N.o,(λ_ h=>by cases h),F.o.1,F.o.2.1,F.o.2.2⟩,?_⟩
   exact((But.ofBelow (S:=λk=>k=w.heap.size\/k=w.heap.size+1) V).trans hB (λ_ _ e=>e)).below (λk hk e=>by omega))
  clear V E K x5 B Y ac x0 x1 x2 x3 x4;go_wp2_with (first|(refine bz rfl 77 _ _ rfl (w.heap.size+1) _ rfl rfl 77 _ R.o iV rfl (by simp[Value.oneCell']) ?_)|fail)
  refine az (v:=.agg _) (dG results67 _ _ (w.heap.size+1) 77 _ (0,0) _ rfl (bu _ _ _ _ _ _ R.o) underlying77 rfl iV) rfl ?_;refine⟨⟨kind,d,none,0,[],y,A,b,next⟩,rfl,(aa.o _).1,rfl,(aa.o _).2⟩
theorem rk(w:World)(p:Pv)(b:Pi w p)(d:p.data.length<=140737488355264)(f:∀x∈p.items,x.key.length<=140737488355264/\x.val.length<=140737488355264):
 Calls prog 67 #[p.vl] w λe w'=>∃q:Pv,e=.returned q.vl/\Pn w w' q/\q.pg=p.pg/\Below w.heap.size w w':=by
 by_cases h:p.items=[]
 . exact xd w p b h d
 . exact wP w p b (bY.2 h) d f
theorem vg(w:World)(b:Nat)(S:Vs)(f d:Nat)(pc col:Nat->Nat)(h:Vw w b S f d pc col)(n:Int):
 Calls prog 93 #[.pointer (some ⟨b,0,none⟩),.int .i64 n] w λe w'=>e=.returned (.bool (decide (0<S.X.P.count n)))/\w'=w:=by
 obtain⟨k,m,j,l,h⟩:=h;exact wV w b _ _ _ pc col h n
def Sml(p:Pv):Prop:=p.data.length<=140737488355264/\∀x∈p.items,x.key.length<=140737488355264/\x.val.length<=140737488355264
theorem D7(w:World)(b:Nat)(S:Vs)(G A:Nat)(pc col:Nat->Nat)(h:Vw w b S G A pc col)(z:Int)(B:Sml (S.X.on z)):
 Calls prog 52 #[.pointer (some ⟨b,0,none⟩),.int .i64 z] w λx w'=>∃q:Pv,x=.returned (.tuple #[q.vl,.int .i64 (if 0<S.X.P.count z then 0 else 15)])/\Pn w w' q/\q.pg=(if 0<S.X.P.count z then (S.X.on z).pg else Pv.zero.pg)/\Below w.heap.size w w':=by
 have n:=al w (.cells Pv.zero.cs 77);have d:=ix (vg _ b S G A pc col (h.keep n) z);have j:=ix (ag w (.cells Pv.zero.cs 77));have m:=ix n;obtain⟨X,Y,s⟩:=h.vx;obtain⟨c0,c1⟩:=s.c01;have ab:=s.lb;have p:=(s.keep n).look z;have f:=ix (rk _ (S.X.on z) ((s.keep n).on_z z).pi B.1 B.2);obtain⟨q,F⟩:∃q,S.X.on z=q:=⟨_,rfl⟩;rw[F] at p f ⊢;clear h s B F n c0;obtain⟨K,L,O,R,U,N,P,T,V⟩:=q;unfold Pv.vl at *;simp only[Pv.cs] at p f j m d;simp only[Pv.zero,bg] at p f j m d;have ad:w.cell? ⟨b,1,none⟩=some (.map (some A)):=c1;have ac:(Instr.lookup 113 (.map (some A)) (.int .i64 z) false).run prog (w.alloc (.cells #[.int .i64 0,.int .i64 0,.slice none 0 0,.slice none 0 0,.int .i64 0] 77))=.ok (.agg #[.int .i64 K,.int .i64 L,.slice O U.length R,.slice N T.length P,.int .i64 V]) (w.alloc (.cells #[.int .i64 0,.int .i64 0,.slice none 0 0,.slice none 0 0,.int .i64 0] 77)):=p;clear p c1;by_cases l:0<S.X.P.count z
 . simp only[if_pos l];rw[ar l] at d;clear l;go_enter func52,ntmps52;go_wp2_with fail
   refine d.o.mono ?_;rintro _ M ⟨rfl,y⟩;obtain rfl:=y.symm;clear y;go_wp2_with fail
   refine f.o.mono ?_;rintro _ Z ⟨r,rfl,D,E,hb⟩;have J:=ix (D.pre m.o.size);have I:=ix E;have H:=ix (bt m.o hb);have C:=ix ((hb.block w.heap.size (ae.1 j.o).1).trans j.o);clear D E hb f d;go_wp2_with (first|(refine bz rfl 77 _ _ rfl w.heap.size _ rfl rfl 77 _ C.o iV rfl (by simp[Value.oneCell']) ?_)|fail)
   refine az (v:=.tuple #[.agg _,_]) (kz results52 _ _ w.heap.size 77 _ (0,0) _ rfl (bu _ _ _ _ _ _ C.o) underlying77 rfl iV) rfl ?_;exact⟨r,rfl,J.o.row C.o (by decide) (by decide) _,I.o,((But.ofBelow (S:=λk=>k=w.heap.size) H.o).trans (Q.iD _ _ _) (λ_ _ e=>e)).below (λk hk e=>by omega)⟩
 . simp only[if_neg l];rw[ah l] at d;clear l f;go_enter func52,ntmps52;go_wp2_with fail
   refine d.o.mono ?_;rintro _ M ⟨rfl,y⟩;obtain rfl:=y.symm;clear y;go_wp2_with (first|(refine bz rfl 77 _ _ rfl w.heap.size _ rfl rfl 77 _ j.o iV rfl (by simp[Value.oneCell']) ?_)|fail)
   refine az (v:=.tuple #[.agg _,_]) (kz results52 _ _ w.heap.size 77 _ (0,0) _ rfl (bu _ _ _ _ _ _ j.o) underlying77 rfl iV) rfl ?_;exact⟨Pv.zero,rfl,Pn.zero _ _,rfl,((But.ofBelow (S:=λk=>k=w.heap.size) m.o).trans (Q.iD _ _ _) (λ_ _ e=>e)).below (λk hk e=>by omega)⟩
theorem jL{v:World}(h:New v none a)(b:a=some x):v.heap.size<=x.block:=by
 rcases h x b with⟨y,hy,_⟩|h2
 . cases hy
 . exact h2
theorem Pn.pz{q:Pv}(h:Pn w w' q)(p:q.items.length<=2199023255520):Pz (λk=>kM col w w' 6 k=6) w' q:=λv j=>by
 have s:∀{a:Option Addr}{c:Nat}{L:List Iv},Jw w' a c L->New w none a->∀x,a=some x->¬ ¬(kM col w w' 6 x.block=6):=λn f x b e=>e (tG (jL f b) (n.lt b))
 have m:∀{a:Option Addr}{c:Nat}{l:List Nat},Rw w' a c l->New w none a->∀x,a=some x->¬ ¬(kM col w w' 6 x.block=6):=λr f x b e=>e (tG (jL f b) (r.lt b))
 exact Pn.pi (v:=w) ⟨h.it.but j (s h.it h.itn),h.itn,h.d.but j (m h.d h.dn),h.dn,λt d=>⟨(h.fr t d).1.but j (m (h.fr t d).1 (h.fr t d).2.1),(h.fr t d).2⟩,h.dist,h.d8,h.ns,h.nk,h.nl,h.nn⟩ p
theorem Vx.page{b:Nat}{X:Vm}{j:Nat}{D:Vd}(h:Vx w b X j D pc col)(hb:Below w.heap.size w w'):Vx w' b X j D pc (kM col w w' 6)/\Vf w col w' (kM col w w' 6):=by
 obtain⟨m,q,h⟩:=h;have k:=h.keep hb;have old:∀{k:Nat},col k≠0->kM col w w' 6 k=col k:=λhk=>th (h.lt _ hk)
 have l:∀{p:Pv},Pz (λk=>col k=6) w' p->Pz (λk=>kM col w w' 6 k=6) w' p:=λs=>s.mono (λk hk e=>by rw[old (by omega)];exact e)
 exact⟨⟨m,q,k.box,k.mp,k.chr,k.acr,k.pool,λn p r=>l (k.fz n p r),λx d=>l (k.cz x d),(old (by rw[h.cb];decide)).trans h.cb,(old (by rw[h.cm];decide)).trans h.cm,λx d=>(old (by rw[h.cc x d];decide)).trans (h.cc x d),λx d=>(old (by rw[h.ca x d];decide)).trans (h.ca x d),λn f=>(old (by rw[h.cp n f];decide)).trans (h.cp n f),λn f=>DV hb.size f⟩,But.ofBelow hb,λn f=>th f⟩
theorem iJ{b:World}{o:Obj}(h:W.heap[g]?=some o)(hb:Below W.heap.size W b):b.heap[g]?=some o:=(hb.block _ (ae.1 h).1).trans h
theorem Vw.but13{b:Nat}{T:Vs}{e d:Nat}(h:Vw w b T e d pc col)(hb:But S w w')(n:∀k,col k≠0->¬S k):Vw w' b T e d pc col:=by
 obtain⟨j,m,f,l,h⟩:=h;exact⟨j,m,f,l,h.but hb n⟩
theorem Rw.nty13{l:List Nat}(h:Rw w a c l){cs:Array Value}(d:w.heap[g]?=some (.cells cs t (0,0)))(f:t≠5)(b:a=some x):x.block≠g:=by
 intro e;rcases h.cases with⟨h0,_⟩|⟨g',cur,ha,hg',_⟩
 . rw[h0] at b;cases b
 . rw[ha] at b;cases b;subst e;rw[d] at hg';cases hg';exact f rfl
theorem zC(n:Nat):(madeCells #[.int .u8 0] n).size=n:=by
 exact size_madeCells _ _
def mM:Value->Nat
 | .slice _ n _=>n
 |_=>0
theorem lc{b:Nat}{v0 d e v3:Value}(h:W.heap[b]?=some (.cells #[v0,d,e,v3] t (0,0))):W.cell? ⟨b,0,none⟩=some v0/\W.cell? ⟨b,1,none⟩=some d/\W.cell? ⟨b,2,none⟩=some e/\W.cell? ⟨b,3,none⟩=some v3:=by
 refine⟨?_,?_,?_,?_⟩<;>(rw[ai _ _ _ _ _ _ h];rfl)
theorem zu(cs:Array Value)(hb:Below w.heap.size w W)(b:w.heap.size<=g):Below w.heap.size w (W.setRow g cs):=((But.ofBelow (S:=λk=>k=g) hb).trans (xf W g cs) (λ_ _ e=>e)).below (λk hk e=>by omega)
theorem yG(w:World)(v:Value)(x:Iv)(l:Bs w x.aV x.val)(j:x.val.length<=32)(m:x.size=(x.val.length:Int)):
 Calls prog 44 #[v,x.vl] w λe w'=>∃(a:Option Addr)(c:Nat),e=.returned (.tuple #[.slice a x.val.length c,.int .i64 0])/\Own w w' a c x.val:=by
 have b:=ix (al w (.cells x.cs 89));have h:=ix (bj w (.cells x.cs 89));have f:=ix (mz (w.alloc (.cells x.cs 89)) x.aV x.cV x.val (l.keep b.o) (by omega))
 clear l;obtain⟨F,H,L,G,I,n,J,K⟩:=x;simp only at m j;subst m;unfold Iv.vl;simp only[Iv.cs] at b h f ⊢;obtain⟨s,k⟩:∃s,n.length=s:=⟨_,rfl⟩;rw[k] at j f b h ⊢;clear k;have q:decide ((s:Int)<0)=false:=ah (by omega)
 have r:decide ((3840:Int)<(s:Int))=false:=ah (by omega)
 have y:decide ((32:Int)<(s:Int))=false:=ah (by omega)
 have A:((s:Int) != (s:Int))=false:=by simp
 obtain⟨B,C,D,E⟩:=lc h.o;go_enter func44,ntmps44;go_wp2_with fail
 refine f.o.mono ?_;rintro _ w3 ⟨a,c,rfl,d⟩;have p:Hid (Own w w3 a c n):=⟨d.r,d.n.mono b.o.size,bt b.o d.b⟩;clear d;go_wp2_with fail
 refine az (dh rfl _ _ _) rfl ?_;exact⟨a,c,rfl,p.o⟩
structure Rd where
 R:Int
 aC:Option Addr
 cC:Nat
 C:List Int
 aL:Option Addr
 cL:Nat
 L:List Bool
 aP:Option Addr
 cP:Nat
 P:List Pv
 aA:Option Addr
 nA:Nat
 cA:Nat
 fl:Int
 hush:Bool
def Rd.box(D:Rd):Array Value:=#[.int .i64 D.R,.slice D.aC D.C.length D.cC,.slice D.aL D.L.length D.cL,.slice D.aP D.P.length D.cP,.slice D.aA D.nA D.cA,.int .i64 D.fl,.bool D.hush]
def vbl(L:List Bool):List Value:=L.map Value.bool
def vpg(P:List Pv):List Value:=(P.map λp=>p.cs.toList).flatten
theorem ot:∀(L:List Pv),(vpg L).length=L.length*5
 | []=>rfl
 |x::L=>by
  have:=ot L;simp only[vpg,bT,dY,af,a7,Pv.cs] at this ⊢;simp only[bg] at this ⊢;omega
theorem pB:∀(L:List Pv)(i k:Nat),i<L.length->k<5->(vpg L)[i*5+k]?=(L.getD i Pv.zero).cs.toList[k]?
 | [],i,k,h,_=>absurd h (dA _)
 |x::L,0,k,h,hk=>by
  have b:x.cs.toList.length=5:=rfl;simp only[vpg,bT,dY,eV,de];rw[db (by omega)]
  rfl
 |x::L,i+1,k,h,hk=>by
  have b:x.cs.toList.length=5:=rfl;have d:=pB L i k (by simpa using h) hk
  simp only[vpg,bT,dY] at d ⊢;rw[bP (by omega),b,show(i+1)*5+k-5=i*5+k by omega,d]
  rfl
structure Rq(w:World)(rb:Nat)(D:Rd)(col:Nat->Nat):Prop where
 box:w.heap[rb]?=some (.cells D.box 109 (0,0))
 cr:Q.Ig w D.aC D.cC D.C
 lr:Q.Gw 4 1 w D.aL D.cL D.L.length (vbl D.L)
 pr:Q.Gw 77 5 w D.aP D.cP D.P.length (vpg D.P)
 pz:∀p∈D.P,Pz (λk=>col k=6) w p
 ps:∀p∈D.P,p.pg.check=0\/p=Pv.zero
 cb:col rb=1
 cc:∀x,D.aC=some x->col x.block=2
 cl:∀x,D.aL=some x->col x.block=3
 cp:∀x,D.aP=some x->col x.block=4
 lt:∀k,col k≠0->k<w.heap.size
 nL:D.L.length=D.C.length
 nP:D.P.length=D.C.length
 n6:D.C.length<=65536
theorem Rq.but{D:Rd}(h:Rq w rb D col)(hb:But S w w')(f:∀k,col k≠0->¬S k):Rq w' rb D col:=by
 have d:∀{k c:Nat},col k=c+1->¬S k:=λe=>f _ (by omega)
 exact⟨hb.same h.box (d (c:=0) h.cb),h.cr.but hb (λx b=>d (c:=1) (h.cc x b)),h.lr.but hb (λx b=>d (c:=2) (h.cl x b)),h.pr.but hb (λx b=>d (c:=3) (h.cp x b)),λp j=>(h.pz p j).but hb (λk _ e=>d (c:=5) e),h.ps,h.cb,h.cc,h.cl,h.cp,λk hk=>a6 (h.lt k hk) hb.size,h.nL,h.nP,h.n6⟩
theorem Rq.keep{D:Rd}(h:Rq w rb D col)(hb:Below w.heap.size w w'):Rq w' rb D col:=h.but (S:=λ_=>False) (But.ofBelow hb) (λ_ _ h=>h)
theorem Rq.lb{D:Rd}(h:Rq w rb D col):rb<w.heap.size:=(ae.1 h.box).1
theorem Rq.cells{D:Rd}(h:Rq w rb D col):w.cell? ⟨rb,0,none⟩=some (.int .i64 D.R)/\w.cell? ⟨rb,1,none⟩=some (.slice D.aC D.C.length D.cC)/\w.cell? ⟨rb,2,none⟩=some (.slice D.aL D.L.length D.cL)/\w.cell? ⟨rb,3,none⟩=some (.slice D.aP D.P.length D.cP)/\w.cell? ⟨rb,6,none⟩=some (.bool D.hush):=by
 rw[ai _ _ _ _ _ _ h.box,ai _ _ _ _ _ _ h.box,ai _ _ _ _ _ _ h.box,ai _ _ _ _ _ _ h.box,ai _ _ _ _ _ _ h.box];exact⟨rfl,rfl,rfl,rfl,rfl⟩
def Rd.has(D:Rd)(z:Int):Bool:=decide (1<=z)&&decide (z<=D.C.length)
def Rd.count(D:Rd)(z:Int):Int:=if D.has z then D.C.getD (z-1).toNat 0 else 0
def Rd.on(D:Rd)(z:Int):Pv:=D.P.getD (z-1).toNat Pv.zero
theorem Rd.has_iff{D:Rd}:D.has z=true↔1<=z/\z<=D.C.length:=by unfold Rd.has;simp
theorem Rq.cAt{D:Rd}(h:Rq w rb D col)(hi:i<D.C.length):∃g,D.aC=some ⟨g,0,none⟩/\w.cell? ⟨g,i,none⟩=some (.int .i64 (D.C.getD i 0)):=by
 rcases h.cr.cases with⟨_,_,e⟩|⟨g,cur,e,_⟩
 . rw[e] at hi;exact absurd hi (dA _)
 . refine⟨g,e,?_⟩;have k:=h.cr;rw[e] at k;exact k.cell hi
theorem Rq.pAt{D:Rd}(h:Rq w rb D col)(hi:i<D.C.length):∃g,D.aP=some ⟨g,0,none⟩/\∀k u,k<5->(D.P.getD i Pv.zero).cs.toList[k]?=some u->w.cell? ⟨g,i*5+k,none⟩=some u:=by
 have b:i<D.P.length:=by rw[h.nP];exact hi
 obtain⟨g,e⟩:=h.pr.addr (by omega)
 refine⟨g,e,λk u hk d=>?_⟩
 have r:=h.pr;rw[e] at r;exact r.cell (by rw[pB D.P i k b hk];exact d)
theorem Rd.on_mem{D:Rd}(h:Rq w rb D col)(b:D.has z=true):D.on z∈D.P:=by
 obtain⟨d,e⟩:=Rd.has_iff.1 b;have:(z-1).toNat<D.P.length:=by rw[h.nP];omega
 unfold Rd.on;generalize (z-1).toNat=k at this;simp[this]
theorem mC{p:Pv}(h:p.pg.check=0\/p=Pv.zero):Sml p/\p.items.length<=1048576:=by
 rcases h with h|rfl
 . obtain⟨A,f,v,B⟩:=Pg.check_zero.1 h;unfold Pg.form at f;have l:p.pg.items.length=p.items.length:=bM _;have y:p.pg.data=p.data:=rfl
   have C:p.items.length<=8/\p.data.length<=480:=by
    rw[l,y] at f;split at f
    all_goals
     simp only[ce,cZ] at f;omega
   refine⟨⟨by omega,λx j=>?_⟩,by omega⟩
   obtain⟨i,m,e⟩:=go j
   have n:p.pg.at i=x.it:=by
    unfold Pg.at;show(p.items.map Iv.it).getD i It.zero=x.it;simp[aM,m,e]
   have k:=v i (by rw[l];exact m)
   unfold Pg.itemE at k
   have d:p.pg.keyOk i=true:=by
    cases e:p.pg.keyOk i with
    |true=>rfl
    |false=>rw[if_pos e] at k;cases k
   rw[if_neg (by rw[d];decide)] at k
   have q:p.pg.ordOk i=true:=by
    cases e:p.pg.ordOk i with
    |true=>rfl
    |false=>rw[if_pos e] at k;cases k
   rw[if_neg (by rw[q];decide)] at k
   have b:(p.pg.at i).valOk p.pg.kind=true:=by
    cases e:(p.pg.at i).valOk p.pg.kind with
    |true=>rfl
    |false=>rw[if_pos e] at k;cases k
   rw[n] at b;unfold Pg.keyOk at d;rw[n] at d;unfold It.valOk at b;have r:x.it.key=x.key:=rfl;have s:x.it.val=x.val:=rfl;rw[r] at d;rw[s] at b;constructor
   . split at d
     . simp at d;rw[d];exact an _
     . simp only[ce,cZ] at d;omega
   . split at b
     . simp only[ce,cZ] at b;omega
     . split at b
       . cases b
       . split at b
         all_goals
          simp only[cZ] at b;omega
 . exact⟨⟨an _,λx j=>absurd j (cf)⟩,an _⟩
theorem pT(w:World)(r:Int):Calls prog 159 #[.int .i64 r] w λe w'=>e=.returned (.bool (decide (2<=r)&&decide (r<65536)))/\w'=w:=by
 by_cases h:2<=r
 . go_enter func159,ntmps159;go_wp2;go_ret;exact⟨by simp[h],rfl⟩
 . go_enter func159,ntmps159;go_wp2;go_ret;exact⟨by rw[ah (show ¬(2<=r) by omega)];rfl,rfl⟩
theorem EU(w:World)(rb:Nat)(D:Rd)(col:Nat->Nat)(h:Rq w rb D col)(n:Int):Calls prog 129 #[.pointer (some ⟨rb,0,none⟩),.int .i64 n] w λe w'=>e=.returned (.bool (D.has n))/\w'=w:=by
 obtain⟨c0,c1,c2,c3,d⟩:=h.cells;unfold Rd.has;generalize D.C.length=m at *;by_cases b:1<=n
 . go_enter func129,ntmps129;go_wp2;go_ret;exact⟨by simp[b],rfl⟩
 . go_enter func129,ntmps129;go_wp2;go_ret;exact⟨by rw[ah (show ¬(1<=n) by omega)];rfl,rfl⟩
theorem mE(w:World)(rb:Nat)(D:Rd)(col:Nat->Nat)(h:Rq w rb D col)(n:Int):Calls prog 84 #[.pointer (some ⟨rb,0,none⟩),.int .i64 n] w λe w'=>e=.returned (.bool (decide (0<D.count n)))/\w'=w:=by
 obtain⟨c0,c1,c2,c3,q⟩:=h.cells;have f:=ix (EU w rb D col h n);by_cases b:D.has n=true
 . obtain⟨s,v⟩:=Rd.has_iff.1 b;obtain⟨i,j⟩:∃i:Nat,n=(i:Int)+1:=⟨(n-1).toNat,by omega⟩
   subst j;have j:i<D.C.length:=by omega
   obtain⟨g,e,r⟩:=h.cAt j;have d:D.count ((i:Int)+1)=D.C.getD i 0:=by unfold Rd.count;rw[if_pos b];simp
   rw[d];rw[b] at f;rw[e] at c1;have A:(i:Int)+1-1=(i:Int):=by omega
   have B:(i:Int)<(D.C.length:Int):=by omega
   have y:=h.n6;clear h d b;generalize D.C.length=m at *;generalize D.C.getD i 0=x at *;go_enter func84,ntmps84;go_wp2_with fail
   refine f.o.mono ?_;rintro _ p ⟨rfl,k⟩;obtain rfl:=k.symm;go_wp2;go_ret;exact⟨rfl,rfl⟩
 . have l:D.has n=false:=by simpa using b
   have d:D.count n=0:=by unfold Rd.count;rw[if_neg b]
   rw[d];rw[l] at f;clear h d b l;go_enter func84,ntmps84;go_wp2_with fail
   refine f.o.mono ?_;rintro _ p ⟨rfl,k⟩;obtain rfl:=k.symm;go_wp2;go_ret;exact⟨rfl,rfl⟩
theorem uT(w:World)(rb:Nat)(D:Rd)(col:Nat->Nat)(h:Rq w rb D col):Calls prog 51 #[.pointer (some ⟨rb,0,none⟩)] w λe w'=>e=.returned (.int .i64 ((D.C.length:Nat):Int))/\w'=w:=by
 obtain⟨c0,c1,c2,c3,b⟩:=h.cells;generalize D.C.length=m at *;go_enter func51,ntmps51;go_wp2;go_ret;exact⟨rfl,rfl⟩
theorem Be(w:World)(rb:Nat)(D:Rd)(col:Nat->Nat)(h:Rq w rb D col)(n:Int):
 Calls prog 53 #[.pointer (some ⟨rb,0,none⟩),.int .i64 n] w λx w'=>∃q:Pv,x=.returned (.tuple #[q.vl,.int .i64 (if 0<D.count n then 0 else 15)])/\Pn w w' q/\q.items.length<=1048576/\q.pg=(if 0<D.count n then (D.on n).pg else Pv.zero.pg)/\Below w.heap.size w w':=by
 have A:=al w (.cells Pv.zero.cs 77);have b:=ix (mE _ rb D col (h.keep A) n);have d:=ix (ag w (.cells Pv.zero.cs 77));have j:=ix A;have aj:=h.lb;by_cases f:0<D.count n
 . simp only[if_pos f]
   have C:D.has n=true:=by
    unfold Rd.count at f;split at f
    . assumption
    . omega
   obtain⟨Z,m⟩:=Rd.has_iff.1 C;obtain⟨i,E⟩:∃i:Nat,n=(i:Int)+1:=⟨(n-1).toNat,by omega⟩
   subst E;have E:i<D.C.length:=by omega
   obtain⟨g,e,l⟩:=h.pAt E;obtain⟨c0,c1,c2,c3,Y⟩:=h.cells;rw[e,h.nP] at c3;have R:D.on ((i:Int)+1)=D.P.getD i Pv.zero:=by unfold Rd.on;simp
   have F:=Rd.on_mem h C;obtain⟨sm,G⟩:=mC (h.ps _ F);have p:=ix (qb _ (D.on ((i:Int)+1)) ((h.keep A).pz _ F).pi sm.1 G sm.2);have B:=ix G;have hs:(i:Int)+1-1=(i:Int):=by omega
   have ak:(i:Int)<(D.C.length:Int):=by omega
   have h6:=h.n6;rw[ar f] at b;rw[R] at p B ⊢;clear h f C F sm G R A c0 c1 c2 Y Z m;generalize D.C.length=aa at *;obtain⟨q,P⟩:∃q,D.P.getD i Pv.zero=q:=⟨_,rfl⟩;rw[P] at p l B ⊢;clear P;obtain⟨kp,lp,ac,af,am,ab,ad,ai,ao⟩:=q;have s:=l 0 _ (by decide) rfl
   have H:=l 1 _ (by decide) rfl
   have I:=l 2 _ (by decide) rfl
   have J:=l 3 _ (by decide) rfl
   have K:=l 4 _ (by decide) rfl
   rw[dp] at s;have gl:g<w.heap.size:=block_lt_of_cell s;clear l;unfold Pv.vl at *;simp only[Pv.cs] at p d j b s H I J K;simp only[Pv.zero,bg] at p d j b s H I J K c3;go_enter func53,ntmps53;go_wp2_with fail
   refine b.o.mono ?_;rintro _ wq ⟨rfl,y⟩;obtain rfl:=y.symm;clear y;go_wp2_with fail
   refine p.o.mono ?_;rintro _ w2 ⟨r,rfl,M,O,N,hb⟩;have X:=ix (M.pre j.o.size);have U:=ix N;have V:=ix O;have T:=ix (bt j.o hb);have L:=ix ((hb.block w.heap.size (ae.1 d.o).1).trans d.o);clear M N hb p b s H I J K c3 O;go_wp2_with (first|(refine bz rfl 77 _ _ rfl w.heap.size _ rfl rfl 77 _ L.o iV rfl (by simp[Value.oneCell']) ?_)|fail)
   refine az (v:=.tuple #[.agg _,_]) (kz results53 _ _ w.heap.size 77 _ (0,0) _ rfl (bu _ _ _ _ _ _ L.o) underlying77 rfl iV) rfl ?_;exact⟨r,rfl,X.o.row L.o (by decide) (by decide) _,by rw[V.o];exact B.o,U.o,((But.ofBelow (S:=λk=>k=w.heap.size) T.o).trans (Q.iD _ _ _) (λ_ _ e=>e)).below (λk hk e=>by omega)⟩
 . simp only[if_neg f];rw[ah f] at b;clear f h;unfold Pv.vl at *;simp only[Pv.cs] at d j b;simp only[Pv.zero,bg] at d j b;go_enter func53,ntmps53;go_wp2_with fail
   refine b.o.mono ?_;rintro _ wq ⟨rfl,y⟩;obtain rfl:=y.symm;clear y;go_wp2_with (first|(refine bz rfl 77 _ _ rfl w.heap.size _ rfl rfl 77 _ d.o iV rfl (by simp[Value.oneCell']) ?_)|fail)
   refine az (v:=.tuple #[.agg _,_]) (kz results53 _ _ w.heap.size 77 _ (0,0) _ rfl (bu _ _ _ _ _ _ d.o) underlying77 rfl iV) rfl ?_;exact⟨Pv.zero,rfl,Pn.zero _ _,an _,rfl,((But.ofBelow (S:=λk=>k=w.heap.size) j.o).trans (Q.iD _ _ _) (λ_ _ e=>e)).below (λk hk e=>by omega)⟩
theorem Q.Gw.blk{e:TypeId}{sz:Nat}{n:Nat}{C:List Value}(h:Q.Gw e sz w a cap n C)(b:a=some x):∃cur,w.heap[x.block]?=some (.cells cur e (0,0)):=by
 rcases h.cases with⟨e1,_⟩|⟨g,cur,e1,hg,_⟩
 . rw[e1] at b;cases b
 . rw[e1] at b;cases b;exact⟨cur,hg⟩
theorem jd{k b:Nat}{c f:Array Value}{d:TypeId}(h:w.heap[k]?=some (.cells c t (0,0)))(j:w.heap[b]?=some (.cells f d (0,0)))(l:t≠d):k≠b:=λe=>by
 rw[e,j] at h;simp only[au,eK] at h;exact l h.2.1.symm
theorem sO{d b:TypeId}{sz bs:Nat}{z:Value}(F:prog.underlying d=some (.slice b))(M:(prog.info? b).map (λi=>(i.zero,i.size,i.bytes))=some (some z,sz,bs))(k:z.cells.size=sz)(q:0<sz)(w:World)(p:TypeId)(a:Option Addr)(n cap:Nat)(C:List Value)(s:Q.Gw b sz w a cap n C)(h:Addr)(c:Nat)(xs:List Value)(B:xs.length=1*sz)(v:∀j u,xs[j]?=some u->w.cell? (h.add j)=some u)(r:∀u∈xs,u.oneCell'=true)(D:n+1<=maxLen)(L:(n+1)*bs<=140737488355328):
 ∃g f w',(Builtin.append_ #[d,d] p #[.slice a n cap,.slice (some h) 1 c]).run prog w=.ok (.slice (some ⟨g,0,none⟩) (n+1) f) w'/\
  Q.Gw b sz w' (some ⟨g,0,none⟩) f (n+1) (C++xs)/\New w a (some ⟨g,0,none⟩)/\But (Q.InA a) w w':=by
 obtain⟨G,A,I,J,K⟩:=eo M;obtain⟨g,f,w',E,H,m,k3,N⟩:=fD (P:=prog) w d p 0 b G z sz bs F A I J K k q (.slice a n cap) n C s h 1 c xs B v r (by decide) D L (an _) w.heap.size rfl
 rw[pD] at m k3;refine⟨g,f,w',E,H,?_,But.inA m⟩;intro y l;simp only[au] at l;subst l;rcases k3 with k3|k3
 . obtain⟨z,k,e⟩:=map_some k3;exact .inl ⟨z,k,e⟩
 . exact .inr (by show _<=g;omega)
theorem jq{k d:TypeId}{sz bs:Nat}{z:Value}(H:prog.underlying k=some (.slice d))(R:(prog.info? d).map (λi=>(i.zero,i.size,i.bytes))=some (some z,sz,bs))(J:z.cells.size=sz)(q:0<sz){w:World}{m:Array Oper}{p:List Oper}{o:Oper}{a:Act}{l:Exit->Act->World->Prop}(O:o.guard=none)(s x:Operand)
 (E:o.op=.call {callee:=.builtin .append,args:=#[s,x],argTypes:=#[k,k]}) (b:Option Addr) (n cap:Nat) (C:List Value) (G:a.eval s=.slice b n cap) (y:Q.Gw d sz w b cap n C)
 (f:Addr) (c:Nat) (xs:List Value) (I:a.eval x=.slice (some f) 1 c) (B:xs.length=1*sz) (A:∀j u,xs[j]?=some u->w.cell? (f.add j)=some u) (r:∀u∈xs,u.oneCell'=true) (D:n+1<=maxLen) (P:(n+1)*bs<=140737488355328)
 (h:∀g e w',Q.Gw d sz w' (some ⟨g,0,none⟩) e (n+1) (C++xs)->New w b (some ⟨g,0,none⟩)->But (Q.InA b) w w'->wpList prog m l p (a.put o.dst (.slice (some ⟨g,0,none⟩) (n+1) e)) w'):wpList prog m l (o::p) a w:=
 fP O λK v=>by
  obtain⟨g,e,w',F,L,M,N⟩:=sO H R J q w o.type b n cap C y f c xs B A r D P;unfold Oper.wp execOp;simp only[E,resolve,invoke,builtin,eu,ey,dP,eB,bT,eG,G,I,F];exact v _ _ (h g e w' L M N)
theorem uF:(prog.info? 4).map (λi=>(i.zero,i.size,i.bytes))=some (some (.bool false),1,1):=by kernel_rfl
theorem Ap:(prog.info? 77).map (λi=>(i.zero,i.size,i.bytes))=some (some (.agg Pv.zero.cs),5,72):=by kernel_rfl
theorem li:(prog.info? 3).map (λi=>(i.zero,i.size,i.bytes))=some (some (.int .i64 0),1,8):=by kernel_rfl
theorem nU(l:List Int)(x:Int):Q.vi l++[.int .i64 x]=Q.vi (l++[x]):=by simp[Q.vi]
theorem uB(l:List Bool)(x:Bool):vbl l++[.bool x]=vbl (l++[x]):=by simp[vbl]
theorem Dy(l:List Pv)(x:Pv):vpg l++x.cs.toList=vpg (l++[x]):=by simp[vpg]
structure Rn(w wx:World)(rb:Nat)(D:Rd):Prop where
 box:wx.heap[rb]?=some (.cells D.box 109 (0,0))
 cr:Q.Gw 3 1 wx D.aC D.cC D.C.length (Q.vi D.C)
 lr:Q.Gw 4 1 wx D.aL D.cL D.L.length (vbl D.L)
 pr:Q.Gw 77 5 wx D.aP D.cP D.P.length (vpg D.P)
 pn:∀p∈D.P,Pn w wx p
 ps:∀p∈D.P,p.pg.check=0\/p=Pv.zero
 nb:w.heap.size<=rb
 nC:New w none D.aC
 nl:New w none D.aL
 np:New w none D.aP
 b:Below w.heap.size w wx
theorem Rn.keep{b:World}{D:Rd}(h:Rn w wx rb D)(hb:Below wx.heap.size wx b):Rn w b rb D:=
 ⟨iJ h.box hb,h.cr.keep hb,h.lr.keep hb,h.pr.keep hb,λp d=>(h.pn p d).keep hb,h.ps,h.nb,h.nC,h.nl,h.np,bt h.b hb⟩
theorem Rn.lb{D:Rd}(h:Rn w wx rb D):rb<wx.heap.size:=(ae.1 h.box).1
theorem Rn.cells{D:Rd}(h:Rn w wx rb D):wx.cell? ⟨rb,0,none⟩=some (.int .i64 D.R)/\wx.cell? ⟨rb,1,none⟩=some (.slice D.aC D.C.length D.cC)/\wx.cell? ⟨rb,2,none⟩=some (.slice D.aL D.L.length D.cL)/\wx.cell? ⟨rb,3,none⟩=some (.slice D.aP D.P.length D.cP)/\wx.frozen? ⟨rb,1,none⟩=false/\wx.frozen? ⟨rb,2,none⟩=false/\wx.frozen? ⟨rb,3,none⟩=false:=by
 rw[ai _ _ _ _ _ _ h.box,ai _ _ _ _ _ _ h.box,ai _ _ _ _ _ _ h.box,ai _ _ _ _ _ _ h.box];exact⟨rfl,rfl,rfl,rfl,by simp[World.frozen?,h.box],by simp[World.frozen?,h.box],by simp[World.frozen?,h.box]⟩
theorem qB(h:New w none a)(b:New W a (some ⟨g,0,none⟩))(d:w.heap.size<=W.heap.size):New w none (some ⟨g,0,none⟩):=λy f=>by
 cases f;refine .inr ?_;rcases b ⟨g,0,none⟩ rfl with⟨z,hz,e⟩|e
 . have e:z.block=g:=e;show _<=g;rw[<-e];exact jL h hz
 . exact ay d e
theorem Rn.low{v:Value}(hb:Below w.heap.size w W)(f:New w none a)(d:But (Q.InA a) W w5)(j:w.heap.size<=rb):Below w.heap.size w (w5.setCell ⟨rb,i,none⟩ v):=by
 have b:But (λk=>k=rb\/Q.InA a k) w w5:=(But.ofBelow (S:=λk=>k=rb\/Q.InA a k) hb).trans d (λ_ _ e=>.inr e)
 exact(b.setCell (p:=⟨rb,i,none⟩) (λ_=>.inl rfl) v).below (λk hk e=>by
  rcases e with e|⟨y,h,e⟩
  . omega
  . have:=jL f h;omega)
theorem Rn.apC{D:Rd}(h:Rn w W rb D){x:Int}(r:Q.Gw 3 1 w5 (some ⟨g,0,none⟩) c (D.C.length+1) (Q.vi D.C++[Value.int .i64 x]))(G:New W D.aC (some ⟨g,0,none⟩))(j:But (Q.InA D.aC) W w5):
 Rn w (w5.setCell ⟨rb,1,none⟩ (.slice (some ⟨g,0,none⟩) (D.C.length+1) c)) rb {D with aC:=some ⟨g,0,none⟩,cC:=c,C:=D.C++[x]}:=by
 have B:∀{t:TypeId}{k:Nat}{cs:Array Value},W.heap[k]?=some (.cells cs t (0,0))->t≠3->¬Q.InA D.aC k:=λhk q ⟨y,d,e⟩=>by
  obtain⟨f,b⟩:=h.cr.blk d;exact jd hk b q e.symm
 have l:w5.heap[rb]?=some (.cells D.box 109 (0,0)):=j.same h.box (B h.box (by decide))
 have bs:But (λk=>k=rb) w5 (w5.setCell ⟨rb,1,none⟩ (.slice (some ⟨g,0,none⟩) (D.C.length+1) c)):=(But.refl (λk=>k=rb) w5).setCell (p:=⟨rb,1,none⟩) (λ_=>rfl) _
 have nb:∀{t:TypeId}{k:Nat}{cs:Array Value},w5.heap[k]?=some (.cells cs t (0,0))->t≠109->¬(k=rb):=λhk q e=>jd hk l q e
 have A:∀{e:TypeId}{sz:Nat}{a:Option Addr}{cap n:Nat}{C:List Value},e≠3->e≠109->Q.Gw e sz W a cap n C->Q.Gw e sz (w5.setCell ⟨rb,1,none⟩ (.slice (some ⟨g,0,none⟩) (D.C.length+1) c)) a cap n C:=λE F s=>by
  have v:=s.but j (λy d=>by obtain⟨f,b⟩:=s.blk d;exact B b E)
  exact v.but bs (λy d=>by obtain⟨f,b⟩:=v.blk d;exact nb b F)
 have mp:∀p:Pv,Pn w W p->Pn w (w5.setCell ⟨rb,1,none⟩ (.slice (some ⟨g,0,none⟩) (D.C.length+1) c)) p:=λp m=>by
  have H:=m.but j (λk ⟨y,d,e⟩=>by obtain⟨f,b⟩:=h.cr.blk d;exact⟨3,f,by rw[<-e];exact b,by decide,by decide⟩)
  exact H.but bs (λk e=>⟨109,D.box,by rw[e];exact l,by decide,by decide⟩)
 refine⟨?_,(by show Q.Gw _ _ _ _ _ (D.C++[x]).length _;rw[af,<-nU];exact r.but bs (λy d=>by obtain⟨f,b⟩:=r.blk d;exact nb b (by decide))),A (by decide) (by decide) h.lr,A (by decide) (by decide) h.pr,λp m=>mp p (h.pn p m),h.ps,h.nb,qB h.nC G h.b.size,h.nl,h.np,Rn.low h.b h.nC j h.nb⟩
 rw[aE _ _ _ _ _ _ l];show some (Obj.cells _ _ _)=some (Obj.cells (Rd.box _) _ _);unfold Rd.box;rw[af];rfl
theorem Rn.apL{D:Rd}(h:Rn w W rb D){x:Bool}(r:Q.Gw 4 1 w5 (some ⟨g,0,none⟩) c (D.L.length+1) (vbl D.L++[Value.bool x]))(G:New W D.aL (some ⟨g,0,none⟩))(j:But (Q.InA D.aL) W w5):
 Rn w (w5.setCell ⟨rb,2,none⟩ (.slice (some ⟨g,0,none⟩) (D.L.length+1) c)) rb {D with aL:=some ⟨g,0,none⟩,cL:=c,L:=D.L++[x]}:=by
 have B:∀{t:TypeId}{k:Nat}{cs:Array Value},W.heap[k]?=some (.cells cs t (0,0))->t≠4->¬Q.InA D.aL k:=λhk q ⟨y,d,e⟩=>by
  obtain⟨f,b⟩:=h.lr.blk d;exact jd hk b q e.symm
 have l:w5.heap[rb]?=some (.cells D.box 109 (0,0)):=j.same h.box (B h.box (by decide))
 have bs:But (λk=>k=rb) w5 (w5.setCell ⟨rb,2,none⟩ (.slice (some ⟨g,0,none⟩) (D.L.length+1) c)):=(But.refl (λk=>k=rb) w5).setCell (p:=⟨rb,2,none⟩) (λ_=>rfl) _
 have nb:∀{t:TypeId}{k:Nat}{cs:Array Value},w5.heap[k]?=some (.cells cs t (0,0))->t≠109->¬(k=rb):=λhk q e=>jd hk l q e
 have A:∀{e:TypeId}{sz:Nat}{a:Option Addr}{cap n:Nat}{C:List Value},e≠4->e≠109->Q.Gw e sz W a cap n C->Q.Gw e sz (w5.setCell ⟨rb,2,none⟩ (.slice (some ⟨g,0,none⟩) (D.L.length+1) c)) a cap n C:=λE F s=>by
  have v:=s.but j (λy d=>by obtain⟨f,b⟩:=s.blk d;exact B b E)
  exact v.but bs (λy d=>by obtain⟨f,b⟩:=v.blk d;exact nb b F)
 have mp:∀p:Pv,Pn w W p->Pn w (w5.setCell ⟨rb,2,none⟩ (.slice (some ⟨g,0,none⟩) (D.L.length+1) c)) p:=λp m=>by
  have H:=m.but j (λk ⟨y,d,e⟩=>by obtain⟨f,b⟩:=h.lr.blk d;exact⟨4,f,by rw[<-e];exact b,by decide,by decide⟩)
  exact H.but bs (λk e=>⟨109,D.box,by rw[e];exact l,by decide,by decide⟩)
 refine⟨?_,A (by decide) (by decide) h.cr,(by show Q.Gw _ _ _ _ _ (D.L++[x]).length _;rw[af,<-uB];exact r.but bs (λy d=>by obtain⟨f,b⟩:=r.blk d;exact nb b (by decide))),A (by decide) (by decide) h.pr,λp m=>mp p (h.pn p m),h.ps,h.nb,h.nC,qB h.nl G h.b.size,h.np,Rn.low h.b h.nl j h.nb⟩
 rw[aE _ _ _ _ _ _ l];show some (Obj.cells _ _ _)=some (Obj.cells (Rd.box _) _ _);unfold Rd.box;rw[af];rfl
theorem Rn.apP{D:Rd}(h:Rn w W rb D){x:Pv}(G:Pn w W x)(I:x.pg.check=0\/x=Pv.zero)(q:Q.Gw 77 5 w5 (some ⟨g,0,none⟩) c (D.P.length+1) (vpg D.P++x.cs.toList))(F:New W D.aP (some ⟨g,0,none⟩))(j:But (Q.InA D.aP) W w5):
 Rn w (w5.setCell ⟨rb,3,none⟩ (.slice (some ⟨g,0,none⟩) (D.P.length+1) c)) rb {D with aP:=some ⟨g,0,none⟩,cP:=c,P:=D.P++[x]}:=by
 have A:∀{t:TypeId}{k:Nat}{cs:Array Value},W.heap[k]?=some (.cells cs t (0,0))->t≠77->¬Q.InA D.aP k:=λhk m ⟨y,d,e⟩=>by
  obtain⟨f,b⟩:=h.pr.blk d;exact jd hk b m e.symm
 have l:w5.heap[rb]?=some (.cells D.box 109 (0,0)):=j.same h.box (A h.box (by decide))
 have bs:But (λk=>k=rb) w5 (w5.setCell ⟨rb,3,none⟩ (.slice (some ⟨g,0,none⟩) (D.P.length+1) c)):=(But.refl (λk=>k=rb) w5).setCell (p:=⟨rb,3,none⟩) (λ_=>rfl) _
 have nb:∀{t:TypeId}{k:Nat}{cs:Array Value},w5.heap[k]?=some (.cells cs t (0,0))->t≠109->¬(k=rb):=λhk m e=>jd hk l m e
 have v:∀{e:TypeId}{sz:Nat}{a:Option Addr}{cap n:Nat}{C:List Value},e≠77->e≠109->Q.Gw e sz W a cap n C->Q.Gw e sz (w5.setCell ⟨rb,3,none⟩ (.slice (some ⟨g,0,none⟩) (D.P.length+1) c)) a cap n C:=λB E r=>by
  have s:=r.but j (λy d=>by obtain⟨f,b⟩:=r.blk d;exact A b B)
  exact s.but bs (λy d=>by obtain⟨f,b⟩:=s.blk d;exact nb b E)
 have mp:∀p:Pv,Pn w W p->Pn w (w5.setCell ⟨rb,3,none⟩ (.slice (some ⟨g,0,none⟩) (D.P.length+1) c)) p:=λp hp=>by
  have H:=hp.but j (λk ⟨y,d,e⟩=>by obtain⟨f,b⟩:=h.pr.blk d;exact⟨77,f,by rw[<-e];exact b,by decide,by decide⟩)
  exact H.but bs (λk e=>⟨109,D.box,by rw[e];exact l,by decide,by decide⟩)
 refine⟨?_,v (by decide) (by decide) h.cr,v (by decide) (by decide) h.lr,(by show Q.Gw _ _ _ _ _ (D.P++[x]).length _;rw[af,<-Dy];exact q.but bs (λy d=>by obtain⟨f,b⟩:=q.blk d;exact nb b (by decide))),(λp hp=>by
  rcases bO.1 hp with hp|hp
  . exact mp p (h.pn p hp)
  . rw[aZ.1 hp];exact mp x G),(λp hp=>by
  rcases bO.1 hp with hp|hp
  . exact h.ps p hp
  . rw[aZ.1 hp];exact I),h.nb,h.nC,h.nl,qB h.np F h.b.size,Rn.low h.b h.np j h.nb⟩
 rw[aE _ _ _ _ _ _ l];show some (Obj.cells _ _ _)=some (Obj.cells (Rd.box _) _ _);unfold Rd.box;rw[af];rfl
end Go.Proofs.YteaogidofpfmmaaGreat
