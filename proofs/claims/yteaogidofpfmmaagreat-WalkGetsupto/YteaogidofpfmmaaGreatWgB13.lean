import Derived.Test.YteaogidofpfmmaaGreatWgB9
set_option linter.all false
set_option maxHeartbeats 8000000
set_option maxRecDepth 8000
namespace Go.Proofs.YteaogidofpfmmaaGreat
open Go.Proofs.Tryz
open Go.RowKit
variable {x:Addr}{b g:Nat}{col pc:Nat->Nat}{a:Option Addr}{t:TypeId}{W w w':World}
def pgC(kind level:Int)(aI:Option Addr)(n cI:Nat)(aD:Option Addr)(m cD:Nat)(next:Int):Array Value:=#[.int .i64 kind,.int .i64 level,.slice aI n cI,.slice aD m cD,.int .i64 next]
theorem Co.item{cap i:Nat}{M L:List Iv}(h:Co w W g cap i M L)(hi:i<L.length):(W.cell? ⟨g,i*4,none⟩=some (.slice (L.getD i Iv.zero).aK (L.getD i Iv.zero).key.length (L.getD i Iv.zero).cK)/\W.cell? ⟨g,i*4+1,none⟩=some (.slice (L.getD i Iv.zero).aV (L.getD i Iv.zero).val.length (L.getD i Iv.zero).cV)/\W.cell? ⟨g,i*4+2,none⟩=some (.int .i64 (L.getD i Iv.zero).child)/\W.cell? ⟨g,i*4+3,none⟩=some (.int .i64 (L.getD i Iv.zero).size))/\(∀o,W.frozen? ⟨g,o,none⟩=false):=by
 have c:(M++L.drop i).getD i Iv.zero=L.getD i Iv.zero:=by
  rw[be,bP (by rw[h.len];exact ai _),h.len,dU,List.getElem?_drop,dr,<-be]
 have f:i<(M++L.drop i).length:=by rw[af,h.len,di];omega
 rcases h.j.cases with⟨h0,_⟩|⟨g',cur,ha,hg2,h1,h2,h3,h4⟩
 . cases h0
 . cases ha
   have k:∀{j:Nat}{u:Value},j<4->(L.getD i Iv.zero).cs.toList[j]?=some u->W.cell? ⟨g,i*4+j,none⟩=some u:=λ{j u} d l=>by
    have:=uN (M++L.drop i) i j f d;rw[c,l] at this;have e:=h.j.cells (i*4+j) u this;rwa [Addr.add_mid,b9] at e
   exact⟨⟨k (j:=0) (by decide) rfl,k (by decide) rfl,k (by decide) rfl,k (by decide) rfl⟩,λo=>by simp[World.frozen?,hg2]⟩
theorem Cx{w w':World}{o:Oper}{a:Act}{K:Act->World->Prop}{Q:Exit->Act->World->Prop}(s x:Operand)
 (e:o.op=.call {callee:=.builtin .append,args:=#[s,x],argTypes:=#[75,75]}) (c d v:Value) (i:a.eval s=c) (j:a.eval x=d) (f:(Builtin.append_ #[75,75] o.type #[c,d]).run prog w=.ok v w')
 (h:K (a.put o.dst v) w'):o.wp prog a w K Q:=by
 unfold Oper.wp execOp;simp only[e,resolve,invoke,builtin,dS,dT,dy,dM,bO,dW,i,j,f];exact h
theorem oH{w w':World}{e:Array Oper}{f:List Oper}{o:Oper}{a:Act}{Q:Exit->Act->World->Prop}(n:o.guard=none)(s x:Operand)
 (j:o.op=.call {callee:=.builtin .append,args:=#[s,x],argTypes:=#[75,75]}) (c d v:Value) (l:a.eval s=c) (m:a.eval x=d) (k:(Builtin.append_ #[75,75] o.type #[c,d]).run prog w=.ok v w')
 (h:wpList prog e Q f (a.put o.dst v) w'):wpList prog e Q (o::f) a w:=
 eI n λ_ i=>Cx s x j c d v l m k (i _ _ h)
theorem vQ(w:World)(p:Pv)(J:Pi w p)(h0:0<p.items.length)(hd:p.data.length<=140737488355264)(hs:∀x∈p.items,x.key.length<=140737488355264/\x.val.length<=140737488355264):
 Calls prog 67 #[p.vl] w λe w'=>∃q:Pv,e=.returned q.vl/\Pn w w' q/\q.pg=p.pg/\Below w.heap.size w w':=by
 obtain⟨kind,f,aI,A,L,m,r,d,next⟩:=p
 unfold Pv.vl;simp only[Pv.cs] at *;have hL:=J.it.2.1;obtain⟨s,hA,aa⟩:=J.it.all h0;simp only at hL hA aa;subst hA;have aB:=al w (.cells (pgC kind f (some s) L.length A m d.length r next) 77)
 have aC:=bt aB (al (w.alloc (.cells (pgC kind f (some s) L.length A m d.length r next) 77)) (.cells (pgC 0 0 none 0 0 none 0 0 0) 77))
 obtain⟨g,cap,D,aj,hJ,hg,h⟩:=Be ((w.alloc (.cells (pgC kind f (some s) L.length A m d.length r next) 77)).alloc (.cells (pgC 0 0 none 0 0 none 0 0 0) 77)) 75 s A L (λaf aq hj=>(aC.cell (p:=s.add af) (block_lt_of_cell (aa af aq hj))).trans (aa af aq hj)) h0 hL
 have SZ:((w.alloc (.cells (pgC kind f (some s) L.length A m d.length r next) 77)).alloc (.cells (pgC 0 0 none 0 0 none 0 0 0) 77)).heap.size=w.heap.size+2:=by rw[size_alloc,size_alloc]
 have aE:((w.alloc (.cells (pgC kind f (some s) L.length A m d.length r next) 77)).alloc (.cells (pgC 0 0 none 0 0 none 0 0 0) 77)).heap[w.heap.size]?=some (.cells (pgC kind f (some s) L.length A m d.length r next) 77 (0,0)):=((al (w.alloc (.cells (pgC kind f (some s) L.length A m d.length r next) 77)) (.cells (pgC 0 0 none 0 0 none 0 0 0) 77)).block w.heap.size (by rw[size_alloc];omega)).trans (ah w _)
 have aH:((w.alloc (.cells (pgC kind f (some s) L.length A m d.length r next) 77)).alloc (.cells (pgC 0 0 none 0 0 none 0 0 0) 77)).heap[w.heap.size+1]?=some (.cells (pgC 0 0 none 0 0 none 0 0 0) 77 (0,0)):=by
  have k:=ah (w.alloc (.cells (pgC kind f (some s) L.length A m d.length r next) 77)) (.cells (pgC 0 0 none 0 0 none 0 0 0) 77)
  rwa [size_alloc] at k
 have ab:=(h.block w.heap.size (by omega)).trans aE
 have aJ:=(h.block (w.heap.size+1) (by omega)).trans aH
 rw[SZ] at hg h;have cS:D.cell? ⟨w.heap.size,2,none⟩=some (.slice (some s) L.length A):=by rw[am _ _ _ _ _ _ ab];rfl
 have fS:D.frozen? ⟨w.heap.size,2,none⟩=false:=by simp[World.frozen?,ab]
 have aG:=aS D w.heap.size 2 _ 77 (.slice (some ⟨g,0,none⟩) L.length cap) ab;have aL:(D.setCell ⟨w.heap.size,2,none⟩ (.slice (some ⟨g,0,none⟩) L.length cap)).heap[w.heap.size+1]?=_:=(Below.heap_setCell _ _ _ _ (show w.heap.size+1≠w.heap.size by omega)).trans aJ
 have bS:But (λk=>k=w.heap.size) D (D.setCell ⟨w.heap.size,2,none⟩ (.slice (some ⟨g,0,none⟩) L.length cap)):=(But.refl (λk=>k=w.heap.size) D).setCell (p:=⟨w.heap.size,2,none⟩) (λ_=>rfl) _
 have av:Below w.heap.size w D:=bt aC (by rw[SZ];exact h)
 have aw:Below w.heap.size w (D.setCell ⟨w.heap.size,2,none⟩ (.slice (some ⟨g,0,none⟩) L.length cap)):=((But.ofBelow (S:=λk=>k=w.heap.size) av).trans bS (λ_ _ e=>e)).below (λk hk e=>by omega)
 have C3:Hid (Co w (D.setCell ⟨w.heap.size,2,none⟩ (.slice (some ⟨g,0,none⟩) L.length cap)) g cap 0 [] L):=⟨hJ.but bS (λx G e=>by cases G;have e:g=w.heap.size:=e;omega),rfl,rfl,Fam.nil _ _,(λ_ aO=>by cases aO),aw,by omega⟩
 have X3:Hid ((D.setCell ⟨w.heap.size,2,none⟩ (.slice (some ⟨g,0,none⟩) L.length cap)).heap[w.heap.size]?=some (.cells (pgC kind f (some ⟨g,0,none⟩) L.length cap m d.length r next) 77 (0,0))):=aG
 have Y3:=gW aL;have HG:=gW hg;have IT:=gW λ(W:World)(hb:Below w.heap.size w W)(i:Nat)(hi:i<L.length)=>(J.it.1 _ (ie hi)).keep hb
 have HS:=gW λ(i:Nat)(hi:i<L.length)=>hs _ (ie hi)
 have CD:=gW λ(W:World)(hb:Below w.heap.size w W)=>lk W m r d (J.bd.keep hb) (az hd (by decide))
 have D8:=gW J.bd.1;have NK:=gW (And.intro J.nk (And.intro J.nl J.nn));simp only at hd D8 NK;obtain⟨n,hn⟩:∃n,L.length=n:=⟨_,rfl⟩;have HN:=gW hn;have a7:n<=2199023255520:=by omega
 rw[hn] at aj cS X3 C3 Y3;unfold pgC at *;have au:=gW aj;clear aj;clear J h0 hd hs hL aa aB aC hJ hg h SZ aE aH ab aJ aG aL bS av aw;rw[hn];clear hn;go_enter func67,ntmps67;go_wp2_with (at_builtin;refine oH rfl _ _ rfl (.slice none 0 0) (.slice (some s) n A) _ rfl rfl au.o ?_)
 clear au cS fS;generalize D.setCell ⟨w.heap.size,2,none⟩ (.slice (some ⟨g,0,none⟩) n cap)=w3 at *;go_loopw [12] (λi wr=>∃(k:Nat)(M:List Iv),k<=n/\i=.int .i64 (k:Int)/\Co w wr g cap k M L/\wr.heap[w.heap.size]?=some (.cells #[.int .i64 kind,.int .i64 f,.slice (some ⟨g,0,none⟩) n cap,.slice m d.length r,.int .i64 next] 77 (0,0))/\wr.heap[w.heap.size+1]?=some (.cells #[.int .i64 0,.int .i64 0,.slice none 0 0,.slice none 0 0,.int .i64 0] 77 (0,0))) (λi _=>n-(intOf i).toNat)
 case atStart=>exact⟨0,[],an _,rfl,C3.o,X3.o,Y3.o⟩
 case round=>
  obtain⟨i,M,hi,rfl,T,j,y⟩:=hrel;have CO:=gW T;have XR:=gW j;have YR:=gW y;by_cases aT:i<n
  . have X:i<L.length:=by rw[HN.o];exact aT
    have a6:(i:Int)<(n:Int):=by omega
    obtain⟨⟨k0,k1,k2,k3⟩,fz⟩:=T.item X;have l:=gW (bt (al wr (.cells (L.getD i Iv.zero).cs 89)) (Q.drw _));have K:=gW (T.keep l.o);have T0:=gW (ah wr (.cells (L.getD i Iv.zero).cs 89));have a8:w.heap.size+1<wr.heap.size:=(ae.1 y).1;have a0:g<wr.heap.size:=T.j.lt rfl;have a3:=HG.o;have O:=IT.o _ K.o.b i X;have K1:=gW (lk _ _ (L.getD i Iv.zero).cK _ O.bk (az (HS.o i X).1 (by decide)))
    have K2:=gW λ(W:World)(hb:Below (wr.alloc (.cells (L.getD i Iv.zero).cs 89)).drew.heap.size (wr.alloc (.cells (L.getD i Iv.zero).cs 89)).drew W)=>lk W _ (L.getD i Iv.zero).cV _ (O.bv.keep hb) (az (HS.o i X).2 (by decide))
    have IM:=gW λ(W:World)(hb:Below (wr.alloc (.cells (L.getD i Iv.zero).cs 89)).drew.heap.size (wr.alloc (.cells (L.getD i Iv.zero).cs 89)).drew W)=>(K.o.keep hb).item X
    have G1:=gW λ(W1 W2:World)(I U:Option Addr)(c1 c2:Nat)(o1:Own (wr.alloc (.cells (L.getD i Iv.zero).cs 89)).drew W1 I c1 (L.getD i Iv.zero).key)(c:Own W1 W2 U c2 (L.getD i Iv.zero).val)=>K.o.round X ⟨O.nc,O.ns⟩ O.bk.1 O.bv.1 o1 c
    have XS:=gW λ(W:World)(hb:Below (wr.alloc (.cells (L.getD i Iv.zero).cs 89)).drew.heap.size (wr.alloc (.cells (L.getD i Iv.zero).cs 89)).drew W)=>(show(W.heap[w.heap.size]?=_/\W.heap[w.heap.size+1]?=_)/\W.heap[wr.heap.size]?=_ from⟨⟨((bt l.o hb).block w.heap.size (by omega)).trans j,((bt l.o hb).block (w.heap.size+1) (by omega)).trans y⟩,(hb.block wr.heap.size (ae.1 (show(wr.alloc _).drew.heap[wr.heap.size]?=_ from T0.o)).1).trans T0.o⟩)
    have RF:=gW (Below.refl (wr.alloc (.cells (L.getD i Iv.zero).cs 89)).drew.heap.size (wr.alloc (.cells (L.getD i Iv.zero).cs 89)).drew);clear T j y O K T0 l CO XR YR;generalize L.getD i Iv.zero=v at *;obtain⟨aK,cK,H,aV,cV,val,child,aW⟩:=v;simp only[Iv.cs] at k0 k1 k2 k3 K1 K2 IM G1 XS RF;have Z:=gW λ(W:World)(h1:W.heap[w.heap.size]?=some (.cells #[.int .i64 kind,.int .i64 f,.slice (some ⟨g,0,none⟩) n cap,.slice m d.length r,.int .i64 next] 77 (0,0)))(h2:W.heap[wr.heap.size]?=some (.cells #[.slice aK H.length cK,.slice aV val.length cV,.int .i64 child,.int .i64 aW] 89 (0,0)))=>(show W.cell? ⟨w.heap.size,2,none⟩=some (.slice (some ⟨g,0,none⟩) n cap)/\W.cell? ⟨wr.heap.size,0,none⟩=some (.slice aK H.length cK)/\W.cell? ⟨wr.heap.size,1,none⟩=some (.slice aV val.length cV) from⟨(iT h1).2.2.1,by rw[am _ _ _ _ _ _ h2];rfl,by rw[am _ _ _ _ _ _ h2];rfl⟩)
    have a5:(0:Int)<=(i:Int):=by omega
    go_wp2_with fail
    refine bA (S:=λW=>W.cell? ⟨w.heap.size,2,none⟩=some (.slice (some ⟨g,0,none⟩) n cap)/\W.cell? ⟨wr.heap.size,0,none⟩=some (.slice aK H.length cK)/\W.cell? ⟨wr.heap.size,1,none⟩=some (.slice aV val.length cV)) (by kernel_rfl) (Z.o _ (XS.o _ RF.o).1.1 (XS.o _ RF.o).2) (λhHeld=>?_)
    refine tkd 0 1 2 3 ?_;refine tkd 4 5 6 7 ?_;refine tkb 9 10 ?_;refine tw 8 λac P=>?_
    go_simp;refine K1.o.mono ?_;rintro _ w5 ⟨I,c1,rfl,o1⟩;have Y:=gW o1;clear o1;go_wp2_with fail
    refine P.o _ _ (Z.o _ (XS.o _ Y.o.b).1.1 (XS.o _ Y.o.b).2) (λhHeld=>?_)
    refine tw 11 λac P=>?_
    go_simp;refine(K2.o _ Y.o.b).mono ?_;rintro _ R ⟨U,c2,rfl,c⟩;have B6:=gW (bt Y.o.b c.b);have CN:=gW (G1.o _ _ _ _ _ _ Y.o c);obtain⟨⟨i0,i1,-,-⟩,ag⟩:=IM.o _ B6.o;have aY:=ag (i*4);have aZ:=ag (i*4+1);obtain⟨⟨ao,aM⟩,ak⟩:=XS.o _ B6.o;have X7:=gW ((Below.heap_setCell R ⟨g,i*4,none⟩ (.slice I H.length c1) w.heap.size (show w.heap.size≠g by omega)).trans ao)
    have T7:=gW ((Below.heap_setCell R ⟨g,i*4,none⟩ (.slice I H.length c1) wr.heap.size (show wr.heap.size≠g by omega)).trans ak)
    have Y7:=gW ((Below.heap_setCell R ⟨g,i*4,none⟩ (.slice I H.length c1) (w.heap.size+1) (show w.heap.size+1≠g by omega)).trans aM)
    have XN:=gW ((Below.heap_setCell (R.setCell ⟨g,i*4,none⟩ (.slice I H.length c1)) ⟨g,i*4+1,none⟩ (.slice U val.length c2) w.heap.size (show w.heap.size≠g by omega)).trans X7.o)
    have TN:=gW ((Below.heap_setCell (R.setCell ⟨g,i*4,none⟩ (.slice I H.length c1)) ⟨g,i*4+1,none⟩ (.slice U val.length c2) wr.heap.size (show wr.heap.size≠g by omega)).trans T7.o)
    have YN:=gW ((Below.heap_setCell (R.setCell ⟨g,i*4,none⟩ (.slice I H.length c1)) ⟨g,i*4+1,none⟩ (.slice U val.length c2) (w.heap.size+1) (show w.heap.size+1≠g by omega)).trans Y7.o)
    have X6:=gW ao;have T6:=gW ak;clear c ag ao aM ak;go_wp2_with fail
    refine P.o _ _ (Z.o _ X6.o T6.o) (λhHeld=>?_)
    refine tkb 12 13 ?_;refine tw 14 λac P=>?_
    go_simp;refine P.o _ _ (Z.o _ X7.o T7.o) (λhHeld=>?_)
    refine tkb 15 16 ?_;refine tw 17 λac P=>?_
    go_simp;refine P.o _ _ (Z.o _ XN.o TN.o) (λhHeld=>?_)
    refine td ?_;clear hHeld;generalize ((R.setCell ⟨g,i*4,none⟩ (.slice I H.length c1)).setCell ⟨g,i*4+1,none⟩ (.slice U val.length c2))=w7 at *;go_wp2;go_roundw
    case rel=>exact⟨i+1,_,by omega,by go_num,CN.o,XN.o,YN.o⟩
    case measure=>simp[intOf];omega
  . obtain rfl:i=n:=by omega
    have hb:=T.b;have aQ:=gW (CD.o wr hb);obtain⟨x0,x1,x2,x3,x4⟩:=iT j;clear T j y hb;go_wp2_with fail
    refine aQ.o.mono ?_;rintro _ B ⟨E,F,rfl,N⟩;have C:=CO.o.keep N.b;have bx:w.heap.size<wr.heap.size:=(ae.1 XR.o).1;have ax:w.heap.size+1<wr.heap.size:=(ae.1 YR.o).1;have u:=(N.b.block w.heap.size bx).trans XR.o;have ap:=(N.b.block (w.heap.size+1) ax).trans YR.o;have cS:B.cell? ⟨w.heap.size,3,none⟩=some (.slice m d.length r):=(iT u).2.2.2.1;have fS:B.frozen? ⟨w.heap.size,3,none⟩=false:=by simp[World.frozen?,u]
    have x5:=aS B w.heap.size 3 _ 77 (.slice E d.length F) u;have Y5:Hid ((B.setCell ⟨w.heap.size,3,none⟩ (.slice E d.length F)).heap[w.heap.size+1]?=some (.cells #[.int .i64 0,.int .i64 0,.slice none 0 0,.slice none 0 0,.int .i64 0] 77 (0,0))):=(Below.heap_setCell _ _ _ _ (show w.heap.size+1≠w.heap.size by omega)).trans ap
    obtain⟨q0,q1,q2,q3,q4⟩:=iT (show(B.setCell ⟨w.heap.size,3,none⟩ (.slice E d.length F)).heap[w.heap.size]?=some (.cells #[.int .i64 kind,.int .i64 f,.slice (some ⟨g,0,none⟩) i cap,.slice E d.length F,.int .i64 next] 77 (0,0)) from x5)
    have ay:M.length=i:=C.len;have aA:L.drop i=[]:=dw (by rw[HN.o];exact ai _)
    have ar:=gW λ(cs:Array Value)=>(show Pn w ((B.setCell ⟨w.heap.size,3,none⟩ (.slice E d.length F)).setRow (w.heap.size+1) cs) ⟨kind,f,some ⟨g,0,none⟩,cap,M,E,F,d,next⟩/\Below w.heap.size w ((B.setCell ⟨w.heap.size,3,none⟩ (.slice E d.length F)).setRow (w.heap.size+1) cs) from by
     have hB:But (λk=>k=w.heap.size\/k=w.heap.size+1) B ((B.setCell ⟨w.heap.size,3,none⟩ (.slice E d.length F)).setRow (w.heap.size+1) cs):=((But.refl (λk=>k=w.heap.size\/k=w.heap.size+1) B).setCell (p:=⟨w.heap.size,3,none⟩) (λ_=>.inl rfl) _).trans (Q.gZ _ _ _) (λk _ e=>.inr e)
     have nt:∀{a:Option Addr}{aN:Nat}{aP:List Nat},Rw B a aN aP->∀x,a=some x->¬(x.block=w.heap.size\/x.block=w.heap.size+1):=λhr x G e=>by
      rcases e with e|e
      . exact hr.nty (show Bx B 77 w.heap.size _ from u) (by decide) G e
      . exact hr.nty (show Bx B 77 (w.heap.size+1) _ from ap) (by decide) G e
     have j4:=C.j;rw[aA,du] at j4;have aU:=CO.o.b.size;refine⟨⟨j4.but hB (λx G e=>?_),λx G=>.inr (by cases G;exact C.gn),N.r.but hB (nt N.r),N.n.mono aU,λt V=>⟨(C.f.own t V).1.r.but hB (nt (C.f.own t V).1.r),(C.f.own t V).1.n,(C.f.own t V).2⟩,cF.2 ⟨λt V x aX G hy e=>?_,C.f.dist⟩,D8.o,C.n,NK.o.1,NK.o.2.1,NK.o.2.2⟩,?_⟩
     . cases G;have:=HG.o;simp only at e;omega
     . have l1:=(CO.o.f.own t V).1.r.lt hy;rcases N.n x G with⟨z,hz,_⟩|h2
       . cases hz
       . have h2:wr.heap.size<=x.block:=h2;omega
     . exact((But.ofBelow (S:=λk=>k=w.heap.size\/k=w.heap.size+1) C.b).trans hB (λ_ _ e=>e)).below (λk hk e=>by omega))
    have PG:Hid ((⟨kind,f,some ⟨g,0,none⟩,cap,M,E,F,d,next⟩:Pv).pg=(⟨kind,f,some s,A,L,m,r,d,next⟩:Pv).pg):=by
     show _=_;unfold Pv.pg;simp only;have e:=C.e;rw[eW (by rw[HN.o];exact ai _)] at e
     rw[e]
    have aR:=gW ay;clear C u ap x5 ay aA N bx ax x0 x1 x2 x3 x4;go_wp2_with (first|(refine bz rfl 77 _ _ rfl (w.heap.size+1) _ rfl rfl 77 _ Y5.o iD rfl (by simp[Value.oneCell']) ?_)|fail)
    refine aF (v:=.agg _) (dB results67 _ _ (w.heap.size+1) 77 _ (0,0) _ rfl (br _ _ _ _ _ _ Y5.o) underlying77 rfl iD) rfl ?_;refine⟨⟨kind,f,some ⟨g,0,none⟩,cap,M,E,F,d,next⟩,?_,(ar.o _).1,PG.o,(ar.o _).2⟩
    simp only[aR.o]
theorem EU(w:World)(a:Option Addr)(c:Nat):(Builtin.append_ #[75,75] 75 #[.slice none 0 0,.slice a 0 c]).run prog w=.ok (.slice none 0 0) w:=by
 obtain⟨e,d,f,h,i⟩:=dN mc;cases a<;>simp[Builtin.append_,dZ underlying75,Builtin.lenOf,sizeOf,typeInfo,d,Builtin.firstCells,loadCells,loadCellsFrom]
theorem vZ(w:World)(p:Pv)(D:Pi w p)(l:p.items=[])(hd:p.data.length<=140737488355264):
 Calls prog 67 #[p.vl] w λe w'=>∃q:Pv,e=.returned q.vl/\Pn w w' q/\q.pg=p.pg/\Below w.heap.size w w':=by
 obtain⟨kind,f,m,r,ao,j,n,d,next⟩:=p
 simp only at l;subst l;unfold Pv.vl;simp only[Pv.cs] at *;have V:=al w (.cells (pgC kind f m 0 r j d.length n next) 77)
 have H:=bt V (al (w.alloc (.cells (pgC kind f m 0 r j d.length n next) 77)) (.cells (pgC 0 0 none 0 0 none 0 0 0) 77))
 have P:((w.alloc (.cells (pgC kind f m 0 r j d.length n next) 77)).alloc (.cells (pgC 0 0 none 0 0 none 0 0 0) 77)).heap.size=w.heap.size+2:=by rw[size_alloc,size_alloc]
 have E:((w.alloc (.cells (pgC kind f m 0 r j d.length n next) 77)).alloc (.cells (pgC 0 0 none 0 0 none 0 0 0) 77)).heap[w.heap.size]?=some (.cells (pgC kind f m 0 r j d.length n next) 77 (0,0)):=((al (w.alloc (.cells (pgC kind f m 0 r j d.length n next) 77)) (.cells (pgC 0 0 none 0 0 none 0 0 0) 77)).block w.heap.size (by rw[size_alloc];omega)).trans (ah w _)
 have K:((w.alloc (.cells (pgC kind f m 0 r j d.length n next) 77)).alloc (.cells (pgC 0 0 none 0 0 none 0 0 0) 77)).heap[w.heap.size+1]?=some (.cells (pgC 0 0 none 0 0 none 0 0 0) 77 (0,0)):=by
  have k:=ah (w.alloc (.cells (pgC kind f m 0 r j d.length n next) 77)) (.cells (pgC 0 0 none 0 0 none 0 0 0) 77)
  rwa [size_alloc] at k
 obtain⟨s,I⟩:∃s,((w.alloc (.cells (pgC kind f m 0 r j d.length n next) 77)).alloc (.cells (pgC 0 0 none 0 0 none 0 0 0) 77))=s:=⟨_,rfl⟩
 have ab:Hid ((Builtin.append_ #[75,75] 75 #[.slice none 0 0,.slice m 0 r]).run prog ((w.alloc (.cells (pgC kind f m 0 r j d.length n next) 77)).alloc (.cells (pgC 0 0 none 0 0 none 0 0 0) 77))=.ok (.slice none 0 0) s):=by
  show _=_;rw[<-I];exact EU _ m r
 rw[I] at H P E K;have L:s.cell? ⟨w.heap.size,2,none⟩=some (.slice m 0 r):=by rw[am _ _ _ _ _ _ E];rfl
 have c:s.frozen? ⟨w.heap.size,2,none⟩=false:=by simp[World.frozen?,E]
 have ad:=aS s w.heap.size 2 _ 77 (.slice none 0 0) E;have af:(s.setCell ⟨w.heap.size,2,none⟩ (.slice none 0 0)).heap[w.heap.size+1]?=_:=(Below.heap_setCell _ _ _ _ (show w.heap.size+1≠w.heap.size by omega)).trans K
 have Y:But (λk=>k=w.heap.size) s (s.setCell ⟨w.heap.size,2,none⟩ (.slice none 0 0)):=(But.refl (λk=>k=w.heap.size) s).setCell (p:=⟨w.heap.size,2,none⟩) (λ_=>rfl) _
 have B3:Hid (Below w.heap.size w (s.setCell ⟨w.heap.size,2,none⟩ (.slice none 0 0))):=((But.ofBelow (S:=λk=>k=w.heap.size) H).trans Y (λ_ _ e=>e)).below (λk hk e=>by omega)
 have X3:Hid ((s.setCell ⟨w.heap.size,2,none⟩ (.slice none 0 0)).heap[w.heap.size]?=some (.cells (pgC kind f none 0 0 j d.length n next) 77 (0,0))):=ad
 have Y3:=gW af;have CD:=gW λ(W:World)(hb:Below w.heap.size w W)=>lk W j n d (D.bd.keep hb) (az hd (by decide))
 have O:=gW D.bd.1;have G:=gW (And.intro D.nk (And.intro D.nl D.nn));simp only at O G;unfold pgC at *;clear D hd V H P E K ad af Y I;go_enter func67,ntmps67;go_wp2_with (at_builtin;refine oH rfl _ _ rfl (.slice none 0 0) (.slice m 0 r) _ rfl rfl ab.o ?_)
 clear ab L c;generalize s.setCell ⟨w.heap.size,2,none⟩ (.slice none 0 0)=w3 at *;go_loopw [12] (λi wr=>i=.int .i64 0/\Below w.heap.size w wr/\wr.heap[w.heap.size]?=some (.cells #[.int .i64 kind,.int .i64 f,.slice none 0 0,.slice j d.length n,.int .i64 next] 77 (0,0))/\wr.heap[w.heap.size+1]?=some (.cells #[.int .i64 0,.int .i64 0,.slice none 0 0,.slice none 0 0,.int .i64 0] 77 (0,0))) (λi _=>0)
 case atStart=>exact⟨rfl,B3.o,X3.o,Y3.o⟩
 case round=>
  obtain⟨rfl,hb,J,ag⟩:=hrel;have N:=gW hb;have R:=gW J;have U:=gW ag;have ak:=gW (CD.o wr hb);obtain⟨x0,x1,x2,x3,x4⟩:=iT J;clear J ag hb;go_wp2_with fail
  refine ak.o.mono ?_;rintro _ y ⟨A,B,rfl,C⟩;have X:=bt N.o C.b;have Z:w.heap.size<wr.heap.size:=(ae.1 R.o).1;have ac:w.heap.size+1<wr.heap.size:=(ae.1 U.o).1;have F:=(C.b.block w.heap.size Z).trans R.o;have M:=(C.b.block (w.heap.size+1) ac).trans U.o;have L:y.cell? ⟨w.heap.size,3,none⟩=some (.slice j d.length n):=(iT F).2.2.2.1;have c:y.frozen? ⟨w.heap.size,3,none⟩=false:=by simp[World.frozen?,F]
  have x5:=aS y w.heap.size 3 _ 77 (.slice A d.length B) F;have T:Hid ((y.setCell ⟨w.heap.size,3,none⟩ (.slice A d.length B)).heap[w.heap.size+1]?=some (.cells #[.int .i64 0,.int .i64 0,.slice none 0 0,.slice none 0 0,.int .i64 0] 77 (0,0))):=(Below.heap_setCell _ _ _ _ (show w.heap.size+1≠w.heap.size by omega)).trans M
  obtain⟨q0,q1,q2,q3,q4⟩:=iT (show(y.setCell ⟨w.heap.size,3,none⟩ (.slice A d.length B)).heap[w.heap.size]?=some (.cells #[.int .i64 kind,.int .i64 f,.slice none 0 0,.slice A d.length B,.int .i64 next] 77 (0,0)) from x5)
  have aa:=gW λ(cs:Array Value)=>(show Pn w ((y.setCell ⟨w.heap.size,3,none⟩ (.slice A d.length B)).setRow (w.heap.size+1) cs) ⟨kind,f,none,0,[],A,B,d,next⟩/\Below w.heap.size w ((y.setCell ⟨w.heap.size,3,none⟩ (.slice A d.length B)).setRow (w.heap.size+1) cs) from by
   have hB:But (λk=>k=w.heap.size\/k=w.heap.size+1) y ((y.setCell ⟨w.heap.size,3,none⟩ (.slice A d.length B)).setRow (w.heap.size+1) cs):=((But.refl (λk=>k=w.heap.size\/k=w.heap.size+1) y).setCell (p:=⟨w.heap.size,3,none⟩) (λ_=>.inl rfl) _).trans (Q.gZ _ _ _) (λk _ e=>.inr e)
   have nt:∀{a:Option Addr}{ai:Nat}{aj:List Nat},Rw y a ai aj->∀x,a=some x->¬(x.block=w.heap.size\/x.block=w.heap.size+1):=λhr x hx e=>by
    rcases e with e|e
    . exact hr.nty (show Bx y 77 w.heap.size _ from F) (by decide) hx e
    . exact hr.nty (show Bx y 77 (w.heap.size+1) _ from M) (by decide) hx e
   have an:=N.o.size;refine⟨⟨Jw.nil _,New.none _ _,C.r.but hB (nt C.r),C.n.mono an,(λ_ h=>by cases h),eo _ _,O.o,(λ_ h=>by cases h),G.o.1,G.o.2.1,G.o.2.2⟩,?_⟩
   exact((But.ofBelow (S:=λk=>k=w.heap.size\/k=w.heap.size+1) X).trans hB (λ_ _ e=>e)).below (λk hk e=>by omega))
  clear X F M x5 C Z ac x0 x1 x2 x3 x4;go_wp2_with (first|(refine bz rfl 77 _ _ rfl (w.heap.size+1) _ rfl rfl 77 _ T.o iD rfl (by simp[Value.oneCell']) ?_)|fail)
  refine aF (v:=.agg _) (dB results67 _ _ (w.heap.size+1) 77 _ (0,0) _ rfl (br _ _ _ _ _ _ T.o) underlying77 rfl iD) rfl ?_;refine⟨⟨kind,f,none,0,[],A,B,d,next⟩,rfl,(aa.o _).1,rfl,(aa.o _).2⟩
theorem qJ(w:World)(p:Pv)(c:Pi w p)(d:p.data.length<=140737488355264)(f:∀x∈p.items,x.key.length<=140737488355264/\x.val.length<=140737488355264):
 Calls prog 67 #[p.vl] w λe w'=>∃q:Pv,e=.returned q.vl/\Pn w w' q/\q.pg=p.pg/\Below w.heap.size w w':=by
 by_cases h:p.items=[]
 . exact vZ w p c h d
 . exact vQ w p c (bQ.2 h) d f
theorem uI(w:World)(b:Nat)(S:Vs)(d c:Nat)(pc col:Nat->Nat)(h:Vw w b S d c pc col)(n:Int):
 Calls prog 93 #[.pointer (some ⟨b,0,none⟩),.int .i64 n] w λe w'=>e=.returned (.bool (decide (0<S.X.P.count n)))/\w'=w:=by
 obtain⟨i,k,f,j,h⟩:=h;exact vV w b _ _ _ pc col h n
def Sml(p:Pv):Prop:=p.data.length<=140737488355264/\∀x∈p.items,x.key.length<=140737488355264/\x.val.length<=140737488355264
theorem Dm(w:World)(b:Nat)(S:Vs)(E s:Nat)(pc col:Nat->Nat)(h:Vw w b S E s pc col)(z:Int)(y:Sml (S.X.on z)):
 Calls prog 52 #[.pointer (some ⟨b,0,none⟩),.int .i64 z] w λx w'=>∃q:Pv,x=.returned (.tuple #[q.vl,.int .i64 (if 0<S.X.P.count z then 0 else 15)])/\Pn w w' q/\q.pg=(if 0<S.X.P.count z then (S.X.on z).pg else Pv.zero.pg)/\Below w.heap.size w w':=by
 have l:=al w (.cells Pv.zero.cs 77);have c:=gW (uI _ b S E s pc col (h.keep l) z);have f:=gW (ah w (.cells Pv.zero.cs 77));have j:=gW l;obtain⟨U,V,n⟩:=h.vx;obtain⟨c0,c1⟩:=n.c01;have Y:=n.lb;have m:=(n.keep l).look z;have d:=gW (qJ _ (S.X.on z) ((n.keep l).on_z z).pi y.1 y.2);obtain⟨q,D⟩:∃q,S.X.on z=q:=⟨_,rfl⟩;rw[D] at m d ⊢;clear h n y D l c0;obtain⟨I,J,M,O,R,L,N,P,T⟩:=q;unfold Pv.vl at *;simp only[Pv.cs] at m d f j c;simp only[Pv.zero,bg] at m d f j c;have ab:w.cell? ⟨b,1,none⟩=some (.map (some s)):=c1;have Z:(Instr.lookup 113 (.map (some s)) (.int .i64 z) false).run prog (w.alloc (.cells #[.int .i64 0,.int .i64 0,.slice none 0 0,.slice none 0 0,.int .i64 0] 77))=.ok (.agg #[.int .i64 I,.int .i64 J,.slice M R.length O,.slice L P.length N,.int .i64 T]) (w.alloc (.cells #[.int .i64 0,.int .i64 0,.slice none 0 0,.slice none 0 0,.int .i64 0] 77)):=m;clear m c1;by_cases i:0<S.X.P.count z
 . simp only[if_pos i];rw[au i] at c;clear i;go_enter func52,ntmps52;go_wp2_with fail
   refine c.o.mono ?_;rintro _ K ⟨rfl,p⟩;obtain rfl:=p.symm;clear p;go_wp2_with fail
   refine d.o.mono ?_;rintro _ X ⟨r,rfl,B,C,hb⟩;have H:=gW (B.pre j.o.size);have G:=gW C;have F:=gW (bt j.o hb);have A:=gW ((hb.block w.heap.size (ae.1 f.o).1).trans f.o);clear B C hb d c;go_wp2_with (first|(refine bz rfl 77 _ _ rfl w.heap.size _ rfl rfl 77 _ A.o iD rfl (by simp[Value.oneCell']) ?_)|fail)
   refine aF (v:=.tuple #[.agg _,_]) (jU results52 _ _ w.heap.size 77 _ (0,0) _ rfl (br _ _ _ _ _ _ A.o) underlying77 rfl iD) rfl ?_;exact⟨r,rfl,H.o.row A.o (by decide) (by decide) _,G.o,((But.ofBelow (S:=λk=>k=w.heap.size) F.o).trans (Q.gZ _ _ _) (λ_ _ e=>e)).below (λk hk e=>by omega)⟩
 . simp only[if_neg i];rw[ar i] at c;clear i d;go_enter func52,ntmps52;go_wp2_with fail
   refine c.o.mono ?_;rintro _ K ⟨rfl,p⟩;obtain rfl:=p.symm;clear p;go_wp2_with (first|(refine bz rfl 77 _ _ rfl w.heap.size _ rfl rfl 77 _ f.o iD rfl (by simp[Value.oneCell']) ?_)|fail)
   refine aF (v:=.tuple #[.agg _,_]) (jU results52 _ _ w.heap.size 77 _ (0,0) _ rfl (br _ _ _ _ _ _ f.o) underlying77 rfl iD) rfl ?_;exact⟨Pv.zero,rfl,Pn.zero _ _,rfl,((But.ofBelow (S:=λk=>k=w.heap.size) j.o).trans (Q.gZ _ _ _) (λ_ _ e=>e)).below (λk hk e=>by omega)⟩
theorem jt{v:World}(h:New v none a)(c:a=some x):v.heap.size<=x.block:=by
 rcases h x c with⟨y,hy,_⟩|h2
 . cases hy
 . exact h2
theorem Pn.pz{q:Pv}(h:Pn w w' q)(p:q.items.length<=2199023255520):Pz (λk=>j8 col w w' 6 k=6) w' q:=λv j=>by
 have s:∀{a:Option Addr}{c:Nat}{L:List Iv},Jw w' a c L->New w none a->∀x,a=some x->¬ ¬(j8 col w w' 6 x.block=6):=λn i x d e=>e (sO (jt i d) (n.lt d))
 have m:∀{a:Option Addr}{c:Nat}{l:List Nat},Rw w' a c l->New w none a->∀x,a=some x->¬ ¬(j8 col w w' 6 x.block=6):=λr i x d e=>e (sO (jt i d) (r.lt d))
 exact Pn.pi (v:=w) ⟨h.it.but j (s h.it h.itn),h.itn,h.d.but j (m h.d h.dn),h.dn,λt f=>⟨(h.fr t f).1.but j (m (h.fr t f).1 (h.fr t f).2.1),(h.fr t f).2⟩,h.dist,h.d8,h.ns,h.nk,h.nl,h.nn⟩ p
theorem Vx.page{X:Vm}{fl:Nat}{D:Vd}(h:Vx w b X fl D pc col)(hb:Below w.heap.size w w'):Vx w' b X fl D pc (j8 col w w' 6)/\Vf w col w' (j8 col w w' 6):=by
 obtain⟨i,j,h⟩:=h;have k:=h.keep hb;have old:∀{k:Nat},col k≠0->j8 col w w' 6 k=col k:=λhk=>ss (h.lt _ hk)
 have f:∀{p:Pv},Pz (λk=>col k=6) w' p->Pz (λk=>j8 col w w' 6 k=6) w' p:=λm=>m.mono (λk hk e=>by rw[old (by omega)];exact e)
 exact⟨⟨i,j,k.box,k.mp,k.chr,k.acr,k.pool,λn p l=>f (k.fz n p l),λx c=>f (k.cz x c),(old (by rw[h.cb];decide)).trans h.cb,(old (by rw[h.cm];decide)).trans h.cm,λx c=>(old (by rw[h.cc x c];decide)).trans (h.cc x c),λx c=>(old (by rw[h.ca x c];decide)).trans (h.ca x c),λn d=>(old (by rw[h.cp n d];decide)).trans (h.cp n d),λn d=>Dg hb.size d⟩,But.ofBelow hb,λn d=>ss d⟩
theorem iy{c:World}{o:Obj}(h:W.heap[g]?=some o)(hb:Below W.heap.size W c):c.heap[g]?=some o:=(hb.block _ (ae.1 h).1).trans h
theorem Vw.but13{S:Nat->Prop}{T:Vs}{d c:Nat}(h:Vw w b T d c pc col)(hb:But S w w')(l:∀k,col k≠0->¬S k):Vw w' b T d c pc col:=by
 obtain⟨f,j,e,i,h⟩:=h;exact⟨f,j,e,i,h.but hb l⟩
theorem Rw.nty13{c:Nat}{l:List Nat}(h:Rw w a c l){cs:Array Value}(f:w.heap[g]?=some (.cells cs t (0,0)))(i:t≠5)(d:a=some x):x.block≠g:=by
 intro e;rcases h.cases with⟨h0,_⟩|⟨g',cur,ha,hg',_⟩
 . rw[h0] at d;cases d
 . rw[ha] at d;cases d;subst e;rw[f] at hg';cases hg';exact i rfl
theorem yN(n:Nat):(madeCells #[.int .u8 0] n).size=n:=by
 exact size_madeCells _ _
def lN:Value->Nat
 | .slice _ n _=>n
 |_=>0
theorem kz{v0 c d v3:Value}(h:W.heap[b]?=some (.cells #[v0,c,d,v3] t (0,0))):W.cell? ⟨b,0,none⟩=some v0/\W.cell? ⟨b,1,none⟩=some c/\W.cell? ⟨b,2,none⟩=some d/\W.cell? ⟨b,3,none⟩=some v3:=by
 refine⟨?_,?_,?_,?_⟩<;>(rw[am _ _ _ _ _ _ h];rfl)
theorem yG(cs:Array Value)(hb:Below w.heap.size w W)(c:w.heap.size<=g):Below w.heap.size w (W.setRow g cs):=((But.ofBelow (S:=λk=>k=g) hb).trans (wb W g cs) (λ_ _ e=>e)).below (λk hk e=>by omega)
theorem xC(w:World)(v:Value)(x:Iv)(l:Bs w x.aV x.val)(j:x.val.length<=32)(m:x.size=(x.val.length:Int)):
 Calls prog 44 #[v,x.vl] w λe w'=>∃(a:Option Addr)(c:Nat),e=.returned (.tuple #[.slice a x.val.length c,.int .i64 0])/\Own w w' a c x.val:=by
 have d:=gW (al w (.cells x.cs 89));have i:=gW (aZ w (.cells x.cs 89));have h:=gW (lk (w.alloc (.cells x.cs 89)) x.aV x.cV x.val (l.keep d.o) (by omega))
 clear l;obtain⟨F,H,L,G,I,n,J,K⟩:=x;simp only at m j;subst m;unfold Iv.vl;simp only[Iv.cs] at d i h ⊢;obtain⟨s,k⟩:∃s,n.length=s:=⟨_,rfl⟩;rw[k] at j h d i ⊢;clear k;have q:decide ((s:Int)<0)=false:=ar (by omega)
 have r:decide ((3840:Int)<(s:Int))=false:=ar (by omega)
 have y:decide ((32:Int)<(s:Int))=false:=ar (by omega)
 have A:((s:Int) != (s:Int))=false:=by simp
 obtain⟨B,C,D,E⟩:=kz i.o;go_enter func44,ntmps44;go_wp2_with fail
 refine h.o.mono ?_;rintro _ w3 ⟨a,c,rfl,f⟩;have p:Hid (Own w w3 a c n):=⟨f.r,f.n.mono d.o.size,bt d.o f.b⟩;clear f;go_wp2_with fail
 refine aF (dg rfl _ _ _) rfl ?_;exact⟨a,c,rfl,p.o⟩
end Go.Proofs.YteaogidofpfmmaaGreat
namespace Go.Proofs.YteaogidofpfmmaaGreat.Q
open Go.Proofs.Tryz
open Go.RowKit Go.Shelf
attribute [local go_sem] Oper.semAt_some
variable {L:List Int}{n:Nat}
def fil(L:List Int)(n:Nat):List Int:=L++List.replicate (n-L.length) 0
theorem xG(h:L.length<=n):(fil L n).length=n:=by unfold fil;rw[af,df];omega
theorem EF(h:L.length<n)(x:Int):(fil L n).set L.length x=fil (L++[x]) n:=by
 unfold fil;rw[ee _ _ (ai _),dU];obtain⟨m,a⟩:∃m,n-L.length=m+1:=⟨n-L.length-1,by omega⟩
 rw[a,List.replicate_succ,eY,af,dY,show n-(L.length+1)=m by omega,aE]
 rfl
theorem vK{P:Po}{i:Nat}(h:i<P.pg.length):(P.counts.take (i+1))=P.counts.take i++[(P.pg.getD i Pg.zero).1]:=by
 have a:i<P.counts.length:=by unfold Po.counts;rw[bu];exact h
 rw[kg P.counts 0 a];congr 2
 unfold Po.counts;simp[h]
theorem xr(w:World)(b:Nat)(P:Po)(V:Nat->Nat)(h:Pl w b P V):Calls prog 50 #[.pointer (some ⟨b,0,none⟩)] w λe U=>∃a c,e=.returned (.slice a P.counts.length c)/\IOwn w U a c P.counts:=by
 obtain⟨D,h⟩:=h;have R:=h.ok.l2;have O:=gW h.q;obtain⟨n,r⟩:∃n,P.pg.length=n:=⟨_,rfl⟩;have N:=gW r;have c1:=h.q.c1;rw[r] at c1 R;have C:P.counts.length=n:=by unfold Po.counts;rw[bu];exact r
 rw[C];have B:=gW C;have W:=BO n (by omega) w
 rw[Ae] at W;have j:=al w (.cells (vi (List.replicate n 0)).toArray 3)
 have G:=gW (show Ig (w.alloc (.cells (vi (List.replicate n 0)).toArray 3)) (some ⟨w.heap.size,0,none⟩) n (fil [] n) by
  have e:fil [] n=List.replicate n 0:=by unfold fil;simp
  rw[e];exact Ig.mk (ah w _) (by simp) (by unfold maxLen;omega) (by simp[vi]) (by simp[vi]))
 have F:=gW j;have Y:(w.alloc (.cells (vi (List.replicate n 0)).toArray 3)).cell? ⟨b,1,none⟩=_:=(j.cell (p:=⟨b,1,none⟩) (block_lt_of_cell c1)).trans c1;clear h r C j;go_enter func50,ntmps50;go_wp2_with fail
 generalize w.alloc (.cells (vi (List.replicate n 0)).toArray 3)=X at *;go_loopw [17] (λi wr=>∃k:Nat,k<=n/\i=.int .i64 (k:Int)/\Ig wr (some ⟨w.heap.size,0,none⟩) n (fil (P.counts.take k) n)/\Below w.heap.size w wr) (λi _=>n-(intOf i).toNat)
 case atStart=>exact⟨0,an _,rfl,G.o,F.o⟩
 case round=>
  obtain⟨i,T,rfl,q,hb⟩:=hrel;have m:=gW q;have v:=gW hb;clear q hb G F;by_cases E:i<n
  . have J:i<P.pg.length:=by rw[N.o];exact E
    obtain⟨H,I⟩:=(O.o.keep v.o).pgAt J;have y:=gW (vK J);obtain⟨x,t⟩:∃x,P.pg.getD i Pg.zero=x:=⟨_,rfl⟩;rw[t] at H I y;obtain⟨d,l⟩:=x;simp only at H I y;have tl:(P.counts.take i).length=i:=by rw[dh,B.o];omega
    have aa:(i:Int)<(n:Int):=by omega
    have j:=al wr (.cells #[.int .i64 d,.bool l] 179);have A:=m.o.keep j;have Z:(wr.alloc (.cells #[.int .i64 d,.bool l] 179)).cell? ⟨w.heap.size,i,none⟩=_:=A.cell (i:=i) (by rw[xG (by rw[tl];exact T)];exact E)
    have fg:(wr.alloc (.cells #[.int .i64 d,.bool l] 179)).frozen? ⟨w.heap.size,i,none⟩=false:=by
     rcases A.cases with⟨h0,_⟩|⟨g',cur,h0,q,_⟩
     . cases h0
     . cases h0;simp[World.frozen?,q]
    have ab:w.heap.size<wr.heap.size:=m.o.lt rfl
    have M:=gW (show Ig ((wr.setCell ⟨w.heap.size,i,none⟩ (.int .i64 d)).alloc (.cells #[.int .i64 d,.bool l] 179)) (some ⟨w.heap.size,0,none⟩) n (fil (P.counts.take (i+1)) n) by
     have s:=m.o.set i d;have f:=EF (L:=P.counts.take i) (n:=n) (by rw[tl];exact E) d
     rw[tl] at f;rw[f,<-y.o] at s;exact s.keep (al _ _))
    have K:=gW (show Below w.heap.size w ((wr.setCell ⟨w.heap.size,i,none⟩ (.int .i64 d)).alloc (.cells #[.int .i64 d,.bool l] 179)) from bt ((But.setCell (S:=λ_=>False) (But.ofBelow v.o) (p:=⟨w.heap.size,i,none⟩) (λh=>by have h:w.heap.size<w.heap.size:=h;omega) _).below (λ_ _ h=>h)) (al _ _))
    clear t j A tl;go_wp2;go_roundw
    case rel=>exact⟨i+1,by omega,by go_num,M.o,K.o⟩
    case measure=>simp[intOf];omega
  . obtain rfl:i=n:=by omega
    go_wp2;go_ret;refine⟨_,_,rfl,?_,λx t=>.inr (by cases t;exact ai _),v.o⟩
    have g:=m.o;rw[show P.counts.take i=P.counts by rw[<-B.o,dp]] at g
    have e:fil P.counts i=P.counts:=by unfold fil;rw[B.o,dU];simp
    rwa [e] at g
end Go.Proofs.YteaogidofpfmmaaGreat.Q
namespace Go.Proofs.YteaogidofpfmmaaGreat
open Go.Proofs.Tryz
open Go.RowKit
variable {z:Int}{i rb:Nat}{col:Nat->Nat}{w w':World}
structure Rd where
 R:Int
 aC:Option Addr
 cC:Nat
 C:List Int
 aL:Option Addr
 cL:Nat
 L:List Bool
 aP:Option Addr
 cP:Nat
 P:List Pv
 aA:Option Addr
 nA:Nat
 cA:Nat
 fl:Int
 hush:Bool
def Rd.box(D:Rd):Array Value:=#[.int .i64 D.R,.slice D.aC D.C.length D.cC,.slice D.aL D.L.length D.cL,.slice D.aP D.P.length D.cP,.slice D.aA D.nA D.cA,.int .i64 D.fl,.bool D.hush]
def vbl(L:List Bool):List Value:=L.map Value.bool
def vpg(P:List Pv):List Value:=(P.map λp=>p.cs.toList).flatten
theorem mS:∀(L:List Pv),(vpg L).length=L.length*5
 | []=>rfl
 |x::L=>by
  have:=mS L;simp only[vpg,bO,eN,af,a7,Pv.cs] at this ⊢;simp only[bg] at this ⊢;omega
theorem oP:∀(L:List Pv)(i k:Nat),i<L.length->k<5->(vpg L)[i*5+k]?=(L.getD i Pv.zero).cs.toList[k]?
 | [],i,k,h,_=>absurd h (dz _)
 |x::L,0,k,h,hk=>by
  have a:x.cs.toList.length=5:=rfl;simp only[vpg,bO,eN,eX,b9];rw[cM (by omega)]
  rfl
 |x::L,i+1,k,h,hk=>by
  have a:x.cs.toList.length=5:=rfl;have b:=oP L i k (by simpa using h) hk
  simp only[vpg,bO,eN] at b ⊢;rw[bP (by omega),a,show(i+1)*5+k-5=i*5+k by omega,b]
  rfl
structure Rq(w:World)(rb:Nat)(D:Rd)(col:Nat->Nat):Prop where
 box:w.heap[rb]?=some (.cells D.box 109 (0,0))
 cr:Q.Ig w D.aC D.cC D.C
 lr:Q.Gw 4 1 w D.aL D.cL D.L.length (vbl D.L)
 pr:Q.Gw 77 5 w D.aP D.cP D.P.length (vpg D.P)
 pz:∀p∈D.P,Pz (λk=>col k=6) w p
 ps:∀p∈D.P,p.pg.check=0\/p=Pv.zero
 cb:col rb=1
 cc:∀x,D.aC=some x->col x.block=2
 cl:∀x,D.aL=some x->col x.block=3
 cp:∀x,D.aP=some x->col x.block=4
 lt:∀k,col k≠0->k<w.heap.size
 nL:D.L.length=D.C.length
 nP:D.P.length=D.C.length
 n6:D.C.length<=65536
theorem Rq.but{S:Nat->Prop}{D:Rd}(h:Rq w rb D col)(hb:But S w w')(d:∀k,col k≠0->¬S k):Rq w' rb D col:=by
 have b:∀{k c:Nat},col k=c+1->¬S k:=λe=>d _ (by omega)
 exact⟨hb.same h.box (b (c:=0) h.cb),h.cr.but hb (λx a=>b (c:=1) (h.cc x a)),h.lr.but hb (λx a=>b (c:=2) (h.cl x a)),h.pr.but hb (λx a=>b (c:=3) (h.cp x a)),λp f=>(h.pz p f).but hb (λk _ e=>b (c:=5) e),h.ps,h.cb,h.cc,h.cl,h.cp,λk hk=>a6 (h.lt k hk) hb.size,h.nL,h.nP,h.n6⟩
theorem Rq.keep{D:Rd}(h:Rq w rb D col)(hb:Below w.heap.size w w'):Rq w' rb D col:=h.but (S:=λ_=>False) (But.ofBelow hb) (λ_ _ h=>h)
theorem Rq.lb{D:Rd}(h:Rq w rb D col):rb<w.heap.size:=(ae.1 h.box).1
theorem Rq.cells{D:Rd}(h:Rq w rb D col):w.cell? ⟨rb,0,none⟩=some (.int .i64 D.R)/\w.cell? ⟨rb,1,none⟩=some (.slice D.aC D.C.length D.cC)/\w.cell? ⟨rb,2,none⟩=some (.slice D.aL D.L.length D.cL)/\w.cell? ⟨rb,3,none⟩=some (.slice D.aP D.P.length D.cP)/\w.cell? ⟨rb,6,none⟩=some (.bool D.hush):=by
 rw[am _ _ _ _ _ _ h.box,am _ _ _ _ _ _ h.box,am _ _ _ _ _ _ h.box,am _ _ _ _ _ _ h.box,am _ _ _ _ _ _ h.box];exact⟨rfl,rfl,rfl,rfl,rfl⟩
def Rd.has(D:Rd)(z:Int):Bool:=decide (1<=z)&&decide (z<=D.C.length)
def Rd.count(D:Rd)(z:Int):Int:=if D.has z then D.C.getD (z-1).toNat 0 else 0
def Rd.on(D:Rd)(z:Int):Pv:=D.P.getD (z-1).toNat Pv.zero
theorem Rd.has_iff{D:Rd}:D.has z=true↔1<=z/\z<=D.C.length:=by unfold Rd.has;simp
theorem Rq.cAt{D:Rd}(h:Rq w rb D col)(hi:i<D.C.length):∃g,D.aC=some ⟨g,0,none⟩/\w.cell? ⟨g,i,none⟩=some (.int .i64 (D.C.getD i 0)):=by
 rcases h.cr.cases with⟨_,_,e⟩|⟨g,cur,e,_⟩
 . rw[e] at hi;exact absurd hi (dz _)
 . refine⟨g,e,?_⟩;have k:=h.cr;rw[e] at k;exact k.cell hi
theorem Rq.pAt{D:Rd}(h:Rq w rb D col)(hi:i<D.C.length):∃g,D.aP=some ⟨g,0,none⟩/\∀k u,k<5->(D.P.getD i Pv.zero).cs.toList[k]?=some u->w.cell? ⟨g,i*5+k,none⟩=some u:=by
 have a:i<D.P.length:=by rw[h.nP];exact hi
 obtain⟨g,e⟩:=h.pr.addr (by omega)
 refine⟨g,e,λk u hk b=>?_⟩
 have r:=h.pr;rw[e] at r;exact r.cell (by rw[oP D.P i k a hk];exact b)
theorem Rd.on_mem{D:Rd}(h:Rq w rb D col)(a:D.has z=true):D.on z∈D.P:=by
 obtain⟨b,c⟩:=Rd.has_iff.1 a;have:(z-1).toNat<D.P.length:=by rw[h.nP];omega
 unfold Rd.on;generalize (z-1).toNat=k at this;simp[this]
theorem kW{p:Pv}(h:p.pg.check=0\/p=Pv.zero):Sml p/\p.items.length<=1048576:=by
 rcases h with h|rfl
 . obtain⟨s,c,q,t⟩:=Pg.check_zero.1 h;unfold Pg.form at c;have f:p.pg.items.length=p.items.length:=bu _;have r:p.pg.data=p.data:=rfl
   have v:p.items.length<=8/\p.data.length<=480:=by
    rw[f,r] at c;split at c
    all_goals
     simp only[b7,bZ] at c;omega
   refine⟨⟨by omega,λx d=>?_⟩,by omega⟩
   obtain⟨i,g,e⟩:=List.getElem_of_mem d
   have j:p.pg.at i=x.it:=by
    unfold Pg.at;show(p.items.map Iv.it).getD i It.zero=x.it;simp[be,g,e]
   have k:=q i (by rw[f];exact g)
   unfold Pg.itemE at k
   have b:p.pg.keyOk i=true:=by
    cases e:p.pg.keyOk i with
    |true=>rfl
    |false=>rw[if_pos e] at k;cases k
   rw[if_neg (by rw[b];decide)] at k
   have l:p.pg.ordOk i=true:=by
    cases e:p.pg.ordOk i with
    |true=>rfl
    |false=>rw[if_pos e] at k;cases k
   rw[if_neg (by rw[l];decide)] at k
   have a:(p.pg.at i).valOk p.pg.kind=true:=by
    cases e:(p.pg.at i).valOk p.pg.kind with
    |true=>rfl
    |false=>rw[if_pos e] at k;cases k
   rw[j] at a;unfold Pg.keyOk at b;rw[j] at b;unfold It.valOk at a;have m:x.it.key=x.key:=rfl;have n:x.it.val=x.val:=rfl;rw[m] at b;rw[n] at a;constructor
   . split at b
     . simp at b;rw[b];exact an _
     . simp only[b7,bZ] at b;omega
   . split at a
     . simp only[b7,bZ] at a;omega
     . split at a
       . cases a
       . split at a
         all_goals
          simp only[bZ] at a;omega
 . exact⟨⟨an _,λx d=>absurd d (bX)⟩,an _⟩
theorem po(w:World)(r:Int):Calls prog 159 #[.int .i64 r] w λe w'=>e=.returned (.bool (decide (2<=r)&&decide (r<65536)))/\w'=w:=by
 by_cases h:2<=r
 . go_enter func159,ntmps159;go_wp2;go_ret;exact⟨by simp[h],rfl⟩
 . go_enter func159,ntmps159;go_wp2;go_ret;exact⟨by rw[ar (show ¬(2<=r) by omega)];rfl,rfl⟩
theorem DY(w:World)(rb:Nat)(D:Rd)(col:Nat->Nat)(h:Rq w rb D col)(n:Int):Calls prog 129 #[.pointer (some ⟨rb,0,none⟩),.int .i64 n] w λe w'=>e=.returned (.bool (D.has n))/\w'=w:=by
 obtain⟨c0,c1,c2,c3,b⟩:=h.cells;unfold Rd.has;generalize D.C.length=m at *;by_cases a:1<=n
 . go_enter func129,ntmps129;go_wp2;go_ret;exact⟨by simp[a],rfl⟩
 . go_enter func129,ntmps129;go_wp2;go_ret;exact⟨by rw[ar (show ¬(1<=n) by omega)];rfl,rfl⟩
theorem lD(w:World)(rb:Nat)(D:Rd)(col:Nat->Nat)(h:Rq w rb D col)(n:Int):Calls prog 84 #[.pointer (some ⟨rb,0,none⟩),.int .i64 n] w λe w'=>e=.returned (.bool (decide (0<D.count n)))/\w'=w:=by
 obtain⟨c0,c1,c2,c3,l⟩:=h.cells;have c:=gW (DY w rb D col h n);by_cases a:D.has n=true
 . obtain⟨q,r⟩:=Rd.has_iff.1 a;obtain⟨i,d⟩:∃i:Nat,n=(i:Int)+1:=⟨(n-1).toNat,by omega⟩
   subst d;have d:i<D.C.length:=by omega
   obtain⟨g,e,p⟩:=h.cAt d;have b:D.count ((i:Int)+1)=D.C.getD i 0:=by unfold Rd.count;rw[if_pos a];simp
   rw[b];rw[a] at c;rw[e] at c1;have t:(i:Int)+1-1=(i:Int):=by omega
   have v:(i:Int)<(D.C.length:Int):=by omega
   have s:=h.n6;clear h b a;generalize D.C.length=m at *;generalize D.C.getD i 0=x at *;go_enter func84,ntmps84;go_wp2_with fail
   refine c.o.mono ?_;rintro _ k ⟨rfl,f⟩;obtain rfl:=f.symm;go_wp2;go_ret;exact⟨rfl,rfl⟩
 . have j:D.has n=false:=by simpa using a
   have b:D.count n=0:=by unfold Rd.count;rw[if_neg a]
   rw[b];rw[j] at c;clear h b a j;go_enter func84,ntmps84;go_wp2_with fail
   refine c.o.mono ?_;rintro _ k ⟨rfl,f⟩;obtain rfl:=f.symm;go_wp2;go_ret;exact⟨rfl,rfl⟩
theorem qb(w:World)(rb:Nat)(D:Rd)(col:Nat->Nat)(h:Rq w rb D col):Calls prog 51 #[.pointer (some ⟨rb,0,none⟩)] w λe w'=>e=.returned (.int .i64 ((D.C.length:Nat):Int))/\w'=w:=by
 obtain⟨c0,c1,c2,c3,a⟩:=h.cells;generalize D.C.length=m at *;go_enter func51,ntmps51;go_wp2;go_ret;exact⟨rfl,rfl⟩
theorem Am(w:World)(rb:Nat)(D:Rd)(col:Nat->Nat)(h:Rq w rb D col)(n:Int):
 Calls prog 53 #[.pointer (some ⟨rb,0,none⟩),.int .i64 n] w λx w'=>∃q:Pv,x=.returned (.tuple #[q.vl,.int .i64 (if 0<D.count n then 0 else 15)])/\Pn w w' q/\q.items.length<=1048576/\q.pg=(if 0<D.count n then (D.on n).pg else Pv.zero.pg)/\Below w.heap.size w w':=by
 have s:=al w (.cells Pv.zero.cs 77);have a:=gW (lD _ rb D col (h.keep s) n);have b:=gW (ah w (.cells Pv.zero.cs 77));have d:=gW s;have ag:=h.lb;by_cases c:0<D.count n
 . simp only[if_pos c]
   have y:D.has n=true:=by
    unfold Rd.count at c;split at c
    . assumption
    . omega
   obtain⟨V,W⟩:=Rd.has_iff.1 y;obtain⟨i,A⟩:∃i:Nat,n=(i:Int)+1:=⟨(n-1).toNat,by omega⟩
   subst A;have A:i<D.C.length:=by omega
   obtain⟨g,e,f⟩:=h.pAt A;obtain⟨c0,c1,c2,c3,U⟩:=h.cells;rw[e,h.nP] at c3;have N:D.on ((i:Int)+1)=D.P.getD i Pv.zero:=by unfold Rd.on;simp
   have B:=Rd.on_mem h y;obtain⟨sm,C⟩:=kW (h.ps _ B);have j:=gW (pE _ (D.on ((i:Int)+1)) ((h.keep s).pz _ B).pi sm.1 C sm.2);have t:=gW C;have hs:(i:Int)+1-1=(i:Int):=by omega
   have ai:(i:Int)<(D.C.length:Int):=by omega
   have Z:=h.n6;rw[au c] at a;rw[N] at j t ⊢;clear h c y B sm C N s c0 c1 c2 U V W;generalize D.C.length=m at *;obtain⟨q,M⟩:∃q,D.P.getD i Pv.zero=q:=⟨_,rfl⟩;rw[M] at j f t ⊢;clear M;obtain⟨kp,lp,ab,ad,aj,aa,ac,af,ak⟩:=q;have l:=f 0 _ (by decide) rfl
   have E:=f 1 _ (by decide) rfl
   have F:=f 2 _ (by decide) rfl
   have G:=f 3 _ (by decide) rfl
   have H:=f 4 _ (by decide) rfl
   rw[dr] at l;have Y:g<w.heap.size:=block_lt_of_cell l;clear f;unfold Pv.vl at *;simp only[Pv.cs] at j b d a l E F G H;simp only[Pv.zero,bg] at j b d a l E F G H c3;go_enter func53,ntmps53;go_wp2_with fail
   refine a.o.mono ?_;rintro _ X ⟨rfl,p⟩;obtain rfl:=p.symm;clear p;go_wp2_with fail
   refine j.o.mono ?_;rintro _ w2 ⟨r,rfl,J,L,K,hb⟩;have T:=gW (J.pre d.o.size);have P:=gW K;have R:=gW L;have O:=gW (bt d.o hb);have I:=gW ((hb.block w.heap.size (ae.1 b.o).1).trans b.o);clear J K hb j a l E F G H c3 L;go_wp2_with (first|(refine bz rfl 77 _ _ rfl w.heap.size _ rfl rfl 77 _ I.o iD rfl (by simp[Value.oneCell']) ?_)|fail)
   refine aF (v:=.tuple #[.agg _,_]) (jU results53 _ _ w.heap.size 77 _ (0,0) _ rfl (br _ _ _ _ _ _ I.o) underlying77 rfl iD) rfl ?_;exact⟨r,rfl,T.o.row I.o (by decide) (by decide) _,by rw[R.o];exact t.o,P.o,((But.ofBelow (S:=λk=>k=w.heap.size) O.o).trans (Q.gZ _ _ _) (λ_ _ e=>e)).below (λk hk e=>by omega)⟩
 . simp only[if_neg c];rw[ar c] at a;clear c h;unfold Pv.vl at *;simp only[Pv.cs] at b d a;simp only[Pv.zero,bg] at b d a;go_enter func53,ntmps53;go_wp2_with fail
   refine a.o.mono ?_;rintro _ X ⟨rfl,p⟩;obtain rfl:=p.symm;clear p;go_wp2_with (first|(refine bz rfl 77 _ _ rfl w.heap.size _ rfl rfl 77 _ b.o iD rfl (by simp[Value.oneCell']) ?_)|fail)
   refine aF (v:=.tuple #[.agg _,_]) (jU results53 _ _ w.heap.size 77 _ (0,0) _ rfl (br _ _ _ _ _ _ b.o) underlying77 rfl iD) rfl ?_;exact⟨Pv.zero,rfl,Pn.zero _ _,an _,rfl,((But.ofBelow (S:=λk=>k=w.heap.size) d.o).trans (Q.gZ _ _ _) (λ_ _ e=>e)).below (λk hk e=>by omega)⟩
end Go.Proofs.YteaogidofpfmmaaGreat
