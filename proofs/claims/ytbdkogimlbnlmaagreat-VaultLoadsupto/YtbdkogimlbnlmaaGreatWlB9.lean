import Derived.Test.YtbdkogimlbnlmaaGreatWlB7
import Derived.Test.YtbdkogimlbnlmaaGreatWlB8
set_option linter.all false
set_option maxHeartbeats 8000000
set_option maxRecDepth 8000
namespace Go.Proofs.YtbdkogimlbnlmaaGreat
open Tryz
open Go.RowKit
variable {b fl k m:Nat}{col pc:Nat->Nat}{p:Pg}{D:Vd}{w:World}
theorem Gi(w:World)(b:Nat)(P:Q.Po)(fl:Nat)(D:Vd)(pc col:Nat->Nat)(h:Vq w b P fl D pc col)(k m:Nat)(j:m<=D.ch.length)(v:P.mark<=9223372036854775807)(e:Int)(t:e≠0):
 Calls prog 99 #[.pointer (some ⟨b,0,none⟩),.agg #[.int .i64 ((k:Nat):Int),.int .i64 ((m:Nat):Int)],.int .i64 e] w λx n=>x=.returned (.int .i64 e)/\∃B col',Vq n b (P.undo ((k:Nat):Int)) fl {D with f:=unl D.f (D.ch.drop m),ch:=D.ch.take m} B col'/\Vf w col n col':=by
 have d:=al w (.cells #[.int .i64 ((k:Nat):Int),.int .i64 ((m:Nat):Int)] 137);obtain⟨y,A⟩:=iX (aF w (.cells #[.int .i64 ((k:Nat):Int),.int .i64 ((m:Nat):Int)] 137));have g:=iJ (uF _ b P fl D pc col (h.keep d) k m j v);have q:=iJ d;have C:(e==0)=false:=by simp[t]
 clear h d j;go_enter func99,ntmps99;go_wp2_with fail
 refine g.o.mono ?_;rintro _ E ⟨rfl,G,H,l,i⟩;have s:=iJ l;have r:=iJ ((Vf.keep q.o).trans i);clear l i g y A;go_wp2;go_ret;exact⟨rfl,_,_,s.o,r.o⟩
theorem sO:∀(L:List (Nat×Nat))(i:Nat),i<L.length->(plc L)[i*2]?=some (.int .i64 (((L.getD i (0,0)).1:Nat):Int))/\(plc L)[i*2+1]?=some (.int .i64 (((L.getD i (0,0)).2:Nat):Int))
 | [],i,h=>absurd h (by simp)
 |x::L,0,h=>by simp[plc]
 |x::L,i+1,h=>by
  have k:=sO L i (by simpa using h)
  rw[show plc (x::L)=[.int .i64 ((x.1:Nat):Int),.int .i64 ((x.2:Nat):Int)]++plc L by simp[plc],show(i+1)*2=i*2+2 by omega,bg (by simp),bg (by simp)]
  exact k
theorem DL(L:List (Nat×Nat))(m:Nat)(h:m<=L.length):(plc L).take (m*2)=plc (L.take m):=by
 have e:plc L=plc (L.take m)++plc (L.drop m):=by rw[<-se,cZ]
 rw[e,d9 (by rw[mg,bi];omega),db (by rw[mg,bi];omega)]
theorem FM{a:Option Addr}{cap n:Nat}{L:List (Nat×Nat)}(h:Q.Gw 137 2 w a cap n (plc L))(e:n=L.length)(d:m<=n):Q.Gw 137 2 w a cap m (plc (L.take m)):=by
 rcases h.cases with⟨rfl,rfl,rfl,h4⟩|⟨g,cur,rfl,hg,h1,h2,h3,h4⟩
 . obtain rfl:m=0:=by omega
   exact Q.Gw.nil _ _ _
 . refine Q.Gw.mk (by rw[mg,bi];omega) hg (by omega) h2 h3 ?_
   rw[<-DL L m (by omega),<-h4,fG,dq (by omega)]
theorem Vq.cutA{P:Q.Po}(h:Vq w b P fl D pc col)(j:m<=D.al.length):
 Vq (w.setCell ⟨b,3,none⟩ (.slice D.aa m D.ca)) b P fl {D with al:=D.al.take m} pc col/\Vf w col (w.setCell ⟨b,3,none⟩ (.slice D.aa m D.ca)) col:=by
 have hb:But (λk=>k=b) w (w.setCell ⟨b,3,none⟩ (.slice D.aa m D.ca)):=(But.refl (λk=>k=b) w).setCell (p:=⟨b,3,none⟩) (λ_=>rfl) _
 have ne:∀{k:Nat},col k≠1->¬(k=b):=λi e=>i (by rw[e];exact h.cb)
 have g:(D.al.take m).length=m:=by rw[bi];omega
 refine⟨⟨?_,h.mp.but hb (ne (by rw[h.cm];decide)),h.chr.but hb (λx d=>ne (by rw[h.cc x d];decide)),?_,h.pool.but hb (λk f=>ne (by rw[h.cp k f];decide)),λk p l=>(h.fz k p l).but hb (λk _ e=>ne (by omega)),λx d=>(h.cz x d).but hb (λk _ e=>ne (by omega)),h.cb,h.cm,h.cc,h.ca,h.cp,λk f=>be (h.lt k f) hb.size⟩,hb.mono (λk _ e=>by rw[e,h.cb];decide),λ_ _=>rfl⟩
 . rw[aY _ _ _ _ _ _ h.box];show some (Obj.cells _ _ _)=some (Obj.cells (lJ fl _) _ _);unfold lJ;rw[g];rfl
 . show Q.Gw _ _ _ D.aa D.ca (D.al.take m).length _;rw[g];exact(FM h.acr rfl j).but hb (λx d=>ne (by rw[h.ca x d];decide))
def Vd.to(D:Vd)(t:Nat):Vd:={D with f:=unl D.f (D.ch.drop (D.al.getD t (0,0)).2),ch:=D.ch.take (D.al.getD t (0,0)).2,al:=D.al.take t}
theorem Ed(w:World)(b:Nat)(P:Q.Po)(fl:Nat)(D:Vd)(pc col:Nat->Nat)(h:Vq w b P fl D pc col)(n:Int)(g:fl+D.al.length<=9223372036854775807)(i:n<(fl:Int)\/((fl+D.al.length:Nat):Int)<n):
 Calls prog 117 #[.pointer (some ⟨b,0,none⟩),.int .i64 n] w λx q=>x=.returned (.bool false)/\Below w.heap.size w q:=by
 obtain⟨-,-,-,-,c4⟩:=h.cells;have d:=iJ (lU w b P fl D pc col h g);clear h;by_cases e:n<(fl:Int)
 . have l:decide (n<(fl:Int))=true:=ax e;go_enter func117,ntmps117;go_wp2;go_ret;exact⟨rfl,Below.refl _ _⟩
 . have l:decide (n<(fl:Int))=false:=au e;obtain⟨M,f⟩:∃M,fl+D.al.length=M:=⟨_,rfl⟩;rw[f] at d i;have r:decide ((M:Int)<n)=true:=ax (by omega)
   clear f g i;go_enter func117,ntmps117;go_wp2_with fail
   refine d.o.mono ?_;rintro _ s ⟨rfl,hb⟩;have j:=iJ hb;clear hb d;go_wp2;go_ret;exact⟨rfl,j.o⟩
theorem zF(w:World)(b:Nat)(P:Q.Po)(fl:Nat)(D:Vd)(pc col:Nat->Nat)(h:Vq w b P fl D pc col)(g:fl+D.al.length<=9223372036854775807):
 Calls prog 117 #[.pointer (some ⟨b,0,none⟩),.int .i64 ((fl+D.al.length:Nat):Int)] w λx i=>x=.returned (.bool true)/\Below w.heap.size w i:=by
 obtain⟨-,-,-,-,c4⟩:=h.cells;have d:=iJ λ(W:World)(hb:Below w.heap.size w W)=>lU W b P fl D pc col (h.keep hb) g
 clear h;obtain⟨M,f⟩:∃M,fl+D.al.length=M:=⟨_,rfl⟩;have l:decide ((M:Int)<(fl:Int))=false:=au (by omega)
 have r:decide (M<fl)=false:=au (by omega)
 rw[f] at d ⊢;clear f g;go_enter func117,ntmps117;go_wp2_with fail
 refine(d.o _ (Below.refl _ _)).mono ?_;rintro _ n ⟨rfl,hb⟩;have e:=iJ hb;clear hb;go_wp2_with fail
 refine(d.o _ e.o).mono ?_;rintro _ q ⟨rfl,hb⟩;have j:=iJ (bt e.o hb);clear hb;go_wp2;go_ret;exact⟨rfl,j.o⟩
theorem zJ(w:World)(b:Nat)(P:Q.Po)(fl:Nat)(D:Vd)(pc col:Nat->Nat)(h:Vq w b P fl D pc col)(t:Nat)(E:fl+D.al.length<=9223372036854775807)(f:t<D.al.length)(T:(D.al.getD t (0,0)).2<=D.ch.length)(V:P.mark<=9223372036854775807):
 Calls prog 117 #[.pointer (some ⟨b,0,none⟩),.int .i64 ((fl+t:Nat):Int)] w λx w'=>x=.returned (.bool true)/\∃ac col',Vq w' b (P.undo (((D.al.getD t (0,0)).1:Nat):Int)) fl (D.to t) ac col'/\Vf w col w' col':=by
 have HV:=iJ h;have i:=iJ λ(W:World)(hb:Below w.heap.size w W)=>lU W b P fl D pc col (h.keep hb) E
 obtain⟨g,q⟩:=h.acr.addr (by omega)
 have l:=h.acr;rw[q] at l;have d:=l.cell (sO D.al t f).1;have e:=l.cell (sO D.al t f).2;have af:=h.acr.capLe;have s:=iJ λ(W:World)(hb:Below w.heap.size w W)=>uF W b P fl D pc col (h.keep hb) (D.al.getD t (0,0)).1 (D.al.getD t (0,0)).2 T V
 obtain⟨-,-,-,c3,c4⟩:=h.cells;rw[q] at c3;have A:=iJ q;have S:=iJ λ(W:World)(hb:Below w.heap.size w W)=>(show W.cell? ⟨b,3,none⟩=_/\W.cell? ⟨b,4,none⟩=_/\W.cell? ⟨g,t*2,none⟩=_/\W.cell? ⟨g,t*2+1,none⟩=_ from⟨(hb.cell (p:=⟨b,3,none⟩) (block_lt_of_cell c3)).trans c3,(hb.cell (p:=⟨b,4,none⟩) (block_lt_of_cell c4)).trans c4,(hb.cell (p:=⟨g,t*2,none⟩) (block_lt_of_cell d)).trans d,(hb.cell (p:=⟨g,t*2+1,none⟩) (block_lt_of_cell e)).trans e⟩)
 obtain⟨x,X⟩:∃x,D.al.getD t (0,0)=x:=⟨_,rfl⟩;unfold Vd.to;rw[X] at d e S s ⊢;obtain⟨ag,ah⟩:=x;obtain⟨n,G⟩:∃n,D.al.length=n:=⟨_,rfl⟩;rw[G] at f E af c3 i S;have J:=iJ G;have d1:decide (((fl+t:Nat):Int)<(fl:Int))=false:=au (by omega)
 have L:decide (((fl+n:Nat):Int)<((fl+t:Nat):Int))=false:=au (by omega)
 have N:decide (((fl+t:Nat):Int)<((fl+n:Nat):Int))=true:=ax (by omega)
 have n1:decide (fl+t<fl)=false:=au (by omega)
 have Y:decide (fl+n<fl+t)=false:=au (by omega)
 have Z:decide (fl+t<fl+n)=true:=ax (by omega)
 have j:IntKind.i64.wrap (((fl+t:Nat):Int)-(fl:Int))=(t:Int):=by rw[iT (by omega) (by omega)];omega
 have ai:(t:Int)<(n:Int):=by omega
 have aj:(t:Int)<=(D.ca:Int):=by omega
 obtain⟨M,R⟩:∃M,fl+t=M:=⟨_,rfl⟩;obtain⟨K,aa⟩:∃K,fl+n=K:=⟨_,rfl⟩;have I:=iJ j;have ab:=iJ f;rw[R] at d1 L N n1 Y Z I ⊢;rw[aa] at L N Y Z i;clear h l q X G j d e E R aa T V f;simp only at S s;go_enter func117,ntmps117;go_wp2_with fail
 refine(i.o _ (Below.refl _ _)).mono ?_;rintro _ w1 ⟨rfl,hb⟩;have B:=iJ hb;clear hb c3 c4;go_wp2_with fail
 refine(i.o _ B.o).mono ?_;rintro _ w2 ⟨rfl,hb⟩;have H:=iJ (bt B.o hb);clear hb B;obtain⟨c3,c4,d,e⟩:=S.o _ H.o;have j:=I.o;go_wp2_with fail
 refine(s.o _ H.o).mono ?_;rintro _ w3 ⟨rfl,ad,ae,r,U⟩;obtain⟨v,O⟩:=r.cutA (m:=t) (by show t<=D.al.length;rw[J.o];exact gE ab.o)
 have C:=iJ v;have y:=iJ ((Vf.keep H.o).trans (U.trans O));have u:=r.cells.2.2.2.1;have fS:=r.free 3;simp only at u C y;rw[A.o,J.o] at u;rw[A.o] at C y;clear r U v O c3 c4 d e j;go_wp2;go_ret;refine⟨rfl,ad,ae,?_,y.o⟩;rw[A.o];exact C.o
def ut(P:Q.Po)(D:Vd)(n:Int):Vd:=if (P.dec n).1.2=0/\(P.dec n).2.state n=1 then {D with f:=jp D.f n Pv.zero,ch:=D.ch++[(n,mO D n)]} else D
theorem DV(w:World)(b:Nat)(P:Q.Po)(fl:Nat)(D:Vd)(pc col:Nat->Nat)(h:Vq w b P fl D pc col)(n:Int)(S:P.ac.length+1<=17592186044416)(ab:D.ch.length+1<=1759218604441):
 Calls prog 145 #[.pointer (some ⟨b,0,none⟩),.int .i64 n] w λe V=>e=.returned (.tuple #[.int .i64 (P.dec n).1.1,.int .i64 (P.dec n).1.2])/\∃I J aa col',Vq V b (P.dec n).2 fl {ut P D n with ac:=I,cc:=J} aa col'/\Vf w col V col':=by
 obtain⟨c0,-,-,-,-⟩:=h.cells;have q:=iJ (Q.FJ w D.pb P pc h.pool n S);have C:=iJ h;clear h;unfold ut;obtain⟨c,O⟩:∃c,(P.dec n).1.1=c:=⟨_,rfl⟩;obtain⟨e,R⟩:∃e,(P.dec n).1.2=e:=⟨_,rfl⟩;obtain⟨f,N⟩:∃f,(P.dec n).2=f:=⟨_,rfl⟩;rw[O,R,N] at q ⊢;clear O R N S;by_cases G:e=0
 . subst G;by_cases y:f.state n=1
   . rw[if_pos ⟨rfl,y⟩];go_enter func145,ntmps145;go_wp2_with fail
     refine q.o.mono ?_;rintro _ A ⟨rfl,g,d,l⟩;obtain⟨i,j⟩:=C.o.pooled d l;have t:=iJ i;have r:=iJ j;have c1:=i.cells.1;have v:=iJ (Q.oM A D.pb f g d n);rw[y] at v;clear d l i j q c0;go_wp2_with fail
     refine v.o.mono ?_;rintro _ X ⟨rfl,hb⟩;have E:=iJ (t.o.keep hb);have B:=iJ (r.o.trans (Vf.keep hb));clear hb c1 v t r;have x:=iJ (xN X b f fl D g _ E.o n Pv.zero (Pz.zero _ _) ab);unfold Pv.vl at x;simp only[Pv.cs,Pv.zero,bj] at x;go_wp2_with fail
     refine x.o.mono ?_;rintro _ w3 ⟨rfl,I,J,col',U,M⟩;have Z:=iJ U;have Y:=iJ (B.o.trans M);clear U M x;go_wp2;go_ret2
     exact⟨rfl,I,J,g,col',Z.o,Y.o⟩
   . rw[if_neg (λH=>y H.2)]
     have e1:((f.state n:Nat):Int)≠1:=by omega
     have L:(((f.state n:Nat):Int)==1)=false:=by simp;omega
     have e3:(f.state n==1)=false:=by simp;omega
     obtain⟨s,T⟩:∃s,f.state n=s:=⟨_,rfl⟩;have K:=iJ λ(W:World)(g:Nat->Nat)(d:Q.Pl W D.pb f g)=>Q.oM W D.pb f g d n
     rw[T] at e1 L e3 K;clear T y;go_enter func145,ntmps145;go_wp2_with fail
     refine q.o.mono ?_;rintro _ A ⟨rfl,g,d,l⟩;obtain⟨i,j⟩:=C.o.pooled d l;have t:=iJ i;have r:=iJ j;have c1:=i.cells.1;have v:=iJ (K.o A g d);clear d l i j q c0;go_wp2_with fail
     refine v.o.mono ?_;rintro _ X ⟨rfl,hb⟩;have E:=iJ (t.o.keep hb);have B:=iJ (r.o.trans (Vf.keep hb));clear hb c1 v t r;go_wp2;go_ret2
     exact⟨rfl,D.ac,D.cc,g,_,E.o,B.o⟩
 . rw[if_neg (λH=>G H.1)]
   have L:(e==0)=false:=by simp[G]
   go_enter func145,ntmps145;go_wp2_with fail
   refine q.o.mono ?_;rintro _ A ⟨rfl,g,d,l⟩;obtain⟨i,j⟩:=C.o.pooled d l;have t:=iJ i;have r:=iJ j;clear d l i j q c0;go_wp2;go_ret2
   exact⟨rfl,D.ac,D.cc,g,_,t.o,r.o⟩
def incAll:Q.Po->List Int->Int×Q.Po
 |P,[]=>(0,P)
 |P,z::L=>if (P.inc z).1=0 then incAll (P.inc z).2 L else P.inc z
theorem Ao(P:Q.Po)(z:Int):(P.inc z).2.ac.length<=P.ac.length+1:=by
 unfold Q.Po.inc;split
 . exact eJ _
 . split
   . exact eJ _
   . simp[Q.Po.act]
theorem Vq.new{w W:World}{b:Nat}{P:Q.Po}{fl:Nat}{D:Vd}{pc col:Nat->Nat}(h:Vq w b P fl D pc col)(g:w.heap.size<=W.heap.size){a:Option Addr}(d:New W none a){x:Addr}(f:a=some x):col x.block=0:=by
 cases e:col x.block with
 |zero=>rfl
 |succ n=>
  have:=h.lt x.block (by omega)
  rcases d x f with⟨y,hy,_⟩|h2
  . cases hy
  . have h2:W.heap.size<=x.block:=h2;omega
theorem pV(L:List Int)(h:k<L.length):L.drop k=L.getD k 0::L.drop (k+1):=by
 rw[cF h,aq,aR h];rfl
theorem Dd(w:World)(b:Nat)(P:Q.Po)(fl:Nat)(D:Vd)(pc col:Nat->Nat)(h:Vq w b P fl D pc col)(p:Pv)(s:Pi w p)(N:P.ac.length+p.pg.kids.length<=17592186044416):
 Calls prog 146 #[.pointer (some ⟨b,0,none⟩),p.vl] w λe w'=>e=.returned (.int .i64 (incAll P p.pg.kids).1)/\∃q col',Vq w' b (incAll P p.pg.kids).2 fl D q col'/\Vf w col w' col':=by
 have H:=al w (.cells p.cs 31);have l:=aF w (.cells p.cs 31);have v:=iJ (wB _ p (s.keep H));have A:=iJ H;have C:=iJ h;obtain⟨L,hL⟩:∃L,p.pg.kids=L:=⟨_,rfl⟩;rw[hL] at v N ⊢;obtain⟨n,O⟩:∃n,L.length=n:=⟨_,rfl⟩;have Y:=iJ O;have W:=iJ N;rw[O] at v W;have ak:n<=17592186044416:=by omega
 clear h s hL H O N;obtain⟨am,an,aI,cI,items,aD,cD,aj,next⟩:=p
 unfold Pv.vl at *;simp only[Pv.cs] at *;obtain⟨x0,x1,x2,x3,x4⟩:=iS l;clear l;go_enter func146,ntmps146;go_wp2_with fail
 refine v.o.mono ?_;rintro _ w1 ⟨a,c,rfl,r⟩;have V1:=iJ (C.o.keep (bt A.o r.b));have S:=iJ (Vf.keep (c:=col) (bt A.o r.b));have HI:=iJ r.r;have HC:=iJ λ(x:Addr)(l:a=some x)=>C.o.new A.o.size r.n l
 clear r v x0 x1 x2 x3 x4 C;go_wp2_with fail
 go_loopw [11] (λi wr=>∃(k:Nat)(d:Q.Po)(q col':Nat->Nat),k<=n/\i=.int .i64 (k:Int)/\Vq wr b d fl D q col'/\Vf w1 col wr col'/\incAll d (L.drop k)=incAll P L/\d.ac.length<=P.ac.length+k) (λi _=>n-(intOf i).toNat)
 case atStart=>exact⟨0,P,pc,col,az _,rfl,V1.o,Vf.refl _ _,by rw[fa],ai _⟩
 case round=>
  obtain⟨k,d,q,col',hk,rfl,K,J,f,hA⟩:=hrel;have G:=iJ K;have T:=iJ J;have B:=iJ f;have V:=iJ hA;have R2:=iJ (HI.o.but J.b (λx l e=>by rw[HC.o x l] at e;omega))
  have c0:=K.cells.1;clear K J f hA;by_cases af:k<n
  . have ab:k<L.length:=by rw[Y.o];exact af
    have ah:(k:Int)<(n:Int):=by omega
    obtain⟨ag,off,rfl,g⟩:=R2.o.ir.at ab;have M:=pV L ab;obtain⟨z,hz⟩:∃z,L.getD k 0=z:=⟨_,rfl⟩;rw[hz] at g M;have f:=B.o;rw[M] at f;have R:=Ao d z;have E:=iJ (Q.ye wr D.pb d q G.o.pool z (by have:=W.o;have:=V.o;omega))
    obtain⟨e,y⟩:∃e,(d.inc z).1=e:=⟨_,rfl⟩;obtain⟨P2,t⟩:∃P2,(d.inc z).2=P2:=⟨_,rfl⟩;rw[y,t] at E
    have j:(if e=0 then incAll P2 (L.drop (k+1)) else (e,P2))=incAll P L:=by
     rw[<-f];show _=(if (d.inc z).1=0 then incAll (d.inc z).2 (L.drop (k+1)) else d.inc z)
     rw[y,t];split
     . rfl
     . rw[<-y,<-t]
    rw[t] at R;have aa:=iJ j;have ae:=iJ R;clear j f y t hz M R B;go_wp2_with fail
    refine E.o.mono ?_;rintro _ w3 ⟨rfl,ad,s,hf⟩;obtain⟨v3,f3⟩:=G.o.pooled s hf;have Z:=iJ v3;have U:=iJ (T.o.trans f3);clear s hf v3 f3 E c0 g;by_cases I:e=0
    . subst I;have j:=aa.o;rw[if_pos rfl] at j;have X:=iJ j;clear j;go_wp2;go_roundw
      case rel=>exact⟨k+1,P2,ad,_,by omega,by go_num,Z.o,U.o,X.o,by have:=ae.o;have:=V.o;omega⟩
      case measure=>simp[intOf];omega
    . have e0:(e==0)=false:=by simp[I]
      have j:=aa.o;rw[if_neg I] at j;have X:=iJ j;clear j;go_wp2;go_ret;rw[<-X.o];exact⟨rfl,ad,_,Z.o,S.o.trans U.o⟩
  . obtain rfl:k=n:=by omega
    have f:=B.o;rw[du (by rw[Y.o];exact ai _)] at f
    have X:=iJ f;clear f;go_wp2;go_ret;rw[<-X.o];exact⟨rfl,q,col',G.o,S.o.trans T.o⟩
structure Vm where
 P:Q.Po
 f:Int->Option Pv
 ch:List (Int×Pv)
def Vm.on(X:Vm)(z:Int):Pv:=(X.f z).getD Pv.zero
def Vm.less(X:Vm)(z:Int):Vm:=if (X.P.dec z).1.2=0/\(X.P.dec z).2.state z=1 then ⟨(X.P.dec z).2,jp X.f z Pv.zero,X.ch++[(z,X.on z)]⟩ else ⟨(X.P.dec z).2,X.f,X.ch⟩
def Vd.st(D:Vd)(X:Vm)(ac:Option Addr)(cc:Nat):Vd:={D with f:=X.f,ch:=X.ch,ac:=ac,cc:=cc}
def Vx(w:World)(b:Nat)(X:Vm)(fl:Nat)(D:Vd)(pc col:Nat->Nat):Prop:=∃ac cc,Vq w b X.P fl (D.st X ac cc) pc col
theorem Vx.keep{d:World}{X:Vm}(h:Vx w b X fl D pc col)(hb:Below w.heap.size w d):Vx d b X fl D pc col:=by
 obtain⟨e,f,h⟩:=h;exact⟨e,f,h.keep hb⟩
theorem Vx.ok{X:Vm}(h:Vx w b X fl D pc col):X.P.Ok:=by
 obtain⟨d,e,h⟩:=h;obtain⟨_,k⟩:=h.pool;exact k.ok
def tot(P:Q.Po):Nat:=(P.pg.map λx=>x.1.toNat).sum
theorem my{α:Type}(g:α->Nat)(d x:α):∀(L:List α)(i:Nat),i<L.length->((L.set i x).map g).sum+g (L.getD i d)=(L.map g).sum+g x
 | [],i,h=>absurd h (by simp)
 |y::L,0,h=>by simp;omega
 |y::L,i+1,h=>by
  have k:=my g d x L i (by simpa using h)
  simp only[g7,bL,List.sum_cons,List.getD_cons_succ];omega
theorem sU{P:Q.Po}(h:P.Ok)(z:Int):((P.dec z).1.2=0->tot (P.dec z).2+1=tot P/\(P.dec z).2.ac.length=P.ac.length+1)/\((P.dec z).1.2≠0->(P.dec z).2=P):=by
 unfold Q.Po.dec;split
 . exact⟨λe=>absurd e (by simp),λ_=>rfl⟩
 . rename_i l;refine⟨λ_=>⟨?_,by simp[Q.Po.act]⟩,λe=>absurd rfl e⟩
   obtain⟨i,j⟩:=Q.Po.count_has l;have d:z.toNat-1<P.pg.length:=by omega
   have e:P.count z=(P.pg.getD (z.toNat-1) Q.Pg.zero).1:=by
    unfold Q.Po.count;rw[if_pos (by unfold Q.Po.has;simp only[bO,bE];exact⟨i,j⟩),show(z-1).toNat=z.toNat-1 by omega]
   have k:=my (λx:Q.Pg=>x.1.toNat) Q.Pg.zero (P.count z-1,(P.at z.toNat).2) P.pg (z.toNat-1) d
   have n:=h.cs _ (Q.kB d);have f:tot (P.act z.toNat (P.count z-1))=((P.pg.set (z.toNat-1) (P.count z-1,(P.at z.toNat).2)).map λx=>x.1.toNat).sum:=rfl
   show tot (P.act z.toNat (P.count z-1))+1=tot P;rw[f];have g:tot P=(P.pg.map λx=>x.1.toNat).sum:=rfl
   rw[g];simp only at k;rw[<-e] at k n;omega
theorem Vm.less_P(X:Vm)(z:Int):(X.less z).P=(X.P.dec z).2:=by unfold Vm.less;split<;>rfl
theorem Vm.less_ch(X:Vm)(z:Int):(X.less z).ch.length<=X.ch.length+1:=by unfold Vm.less;split<;>simp
theorem Vm.less_no(X:Vm)(z:Int)(h:(X.P.dec z).1.2≠0):(X.less z).ch=X.ch:=by unfold Vm.less;rw[if_neg (λe=>h e.1)]
theorem xP(w:World)(b:Nat)(X:Vm)(fl:Nat)(D:Vd)(pc col:Nat->Nat)(h:Vx w b X fl D pc col)(n:Int)(l:X.P.ac.length+1<=17592186044416)(r:X.ch.length+1<=1759218604441):
 Calls prog 145 #[.pointer (some ⟨b,0,none⟩),.int .i64 n] w λe d=>e=.returned (.tuple #[.int .i64 (X.P.dec n).1.1,.int .i64 (X.P.dec n).1.2])/\∃i col',Vx d b (X.less n) fl D i col'/\Vf w col d col':=by
 obtain⟨ac,cc,h⟩:=h;refine(DV w b X.P fl (D.st X ac cc) pc col h n l r).mono ?_;rintro _ d ⟨rfl,f,g,i,col',q,j⟩;refine⟨rfl,i,col',⟨f,g,?_⟩,j⟩;rw[Vm.less_P]
 have e:({ut X.P (D.st X ac cc) n with ac:=f,cc:=g}:Vd)=D.st (X.less n) f g:=by
  unfold ut Vm.less;split<;>rfl
 rw[<-e];exact q
def dropL(F:Vm->Int->Int×Vm):Vm->List Int->Int×Vm
 |X,[]=>(0,X)
 |X,z::L=>if (F X z).1=0 then dropL F (F X z).2 L else F X z
def dropM:Nat->Vm->Int->Int×Vm
 |0,X,_=>(0,X)
 |t+1,X,z=>if (X.P.dec z).1.2≠0\/0<(X.P.dec z).1.1 then ((X.P.dec z).1.2,X.less z) else dropL (dropM t) (X.less z) (X.on z).pg.kids
theorem Vx.on_z{X:Vm}(h:Vx w b X fl D pc col)(z:Int):Pz (λk=>col k=6) w (X.on z):=by
 obtain⟨d,e,h⟩:=h;exact xu h z
theorem Vx.look{X:Vm}(h:Vx w b X fl D pc col)(z:Int):(Instr.lookup 81 (.map (some D.mb)) (.int .i64 z) false).run prog w=.ok (X.on z).vl w:=by
 obtain⟨d,e,h⟩:=h;exact sG h z
theorem Vx.c01{X:Vm}(h:Vx w b X fl D pc col):w.cell? ⟨b,0,none⟩=some (.pointer (some ⟨D.pb,0,none⟩))/\w.cell? ⟨b,1,none⟩=some (.map (some D.mb)):=by
 obtain⟨d,e,h⟩:=h;exact⟨h.cells.1,h.cells.2.1⟩
theorem Vx.lb{X:Vm}(h:Vx w b X fl D pc col):b<w.heap.size:=by
 obtain⟨d,e,h⟩:=h;exact h.lb
theorem Vx.z{w:World}{b:Nat}{X:Vm}{fl:Nat}{D:Vd}{pc col:Nat->Nat}(h:Vx w b X fl D pc col){k:Nat}(g:w.heap.size<=k):col k=0:=by
 obtain⟨d,f,h⟩:=h;cases e:col k with
 |zero=>rfl
 |succ n=>have:=h.lt k (by omega);omega
theorem Cv(t:Nat)(IH:∀(w:World)(b:Nat)(X:Vm)(fl:Nat)(D:Vd)(pc col:Nat->Nat)(z:Int),Vx w b X fl D pc col->tot X.P<t->X.P.ac.length+tot X.P+1<=17592186044416->X.ch.length+tot X.P+1<=1759218604441->
 Calls prog 110 #[.pointer (some ⟨b,0,none⟩),.int .i64 z] w λe R=>e=.returned (.int .i64 (dropM t X z).1)/\(tot (dropM t X z).2.P<=tot X.P/\(dropM t X z).2.P.ac.length+tot (dropM t X z).2.P<=X.P.ac.length+tot X.P/\(dropM t X z).2.ch.length+tot (dropM t X z).2.P<=X.ch.length+tot X.P)/\∃C col',Vx R b (dropM t X z).2 fl D C col'/\Vf w col R col')
 (w:World) (b:Nat) (X:Vm) (fl:Nat) (D:Vd) (pc col:Nat->Nat) (z:Int) (h:Vx w b X fl D pc col) (ht:tot X.P<t+1) (hm:X.P.ac.length+tot X.P+1<=17592186044416) (hc:X.ch.length+tot X.P+1<=1759218604441):
 Calls prog 110 #[.pointer (some ⟨b,0,none⟩),.int .i64 z] w λe R=>e=.returned (.int .i64 (dropM (t+1) X z).1)/\(tot (dropM (t+1) X z).2.P<=tot X.P/\(dropM (t+1) X z).2.P.ac.length+tot (dropM (t+1) X z).2.P<=X.P.ac.length+tot X.P/\(dropM (t+1) X z).2.ch.length+tot (dropM (t+1) X z).2.P<=X.ch.length+tot X.P)/\∃C col',Vx R b (dropM (t+1) X z).2 fl D C col'/\Vf w col R col':=by
 have HV:=iJ h;obtain⟨c0,c1⟩:=h.c01;have N:=h.look z;have HZ:=iJ (h.on_z z);obtain⟨q,hq⟩:∃q,X.on z=q:=⟨_,rfl⟩;rw[hq] at N HZ;have aB:=al w (.cells q.cs 31);have HX:=iJ (aF w (.cells q.cs 31));have v:=iJ (xP _ b X fl D pc col (h.keep aB) z (by omega) (by omega))
 have U:=iJ aB;have CX:Hid (col w.heap.size=0):=h.z (ai _);have am:=h.ok;obtain⟨S,r⟩:=sU am z;have V:dropM (t+1) X z=if (X.P.dec z).1.2≠0\/0<(X.P.dec z).1.1 then ((X.P.dec z).1.2,X.less z) else dropL (dropM t) (X.less z) q.pg.kids:=by rw[<-hq];rfl
 have LP:=X.less_P z;have LC:=X.less_ch z;have g:=X.less_no z;obtain⟨f,af⟩:∃f,X.less z=f:=⟨_,rfl⟩;rw[af] at V LP LC g v;rw[<-LP] at S r;obtain⟨c,aj⟩:∃c,(X.P.dec z).1.1=c:=⟨_,rfl⟩;obtain⟨e,ad⟩:∃e,(X.P.dec z).1.2=e:=⟨_,rfl⟩;rw[aj,ad] at V v;rw[ad] at S r g
 have O:Hid (tot f.P<=tot X.P/\f.P.ac.length+tot f.P<=X.P.ac.length+tot X.P/\f.ch.length+tot f.P<=X.ch.length+tot X.P):=by
  show _/\_/\_;by_cases l:e=0
  . have:=S l;omega
  . rw[r l,g l];exact⟨ai _,ai _,ai _⟩
 have DT:=iJ S;have av:=iJ IH;have HT:=iJ ht;have HM:=iJ hm;have HC:=iJ hc;rw[V];clear h V LP LC g af aj ad S r hq aB IH ht hm hc am;have HQ:=iJ (show ∀(W:World)(col':Nat->Nat),Vf w col W col'->Pi W q from λW col' hf=>(HZ.o.but hf.b (λk _ e hk=>by omega)).pi)
 have J:=iJ λ(W:World)(hp:Pi W q)=>wB W q hp
 obtain⟨L,hL⟩:∃L,q.pg.kids=L:=⟨_,rfl⟩;rw[hL] at J ⊢;obtain⟨n,hn⟩:∃n,L.length=n:=⟨_,rfl⟩;rw[hn] at J;have HN:=iJ hn;clear hL hn;obtain⟨kp,lp,aC,aE,aI,aA,aD,aG,aJ⟩:=q;unfold Pv.vl at N J;simp only[Pv.cs] at N J v HX U;by_cases l:e=0
 . subst l;have aq:=iJ (DT.o rfl);clear DT;by_cases ac:0<c
   . rw[if_pos (.inr ac)];have d0:decide (0<c)=true:=ax ac;go_enter func110,ntmps110;go_wp2_with fail
     refine v.o.mono ?_;rintro _ w1 ⟨rfl,T,H,B,A⟩;have G:=iJ B;have E:=iJ ((Vf.keep U.o).trans A);clear B A v N c0 c1;go_wp2;go_ret;exact⟨rfl,O.o,T,H,G.o,E.o⟩
   . rw[if_neg (by simp;omega)]
     have d0:decide (0<c)=false:=au ac;go_enter func110,ntmps110;go_wp2_with fail
     refine v.o.mono ?_;rintro _ w1 ⟨rfl,T,H,B,A⟩;have G:=iJ B;have E:=iJ ((Vf.keep U.o).trans A);have ag:=A.b.same HX.o (λe=>by rw[CX.o] at e;omega)
     obtain⟨x0,x1,x2,x3,x4⟩:=iS ag;clear B A v N c0 c1 ag;go_wp2_with fail
     refine(J.o _ (HQ.o _ _ E.o)).mono ?_;rintro _ w2 ⟨a,ca,rfl,M⟩;have V2:=iJ (G.o.keep M.b);have F2:=iJ (E.o.trans (Vf.keep M.b));have HI:=iJ M.r
     have aK:n<=9223372036854775807:=by
      have k:=(show Q.Gw 3 1 w2 a ca L.length (vi L) from M.r).capLe
      rw[HN.o] at k;unfold maxLen at k;omega
     have ar:=iJ λ(x:Addr)(hx:a=some x)=>(show H x.block=0 from by
      rcases M.n x hx with⟨y,i,_⟩|h2
      . cases i
      . exact G.o.z h2)
     clear M J x0 x1 x2 x3 x4 G E HQ;go_wp2_with fail
     go_loopw [33] (λaa wr=>∃(k:Nat)(d:Vm)(C col':Nat->Nat),k<=n/\aa=.int .i64 (k:Int)/\Vx wr b d fl D C col'/\Vf w2 H wr col'/\dropL (dropM t) d (L.drop k)=dropL (dropM t) f L/\(tot d.P<=tot f.P/\d.P.ac.length+tot d.P<=f.P.ac.length+tot f.P/\d.ch.length+tot d.P<=f.ch.length+tot f.P)) (λaa _=>n-(intOf aa).toNat)
     case atStart=>exact⟨0,f,T,H,az _,rfl,V2.o,Vf.refl _ _,by rw[fa],ai _,ai _,ai _⟩
     case round=>
      obtain⟨k,d,C,col',hk,rfl,hV,hF,s,hA⟩:=hrel;have V3:=iJ hV;have F3:=iJ hF;have HE:=iJ s;have I:=iJ hA;have R3:=iJ (HI.o.but hF.b (λx hx e=>by rw[ar.o x hx] at e;omega))
      clear hV hF s hA;by_cases aw:k<n
      . have ak:k<L.length:=by rw[HN.o];exact aw
        have aH:(k:Int)<(n:Int):=by omega
        obtain⟨ay,off,rfl,cK⟩:=R3.o.ir.at ak;have hd:=pV L ak;obtain⟨y,i⟩:∃y,L.getD k 0=y:=⟨_,rfl⟩;rw[i] at cK hd;have s:=HE.o;rw[hd] at s;have Z:=iJ (av.o wr b d fl D C col' y V3.o (by have:=I.o;have:=HT.o;have:=aq.o;omega) (by have:=I.o;have:=HM.o;have:=O.o;omega) (by have:=I.o;have:=HC.o;have:=O.o;omega))
        have j:(if (dropM t d y).1=0 then dropL (dropM t) (dropM t d y).2 (L.drop (k+1)) else dropM t d y)=dropL (dropM t) f L:=s
        obtain⟨ab,an⟩:∃ab,dropM t d y=ab:=⟨_,rfl⟩;rw[an] at Z j;clear an;obtain⟨ey,K⟩:=ab;simp only at Z j;have ae:=iJ j;clear j s i hd HE;go_wp2_with fail
        refine Z.o.mono ?_;rintro _ w4 ⟨rfl,ah,ao,ap,v4,f4⟩;have V4:=iJ v4;have F4:=iJ (F3.o.trans f4);have BN:=iJ ah;clear v4 f4 ah Z cK;by_cases l:ey=0
        . subst l;have j:=ae.o;rw[if_pos rfl] at j;have Y:=iJ j;clear j;go_wp2;go_roundw
          case rel=>exact⟨k+1,K,ao,ap,by omega,by go_num,V4.o,F4.o,Y.o,by have:=BN.o;have:=I.o;omega⟩
          case measure=>simp[intOf];omega
        . have e0:(ey==0)=false:=by simp[l]
          have j:=ae.o;rw[if_neg l] at j;have Y:=iJ j;clear j;go_wp2;go_ret;rw[<-Y.o];exact⟨rfl,(show tot K.P<=tot X.P/\K.P.ac.length+tot K.P<=X.P.ac.length+tot X.P/\K.ch.length+tot K.P<=X.ch.length+tot X.P from by have:=BN.o;have:=I.o;have:=O.o;omega),ao,ap,V4.o,F2.o.trans F4.o⟩
      . obtain rfl:k=n:=by omega
        have s:=HE.o;rw[du (by rw[HN.o];exact ai _)] at s
        have Y:=iJ s;clear s;go_wp2;go_ret;rw[<-Y.o];exact⟨rfl,(show tot d.P<=tot X.P/\d.P.ac.length+tot d.P<=X.P.ac.length+tot X.P/\d.ch.length+tot d.P<=X.ch.length+tot X.P from by have:=I.o;have:=O.o;omega),C,col',V3.o,F2.o.trans F3.o⟩
 . rw[if_pos (.inl l)];have e0:(e==0)=false:=by simp[l]
   go_enter func110,ntmps110;go_wp2_with fail
   refine v.o.mono ?_;rintro _ w1 ⟨rfl,T,H,B,A⟩;have G:=iJ B;have E:=iJ ((Vf.keep U.o).trans A);clear B A v N c0 c1;go_wp2;go_ret;exact⟨rfl,O.o,T,H,G.o,E.o⟩
theorem uK:∀(t:Nat)(w:World)(b:Nat)(X:Vm)(fl:Nat)(D:Vd)(pc col:Nat->Nat)(z:Int),Vx w b X fl D pc col->tot X.P<t->X.P.ac.length+tot X.P+1<=17592186044416->X.ch.length+tot X.P+1<=1759218604441->
 Calls prog 110 #[.pointer (some ⟨b,0,none⟩),.int .i64 z] w λe d=>e=.returned (.int .i64 (dropM t X z).1)/\(tot (dropM t X z).2.P<=tot X.P/\(dropM t X z).2.P.ac.length+tot (dropM t X z).2.P<=X.P.ac.length+tot X.P/\(dropM t X z).2.ch.length+tot (dropM t X z).2.P<=X.ch.length+tot X.P)/\∃f col',Vx d b (dropM t X z).2 fl D f col'/\Vf w col d col'
 |0,w,b,X,fl,D,pc,col,z,h,ht,hm,hc=>absurd ht (dQ _)
 |t+1,w,b,X,fl,D,pc,col,z,h,ht,hm,hc=>Cv t (uK t) w b X fl D pc col z h ht hm hc
theorem ru(w:World):Ig (w.alloc (.cells #[] 3)) (some ⟨w.heap.size,0,none⟩) 0 []:=by
 refine⟨rfl,.inr ⟨w.heap.size,0,#[],rfl,az _,aH _ _,ai _,az _,rfl,rfl⟩⟩
theorem FU(w:World)(p:Pv)(s:Pi w p)(f:p.kind=2):Calls prog 76 #[p.vl] w λe Y=>∃a c,e=.returned (.slice a (p.pg.kids).length c)/\IOwn w Y a c p.pg.kids:=by
 rw[mR p (by omega)]
 have ag:p.items.length<=2199023255489:=s.it.2.1;have A:=iJ (s.keep (al w (.cells p.cs 31)));have y:=iJ (Bx.new w 31 p.cs);have q:=iJ (al w (.cells p.cs 31));obtain⟨v,M⟩:∃v,w.alloc (.cells p.cs 31)=v:=⟨_,rfl⟩;rw[M] at A y q;have G:=iJ λ(t:World)(hb:Below v.heap.size v t)=>Bx.page (y.o.keep hb)
 have B:=iJ λ(t:World)(hb:Below v.heap.size v t)(k:Nat)(f:k<p.items.length)=>(A.o.it.keep hb).at f
 have O:=iJ λ(k:Nat)(f:k<p.items.length)=>lS p.kind p.items k f
 have N:=iJ λ(k:Nat)=>(show(jj p.kind (p.items.take k)).length<=k from aO (mh _ _) (by rw[bi];omega))
 have ad:Hid (p.items.take p.items.length=p.items):=cJ;clear s;obtain⟨ao,aq,aI,cI,items,aD,cD,aj,next⟩:=p
 unfold Pv.vl;simp only[Pv.cs] at *;subst f;obtain⟨S,T,U,V,W⟩:=G.o _ (Below.refl _ _);go_enter func76,ntmps76;go_wp2;go_loopw [3,4] (λo i Z=>∃(k:Nat)(h:Option Addr)(l:Nat),k<=items.length/\i=.int .i64 k/\o=.slice h (jj 2 (items.take k)).length l/\IOwn v Z h l (jj 2 (items.take k))) (λ_ i _=>items.length-(intOf i).toNat)
 case atStart=>exact⟨0,_,0,az _,rfl,rfl,ru _,λx X=>.inr (by cases X;exact ai _),al _ _⟩
 case round=>
  clear M S T U V W;obtain⟨k,h,l,f,rfl,rfl,r⟩:=hrel;have d:=iJ r;obtain⟨c0,c1,c2,c3,c4⟩:=G.o _ r.b;clear r;by_cases n:k<items.length
  . have an:(k:Int)<(items.length:Int):=by omega
    have ac:=w64 (j:=k) (by omega)
    obtain⟨bI,off,rfl,K⟩:=B.o _ d.o.b k n;obtain⟨k0,k1,k2,k3⟩:=jG K;have aa:=iJ (O.o k n);have af:=N.o k;clear K B O N;generalize items.getD k Iv.zero=x at *;have C:=d;obtain⟨aK,cK,ah,aV,cV,val,R,ap⟩:=x;simp only at *;generalize jj 2 (items.take k)=L at *;have P:Hid (L++[R]=jj 2 (items.take (k+1))):=by show _=_;rw[aa.o];simp
    go_wp2_with (at_builtin;refine jN rfl _ _ rfl h L.length l L rfl rfl (C.o.r.keep ((Below.refl _ _).alloc (ai _) _)) ⟨wr.heap.size,0,none⟩ 1 R rfl ?c1 (by omega) ?_)
    try case c1=>simp
    intro ae ab w2 I H J am;have E:=iJ (C.o.step (al _ _) I H J);rw[P.o] at E;have g:=iJ (a7 List.length P.o);clear I H J;go_wp2;go_roundw
    case rel=>exact⟨k+1,_,ab,by omega,by first|(go_num;done)|exact a7 (Value.int IntKind.i64) (by omega),by rw[<-g.o];simp,E.o⟩
    case measure=>first|exact jb _ _ _ ac n|exact jb _ _ _ rfl n|(simp[intOf];omega)
  . obtain rfl:k=items.length:=by omega
    rw[ad.o] at d ⊢;go_wp2;go_ret;exact⟨h,l,rfl,d.o.r,d.o.n.mono q.o.size,bt q.o d.o.b⟩
theorem EV(w:World)(p:Pv)(B:Pi w p)(l:p.kind=1):Calls prog 76 #[p.vl] w λe w'=>∃a c,e=.returned (.slice a (p.pg.kids).length c)/\IOwn w w' a c p.pg.kids:=by
 rw[mR p (by omega)]
 have ag:p.items.length<=2199023255489:=B.it.2.1;have G:=iJ (B.keep (al w (.cells p.cs 31)));have E:=iJ (Bx.new w 31 p.cs);have s:=iJ (al w (.cells p.cs 31));obtain⟨v,P⟩:∃v,w.alloc (.cells p.cs 31)=v:=⟨_,rfl⟩;rw[P] at G E s;have J:=iJ λ(C:World)(hb:Below v.heap.size v C)=>Bx.page (E.o.keep hb)
 have H:=iJ λ(C:World)(hb:Below v.heap.size v C)(k:Nat)(l:k<p.items.length)=>(G.o.it.keep hb).at l
 have S:=iJ λ(k:Nat)(l:k<p.items.length)=>lS p.kind p.items k l
 have R:=iJ λ(k:Nat)=>(show(jj p.kind (p.items.take k)).length<=k from aO (mh _ _) (by rw[bi];omega))
 have ac:Hid (p.items.take p.items.length=p.items):=cJ;clear B;obtain⟨ao,aq,aI,cI,items,aD,cD,aj,next⟩:=p
 unfold Pv.vl;simp only[Pv.cs] at *;subst l;obtain⟨V,W,X,Y,Z⟩:=J.o _ (Below.refl _ _);go_enter func76,ntmps76;go_wp2;go_loopw [3,4] (λo i wx=>∃(k:Nat)(f:Option Addr)(h:Nat),k<=items.length/\i=.int .i64 k/\o=.slice f (jj 1 (items.take k)).length h/\IOwn v wx f h (jj 1 (items.take k))) (λ_ i _=>items.length-(intOf i).toNat)
 case atStart=>exact⟨0,_,0,az _,rfl,rfl,ru _,λx g=>.inr (by cases g;exact ai _),al _ _⟩
 case round=>
  clear P V W X Y Z;obtain⟨k,f,h,l,rfl,rfl,A⟩:=hrel;have d:=iJ A;obtain⟨c0,c1,c2,c3,c4⟩:=J.o _ A.b;clear A;by_cases n:k<items.length
  . have an:(k:Int)<(items.length:Int):=by omega
    have U:=w64 (j:=k) (by omega)
    obtain⟨bI,off,rfl,O⟩:=H.o _ d.o.b k n;obtain⟨k0,k1,k2,k3⟩:=jG O;have T:=iJ (S.o k n);have ae:=R.o k;clear O H S R;generalize items.getD k Iv.zero=x at *;have t:=d;obtain⟨aK,cK,ah,aV,cV,val,r,ap⟩:=x;simp only at *;generalize jj 1 (items.take k)=L at *;by_cases y:r=0
    . subst y;have q:Hid (L=jj 1 (items.take (k+1))):=by show _=_;rw[T.o];simp
      go_wp2;go_roundw
      case rel=>exact⟨k+1,f,h,by omega,by first|(go_num;done)|exact a7 (Value.int IntKind.i64) (by omega),by rw[<-q.o],by rw[<-q.o];exact t.o⟩
      case measure=>first|exact jb _ _ _ U n|exact jb _ _ _ rfl n|(simp[intOf];omega)
    . have af:(r==0)=false:=by simpa using y
      have q:Hid (L++[r]=jj 1 (items.take (k+1))):=by show _=_;rw[T.o];simp[y]
      go_wp2_with (at_builtin;refine jN rfl _ _ rfl f L.length h L rfl rfl (t.o.r.keep ((Below.refl _ _).alloc (ai _) _)) ⟨wr.heap.size,0,none⟩ 1 r rfl ?c1 (by omega) ?_)
      try case c1=>simp
      intro ad ab w2 M K N am;have I:=iJ (t.o.step (al _ _) M K N);rw[q.o] at I;have aa:=iJ (a7 List.length q.o);clear M K N;go_wp2;go_roundw
      case rel=>exact⟨k+1,_,ab,by omega,by first|(go_num;done)|exact a7 (Value.int IntKind.i64) (by omega),by rw[<-aa.o];simp,I.o⟩
      case measure=>first|exact jb _ _ _ U n|exact jb _ _ _ rfl n|(simp[intOf];omega)
  . obtain rfl:k=items.length:=by omega
    rw[ac.o] at d ⊢;go_wp2;go_ret;exact⟨f,h,rfl,d.o.r,d.o.n.mono s.o.size,bt s.o d.o.b⟩
theorem zx(w:World)(p:Pv)(K:Pi w p)(H:p.kind≠1)(I:p.kind≠2):Calls prog 76 #[p.vl] w λe T=>∃a c,e=.returned (.slice a (p.pg.kids).length c)/\IOwn w T a c p.pg.kids:=by
 have E:p.pg.kids=if p.kind=3/\p.next≠0 then [p.next] else []:=by
  unfold Pg.kids;rw[if_neg (show ¬p.pg.kind=2 from I),if_neg (show ¬p.pg.kind=1 from H)]
  rfl
 have r:=iJ E;generalize p.pg.kids=L at *;clear E;have ae:p.items.length<=2199023255489:=K.it.2.1;have G:=iJ (Bx.new w 31 p.cs);have f:=iJ (al w (.cells p.cs 31));obtain⟨v,O⟩:∃v,w.alloc (.cells p.cs 31)=v:=⟨_,rfl⟩;rw[O] at G f;have R:=iJ λ(U:World)(hb:Below v.heap.size v U)=>Bx.page (G.o.keep hb)
 clear K;obtain⟨t,aj,Z,cI,items,Y,cD,af,next⟩:=p
 unfold Pv.vl;simp only[Pv.cs] at *;have ab:(t==1)=false:=by simpa using H
 have ac:(t==2)=false:=by simpa using I
 go_enter func76,ntmps76;go_wp2;generalize items.length=n at *;go_loopw [3,4] (λo i V=>∃(k:Nat)(l:Option Addr)(q:Nat),k<=n/\i=.int .i64 k/\o=.slice l 0 q/\IOwn v V l q []) (λ_ i _=>n-(intOf i).toNat)
 case atStart=>exact⟨0,_,0,az _,rfl,rfl,ru _,λx S=>.inr (by cases S;exact ai _),al _ _⟩
 case round=>
  clear O;obtain⟨k,l,q,E,rfl,rfl,C⟩:=hrel;have d:=iJ C;obtain⟨c0,c1,c2,c3,c4⟩:=R.o _ C.b;clear C;by_cases P:k<n
  . have ah:(k:Int)<(n:Int):=by omega
    have X:=w64 (j:=k) (by omega)
    go_wp2;go_roundw
    case rel=>exact⟨k+1,l,q,by omega,by first|(go_num;done)|exact a7 (Value.int IntKind.i64) (by omega),rfl,d.o⟩
    case measure=>first|exact jb _ _ _ X P|exact jb _ _ _ rfl P|(simp[intOf];omega)
  . obtain rfl:k=n:=by omega
    by_cases B:t=3
    . subst B;by_cases A:next=0
      . subst A;have s:L=[]:=by rw[r.o];exact if_neg (λh=>h.2 rfl)
        clear r;subst s;go_wp2;go_ret;exact⟨l,q,rfl,d.o.r,d.o.n.mono f.o.size,bt f.o d.o.b⟩
      . have aa:(next==0)=false:=by simpa using A
        have s:L=[next]:=by rw[r.o];exact if_pos ⟨rfl,A⟩
        clear r;subst s;go_wp2_with (at_builtin;refine jN rfl _ _ rfl l 0 q [] rfl rfl (d.o.r.keep ((Below.refl _ _).alloc (ai _) _)) ⟨wr.heap.size,0,none⟩ 1 next rfl ?c1 (by decide) ?_)
        try case c1=>simp
        intro g W w2 M J N ag;have y:=iJ (d.o.step (al _ _) M J N);clear M J N;go_wp2;go_ret;exact⟨_,W,rfl,y.o.r,y.o.n.mono f.o.size,bt f.o y.o.b⟩
    . have ad:(t==3)=false:=by simpa using B
      have s:L=[]:=by rw[r.o];exact if_neg (λh=>B h.1)
      clear r;subst s;go_wp2;go_ret;exact⟨l,q,rfl,d.o.r,d.o.n.mono f.o.size,bt f.o d.o.b⟩
theorem tF(w:World)(p:Pv)(d:Pi w p):Calls prog 76 #[p.vl] w λe h=>∃a c,e=.returned (.slice a (p.pg.kids).length c)/\IOwn w h a c p.pg.kids:=by
 by_cases f:p.kind=1
 . exact EV w p d f
 . by_cases g:p.kind=2
   . exact FU w p d g
   . exact zx w p d f g
theorem ov(w:World)(n:Int):Calls prog 129 #[.int .i64 n] w λe f=>e=.returned (.bool (kO n))/\f=w:=by
 unfold kO;by_cases d:1<=n
 . have g:decide (1<=n)=true:=by simpa using d
   go_enter func129,ntmps129;go_wp2;go_ret;exact⟨by simp[d],rfl⟩
 . have g:decide (1<=n)=false:=by simpa using d
   go_enter func129,ntmps129;go_wp2;go_ret;exact⟨by simp,rfl⟩
theorem oQ{a b:Bool}(h:a=b):Ending.returned (.bool a)=.returned (.bool b):=by rw[h]
theorem pC(w:World)(p:Pv):Calls prog 125 #[p.vl] w λe i=>e=.returned (.bool p.pg.form)/\Below w.heap.size w i:=by
 unfold Pv.vl Pv.cs Pg.form Pv.pg;simp only[aZ];obtain⟨f,x,q,s,items,l,r,j,next⟩:=p
 dsimp only;generalize items.length=n;generalize j.length=d;by_cases h:f=3
 . subst h;go_enter func125,ntmps125;go_wp2
   all_goals (go_ret;refine⟨oQ ?_,al _ _⟩;first|grind|(simp;grind)|(simp[mW];grind))
 . have v:(f==3)=false:=by simpa using h
   rw[if_neg h];by_cases g:f=1
   . subst g;go_enter func125,ntmps125;go_wp2
     all_goals (go_ret;refine⟨oQ ?_,al _ _⟩;first|grind|(simp;grind)|(simp[mW];grind))
   . have t:(f==1)=false:=by simpa using g
     rw[if_neg g];go_enter func125,ntmps125;go_wp2
     all_goals (go_ret;refine⟨oQ ?_,al _ _⟩;first|grind|(simp;grind)|(simp[mW];grind))
theorem vc(w:World)(p:Pv)(i:Nat)(g:Pi w p)(hi:i<p.items.length):Calls prog 126 #[p.vl,.int .i64 (i:Int)] w λe s=>e=.returned (.bool (p.pg.keyOk i))/\Below w.heap.size w s:=by
 obtain⟨A,off,t,h⟩:=(g.it.keep (al w (.cells p.cs 31))).at hi;obtain⟨l,q,d,r⟩:=jG h;have G:(i:Int)<(p.items.length:Int):=by omega
 unfold Pg.keyOk;rw[Pv.at];generalize p.items.getD i Iv.zero=x at *;clear h g q d r;obtain⟨f,J,y,C,items,v,B,I,next⟩:=p
 unfold Pv.vl Iv.it;simp only[Pv.cs,Pv.pg] at *;subst t;generalize x.key.length=n at *;by_cases j:f=2/\i=0
 . obtain⟨rfl,rfl⟩:=j;simp only[eE,bY] at l;go_enter func126,ntmps126;go_wp2
   all_goals (go_ret;refine⟨oQ ?_,al _ _⟩;first|grind|(simp;grind)|(simp[mW];grind))
 . by_cases d:f=2
   . subst d;have E:((i:Int)==0)=false:=by simp;omega
     go_enter func126,ntmps126;go_wp2
     all_goals (go_ret;refine⟨oQ ?_,al _ _⟩;first|grind|(simp;grind)|(simp[mW];grind))
   . have H:(f==2)=false:=by simpa using d
     go_enter func126,ntmps126;go_wp2
     all_goals (go_ret;refine⟨oQ ?_,al _ _⟩;first|grind|(simp;grind)|(simp[mW];grind))
theorem rT(w:World)(p:Pv)(x:Iv):Calls prog 127 #[p.vl,x.vl] w λe g=>e=.returned (.bool (x.it.valOk p.kind))/\Below w.heap.size w g:=by
 unfold It.valOk;obtain⟨f,E,i,r,items,h,q,A,next⟩:=p
 obtain⟨j,s,y,l,t,val,C,B⟩:=x;unfold Pv.vl Iv.vl Iv.it;simp only[Pv.cs,Iv.cs];generalize val.length=n;by_cases d:f=2
 . subst d;go_enter func127,ntmps127;go_wp2
   all_goals (go_ret;refine⟨oQ ?_,bt (al _ _) (al _ _)⟩;first|grind|(simp;grind)|(simp[mW];grind))
 . have v:(f==2)=false:=by simpa using d
   rw[if_neg d];go_enter func127,ntmps127;go_wp2
   all_goals (go_ret;refine⟨oQ ?_,bt (al _ _) (al _ _)⟩;first|grind|(simp;grind)|(simp[mW];grind))
theorem rI(w:World)(p:Pv)(x:Iv):Calls prog 128 #[p.vl,x.vl] w λe l=>e=.returned (.bool (x.it.kidOk p.kind))/\Below w.heap.size w l:=by
 unfold It.kidOk;obtain⟨f,K,s,B,items,r,A,I,next⟩:=p
 obtain⟨t,C,H,v,E,val,J,g⟩:=x;unfold Pv.vl Iv.vl Iv.it;simp only[Pv.cs,Iv.cs];by_cases i:f=1/\g<=32
 . obtain⟨rfl,j⟩:=i;have q:decide (g<=32)=true:=by simpa using j
   rw[if_pos ⟨rfl,j⟩];go_enter func128,ntmps128;go_wp2
   all_goals (go_ret;refine⟨oQ ?_,bt (al _ _) (al _ _)⟩;simp[mW])
 . rw[if_neg i];by_cases h:f=1
   . subst h;have q:decide (g<=32)=false:=by simp;omega
     go_enter func128,ntmps128;go_wp2_with (go_at_call 129;refine(ov _ _).mono ?_;rintro y n ⟨rfl,d⟩;obtain rfl:=d.symm)
     go_ret;exact⟨rfl,bt (al _ _) (al _ _)⟩
   . have G:(f==1)=false:=by simpa using h
     go_enter func128,ntmps128;go_wp2_with (go_at_call 129;refine(ov _ _).mono ?_;rintro y n ⟨rfl,d⟩;obtain rfl:=d.symm)
     go_ret;exact⟨rfl,bt (al _ _) (al _ _)⟩
theorem uL(h:p.formE=0)(e:ju p.itemE k=0)(i:k<p.items.length)(d:p.itemE k≠0):p.check=p.itemE k:=by
 obtain⟨f,g⟩:=jI h;unfold Pg.check;rw[if_neg (by rw[f];simp),if_neg (by rw[g];simp),qM e d _ i,if_pos d]
theorem tZ(h:p.formE=0)(d:ju p.itemE p.items.length=0):p.check=if p.nextOk=false then 15 else 0:=by
 obtain⟨e,f⟩:=jI h;unfold Pg.check;rw[if_neg (by rw[e];simp),if_neg (by rw[f];simp),d,if_neg (by simp)]
theorem j7{a:Nat}(h:b=a):Ending.returned (.int .i64 (a:Int))=.returned (.int .i64 (b:Int)):=by rw[h]
theorem ur{d off:Nat}{L:List Iv}(h:Js w (some ⟨d,off,none⟩) L)(f:k<L.length):w.cell? ⟨d,off+k*4,none⟩=some (.slice (L.getD k Iv.zero).aK (L.getD k Iv.zero).key.length (L.getD k Iv.zero).cK)/\w.cell? ⟨d,off+k*4+1,none⟩=some (.slice (L.getD k Iv.zero).aV (L.getD k Iv.zero).val.length (L.getD k Iv.zero).cV)/\w.cell? ⟨d,off+k*4+2,none⟩=some (.int .i64 (L.getD k Iv.zero).child)/\w.cell? ⟨d,off+k*4+3,none⟩=some (.int .i64 (L.getD k Iv.zero).size):=by
 obtain⟨i,j,e,g⟩:=h.at f;simp only[aE,Addr.mk.injEq,eH] at e;obtain⟨rfl,rfl⟩:=e;exact jG g
end Go.Proofs.YtbdkogimlbnlmaaGreat
