import Derived.Test.YtnnieandfdbhgaaGreatWkB18
set_option linter.all false
set_option maxHeartbeats 8000000
set_option maxRecDepth 16000
namespace Go.Proofs.YtnnieandfdbhgaaGreat
open Go.Proofs.Tryz
section
open Go.ChangeShapes Go.WideShapes Go.ChangeAt Go.RowKit
theorem oQ:prog.cellsOf 89=4:=by kernel_rfl
theorem sY:prog.cellsOf 75=1:=by kernel_rfl
theorem oB:prog.cellsOf 77=5:=by kernel_rfl
theorem pq:prog.cellsOf 91=6:=by kernel_rfl
theorem tS:prog.cellsOf 22=1:=by kernel_rfl
theorem tA:prog.cellsOf 23=1:=by kernel_rfl
theorem kJ{H:Type}{enc:TypeId×Value->H}{P:Program}{w:World}{e:Nat}{g:Nat->Bool}{f:Bool}{t:TypeId}{a b c d:Field}{s:Nat}{cs:List Value}{x:DataW H×List MemPlace}(q:P.underlying t=some (.struct #[a,b,c,d]))(h:DataW.trod enc P w e g f s t cs=some x):
 ∃j k l m n,x.1=.agg [j.1,k.1,l.1,m.1]/\cs.length=P.cellsOf t/\DataW.trod enc P w e g f n a.type ((cs.drop a.offset).take (P.cellsOf a.type))=some j/\DataW.trod enc P w e g f n b.type ((cs.drop b.offset).take (P.cellsOf b.type))=some k/\DataW.trod enc P w e g f n c.type ((cs.drop c.offset).take (P.cellsOf c.type))=some l/\DataW.trod enc P w e g f n d.type ((cs.drop d.offset).take (P.cellsOf d.type))=some m:=by
 obtain⟨r,n,_,rfl,p,v,i⟩:=DataW.trod_struct q h;match r,v with
 | [j,k,l,m],_=>exact⟨j,k,l,m,n,by simp,p,by simpa using i 0 a rfl,by simpa using i 1 b rfl,by simpa using i 2 c rfl,by simpa using i 3 d rfl⟩
theorem wM{α:Type}{l:List α}(h:l.length=4):∃c0 c1 c2 c3,l=[c0,c1,c2,c3]:=by
 match l,h with
 | [c0,c1,c2,c3],_=>exact⟨c0,c1,c2,c3,rfl⟩
theorem pI{H:Type}{enc:TypeId×Value->H}{P:Program}{w:World}{a:Nat}{c:Nat->Bool}{b:Bool}{t:TypeId}{d e f g i:Field}{y:Nat}{cs:List Value}{x:DataW H×List MemPlace}(s:P.underlying t=some (.struct #[d,e,f,g,i]))(h:DataW.trod enc P w a c b y t cs=some x):
 ∃k l m p q n,x.1=.agg [k.1,l.1,m.1,p.1,q.1]/\cs.length=P.cellsOf t/\DataW.trod enc P w a c b n d.type ((cs.drop d.offset).take (P.cellsOf d.type))=some k/\DataW.trod enc P w a c b n e.type ((cs.drop e.offset).take (P.cellsOf e.type))=some l/\DataW.trod enc P w a c b n f.type ((cs.drop f.offset).take (P.cellsOf f.type))=some m/\DataW.trod enc P w a c b n g.type ((cs.drop g.offset).take (P.cellsOf g.type))=some p/\DataW.trod enc P w a c b n i.type ((cs.drop i.offset).take (P.cellsOf i.type))=some q:=by
 obtain⟨v,n,_,rfl,r,A,j⟩:=DataW.trod_struct s h;match v,A with
 | [k,l,m,p,q],_=>exact⟨k,l,m,p,q,n,by simp,r,by simpa using j 0 d rfl,by simpa using j 1 e rfl,by simpa using j 2 f rfl,by simpa using j 3 g rfl,by simpa using j 4 i rfl⟩
theorem yF{α:Type}{l:List α}(h:l.length=5):∃c0 c1 c2 c3 a,l=[c0,c1,c2,c3,a]:=by
 match l,h with
 | [c0,c1,c2,c3,a],_=>exact⟨c0,c1,c2,c3,a,rfl⟩
theorem qf{H:Type}{enc:TypeId×Value->H}{P:Program}{w:World}{e:Nat}{g:Nat->Bool}{f:Bool}{t:TypeId}{a b:Field}{m:Nat}{cs:List Value}{x:DataW H×List MemPlace}(k:P.underlying t=some (.struct #[a,b]))(h:DataW.trod enc P w e g f m t cs=some x):
 ∃c d n,x.1=.agg [c.1,d.1]/\cs.length=P.cellsOf t/\DataW.trod enc P w e g f n a.type ((cs.drop a.offset).take (P.cellsOf a.type))=some c/\DataW.trod enc P w e g f n b.type ((cs.drop b.offset).take (P.cellsOf b.type))=some d:=by
 obtain⟨l,n,_,rfl,j,p,i⟩:=DataW.trod_struct k h;match l,p with
 | [c,d],_=>exact⟨c,d,n,by simp,j,by simpa using i 0 a rfl,by simpa using i 1 b rfl⟩
theorem yI{α:Type}{l:List α}(h:l.length=6):∃c0 c1 c2 c3 a b,l=[c0,c1,c2,c3,a,b]:=by
 match l,h with
 | [c0,c1,c2,c3,a,b],_=>exact⟨c0,c1,c2,c3,a,b,rfl⟩
theorem pS{H:Type}{enc:TypeId×Value->H}{P:Program}{w:World}{g:Nat}{j:Nat->Bool}{i:Bool}{t:TypeId}{a b c:Field}{q:Nat}{cs:List Value}{x:DataW H×List MemPlace}(m:P.underlying t=some (.struct #[a,b,c]))(h:DataW.trod enc P w g j i q t cs=some x):
 ∃d e f n,x.1=.agg [d.1,e.1,f.1]/\cs.length=P.cellsOf t/\DataW.trod enc P w g j i n a.type ((cs.drop a.offset).take (P.cellsOf a.type))=some d/\DataW.trod enc P w g j i n b.type ((cs.drop b.offset).take (P.cellsOf b.type))=some e/\DataW.trod enc P w g j i n c.type ((cs.drop c.offset).take (P.cellsOf c.type))=some f:=by
 obtain⟨p,n,_,rfl,l,r,k⟩:=DataW.trod_struct m h;match p,r with
 | [d,e,f],_=>exact⟨d,e,f,n,by simp,l,by simpa using k 0 a rfl,by simpa using k 1 b rfl,by simpa using k 2 c rfl⟩
theorem wQ{α:Type}{l:List α}(h:l.length=3):∃c0 c1 c2,l=[c0,c1,c2]:=by
 match l,h with
 | [c0,c1,c2],_=>exact⟨c0,c1,c2,rfl⟩
theorem ou:prog.cellsOf 34=3:=by kernel_rfl
theorem sx:prog.cellsOf 24=1:=by kernel_rfl
theorem uQ:prog.cellsOf 26=4:=by kernel_rfl
end
def Tr.cs(t:Tr):List Value:=[.int .i64 t.root,.int .i64 t.height,.int .i64 t.items]
structure Img where
 r:Int
 aC:Option Addr
 cC:Nat
 C:List Int
 aN:Option Addr
 cN:Nat
 N:List (Int×Pv)
 aT:Option Addr
 cT:Nat
 T:List Tr
def Img.cs(x:Img):Array Value:=#[.int .i64 x.r,.slice x.aC x.C.length x.cC,.slice x.aN x.N.length x.cN,.slice x.aT x.T.length x.cT]
def Smi(p:Pv):Prop:=Sml p/\p.items.length<=1048576
section
open Go.ChangeShapes Go.WideShapes Go.ChangeAt Go.RowKit
variable {H:Type} {enc:TypeId×Value->H} {W:World} {fuel:Nat} {cs:List Value} {a:Option Addr} {len cap:Nat} {d:DataW H} {p:List MemPlace}
theorem jn{α:Type}(z:α){t e:TypeId}{c:Nat}{E:α->List Value}{Y:α->Prop}(s:Nat)(P:prog.underlying t=some (.slice e))(K:prog.cellsOf e=c)(c0:0<c)(C:∀v,(E v).length=c)
 (O:∀(fuel:Nat)(cs:List Value)(d:DataW H)(p:List MemPlace),DataW.trod enc prog W 0 (λ_=>true) true fuel e cs=some (d,p)->Rows.uptoBulk d<=1048576->∃v,cs=E v/\s<=Rows.uptoBulk d/\Y v)
 (N:DataW.trod enc prog W 0 (λ_=>true) true fuel t cs=some (d,p)) (M:Rows.uptoBulk d<=1048576):
 ∃(a:Option Addr)(L:List α)(cap:Nat),cs=[.slice a L.length cap]/\L.length<=1048576/\s*L.length<=1048576/\L.length<=cap/\(∀v∈L,Y v)/\(L=[]\/∃b y,a=some ⟨b,y,none⟩/\∀r,r<L.length->∀k u,(E (L.getD r z))[k]?=some u->W.cell? ⟨b,y+r*c+k,none⟩=some u):=by
 rcases Deep.open_slice P N with⟨hcs,_⟩|⟨x,len,cap,m,n,D,Pl,hcs,_,hl,hm,hmm,q,hrows⟩
 . exact⟨none,[],0,hcs,ar _,ar _,ai _,by simp,.inl rfl⟩
 simp only[Prod.mk.injEq] at q;obtain⟨rfl,_⟩:=q;simp only[if_true] at hmm;subst hmm;simp only[Rows.uptoBulk] at M;have T:=li ((List.range len).map D);rw[bf,List.length_range] at T
 have I:∀r,r<len->∃v:α,(∀k u,(E v)[k]?=some u->W.cell? ((x.add (r*c)).add k)=some u)/\s<=Rows.uptoBulk (D r)/\Y v:=by
  intro r f;obtain⟨cs,G,U⟩:=hrows r (by omega)
  have g:=ph (show D r∈(List.range len).map D from bN.2 ⟨r,cQ.2 f,rfl⟩)
  obtain⟨v,rfl,g⟩:=O _ _ _ _ U (by omega)
  rw[K] at G;obtain⟨_,_,S⟩:=World.cells?_some G;exact⟨v,λj u i=>(S j (by rw[<-C v];exact(aW.1 i).1)).trans i,g⟩
 have hb:∀l:List Nat,(∀r∈l,r<len)->s*l.length<=Rows.uptoBulkAll (l.map D):=λl=>by
  induction l with
  |nil=>exact λ_=>ar _
  |cons r l ih=>
   intro h;obtain⟨_,_,g,_⟩:=I r (h r cU);have Z:=ih (λx q=>h x (aY _ q))
   simp only[bE,Rows.uptoBulkAll,aR,Nat.mul_add];omega
 have hb:=hb (List.range len) (λr f=>cQ.1 f)
 rw[List.length_range] at hb;haveI:Inhabited α:=⟨z⟩;obtain⟨F,B⟩:=Deep.choose_lt I;have A:((List.range len).map F).length=len:=by simp
 refine⟨some x,(List.range len).map F,_,by rw[A];exact hcs,by omega,by rw[A];omega,by rw[A];exact hl,λv R=>?_,?_⟩
 . obtain⟨r,f,rfl⟩:=bN.1 R;exact(B r (cQ.1 f)).2.2
 by_cases J:len=0
 . exact .inl (by simp[J])
 obtain⟨b,y,V⟩:=x
 have X:V=none:=by
  have g:=World.cell?_spot ((B 0 (by omega)).1 0 _ (bj (by rw[C];exact c0)))
  simpa[Addr.add] using g
 subst X;refine .inr ⟨b,y,rfl,λr f k u i=>?_⟩
 rw[A] at f;rw[show((List.range len).map F).getD r z=F r by simp[f]] at i
 have:=(B r f).1 k u i;rwa [Deep.add_add,Addr.add_mid,<-ey] at this
theorem sC(h:DataW.trod enc prog W 0 (λ_=>true) true fuel 89 cs=some (d,p))(x:Rows.uptoBulk d<=1048576):
 ∃r:Iv,cs=r.cs.toList/\1<=Rows.uptoBulk d/\Ii W r/\r.key.length<=140737488355264/\r.val.length<=140737488355264:=by
 obtain⟨b,c,K,L,n,A,y,j,k,l,m⟩:=kJ underlying89 h;obtain⟨c0,c1,c2,c3,rfl⟩:=wM (y.trans oQ);simp only[mL,iG,dY,d5,d6,dX] at j k l m;obtain⟨M,g,_,B⟩:=DataW.trod_int underlying3 l;obtain⟨N,i,_,C⟩:=DataW.trod_int underlying3 m;obtain rfl:d=.agg [b.1,c.1,K.1,L.1]:=A;simp only[Rows.uptoBulk,Rows.uptoBulkAll] at x ⊢;obtain⟨q,D,I,e,t,O,F,_⟩:=ja (d:=b.1) (p:=b.2) j (.inr (by omega))
 obtain⟨s,E,J,f,v,P,G,_⟩:=ja (d:=c.1) (p:=c.2) k (.inr (by omega))
 simp only[ed,di] at e f g i;subst e f g i;exact⟨⟨q,I,D,s,J,E,M,N⟩,rfl,by omega,⟨t,F,v,G,n64 B,n64 C⟩,by dsimp only;omega,by dsimp only;omega⟩
theorem sZ(h:DataW.trod enc prog W 0 (λ_=>true) true fuel 77 cs=some (d,p))(c:Rows.uptoBulk d<=1048576):
 ∃r:Pv,cs=r.cs.toList/\Pi W r/\Smi r:=by
 obtain⟨Z,n,g,i,y4,ab,M,I,t,x,y,A,B⟩:=pI underlying77 h;obtain⟨c0,c1,c2,c3,c4,rfl⟩:=yF (I.trans oB);simp only[sY,mL,iG,dY,d5,d6,dX] at t x y A B;obtain⟨z0,k,_,N⟩:=DataW.trod_int underlying3 t;obtain⟨z1,l,_,O⟩:=DataW.trod_int underlying3 x;obtain⟨z4,s,_,P⟩:=DataW.trod_int underlying3 B;obtain rfl:d=.agg [Z.1,n.1,g.1,i.1,y4.1]:=M;simp only[Rows.uptoBulk,Rows.uptoBulkAll] at c;obtain⟨D,L,V,m,U,_,S,C,Y⟩:=jn Iv.zero (E:=λv=>v.cs.toList) 1 underlying75 oQ (by decide) (λ_=>rfl) (λ_ _ _ _ h c=>sC h c) (d:=g.1) (p:=g.2) y (by omega)
 obtain⟨F,R,X,q,G,n3,T,_⟩:=ja (d:=i.1) (p:=i.2) A (.inr (by omega))
 simp only[ed,di] at k l m q s;subst k l m q s;exact⟨⟨z0,z1,D,V,L,F,X,R,z4⟩,rfl,⟨⟨λv f=>(C v f).1,by dsimp only;omega,Y.imp id λ⟨b,aa,e,h⟩=>⟨b,aa,e,λr J j u K=>h r J j u K⟩⟩,S,G,T,n64 N,n64 O,n64 P⟩,⟨by dsimp only;omega,λv f=>(C v f).2⟩,U⟩
theorem uj{cs:List Value}(h:DataW.trod enc prog W 0 (λ_=>true) true fuel 91 cs=some (d,p))(k:Rows.uptoBulk d<=1048576):
 ∃x:Int×Pv,cs=nmc x/\3<=Rows.uptoBulk d/\(Pi W x.2/\N64 x.1)/\Smi x.2:=by
 obtain⟨g,b,n,r,l,e,f⟩:=qf underlying91 h;obtain⟨c0,c1,c2,c3,v,y,rfl⟩:=yI (l.trans pq);simp only[oB,iG,dY,d5,d6,dX] at e f;obtain⟨t,c,_,s⟩:=DataW.trod_int underlying3 e;obtain rfl:d=.agg [g.1,b.1]:=r;have:=lN g.1;have:=lN b.1;simp only[Rows.uptoBulk,Rows.uptoBulkAll] at k ⊢;obtain⟨q,i,j,m⟩:=sZ (d:=b.1) (p:=b.2) f (by omega)
 simp only[ed,di] at c;subst c;exact⟨(t,q),by rw[i];rfl,by omega,⟨j,n64 s⟩,m⟩
theorem open_intsU(h:DataW.Trod enc prog W 0 (λ_=>true) true 22 (.slice a len cap) d p)(c:Rows.uptoBulk d<=1048576):
 ∃C:List Int,len=C.length/\Q.Ir W a C/\C.length<=1048576:=by
 obtain⟨fuel,f⟩:=h
 obtain⟨k,L,q,e,n,_,_,_,i⟩:=jn 0 (E:=λz:Int=>[Value.int .i64 z]) (Y:=λ_=>True) 0 underlying22 iG (by decide) (λ_=>rfl) (λ_ _ _ _ h _=>by
  obtain⟨z,e,_⟩:=DataW.trod_int underlying3 h;exact⟨z,e,ar _,trivial⟩) f c
 simp only[Value.cells,ed,di,bG] at e;obtain⟨rfl,rfl,rfl⟩:=e;exact⟨L,rfl,i.imp id λ⟨b,j,e,h⟩=>⟨b,j,e,λr g=>by simpa using h r g 0 _ rfl⟩,n⟩
def Trs(w:World)(a:Option Addr)(L:List Tr):Prop:=∀j,j<L.length->∃g off,a=some ⟨g,off,none⟩/\∀k u,(L.getD j ⟨0,0,0⟩).cs[k]?=some u->w.cell? ⟨g,off+j*3+k,none⟩=some u
theorem Trs.keep{w f:World}{a:Option Addr}{L:List Tr}(h:Trs w a L)(hb:Below w.heap.size w f):Trs f a L:=λj l=>by
 obtain⟨g,i,e,b⟩:=h j l;exact⟨g,i,e,λk u c=>(hb.cell (p:=⟨g,i+j*3+k,none⟩) (block_lt_of_cell (b k u c))).trans (b k u c)⟩
theorem sO(h:DataW.trod enc prog W 0 (λ_=>true) true fuel 34 cs=some (d,p))(q:Rows.uptoBulk d<=1048576):
 ∃t:Tr,cs=t.cs/\0<=Rows.uptoBulk d/\True:=by
 obtain⟨y,A,B,n,r,j,f,g,i⟩:=pS underlying34 h;obtain⟨c0,c1,c2,rfl⟩:=wQ (j.trans ou);simp only[iG,dY,d5,d6,dX] at f g i;obtain⟨k,b,_,s⟩:=DataW.trod_int underlying3 f;obtain⟨l,c,_,v⟩:=DataW.trod_int underlying3 g;obtain⟨m,e,_,x⟩:=DataW.trod_int underlying3 i;simp only[ed,di] at b c e;subst b c e;exact⟨⟨k,l,m⟩,rfl,ar _,trivial⟩
structure Imi(w:World)(x:Img):Prop where
 c:Q.Ir w x.aC x.C
 n:Nm w x.aN x.N
 t:Trs w x.aT x.T
 nl:x.N.length<=1000000
 tl:x.T.length<=1048576
theorem Imi.keep{w b:World}{x:Img}(h:Imi w x)(hb:Below w.heap.size w b):Imi b x:=⟨h.c.keep hb,h.n.keep hb,h.t.keep hb,h.nl,h.tl⟩
theorem open_img{cs:Array Value}(h:DataW.Trod enc prog W 0 (λ_=>true) true 26 (.agg cs) d p)(f:Rows.uptoBulk d<=1048576):
 ∃x:Img,cs=x.cs/\Imi W x:=by
 obtain⟨fuel,L⟩:=h;obtain⟨U,q,s,t,n,m,c,i,j,k,l⟩:=kJ underlying26 L;obtain⟨c0,c1,c2,c3,C⟩:=wM (c.trans uQ);rw[C] at i j k l;simp only[tS,iG,tA,sx,dY,d5,d6,dX] at i j k l;obtain⟨V,v,_,Z⟩:=DataW.trod_int underlying3 i;obtain rfl:d=.agg [U.1,q.1,s.1,t.1]:=m;simp only[Rows.uptoBulk,Rows.uptoBulkAll] at f
 obtain⟨I,D,N,y,n1,_,_,_,R⟩:=jn 0 (E:=λz:Int=>[Value.int .i64 z]) (Y:=λ_=>True) 0 underlying22 iG (by decide) (λ_=>rfl) (λ_ _ _ _ h _=>by
  obtain⟨z,e,_⟩:=DataW.trod_int underlying3 h;exact⟨z,e,ar _,trivial⟩) (d:=q.1) (p:=q.2) j (by omega)
 obtain⟨J,F,O,A,_,n2,_,X,S⟩:=jn nm0 (E:=nmc) 3 underlying23 pq (by decide) (λ_=>rfl) (λ_ _ _ _ h f=>uj h f) (d:=s.1) (p:=s.2) k (by omega)
 obtain⟨K,G,P,B,M,_,_,_,T⟩:=jn (⟨0,0,0⟩:Tr) (E:=Tr.cs) (Y:=λ_=>True) 0 underlying24 ou (by decide) (λ_=>rfl) (λ_ _ _ _ h f=>sO h f) (d:=t.1) (p:=t.2) l (by omega)
 simp only[ed,di] at v y A B;subst v y A B;refine⟨⟨V,I,N,D,J,O,F,K,P,G⟩,Array.ext' (by show cs.toList=[_,_,_,_];simpa[Value.cells] using C),⟨?_,⟨λr c=>?_,λx m=>(X x m).1⟩,λr c=>?_,by dsimp only;omega,M⟩⟩
 . exact R.imp id λ⟨b,g,e,h⟩=>⟨b,g,e,λr c=>by simpa using h r c 0 _ rfl⟩
 . rcases S with rfl|⟨b,g,e,h⟩
   . exact absurd c (db _)
   exact⟨b,g,e,h r c⟩
 . rcases T with rfl|⟨b,g,e,h⟩
   . exact absurd c (db _)
   exact⟨b,g,e,h r c⟩
end
end Go.Proofs.YtnnieandfdbhgaaGreat
namespace Go.Proofs.YtnnieandfdbhgaaGreat
open Go.Proofs.Tryz
open Go.RowKit
variable {rd:Int->Option Pg}{x:Iv}{k:List Nat}{rb:Nat}{D:Rd}{W w w':World}
def sc(w w':World)(e:Ending)(x:Img):Prop:=
 ((fp x.r x.C (nmg x.N)).1≠0/\e=.returned (.pointer none)/\Below w.heap.size w w')\/
 ((fp x.r x.C (nmg x.N)).1=0/\∃(rb:Nat)(D:Rd),e=.returned (.pointer (some ⟨rb,0,none⟩))/\Rn w w' rb D/\PRi x.C (fp x.r x.C (nmg x.N)).2 D)
theorem Rn.pre14(hb:Below w.heap.size w W)(h:Rn W w' rb D):Rn w w' rb D:=⟨h.box,h.cr,h.lr,h.pr,λp a=>(h.pn p a).pre hb.size,h.ps,az hb.size h.nb,h.nC.mono hb.size,h.nl.mono hb.size,h.np.mono hb.size,bt hb h.b⟩
theorem sH(w:World)(x:Img)(d:Imi w x):Calls prog 39 #[.agg x.cs] w λe w'=>sc w w' e x:=by
 have b:=e7 (al w (.cells x.cs 26));have B:=ag w (.cells x.cs 26);have A:=e7 λ(W:World)(hb:Below w.heap.size w W)=>tH W x.r x.aC x.C.length x.cC x.C (d.c.keep hb) rfl x.aN x.N.length x.cN x.N (d.n.keep hb) rfl d.nl
 have q:=e7 λ(w':World)(e:Ending)(h:sc w w' e x)=>h
 clear d;unfold sc at q ⊢;obtain⟨r,G,K,C,H,L,N,I,M,T⟩:=x;simp only[Img.cs] at *;obtain⟨S,U,V,X⟩:=fO B;go_enter func39,ntmps39;go_wp2_with fail
 refine(A.o _ b.o).mono ?_;rintro _ j (⟨i,f,a,rfl,hb⟩|⟨a,rb,D,rfl,c,E,l,m,n,p,_⟩)
 . have g:=e7 a;have s:=e7 (bt b.o hb);have v:=e7 f;have O:(((i:Nat):Int)==(0:Int))=false:=by simp[f]
   have P:(((i:Nat):Int) != (0:Int))=true:=by simp[f]
   clear a hb f;generalize ((i:Nat):Int)=Y at *;go_wp2_with fail
   go_ret;exact .inl ⟨by rw[g.o];exact v.o,rfl,s.o⟩
 . have g:=e7 a;have t:=e7 (c.keep (Below.refl _ _));have J:j.cell? ⟨rb,6,none⟩=some (.bool D.hush):=by rw[ah _ _ _ _ _ _ c.box];rfl
   have R:j.frozen? ⟨rb,6,none⟩=false:=by simp[World.frozen?,c.box]
   have y:Hid (PRi C (fp r C (nmg N)).2 {D with hush:=true}):=⟨l,m,n,p⟩;have F:=e7 b.o.size;clear a c E l m n p;go_wp2_with fail
   go_ret;exact .inr ⟨g.o,rb,_,rfl,(t.o.hushed).pre14 b.o,y.o⟩
structure Ld(w W:World)(b rb:Nat)(S:Vs)(pb mb:Nat)(pc col:Nat->Nat)(D:Rd)(colR:Nat->Nat)(rd:Int->Option Pg):Prop where
 bl:Below w.heap.size w W
 v:Vw W b S pb mb pc col
 r:Rq W rb D colR
 s:∀z,Sml (S.X.on z)
 rv:rdV S=rd
 rr:rdR D=rd
 ok:gc rd
 c:S.X.P.counts=D.C
 dj:∀k,col k≠0->colR k=0
 nv:∀k,col k≠0->w.heap.size<=k
 nr:∀k,colR k≠0->w.heap.size<=k
def mQ(w w':World)(e:Ending)(x:Img):Prop:=
 (¬((fp x.r x.C (nmg x.N)).1=0/\x.C.length<=4096)/\e=.returned (.tuple #[.pointer none,.pointer none,.bool true])/\Below w.heap.size w w')\/
 ((fp x.r x.C (nmg x.N)).1=0/\x.C.length<=4096/\∃(b rb:Nat)(S:Vs)(pb mb:Nat)(pc col:Nat->Nat)(D:Rd)(colR:Nat->Nat),e=.returned (.tuple #[.pointer (some ⟨b,0,none⟩),.pointer (some ⟨rb,0,none⟩),.bool true])/\Ld w w' b rb S pb mb pc col D colR (fp x.r x.C (nmg x.N)).2)
theorem Ld.mk14{d n:World}{b:Nat}{r:Int}{C:List Int}{L:List (Int×Pg)}{f:Int->Option Pv}(I:C.length<=4096)(v:(fp r C L).1=0)(g:Rn w d rb D)(a:PRi C (fp r C L).2 D)(y:sB d n b (ldS r C f))(E:∀k,(f k).map Pv.pg=(fp r C L).2 k)(B:∀k q,f k=some q->q.pg.check=0)(G:∀k,(f k).isSome=true->0<fk C k):
 ∃(j i:Nat)(l m:Nat->Nat)(H:Nat->Nat),Ld w n b rb (ldS r C f) j i l m D H (fp r C L).2:=by
 obtain⟨j,i,l,m,A,hb,p⟩:=y;obtain⟨s,F⟩:=g.rq (by rw[a.2.1,a.1];simp) (by rw[a.2.2.1,a.1]) (by rw[a.1];omega)
 have c:PVi r C (fp r C L).2 (ldS r C f):=⟨f,rfl,E,B,G⟩;have e:=vY c a (sv v);refine⟨j,i,l,m,_,bt g.b hb,A,s.keep hb,t8 c,(qU c a).trans e,e,wC c,pk c a,λk h=>?_,λk h=>az g.b.size (p k h),F⟩
 by_cases t:iT w d rb D k=0
 . exact t
 . have:=s.lt k t;have:=p k h;omega
theorem mN(w:World)(x:Img)(a:Imi w x):Calls prog 7 #[.agg x.cs] w λe w'=>mQ w w' e x:=by
 have c:=e7 (al w (.cells x.cs 26));have I:=e7 (ag w (.cells x.cs 26));have n:=e7 λ(W:World)(hb:Below w.heap.size w W)=>sH W x (a.keep hb)
 have H:=e7 λ(W:World)(hb:Below w.heap.size w W)=>uc W x.r x.aC x.C.length x.cC x.C (a.c.keep hb) rfl x.aN x.N.length x.cN x.N (a.n.keep hb) rfl a.nl
 have A:=e7 λ(w':World)(e:Ending)(h:mQ w w' e x)=>h
 clear a;unfold mQ at A ⊢;unfold sc at n;obtain⟨r,V,Z,C,X,cN,N,Y,cT,T⟩:=x;simp only[Img.cs] at *;go_enter func7,ntmps7;go_wp2_with fail
 refine(n.o _ c.o).mono ?_;rintro _ w2 (⟨v,rfl,hb⟩|⟨d,rb,D,rfl,i,p⟩)
 . have F:=e7 v;have B:=e7 (bt c.o hb);clear v hb;go_wp2_with fail
   go_ret3
   exact .inl ⟨λh=>F.o h.1,rfl,B.o⟩
 . have g:=e7 d;have m:=e7 i;have G:=e7 p;have J:=e7 (fF I.o i.b);clear d i p;obtain⟨x0,x1,x2,x3⟩:=fO J.o;have j:=e7 (bt c.o m.o.b);by_cases K:4096<C.length
   . have R:(4096:Int)<(C.length:Int):=by omega
     go_wp2_with fail
     go_ret3
     exact .inl ⟨λh=>by omega,rfl,j.o⟩
   . have R:¬(4096:Int)<(C.length:Int):=by omega
     have l:Hid (C.length<=4096):=by show _<=_;omega
     clear K;go_wp2_with fail
     refine(H.o _ j.o).mono ?_;rintro _ w3 (⟨er,S,d,rfl,hb⟩|⟨_,b,f,rfl,q,t,s,y⟩)
     . exact absurd (d.symm.trans g.o) S
     . have E:=e7 (Ld.mk14 l.o g.o (m.o.pre14 c.o) G.o q t s y);clear q t s y;go_wp2_with fail
       go_ret3
       obtain⟨M,L,O,P,U,h⟩:=E.o;exact .inr ⟨g.o,l.o,b,rb,_,M,L,O,P,D,U,rfl,h⟩
theorem tN(w0 w:World)(b rb:Nat)(S:Vs)(F mb:Nat)(pc ao:Nat->Nat)(D:Rd)(ak:Nat->Nat)(rd:Int->Option Pg)(h:Ld w0 w b rb S F mb pc ao D ak rd):
 Calls prog 24 #[.pointer (some ⟨b,0,none⟩),.pointer (some ⟨rb,0,none⟩)] w λe w'=>e=.returned (.bool true)/\Below w.heap.size w w':=by
 have RV:Hid (gW 52 (.pointer (some ⟨b,0,none⟩)) rd w):=by rw[<-h.rv];exact h.v.reads h.s
 have RR:Hid (gW 53 (.pointer (some ⟨rb,0,none⟩)) rd w):=by rw[<-h.rr];exact h.r.reads
 have PL:Hid (∀z,((rd z).getD Pv.zero.pg).items.length<=1048576):=λz=>by
  rw[<-h.rr];unfold rdR;by_cases C:0<D.count z
  . rw[if_pos C]
    have hh:D.has z=true:=by
     unfold Rd.count at C;split at C
     . assumption
     . omega
    have:=(iQ (h.r.ps _ (Rd.on_mem h.r hh))).2;show((D.on z).items.map Iv.it).length<=_;rw[bf];exact this
  . rw[if_neg C];exact ar _
 have J:=e7 λ(W:World)(hb:Below w.heap.size w W)=>qw W rb D ak (h.r.keep hb)
 have V:=e7 λ(W:World)(hb:Below w.heap.size w W)=>(show Calls prog 50 #[.pointer (some ⟨F,0,none⟩)] W λe w'=>∃a c,e=.returned (.slice a D.C.length c)/\Q.IOwn W w' a c D.C from by
  obtain⟨ac,cc,aa,ca,E⟩:=h.v.keep hb;have k:=Q.sl W F _ _ E.pool;rw[h.c] at k;exact k)
 have A:Hid (∀W:World,Below w.heap.size w W->W.cell? ⟨b,0,none⟩=some (.pointer (some ⟨F,0,none⟩))/\W.cell? ⟨rb,1,none⟩=some (.slice D.aC D.C.length D.cC)):=λW hb=>⟨(h.v.keep hb).c0,(h.r.keep hb).cells.2.1⟩
 have IR:=e7 λ(W:World)(hb:Below w.heap.size w W)=>(show Q.Ir W D.aC D.C from(h.r.keep hb).cr.ir)
 have h6:=h.r.n6;clear h;obtain⟨n,P⟩:∃n,D.C.length=n:=⟨_,rfl⟩;have I:=e7 P;simp only[P] at J V A h6;clear P;have v:=e7 (dr2 w);go_enter func24,ntmps24;go_upto_region 1 with fail
 refine wrd A v.o λhHeld=>?_
 refine tkd 0 1 2 3 ?_;refine tkd 5 6 7 8 ?_;refine tw 4 λKx N=>?_
 go_simp;refine(V.o _ v.o).mono ?_;rintro _ j ⟨a2,c2,rfl,O⟩;have Y:=e7 O;have d:=e7 (bt v.o O.b);clear O;go_wp2_with fail
 refine N.o _ _ (A.o _ d.o) (λhHeld=>?_)
 refine tw 9 λKx N=>?_
 go_simp;refine(Q.qS j a2 D.aC n n c2 D.cC D.C Y.o.r.ir (IR.o _ d.o) I.o.symm I.o.symm (by have:=I.o;omega)).mono ?_
 rintro _ s ⟨rfl,f⟩;have i:=e7 (bt d.o f);clear f;go_wp2_with fail
 refine N.o _ _ (A.o _ i.o) (λhHeld=>?_)
 refine tk 10 ?_;refine td ?_;clear hHeld v Y d;go_wp2_with fail
 go_loopw [5] (λR wx=>∃k:Nat,1<=k/\k<=n+1/\R=.int .i64 (k:Int)/\Below w.heap.size w wx) (λR _=>n+1-(intOf R).toNat)
 case atStart=>exact⟨1,ai _,Nat.succ_le_succ (ar _),rfl,i.o⟩
 case round=>
  clear i;obtain⟨k,av,aw,rfl,hb⟩:=hrel;have m:=e7 hb;clear hb;by_cases ax:k<=n
  . have U:(k:Int)<=(n:Int):=by omega
    have ap:decide ((k:Int)<=(n:Int))=true:=an U;go_wp2_with fail
    refine(J.o _ m.o).mono ?_;rintro _ wq ⟨rfl,t⟩;rw[t];clear t;go_wp2_with fail
    refine(RV.o _ m.o _).mono ?_;rintro _ j ⟨p,rfl,hp,ah,ad⟩;obtain⟨B,T⟩:∃B:Int,(if (rd (k:Int)).isSome=true then (0:Int) else 15)=B:=⟨_,rfl⟩
    rw[T];have ab:=e7 hp;have PG:=e7 ah;have d:=e7 (bt m.o ad);clear hp ah ad;have K:Hid (p.vl=.agg #[.int .i64 p.kind,.int .i64 p.level,.slice p.aI p.items.length p.cI,.slice p.aD p.data.length p.cD,.int .i64 p.next]):=rfl;rw[K.o];have G:=e7 (al j (.cells #[.int .i64 p.kind,.int .i64 p.level,.slice p.aI p.items.length p.cI,.slice p.aD p.data.length p.cD,.int .i64 p.next] 77));have M:=e7 (aF j (.cells #[.int .i64 p.kind,.int .i64 p.level,.slice p.aI p.items.length p.cI,.slice p.aD p.data.length p.cD,.int .i64 p.next] 77));go_upto_region 7 with fail
    have H:=e7 (bt d.o G.o);have Z:=e7 (ab.o.keep G.o);generalize aq:j.alloc (.cells #[.int .i64 p.kind,.int .i64 p.level,.slice p.aI p.items.length p.cI,.slice p.aD p.data.length p.cD,.int .i64 p.next] 77)=w3 at *;clear aq G ab d;obtain⟨gp,af⟩:∃gp,j.heap.size=gp:=⟨_,rfl⟩;simp only[af] at M ⊢;clear af;go_wp2_with fail
    refine(RR.o _ H.o _).mono ?_;rintro _ s ⟨q,rfl,E,aj,f⟩;rw[T];clear T;have Q4:=e7 E;have QG:=e7 aj;have i:=e7 (bt H.o f);have P4:=e7 (Z.o.keep f);have X4:=e7 (fF M.o f);clear E aj f Z M H;have L:Hid (q.vl=.agg #[.int .i64 q.kind,.int .i64 q.level,.slice q.aI q.items.length q.cI,.slice q.aD q.data.length q.cD,.int .i64 q.next]):=rfl;rw[L.o];have l:=e7 (al s (.cells #[.int .i64 q.kind,.int .i64 q.level,.slice q.aI q.items.length q.cI,.slice q.aD q.data.length q.cD,.int .i64 q.next] 77));have r:=e7 (aF s (.cells #[.int .i64 q.kind,.int .i64 q.level,.slice q.aI q.items.length q.cI,.slice q.aD q.data.length q.cD,.int .i64 q.next] 77));go_upto_region 8 with fail
    have B5:=e7 (bt i.o l.o);have P5:=e7 (P4.o.keep l.o);have Q5:=e7 (Q4.o.keep l.o);have X5:=fF X4.o l.o;have r:=r.o;generalize au:s.alloc (.cells #[.int .i64 q.kind,.int .i64 q.level,.slice q.aI q.items.length q.cI,.slice q.aD q.data.length q.cD,.int .i64 q.next] 77)=w5 at *;clear au l P4 Q4 X4 i;obtain⟨gq,ag⟩:∃gq,s.heap.size=gq:=⟨_,rfl⟩;simp only[ag] at r ⊢;clear ag
    have y:Hid (p.pg=q.pg/\p.items.length<=2199023255520/\q.items.length<=2199023255520):=by
     have e1:=PG.o;have e2:=QG.o;have l1:=PL.o (k:Int);refine⟨by rw[e1,e2],?_,?_⟩
     . have e:=aU (λg:Pg=>g.items.length) e1
       simp only[Pv.pg,bf] at e;rw[e];exact az l1 (by decide)
     . have e:=aU (λg:Pg=>g.items.length) e2
       simp only[Pv.pg,bf] at e;rw[e];exact az l1 (by decide)
    have X:=e7 λ(W:World)(hb:Below w5.heap.size w5 W)=>qI W p q ((P5.o.keep hb).pi y.o.2.1) ((Q5.o.keep hb).pi y.o.2.2) y.o.1
    rw[K.o,L.o] at X;have de:(B != B)=false:=by simp
    clear PG QG y K L P5 Q5;obtain⟨x0,x1,x2,x3,x4⟩:=fC X5;obtain⟨y0,y1,y2,y3,y4⟩:=fC r;clear X5 r;go_wp2_with fail
    refine(X.o _ (Below.refl _ _)).mono ?_;rintro _ w6 ⟨rfl,ae⟩;have B6:=e7 (bt B5.o ae);clear ae x0 x1 x2 x3 x4 y0 y1 y2 y3 y4;go_wp2_with fail
    go_roundw
    case rel=>exact⟨k+1,by omega,by omega,by first|(go_num;done)|exact aU (Value.int IntKind.i64) (by omega),B6.o⟩
    case measure=>(simp[intOf];omega)
  . obtain rfl:k=n+1:=by omega
    have U:¬(((n+1:Nat):Int)<=(n:Int)):=by omega
    have ap:decide (((n+1:Nat):Int)<=(n:Int))=false:=am U;go_wp2_with fail
    refine(J.o _ m.o).mono ?_;rintro _ wq ⟨rfl,t⟩;rw[t];clear t;go_wp2_with fail
    go_ret;exact⟨rfl,m.o⟩
theorem va:(prog.info? 91).map (λi=>(i.zero,i.size,i.bytes))=some (some (.agg #[.int .i64 0,.int .i64 0,.int .i64 0,.slice none 0 0,.slice none 0 0,.int .i64 0]),6,80):=by kernel_rfl
def nmw(L:List (Int×Pv)):List Value:=(L.map nmc).flatten
theorem vX(L:List (Int×Pv))(x:Int×Pv):nmw L++nmc x=nmw (L++[x]):=by simp[nmw]
theorem rD:∀(L:List (Int×Pv))(i k:Nat),i<L.length->k<6->(nmw L)[i*6+k]?=(nmc (L.getD i (0,Pv.zero)))[k]?
 | [],i,k,h,_=>absurd h (db _)
 |x::L,0,k,h,hk=>by
  have a:(nmc x).length=6:=rfl;simp only[nmw,bE,dC,dJ,bP];rw[bu (by omega)]
  rfl
 |x::L,i+1,k,h,hk=>by
  have a:(nmc x).length=6:=rfl;have b:=rD L i k (by simpa using h) hk
  show((x::L).map nmc).flatten[(i+1)*6+k]?=_;rw[bE,dC,a6 (by omega),a,show(i+1)*6+k-6=i*6+k by omega]
  exact b
theorem xu{g:Nat}{x:Int×Pv}{t:TypeId}(h:W.heap[g]?=some (.cells (nmc x).toArray t (0,0))):∀j u,(nmc x)[j]?=some u->W.cell? ((⟨g,0,none⟩:Addr).add j)=some u:=by
 intro j u a;rw[Addr.add_mid,bP,ah _ _ _ _ _ _ h,<-a];simp
theorem xq{x:Int×Pv}:∀u∈nmc x,u.oneCell'=true:=by
 intro u hu;unfold nmc at hu;rcases b8.1 hu with rfl|hu
 . rfl
 . simp[Pv.cs] at hu;rcases hu with rfl|rfl|rfl|rfl|rfl<;>rfl
def iU(rd:Int->Option Pg)(k:List Nat):Nat->Int->Option (List (Int×Pg))
 |0,_=>some []
 |h+1,n=>match rd n with
  |none=>none
  |some p=>if lvl p h=false then none else (iU rd k h (p.at (kz k p.items)).child).map λl=>(n,p)::l
theorem un{L:List It}(h:0<L.length):kz k L<L.length:=by
 unfold kz;have:=mZ k (L.drop 1);rw[cf] at this;omega
theorem uF{h:Nat}{n:Int}{q:Pv}(b:rd n=some q.pg)(a:lvl q.pg h=true)(L:List (Int×Pv)):(iU rd k (h+1) n).map (λl=>nmg L++l)=(iU rd k h (q.pg.at (kz k q.pg.items)).child).map (λl=>nmg (L++[(n,q)])++l):=by
 conv=>lhs;unfold iU
 rw[b];simp only[a,Bool.true_eq_false,if_false,Option.map_map];congr 1
 funext l
 simp[nmg]
def WayR(w w':World)(e:Ending)(R:Option (List (Int×Pg))):Prop:=(R=none/\e=.returned (.tuple #[.slice none 0 0,.int .i64 15])/\Below w.heap.size w w')\/
 ∃(L:List (Int×Pv))(a:Option Addr)(c:Nat),R=some (nmg L)/\e=.returned (.tuple #[.slice a L.length c,.int .i64 0])/\Q.Gw 91 6 w' a c L.length (nmw L)/\(∀y,a=some y->w.heap.size<=y.block)/\(∀x,L.getLast?=some x->Pi w' x.2)/\Below w.heap.size w w'
theorem tF(w:World)(af:Nat)(rd:Int->Option Pg)(hA:gc rd)(XV:Nat->Prop)(hR:gu 52 (.pointer (some ⟨af,0,none⟩)) rd XV w)(root ac:Int)(h:Nat)(hh:h<=12)(ak:Option Addr)(ck:Nat)(k:List Nat)(J:Bs w ak k):
 Calls prog 42 #[.pointer (some ⟨af,0,none⟩),.agg #[.int .i64 root,.int .i64 (h:Int),.int .i64 ac],.slice ak k.length ck] w λe w'=>WayR w w' e (iU rd k h root):=by
 have A0:=e7 (al w (.cells #[.int .i64 root,.int .i64 (h:Int),.int .i64 ac] 34));have X0:=ag w (.cells #[.int .i64 root,.int .i64 (h:Int),.int .i64 ac] 34);obtain⟨t0,t1,t2⟩:=fb X0;obtain⟨R,ao⟩:∃R,iU rd k h root=R:=⟨_,rfl⟩;rw[ao];have RR:=e7 ao;have HR:=e7 hR;have HA:=e7 hA;have HB:=e7 J;have aF:IntKind.i64.wrap ((h:Int)-1)=(h:Int)-1:=fB (by omega) (by omega)
 clear ao hR hA J X0;go_enter func42,ntmps42;go_upto_region 4 with fail
 generalize w.alloc (.cells #[.int .i64 root,.int .i64 (h:Int),.int .i64 ac] 34)=w1 at *;clear t0 t1 t2;have aG:(nmg ([]:List (Int×Pv)))=[]:=rfl;go_loopw [8,9,10] (λp q ai wr=>∃(B:Nat)(n:Int)(a:Option Addr)(c:Nat)(L:List (Int×Pv)),p=.slice a L.length c/\q=.int .i64 n/\ai=.int .i64 ((B:Int)-1)/\L.length+B=h/\Below w.heap.size w wr/\Q.Gw 91 6 wr a c L.length (nmw L)/\(∀y,a=some y->w.heap.size<=y.block)/\(∀x,L.getLast?=some x->Pi wr x.2)/\(iU rd k B n).map (λah=>nmg L++ah)=R) (λ_ _ ai _=>(intOf ai+1).toNat)
 case atStart=>
  refine⟨h,root,none,0,[],rfl,rfl,rfl,by simp,A0.o,Q.Gw.nil _ _ _,λy F=>(by cases F),λx P=>absurd P (by simp),?_⟩
  rw[RR.o.symm];cases iU rd k h root<;>rfl
 case round=>
  obtain⟨B,n,a,c,L,rfl,rfl,rfl,hL,hb,O,av,hP,hc⟩:=hrel;have M:=e7 hb;have GG:=e7 O;have PP:=e7 hP;have NA:=e7 av;have G:=e7 hc;clear hb O hP hc av;cases B with
  |zero=>
   have K:Hid (R=some (nmg L)):=e7 (by rw[<-G.o];simp[iU])
   clear G;go_wp2;go_ret2
   exact Or.inr ⟨L,a,c,K.o,rfl,GG.o,NA.o,PP.o,M.o⟩
  |succ B=>
   have e1:((B+1:Nat):Int)-1=(B:Int):=by omega
   rw[e1];have OR:=e7 (oA wr ⟨af,0,none⟩ rd XV (HR.o.keep M.o) wr (But.refl _ _) n);go_wp2_with fail
   refine OR.o.mono ?_;rintro _ E ⟨q,rfl,hq,hg,aw⟩;have PN:=e7 hq;have QG:=e7 hg;have B2:=e7 aw;clear hq hg aw OR;cases hrd:rd n with
   |none=>
    have K:Hid (R=none):=e7 (by rw[<-G.o];unfold iU;rw[hrd];rfl)
    obtain⟨f,r,A,m,d,g,i,v,t⟩:=q;simp only[Pv.vl,Pv.cs];have l:=e7 (al E (.cells #[.int .i64 f,.int .i64 r,.slice A d.length m,.slice g v.length i,.int .i64 t] 77));clear G;simp only[Option.isSome_none,Bool.false_eq_true,if_false];go_wp2;go_ret2
    exact Or.inl ⟨K.o,rfl,bt M.o (bt B2.o l.o)⟩
   |some pg=>
    have aD:q.pg=pg:=by rw[QG.o,hrd];rfl
    have V:=e7 (HA.o n pg hrd);simp only[Option.isSome_some,if_true];subst aD;obtain⟨f,r,A,m,d,g,i,v,t⟩:=q;have I:=e7 (λ(U:World)=>pD U ⟨f,r,A,m,d,g,i,v,t⟩ (B:Int))
    unfold Pv.vl at I;simp only[Pv.vl,Pv.cs] at I ⊢;have l:=e7 (al E (.cells #[.int .i64 f,.int .i64 r,.slice A d.length m,.slice g v.length i,.int .i64 t] 77));have X3:=e7 (ag E (.cells #[.int .i64 f,.int .i64 r,.slice A d.length m,.slice g v.length i,.int .i64 t] 77));have au:=e7 hrd;clear hrd QG;go_upto_region 7 with fail
    generalize E.alloc (.cells #[.int .i64 f,.int .i64 r,.slice A d.length m,.slice g v.length i,.int .i64 t] 77)=w3 at *;obtain⟨m0,m1,m2,m3,m4⟩:=fC X3.o;have B3:=e7 (bt B2.o l.o);cases hlq:lvl (Pv.pg ⟨f,r,A,m,d,g,i,v,t⟩) (B:Int) with
    |false=>
     have K:Hid (R=none):=e7 (by rw[<-G.o];unfold iU;rw[au.o];simp only[hlq,if_true];rfl)
     rw[hlq] at I;clear G hlq;go_wp2_with (go_at_call 80;refine(I.o _).mono ?_;rintro _ V6 ⟨rfl,s⟩;have Y:=e7 s;clear s)
     go_ret2
     exact Or.inl ⟨K.o,rfl,bt M.o (bt B3.o Y.o)⟩
    |true=>
     have b:=e7 ((uF (k:=k) au.o hlq L).symm.trans G.o);rw[hlq] at I;have am:=e7 hlq;clear G hlq;go_upto_region 9 with(go_at_call 80;refine(I.o _).mono ?_;rintro _ V6 ⟨rfl,s⟩;have Y:=e7 s;clear s)
     have aj:=e7 (bt B3.o Y.o);have X6:=e7 ((Y.o.block E.heap.size (ae.1 X3.o).1).trans X3.o);clear m0 m1 m2 m3 m4 I;obtain⟨m0,m1,m2,m3,m4⟩:=fC X6.o;have X:=e7 (al V6 (.cells #[.int .i64 n,.int .i64 f,.int .i64 r,.slice A d.length m,.slice g v.length i,.int .i64 t] 91));have X9:=e7 (ag V6 (.cells #[.int .i64 n,.int .i64 f,.int .i64 r,.slice A d.length m,.slice g v.length i,.int .i64 t] 91));have G9:=e7 (GG.o.keep (bt aj.o X.o));have aC:L.length+1<=maxLen:=by unfold maxLen;omega
     have ar:∀y,a=some y->y.block<wr.heap.size:=λy F=>GG.o.lt F
     have P9:=e7 ((PN.o.keep (bt (bt l.o Y.o) X.o)));go_wp2_with (at_builtin;refine iS underlying23 va rfl (by decide) rfl _ _ rfl a L.length c (nmw L) rfl G9.o ⟨V6.heap.size,0,none⟩ 1 (nmc (n,⟨f,r,A,m,d,g,i,v,t⟩)) rfl rfl (xu X9.o) xq aC (by omega) ?_)
     intro g5 c5 H O hN J;rw[vX] at O;have G5:=e7 O;have P5:=e7 ((P9.o.old J (λk hk=>by obtain⟨y,F,e⟩:=hk;have:=ar y F;omega)))
     have aA:=B2.o.size;have nA:∀j,wr.heap.size<=j->¬Q.InA a j:=λj hj ⟨y,F,e⟩=>by have:=ar y F;omega
     have X5:=e7 (J.same ((X.o.block E.heap.size (ae.1 X6.o).1).trans X6.o) (nA _ aA))
     have N5:Hid (∀y,(some ⟨g5,0,none⟩:Option Addr)=some y->w.heap.size<=y.block):=e7 (λy F=>by
      rcases hN y F with⟨z,hz,e⟩|h2
      . rw[<-e];exact NA.o z hz
      . have:=M.o.size;have:=aj.o.size;have:=X.o.size;have:=aA;omega)
     have B5:Hid (Below w.heap.size w H):=e7 (((But.ofBelow (S:=Q.InA a) (bt M.o (bt aj.o X.o))).trans J (λ_ _ e=>e)).below (λj hj ⟨y,F,e⟩=>by have:=NA.o y F;omega))
     have an:=e7 (P5.o.pi (show d.length<=2199023255520 by
      have h8:d.length<=8\/f=3:=by
       rcases V.o.kind with h|h|h
       . left;have:=(V.o.node (.inl h)).2.2.1;simpa[Pv.pg] using this
       . left;have:=(V.o.node (.inr h)).2.2.1;simpa[Pv.pg] using this
       . exact .inr h
      have:=h8.resolve_right (λh=>(iM.1 am.o).1 h)
      omega))
     have ap:L.length+1=(L++[(n,(⟨f,r,A,m,d,g,i,v,t⟩:Pv))]).length:=by simp
     rw[ap] at G5;have aa:=e7 ap;clear ap
     have az:Hid (∀x,(L++[(n,(⟨f,r,A,m,d,g,i,v,t⟩:Pv))]).getLast?=some x->Pi H x.2):=e7 (λx P=>by
      rw[eZ] at P;cases P;exact an.o)
     clear O hN J P9 P5 m0 m1 m2 m3 m4 nA ar;obtain⟨m0,m1,m2,m3,m4⟩:=fC X5.o;cases B with
     |zero=>
      have K:Hid ((iU rd k 0 n).map (λah=>nmg (L++[(n,(⟨f,r,A,m,d,g,i,v,t⟩:Pv))])++ah)=R):=b
      clear b;go_wp2;go_roundw
      case rel=>exact⟨0,n,some ⟨g5,0,none⟩,c5,L++[(n,⟨f,r,A,m,d,g,i,v,t⟩)],by rw[<-aa.o],rfl,by first|rfl|go_num,by rw[<-aa.o];omega,B5.o,G5.o,N5.o,az.o,K.o⟩
      case measure=>simp[intOf]
     |succ B=>
      have aH:(0:Int)<((B+1:Nat):Int):=by omega
      have ay:f=2:=by
       rcases V.o.kind with h|h|h
       . have h1:=(V.o.leaf0 h).1;have h2:=(iM.1 am.o).2;simp only[Pv.pg] at h1 h2;omega
       . exact h
       . exact absurd h (iM.1 am.o).1
      have hI:=(V.o.idx ay).2.2;obtain⟨C,ab⟩:∃C,kz k (Pv.pg ⟨f,r,A,m,d,g,i,v,t⟩).items=C:=⟨_,rfl⟩
      have aE:C<d.length:=by
       have h1:2<=(Pv.pg ⟨f,r,A,m,d,g,i,v,t⟩).items.length:=hI;have:=un (k:=k) (L:=(Pv.pg ⟨f,r,A,m,d,g,i,v,t⟩).items) (by omega)
       rw[ab] at this;simpa[Pv.pg] using this
      have aJ:(C:Int)<(d.length:Int):=by omega
      have aI:(0:Int)<=(C:Int):=by omega
      rw[ab] at b;obtain⟨N,T,ea,cA⟩:=an.o.it.at aE;have ea:A=some ⟨N,T,none⟩:=ea;have AT:(Pv.pg ⟨f,r,A,m,d,g,i,v,t⟩).at C=(d.getD C Iv.zero).it:=fT d C;rw[AT] at b;have cA:H.rangeAt N (T+C*4) (d.getD C Iv.zero).cs.toList:=cA;have Z:=e7 (λ(U:World)(hb:Below H.heap.size H U)=>tL U ⟨f,r,A,m,d,g,i,v,t⟩ ak ck k (an.o.keep hb) (HB.o.keep (bt B5.o hb)))
      simp only[ab] at Z;generalize d.getD C Iv.zero=it at *;obtain⟨_,_,_,_,_,_,ch,_⟩:=it;have d2:=(fY cA).2.2.1;simp only at d2;subst ea;unfold Pv.vl at Z;simp only[Pv.cs] at Z;have SS:Hid (∀U:World,Below H.heap.size H U->((U.cell? ⟨E.heap.size,0,none⟩=some (.int .i64 f)/\U.cell? ⟨E.heap.size,1,none⟩=some (.int .i64 r)/\U.cell? ⟨E.heap.size,2,none⟩=some (.slice (some ⟨N,T,none⟩) d.length m)/\U.cell? ⟨E.heap.size,3,none⟩=some (.slice g v.length i)/\U.cell? ⟨E.heap.size,4,none⟩=some (.int .i64 t))/\U.cell? ⟨N,T+C*4+2,none⟩=some (.int .i64 ch))):=e7 (λU hb=>⟨fC ((hb.block E.heap.size (ae.1 X5.o).1).trans X5.o),(hb.cell (p:=⟨N,T+C*4+2,none⟩) (block_lt_of_cell d2)).trans d2⟩)
      clear cA AT ab hI ay;go_upto_region 11 with fail
      have DR:=e7 (dr2 H);refine wrd SS DR.o λhHeld=>?_
      refine tkd 0 1 2 3 ?_;refine tw 4 λKx hK=>?_
      go_simp;refine(Z.o _ DR.o).mono ?_;rintro _ W2 ⟨rfl,ax⟩;have B7:=e7 (bt DR.o ax);clear ax Z;go_wp2_with fail
      refine hK.o _ _ (SS.o _ B7.o) (λhHeld=>?_)
      refine tkd 5 6 7 8 ?_;refine td ?_;clear hHeld SS;have aB:=e7 (bt B5.o B7.o);have G7:=e7 (G5.o.keep B7.o);have L7:=e7 (λx P=>(az.o x P).keep B7.o)
      go_wp2;go_roundw
      case rel=>exact⟨B+1,ch,some ⟨g5,0,none⟩,c5,L++[(n,⟨f,r,some ⟨N,T,none⟩,m,d,g,i,v,t⟩)],by rw[<-aa.o],rfl,by first|rfl|go_num,by rw[<-aa.o];omega,aB.o,G7.o,N5.o,L7.o,b.o⟩
      case measure=>simp[intOf];omega
def ldv(rd:Int->Option Pg)(x:Iv):Nat×List Nat:=if x.size<0\/3840<x.size then (8,[]) else if 32<x.size then g9 rd x.size.toNat x.size.toNat [] x.child else if (x.val.length:Int)≠x.size then (8,[]) else (0,x.val)
theorem xp(h:x.size<0\/3840<x.size):ldv rd x=(8,[]):=by unfold ldv;rw[if_pos h]
theorem vd{s:Nat}(a:32<s)(b:s<=3840)(h:x.size=(s:Int)):ldv rd x=g9 rd s s [] x.child:=by
 unfold ldv;rw[if_neg (by omega),if_pos (by omega),h]
 rfl
theorem xI(a:0<=x.size)(b:x.size<=32)(h:(x.val.length:Int)≠x.size):ldv rd x=(8,[]):=by unfold ldv;rw[if_neg (by omega),if_neg (by omega),if_pos h]
theorem tM(a:x.size<=32)(h:(x.val.length:Int)=x.size):ldv rd x=(0,x.val):=by unfold ldv;rw[if_neg (by omega),if_neg (by omega),if_neg (λe=>e h)]
theorem gW.keep{f:FuncId}{v:Value}(h:gW f v rd w)(hb:Below w.heap.size w w'):gW f v rd w':=λW a z=>h W (bt hb a) z
theorem oy(w:World)(v:Value)(rd:Int->Option Pg)(l:gW 52 v rd w)(x:Iv)(i:Ii w x):Calls prog 44 #[v,x.vl] w λe w'=>Gvn w w' e (ldv rd x):=by
 by_cases d:0<=x.size/\x.size<=32/\(x.val.length:Int)=x.size
 . rw[tM d.2.1 d.2.2];refine(sF w v x i.bv (by omega) d.2.2.symm).mono ?_
   rintro _ w' ⟨a,c,rfl,Y⟩;exact .inr ⟨rfl,a,c,rfl,Y,i.bv.1⟩
 have b:=e7 (al w (.cells x.cs 89));have g:=e7 (aF w (.cells x.cs 89));by_cases hb:x.size<0\/3840<x.size
 . rw[xp hb];clear l i d;obtain⟨L,N,S,M,O,y,P,f⟩:=x;simp only at hb;unfold Iv.vl;simp only[Iv.cs] at b g ⊢;obtain⟨H,I,J,K⟩:=mS g.o;by_cases B:f<0
   . have q:decide (f<0)=true:=an B;go_enter func44,ntmps44;go_wp2_with fail
     refine aG (cZ rfl _ _ _) rfl ?_;exact .inl ⟨by decide,rfl,b.o⟩
   . have q:decide (f<0)=false:=am B;have A:decide ((3840:Int)<f)=true:=an (by omega)
     go_enter func44,ntmps44;go_wp2_with fail
     refine aG (cZ rfl _ _ _) rfl ?_;exact .inl ⟨by decide,rfl,b.o⟩
 by_cases F:32<x.size
 . obtain⟨s,r⟩:∃s:Nat,x.size=(s:Int):=⟨x.size.toNat,by omega⟩
   have C:32<s:=by omega
   have E:s<=3840:=by omega
   rw[vd C E r];have n:=e7 (sh (w.alloc (.cells x.cs 89)) v rd (l.keep b.o) s C E x.child);obtain⟨t,R⟩:∃t,g9 rd s s [] x.child=t:=⟨_,rfl⟩;rw[R] at n ⊢;clear l i d hb F R;obtain⟨L,N,S,M,O,y,P,f⟩:=x;simp only at r;subst r;unfold Iv.vl;simp only[Iv.cs] at b g n ⊢;have q:decide ((s:Int)<0)=false:=am (by omega)
   have A:decide ((3840:Int)<(s:Int))=false:=am (by omega)
   have X:decide ((32:Int)<(s:Int))=true:=an (by omega)
   obtain⟨H,I,J,K⟩:=mS g.o;go_enter func44,ntmps44;go_wp2_with fail
   refine n.o.mono ?_;rintro _ w3 (⟨j,rfl,h⟩|⟨j,a,c,rfl,h,G⟩)
   . have T:=e7 (bt b.o h);have p:=e7 j;clear h j;go_wp2_with fail
     refine aG (cZ rfl _ _ _) rfl ?_;exact .inl ⟨p.o,rfl,T.o⟩
   . have U:Hid (Own w w3 a c t.2):=⟨h.r,h.n.mono b.o.size,bt b.o h.b⟩;have V:=e7 G;have p:=e7 j;clear h G j;go_wp2_with fail
     refine aG (cZ rfl _ _ _) rfl ?_;exact .inr ⟨p.o,a,c,rfl,U.o,V.o⟩
 . have m:(x.val.length:Int)≠x.size:=λe=>d ⟨by omega,by omega,e⟩
   rw[xI (by omega) (by omega) m]
   clear l i d;obtain⟨L,N,S,M,O,y,P,f⟩:=x;simp only at hb F m;unfold Iv.vl;simp only[Iv.cs] at b g ⊢;obtain⟨s,d⟩:∃s,y.length=s:=⟨_,rfl⟩;rw[d] at m b g ⊢;clear d;obtain⟨H,I,J,K⟩:=mS g.o;have q:decide (f<0)=false:=am (by omega)
   have A:decide ((3840:Int)<f)=false:=am (by omega)
   have X:decide ((32:Int)<f)=false:=am (by omega)
   have Z:((s:Int) != f)=true:=by simpa using m
   go_enter func44,ntmps44;go_wp2_with fail
   refine aG (cZ rfl _ _ _) rfl ?_;exact .inl ⟨by decide,rfl,b.o⟩
theorem rH{e:Ending}{r:Nat×List Nat}(h:Gvn w w' e r):∃(a:Option Addr)(c:Nat),e=.returned (.tuple #[.slice a (if r.1=0 then r.2 else []).length c,.int .i64 ((r.1:Nat):Int)])/\Own w w' a c (if r.1=0 then r.2 else [])/\B8 (if r.1=0 then r.2 else []):=by
 rcases h with⟨h1,h2,h3⟩|⟨h1,a,c,h2,h3,h4⟩
 . rw[if_neg h1];exact⟨none,0,h2,Own.nil w h3,λx b=>absurd b (bZ)⟩
 . rw[if_pos h1];refine⟨a,c,?_,h3,h4⟩;rw[h2,h1];rfl
theorem gu.reads{f:FuncId}{v:Value}{X:Nat->Prop}(h:gu f v rd X w):gW f v rd w:=λW hb z=>h W (But.ofBelow hb) z
def th(rd:Int->Option Pg)(k:List Nat)(p:Pg):List Nat×Bool×Nat:=if jr k p.items=false then ([],false,0) else (if (ldI rd (p.at (iv k p.items))).1=0 then (ldI rd (p.at (iv k p.items))).2 else [],decide ((ldI rd (p.at (iv k p.items))).1=0),(ldI rd (p.at (iv k p.items))).1)
def qC(rd:Int->Option Pg)(k:List Nat)(h:Nat)(root:Int):List Nat×Bool×Nat:=if k.length<1\/24<k.length then ([],false,7) else match iU rd k h root with
 |none=>([],false,15)
 |some l=>match l.getLast? with
  |none=>([],false,0)
  |some x=>th rd k x.2
def GetR(w w':World)(e:Ending)(R:List Nat×Bool×Nat):Prop:=∃(a:Option Addr)(c:Nat),e=.returned (.tuple #[.slice a R.1.length c,.bool R.2.1,.int .i64 ((R.2.2:Nat):Int)])/\Own w w' a c R.1/\B8 R.1
theorem xc(w:World)(b:Nat)(rd:Int->Option Pg)(hA:gc rd)(XV:Nat->Prop)(hR:gu 52 (.pointer (some ⟨b,0,none⟩)) rd XV w)(root Y:Int)(h:Nat)(K:h<=12)(c:Option Addr)(ck:Nat)(k:List Nat)(hB:Bs w c k):
 Calls prog 11 #[.pointer (some ⟨b,0,none⟩),.agg #[.int .i64 root,.int .i64 (h:Int),.int .i64 Y],.slice c k.length ck] w λe w'=>GetR w w' e (qC rd k h root):=by
 have I:=e7 (al w (.cells #[.int .i64 root,.int .i64 (h:Int),.int .i64 Y] 34));have X0:=ag w (.cells #[.int .i64 root,.int .i64 (h:Int),.int .i64 Y] 34);obtain⟨t0,t1,t2⟩:=fb X0;obtain⟨R,af⟩:∃R,qC rd k h root=R:=⟨_,rfl⟩;rw[af];have n:=e7 af;have HR:=e7 (hR.keep I.o);have HA:=e7 hA;have HB:=e7 (hB.keep I.o);have WT:=e7 (tF _ b rd hA XV HR.o root Y h K c ck k HB.o);clear af hR hA hB X0;by_cases L:k.length<1\/24<k.length
 . have i:Hid (R=([],false,7)):=e7 (by rw[<-n.o];unfold qC;exact if_pos L)
   by_cases h1:k.length=0
   . have aA:(k.length:Int)=0:=by omega
     rw[h1];go_enter func11,ntmps11;go_wp2;go_ret3
     rw[i.o];exact⟨none,0,rfl,Own.nil w I.o,B8.nil⟩
   . have h2:(24:Int)<(k.length:Int):=by omega
     have av:((k.length:Int)==0)=false:=by simp[h1]
     go_enter func11,ntmps11;go_wp2;go_ret3
     rw[i.o];exact⟨none,0,rfl,Own.nil w I.o,B8.nil⟩
 . have h1:¬(k.length:Int)=0:=by omega
   have av:((k.length:Int)==0)=false:=by simp[show ¬k=[] from λe=>L (.inl (by rw[e];decide))]
   have h2:¬(24:Int)<(k.length:Int):=by omega
   replace n:Hid ((match iU rd k h root with
    |none=>([],false,15)
    |some l=>match l.getLast? with
     |none=>([],false,0)
     |some x=>th rd k x.2)=R):=e7 (by rw[<-n.o];unfold qC;exact(if_neg L).symm)
   clear L;go_enter func11,ntmps11;go_upto_region 3 with fail
   generalize w.alloc (.cells #[.int .i64 root,.int .i64 (h:Int),.int .i64 Y] 34)=w1 at *;go_wp2_with fail
   refine WT.o.mono ?_;rintro e X (⟨V,rfl,N⟩|⟨ao,ay,az,V,rfl,hG,aw,hP,N⟩)
   . have i:Hid (R=([],false,15)):=e7 (by rw[<-n.o,V])
     have P:=e7 (bt I.o N);clear V N WT n t0 t1 t2;go_wp2;go_ret3
     rw[i.o];exact⟨none,0,rfl,Own.nil w P.o,B8.nil⟩
   . have P:=e7 (bt I.o N);have K2:=e7 N;rw[V] at n;have J:=e7 hG;have a:=e7 hP;clear V N WT t0 t1 t2 hG hP aw;rcases List.eq_nil_or_concat ao with rfl|⟨M,x,rfl⟩
     . have i:Hid (R=([],false,0)):=e7 (by rw[<-n.o];rfl)
       clear n J a;simp only[aO];go_wp2;go_ret3
       rw[i.o];exact⟨none,0,rfl,Own.nil w P.o,B8.nil⟩
     . have t:Hid (th rd k x.2.pg=R):=e7 (by
        have h:=n.o;simp only[nmg,dh,bE,dz,List.concat_eq_append,eZ] at h;exact h)
       rw[List.concat_eq_append] at J a ⊢;have PX:=e7 (a.o x (by rw[eZ]))
       have aa:(M++[x]).length=M.length+1:=by simp
       obtain⟨ap,ax⟩:=J.o.addr (by rw[aa];omega)
       subst ax
       have H:∀j u,j<5->x.2.cs.toList[j]?=some u->X.cell? ⟨ap,M.length*6+1+j,none⟩=some u:=λj u hj hu=>by
        have h6:(nmw (M++[x]))[M.length*6+(j+1)]?=some u:=by
         rw[rD (M++[x]) M.length (j+1) (by simp) (by omega)]
         have e:(M++[x]).getD M.length (0,Pv.zero)=x:=by simp
         rw[e];exact hu
        have h7:=J.o.cell h6;rw[show M.length*6+(j+1)=M.length*6+1+j by omega] at h7
        exact h7
       obtain⟨no,ar⟩:=x;obtain⟨B,C,s,A,d,v,y,G,E⟩:=ar;simp only at H PX t;have y0:=H 0 _ (by decide) rfl
       have y1:=H 1 _ (by decide) rfl
       have y2:=H 2 _ (by decide) rfl
       have y3:=H 3 _ (by decide) rfl
       have y4:=H 4 _ (by decide) rfl
       rw[cx] at y0;obtain⟨m,r⟩:∃m,M.length=m:=⟨_,rfl⟩
       have am:m+1<=maxLen:=by
        have:=J.o.capLe;rw[aa,r] at this;omega
       have aD:m+1<=9223372036854775807:=by unfold maxLen at am;omega
       rw[aa,r];rw[r] at y0 y1 y2 y3 y4;clear H J a n aa r am;have au:¬(m:Int)+1=0:=by omega
       have h0:((m:Int)+1==0)=false:=by simp[au]
       have aC:IntKind.i64.wrap ((m:Int)+1-1)=(m:Int):=by rw[show(m:Int)+1-1=(m:Int) by omega];exact fB (by omega) (by omega)
       have aI:(m:Int)+1-1=(m:Int):=by omega
       have aB:(m:Int)<(m:Int)+1:=by omega
       go_upto_region 7 with fail
       have Z:=e7 (al X (.cells #[.int .i64 B,.int .i64 C,.slice s d.length A,.slice v G.length y,.int .i64 E] 77));have X3:=e7 (ag X (.cells #[.int .i64 B,.int .i64 C,.slice s d.length A,.slice v G.length y,.int .i64 E] 77));clear y0 y1 y2 y3 y4;generalize X.alloc (.cells #[.int .i64 B,.int .i64 C,.slice s d.length A,.slice v G.length y,.int .i64 E] 77)=w3 at *;have p:=e7 (jg w3 ⟨B,C,s,A,d,v,y,G,E⟩ c ck k (PX.o.keep Z.o) (HB.o.keep (bt K2.o Z.o)));unfold th at t;obtain⟨f,ai⟩:∃f,iv k (Pv.pg ⟨B,C,s,A,d,v,y,G,E⟩).items=f:=⟨_,rfl⟩
       have ah:jr k (Pv.pg ⟨B,C,s,A,d,v,y,G,E⟩).items=true->f<d.length:=λK=>by
        unfold jr at K;rw[ai] at K;simp[Pv.pg] at K;exact K.1
       rw[ai] at t p;clear ai;obtain⟨m0,m1,m2,m3,m4⟩:=fC X3.o;unfold Pv.vl at p;simp only[Pv.cs] at p;cases hk:jr k (Pv.pg ⟨B,C,s,A,d,v,y,G,E⟩).items with
       |false=>
        rw[hk] at t p;have i:Hid (R=([],false,0)):=e7 (t.o.symm.trans (if_pos rfl));clear t ah;go_wp2_with fail
        refine p.o.mono ?_;rintro _ w4 ⟨rfl,O⟩;have B4:=e7 (bt P.o (bt Z.o O));clear O p m0 m1 m2 m3 m4;go_wp2;go_ret3
        rw[i.o];exact⟨none,0,rfl,Own.nil w B4.o,B8.nil⟩
       |true=>
        have an:=ah hk;rw[hk] at t p;have F:=e7 ((if_neg (by decide)).symm.trans t.o)
        clear t ah hk;have aJ:(f:Int)<(d.length:Int):=by omega
        have aE:(0:Int)<=(f:Int):=by omega
        go_wp2_with fail
        refine p.o.mono ?_;rintro _ w4 ⟨rfl,O⟩;have ac:=e7 (bt Z.o O);have B4:=e7 (bt P.o ac.o);have X4:=e7 ((O.block X.heap.size (ae.1 X3.o).1).trans X3.o);clear O p m0 m1 m2 m3 m4;obtain⟨m0,m1,m2,m3,m4⟩:=fC X4.o;have P4:=e7 (PX.o.keep ac.o);obtain⟨b1,o1,ea,g⟩:=P4.o.it.at an;have ea:s=some ⟨b1,o1,none⟩:=ea;have AT:(Pv.pg ⟨B,C,s,A,d,v,y,G,E⟩).at f=(d.getD f Iv.zero).it:=fT d f;have g:w4.rangeAt b1 (o1+f*4) (d.getD f Iv.zero).cs.toList:=g;have T:=e7 (oy w4 (.pointer (some ⟨b,0,none⟩)) rd ((HR.o.keep K2.o).keep ac.o).reads (d.getD f Iv.zero) (P4.o.it.1 _ (fh an)));rw[AT] at F;generalize d.getD f Iv.zero=it at *;have LE:ldI rd it.it=ldv rd it:=rfl;rw[LE] at F;obtain⟨ab,hr⟩:∃ab,ldv rd it=ab:=⟨_,rfl⟩;rw[hr] at F T;clear hr LE AT;obtain⟨aK,cK,aH,aV,cV,val,aM,aL⟩:=it;unfold Iv.vl at T;simp only[Iv.cs] at T;obtain⟨d0,d1,d2,d3⟩:=fY g;simp only at d0 d1 d2 d3;subst ea;clear g;obtain⟨r1,r2⟩:=ab;simp only at F;go_wp2_with fail
        refine T.o.mono ?_;rintro e w5 aj;obtain⟨a5,c5,rfl,hO,h8⟩:=rH aj;have U:=e7 (Own.pre B4.o hO);have S:=e7 h8;clear aj hO h8 T d0 d1 d2 d3 m0 m1 m2 m3 m4;simp only at U S;by_cases q:r1=0
        . subst q;simp only[if_true] at U S;have i:Hid (R=(r2,true,0)):=e7 (by rw[<-F.o];simp)
          clear F;go_wp2;go_ret3
          rw[i.o];exact⟨a5,c5,rfl,U.o,S.o⟩
        . simp only[if_neg q] at U S;have i:Hid (R=([],false,r1)):=e7 (by rw[<-F.o];simp[q])
          have aF:((r1:Int)==0)=false:=by simp[q]
          have aG:¬(r1:Int)=0:=by omega
          clear F;go_wp2;go_ret3
          rw[i.o];exact⟨a5,c5,by simp,U.o,S.o⟩
theorem jR:(prog.info? 45).map (·.size)=some 2:=by kernel_rfl
def yK(w w':World)(e:Ending)(x:Iv)(r:Nat×List Nat):Prop:=(r.1≠0/\e=.returned (.tuple #[.agg #[.slice none 0 0,.slice none 0 0],.int .i64 ((r.1:Nat):Int)])/\Below w.heap.size w w')\/(r.1=0/\∃(a:Option Addr)(c:Nat),e=.returned (.tuple #[.agg #[.slice x.aK x.key.length x.cK,.slice a r.2.length c],.int .i64 0])/\Own w w' a c r.2/\B8 r.2)
theorem sR(w:World)(b:Nat)(rd:Int->Option Pg)(H:gW 52 (.pointer (some ⟨b,0,none⟩)) rd w)(x:Iv)(I:Ii w x):
 Calls prog 92 #[.pointer (some ⟨b,0,none⟩),x.vl] w λe w'=>yK w w' e x (ldI rd x.it):=by
 obtain⟨J,K,j,V⟩:=fK w (.cells x.cs 89) (.cells #[.slice none 0 0,.slice none 0 0] 45) (Below.refl _ _);have r:=e7 j;have m:=e7 J;have t:=e7 K;have l:=e7 (oy _ (.pointer (some ⟨b,0,none⟩)) rd (H.keep j) x (I.keep j));have s:ldI rd x.it=ldv rd x:=rfl;obtain⟨R,q⟩:∃R,ldv rd x=R:=⟨_,rfl⟩;rw[s,q];rw[q] at l;clear J K j H q s I;obtain⟨O,T,Z,P,U,val,ab,aa⟩:=x;obtain⟨p,r2⟩:=R;unfold Iv.vl at *;simp only[Iv.cs] at *;obtain⟨A,B,C,E⟩:=fO m.o;go_enter func92,ntmps92;go_upto_region 1 with fail
 generalize (w.alloc (.cells #[.slice O Z.length T,.slice P val.length U,.int .i64 ab,.int .i64 aa] 89)).alloc (.cells #[.slice none 0 0,.slice none 0 0] 45)=X at *;go_wp2_with fail
 refine l.o.mono ?_;rintro e Y G;obtain⟨a,c,rfl,d,F⟩:=rH G;have g:=e7 (Own.pre r.o d);have f:=e7 F;have N:=e7 ((d.b.block w.heap.size (ae.1 m.o).1).trans m.o);have h:=e7 ((d.b.block (w.heap.size+1) (ae.1 t.o).1).trans t.o);have L:=e7 (bt r.o d.b);have M:=e7 (λy (n:a=some y)=>d.fresh n)
 have ac:w.heap.size+2<=X.heap.size:=V;clear G d F l A B C E;simp only at g f;have bR:=λcs:Array Value=>Q.ft Y (w.heap.size+1) cs
 by_cases i:p=0
 . subst i;simp only[if_true] at g f;obtain⟨A,B,C,E⟩:=fO N.o;go_wp2_with (first|(refine aZ rfl 45 _ _ rfl (w.heap.size+1) _ rfl rfl 45 _ h.o jR rfl (by simp[Value.oneCell']) ?_)|fail)
   refine aG (v:=.tuple #[.agg _,_]) (iJ results92 _ _ (w.heap.size+1) 45 _ (0,0) _ rfl (br _ _ _ _ _ _ h.o) underlying45 rfl jR) rfl ?_;refine Or.inr ⟨rfl,a,c,by simp,g.o.setRow (by omega) (λy n e=>by have:=M.o y n;omega) _,f.o⟩
 . simp only[if_neg i] at g f;have ad:((p:Int)==0)=false:=by simp[i]
   have af:¬(p:Int)=0:=by omega
   go_wp2_with (first|(refine aZ rfl 45 _ _ rfl (w.heap.size+1) _ rfl rfl 45 _ h.o jR rfl (by simp[Value.oneCell']) ?_)|fail)
   refine aG (v:=.tuple #[.agg _,_]) (iJ results92 _ _ (w.heap.size+1) 45 _ (0,0) _ rfl (br _ _ _ _ _ _ h.o) underlying45 rfl jR) rfl ?_;exact Or.inl ⟨i,rfl,((But.ofBelow (S:=λk=>k=w.heap.size+1) L.o).trans (Q.ft _ _ _) (λ_ _ e=>e)).below (λk hk e=>by have e:k=w.heap.size+1:=e;omega)⟩
end Go.Proofs.YtnnieandfdbhgaaGreat
