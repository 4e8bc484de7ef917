import Derived.Test.YteaogidofpfmmaaGreatWaB18
set_option linter.all false
set_option maxHeartbeats 16000000
set_option maxRecDepth 10000
namespace Go.Proofs.YteaogidofpfmmaaGreat
open Go.Proofs.Tryz
section
open Go.ChangeShapes Go.WideShapes Go.ChangeAt Go.RowKit
theorem tE:prog.cellsOf 89=4:=by kernel_rfl
theorem yO:prog.cellsOf 75=1:=by kernel_rfl
theorem tp:prog.cellsOf 77=5:=by kernel_rfl
theorem un:prog.cellsOf 91=6:=by kernel_rfl
theorem AI:prog.cellsOf 22=1:=by kernel_rfl
theorem Ar:prog.cellsOf 23=1:=by kernel_rfl
theorem pw{H:Type}{enc:TypeId×Value->H}{P:Program}{w:World}{e:Nat}{g:Nat->Bool}{f:Bool}{t:TypeId}{a b c d:Field}{s:Nat}{cs:List Value}{x:DataW H×List MemPlace}(q:P.underlying t=some (.struct #[a,b,c,d]))(h:DataW.trod enc P w e g f s t cs=some x):
 ∃j k l m n,x.1=.agg [j.1,k.1,l.1,m.1]/\cs.length=P.cellsOf t/\DataW.trod enc P w e g f n a.type ((cs.drop a.offset).take (P.cellsOf a.type))=some j/\DataW.trod enc P w e g f n b.type ((cs.drop b.offset).take (P.cellsOf b.type))=some k/\DataW.trod enc P w e g f n c.type ((cs.drop c.offset).take (P.cellsOf c.type))=some l/\DataW.trod enc P w e g f n d.type ((cs.drop d.offset).take (P.cellsOf d.type))=some m:=by
 obtain⟨r,n,_,rfl,p,v,i⟩:=DataW.trod_struct q h;match r,v with
 | [j,k,l,m],_=>exact⟨j,k,l,m,n,by simp,p,by simpa using i 0 a rfl,by simpa using i 1 b rfl,by simpa using i 2 c rfl,by simpa using i 3 d rfl⟩
theorem Ev{α:Type}{l:List α}(h:l.length=4):∃c0 c1 c2 c3,l=[c0,c1,c2,c3]:=by
 match l,h with
 | [c0,c1,c2,c3],_=>exact⟨c0,c1,c2,c3,rfl⟩
theorem vI{H:Type}{enc:TypeId×Value->H}{P:Program}{w:World}{a:Nat}{c:Nat->Bool}{b:Bool}{t:TypeId}{d e f g i:Field}{y:Nat}{cs:List Value}{x:DataW H×List MemPlace}(s:P.underlying t=some (.struct #[d,e,f,g,i]))(h:DataW.trod enc P w a c b y t cs=some x):
 ∃k l m p q n,x.1=.agg [k.1,l.1,m.1,p.1,q.1]/\cs.length=P.cellsOf t/\DataW.trod enc P w a c b n d.type ((cs.drop d.offset).take (P.cellsOf d.type))=some k/\DataW.trod enc P w a c b n e.type ((cs.drop e.offset).take (P.cellsOf e.type))=some l/\DataW.trod enc P w a c b n f.type ((cs.drop f.offset).take (P.cellsOf f.type))=some m/\DataW.trod enc P w a c b n g.type ((cs.drop g.offset).take (P.cellsOf g.type))=some p/\DataW.trod enc P w a c b n i.type ((cs.drop i.offset).take (P.cellsOf i.type))=some q:=by
 obtain⟨v,n,_,rfl,r,A,j⟩:=DataW.trod_struct s h;match v,A with
 | [k,l,m,p,q],_=>exact⟨k,l,m,p,q,n,by simp,r,by simpa using j 0 d rfl,by simpa using j 1 e rfl,by simpa using j 2 f rfl,by simpa using j 3 g rfl,by simpa using j 4 i rfl⟩
theorem Ho{α:Type}{l:List α}(h:l.length=5):∃c0 c1 c2 c3 a,l=[c0,c1,c2,c3,a]:=by
 match l,h with
 | [c0,c1,c2,c3,a],_=>exact⟨c0,c1,c2,c3,a,rfl⟩
theorem vW{H:Type}{enc:TypeId×Value->H}{P:Program}{w:World}{e:Nat}{g:Nat->Bool}{f:Bool}{t:TypeId}{a b:Field}{m:Nat}{cs:List Value}{x:DataW H×List MemPlace}(k:P.underlying t=some (.struct #[a,b]))(h:DataW.trod enc P w e g f m t cs=some x):
 ∃c d n,x.1=.agg [c.1,d.1]/\cs.length=P.cellsOf t/\DataW.trod enc P w e g f n a.type ((cs.drop a.offset).take (P.cellsOf a.type))=some c/\DataW.trod enc P w e g f n b.type ((cs.drop b.offset).take (P.cellsOf b.type))=some d:=by
 obtain⟨l,n,_,rfl,j,p,i⟩:=DataW.trod_struct k h;match l,p with
 | [c,d],_=>exact⟨c,d,n,by simp,j,by simpa using i 0 a rfl,by simpa using i 1 b rfl⟩
theorem Hk{α:Type}{l:List α}(h:l.length=6):∃c0 c1 c2 c3 a b,l=[c0,c1,c2,c3,a,b]:=by
 match l,h with
 | [c0,c1,c2,c3,a,b],_=>exact⟨c0,c1,c2,c3,a,b,rfl⟩
theorem vN{H:Type}{enc:TypeId×Value->H}{P:Program}{w:World}{g:Nat}{j:Nat->Bool}{i:Bool}{t:TypeId}{a b c:Field}{q:Nat}{cs:List Value}{x:DataW H×List MemPlace}(m:P.underlying t=some (.struct #[a,b,c]))(h:DataW.trod enc P w g j i q t cs=some x):
 ∃d e f n,x.1=.agg [d.1,e.1,f.1]/\cs.length=P.cellsOf t/\DataW.trod enc P w g j i n a.type ((cs.drop a.offset).take (P.cellsOf a.type))=some d/\DataW.trod enc P w g j i n b.type ((cs.drop b.offset).take (P.cellsOf b.type))=some e/\DataW.trod enc P w g j i n c.type ((cs.drop c.offset).take (P.cellsOf c.type))=some f:=by
 obtain⟨p,n,_,rfl,l,r,k⟩:=DataW.trod_struct m h;match p,r with
 | [d,e,f],_=>exact⟨d,e,f,n,by simp,l,by simpa using k 0 a rfl,by simpa using k 1 b rfl,by simpa using k 2 c rfl⟩
theorem Em{α:Type}{l:List α}(h:l.length=3):∃c0 c1 c2,l=[c0,c1,c2]:=by
 match l,h with
 | [c0,c1,c2],_=>exact⟨c0,c1,c2,rfl⟩
theorem tK:prog.cellsOf 34=3:=by kernel_rfl
theorem yA:prog.cellsOf 24=1:=by kernel_rfl
theorem Bz:prog.cellsOf 26=4:=by kernel_rfl
end
def Tr.cs(t:Tr):List Value:=[.int .i64 t.root,.int .i64 t.height,.int .i64 t.items]
structure Img where
 r:Int
 aC:Option Addr
 cC:Nat
 C:List Int
 aN:Option Addr
 cN:Nat
 N:List (Int×Pv)
 aT:Option Addr
 cT:Nat
 T:List Tr
def Img.cs(x:Img):Array Value:=#[.int .i64 x.r,.slice x.aC x.C.length x.cC,.slice x.aN x.N.length x.cN,.slice x.aT x.T.length x.cT]
def Smi(p:Pv):Prop:=Sml p/\p.items.length<=1048576
section
open Go.ChangeShapes Go.WideShapes Go.ChangeAt Go.RowKit
variable {H:Type} {enc:TypeId×Value->H} {W:World} {fuel:Nat} {cs:List Value} {a:Option Addr} {len cap:Nat} {d:DataW H} {p:List MemPlace}
theorem mO{α:Type}(z:α){t e:TypeId}{c:Nat}{E:α->List Value}{Y:α->Prop}(s:Nat)(P:prog.underlying t=some (.slice e))(K:prog.cellsOf e=c)(c0:0<c)(C:∀v,(E v).length=c)
 (O:∀(fuel:Nat)(cs:List Value)(d:DataW H)(p:List MemPlace),DataW.trod enc prog W 0 (λ_=>true) true fuel e cs=some (d,p)->Rows.uptoBulk d<=1048576->∃v,cs=E v/\s<=Rows.uptoBulk d/\Y v)
 (N:DataW.trod enc prog W 0 (λ_=>true) true fuel t cs=some (d,p)) (M:Rows.uptoBulk d<=1048576):
 ∃(a:Option Addr)(L:List α)(cap:Nat),cs=[.slice a L.length cap]/\L.length<=1048576/\s*L.length<=1048576/\L.length<=cap/\(∀v∈L,Y v)/\(L=[]\/∃b y,a=some ⟨b,y,none⟩/\∀r,r<L.length->∀k u,(E (L.getD r z))[k]?=some u->W.cell? ⟨b,y+r*c+k,none⟩=some u):=by
 rcases Deep.open_slice P N with⟨hcs,_⟩|⟨x,len,cap,m,n,D,Pl,hcs,_,hl,hm,hmm,q,hrows⟩
 . exact⟨none,[],0,hcs,an _,an _,am _,by simp,.inl rfl⟩
 simp only[gX] at q;obtain⟨rfl,_⟩:=q;simp only[if_true] at hmm;subst hmm;simp only[Rows.uptoBulk] at M;have T:=pU ((List.range len).map D);rw[bM,List.length_range] at T
 have I:∀r,r<len->∃v:α,(∀k u,(E v)[k]?=some u->W.cell? ((x.add (r*c)).add k)=some u)/\s<=Rows.uptoBulk (D r)/\Y v:=by
  intro r f;obtain⟨cs,G,U⟩:=hrows r (by omega)
  have g:=ul (show D r∈(List.range len).map D from bE.2 ⟨r,dB.2 f,rfl⟩)
  obtain⟨v,rfl,g⟩:=O _ _ _ _ U (by omega)
  rw[K] at G;obtain⟨_,_,S⟩:=World.cells?_some G;exact⟨v,λj u i=>(S j (by rw[<-C v];exact(bA.1 i).1)).trans i,g⟩
 have hb:∀l:List Nat,(∀r∈l,r<len)->s*l.length<=Rows.uptoBulkAll (l.map D):=λl=>by
  induction l with
  |nil=>exact λ_=>an _
  |cons r l ih=>
   intro h;obtain⟨_,_,g,_⟩:=I r (h r bG);have Z:=ih (λx q=>h x (br _ q))
   simp only[bT,Rows.uptoBulkAll,a7,Nat.mul_add];omega
 have hb:=hb (List.range len) (λr f=>dB.1 f)
 rw[List.length_range] at hb;haveI:Inhabited α:=⟨z⟩;obtain⟨F,B⟩:=Deep.choose_lt I;have A:((List.range len).map F).length=len:=by simp
 refine⟨some x,(List.range len).map F,_,by rw[A];exact hcs,by omega,by rw[A];omega,by rw[A];exact hl,λv R=>?_,?_⟩
 . obtain⟨r,f,rfl⟩:=bE.1 R;exact(B r (dB.1 f)).2.2
 by_cases J:len=0
 . exact .inl (by simp[J])
 obtain⟨b,y,V⟩:=x
 have X:V=none:=by
  have g:=World.cell?_spot ((B 0 (by omega)).1 0 _ (bX (by rw[C];exact c0)))
  simpa[Addr.add] using g
 subst X;refine .inr ⟨b,y,rfl,λr f k u i=>?_⟩
 rw[A] at f;rw[show((List.range len).map F).getD r z=F r by simp[f]] at i
 have:=(B r f).1 k u i;rwa [Deep.add_add,Addr.add_mid,<-gh] at this
theorem y9(h:DataW.trod enc prog W 0 (λ_=>true) true fuel 89 cs=some (d,p))(x:Rows.uptoBulk d<=1048576):
 ∃r:Iv,cs=r.cs.toList/\1<=Rows.uptoBulk d/\Ii W r/\r.key.length<=140737488355264/\r.val.length<=140737488355264:=by
 obtain⟨b,c,K,L,n,A,y,j,k,l,m⟩:=pw underlying89 h;obtain⟨c0,c1,c2,c3,rfl⟩:=Ev (y.trans tE);simp only[rR,lh,eH,fs,eO,fj] at j k l m;obtain⟨M,g,_,B⟩:=DataW.trod_int underlying3 l;obtain⟨N,i,_,C⟩:=DataW.trod_int underlying3 m;obtain rfl:d=.agg [b.1,c.1,K.1,L.1]:=A;simp only[Rows.uptoBulk,Rows.uptoBulkAll] at x ⊢;obtain⟨q,D,I,e,t,O,F,_⟩:=open_bytes_cs (d:=b.1) (p:=b.2) j (.inr (by omega))
 obtain⟨s,E,J,f,v,P,G,_⟩:=open_bytes_cs (d:=c.1) (p:=c.2) k (.inr (by omega))
 simp only[eJ,d9] at e f g i;subst e f g i;exact⟨⟨q,I,D,s,J,E,M,N⟩,rfl,by omega,⟨t,F,v,G,n64 B,n64 C⟩,by dsimp only;omega,by dsimp only;omega⟩
theorem zm(h:DataW.trod enc prog W 0 (λ_=>true) true fuel 77 cs=some (d,p))(c:Rows.uptoBulk d<=1048576):
 ∃r:Pv,cs=r.cs.toList/\Pi W r/\Smi r:=by
 obtain⟨Z,n,g,i,y4,ab,M,I,t,x,y,A,B⟩:=vI underlying77 h;obtain⟨c0,c1,c2,c3,c4,rfl⟩:=Ho (I.trans tp);simp only[yO,rR,lh,eH,fs,eO,fj] at t x y A B;obtain⟨z0,k,_,N⟩:=DataW.trod_int underlying3 t;obtain⟨z1,l,_,O⟩:=DataW.trod_int underlying3 x;obtain⟨z4,s,_,P⟩:=DataW.trod_int underlying3 B;obtain rfl:d=.agg [Z.1,n.1,g.1,i.1,y4.1]:=M;simp only[Rows.uptoBulk,Rows.uptoBulkAll] at c;obtain⟨D,L,V,m,U,_,S,C,Y⟩:=mO Iv.zero (E:=λv=>v.cs.toList) 1 underlying75 tE (by decide) (λ_=>rfl) (λ_ _ _ _ h c=>y9 h c) (d:=g.1) (p:=g.2) y (by omega)
 obtain⟨F,R,X,q,G,n3,T,_⟩:=open_bytes_cs (d:=i.1) (p:=i.2) A (.inr (by omega))
 simp only[eJ,d9] at k l m q s;subst k l m q s;exact⟨⟨z0,z1,D,V,L,F,X,R,z4⟩,rfl,⟨⟨λv f=>(C v f).1,by dsimp only;omega,Y.imp id λ⟨b,aa,e,h⟩=>⟨b,aa,e,λr J j u K=>h r J j u K⟩⟩,S,G,T,n64 N,n64 O,n64 P⟩,⟨by dsimp only;omega,λv f=>(C v f).2⟩,U⟩
theorem Bc{cs:List Value}(h:DataW.trod enc prog W 0 (λ_=>true) true fuel 91 cs=some (d,p))(k:Rows.uptoBulk d<=1048576):
 ∃x:Int×Pv,cs=nmc x/\3<=Rows.uptoBulk d/\(Pi W x.2/\N64 x.1)/\Smi x.2:=by
 obtain⟨g,b,n,r,l,e,f⟩:=vW underlying91 h;obtain⟨c0,c1,c2,c3,v,y,rfl⟩:=Hk (l.trans un);simp only[tp,lh,eH,fs,eO,fj] at e f;obtain⟨t,c,_,s⟩:=DataW.trod_int underlying3 e;obtain rfl:d=.agg [g.1,b.1]:=r;have:=qH g.1;have:=qH b.1;simp only[Rows.uptoBulk,Rows.uptoBulkAll] at k ⊢;obtain⟨q,i,j,m⟩:=zm (d:=b.1) (p:=b.2) f (by omega)
 simp only[eJ,d9] at c;subst c;exact⟨(t,q),by rw[i];rfl,by omega,⟨j,n64 s⟩,m⟩
theorem open_intsU(h:DataW.Trod enc prog W 0 (λ_=>true) true 22 (.slice a len cap) d p)(c:Rows.uptoBulk d<=1048576):
 ∃C:List Int,len=C.length/\Q.Ir W a C/\C.length<=1048576:=by
 obtain⟨fuel,f⟩:=h
 obtain⟨k,L,q,e,n,_,_,_,i⟩:=mO 0 (E:=λz:Int=>[Value.int .i64 z]) (Y:=λ_=>True) 0 underlying22 lh (by decide) (λ_=>rfl) (λ_ _ _ _ h _=>by
  obtain⟨z,e,_⟩:=DataW.trod_int underlying3 h;exact⟨z,e,an _,trivial⟩) f c
 simp only[Value.cells,eJ,d9,di] at e;obtain⟨rfl,rfl,rfl⟩:=e;exact⟨L,rfl,i.imp id λ⟨b,j,e,h⟩=>⟨b,j,e,λr g=>by simpa using h r g 0 _ rfl⟩,n⟩
def Trs(w:World)(a:Option Addr)(L:List Tr):Prop:=∀j,j<L.length->∃g off,a=some ⟨g,off,none⟩/\∀k u,(L.getD j ⟨0,0,0⟩).cs[k]?=some u->w.cell? ⟨g,off+j*3+k,none⟩=some u
theorem Trs.keep{w f:World}{a:Option Addr}{L:List Tr}(h:Trs w a L)(hb:Below w.heap.size w f):Trs f a L:=λj l=>by
 obtain⟨g,i,e,b⟩:=h j l;exact⟨g,i,e,λk u c=>(hb.cell (p:=⟨g,i+j*3+k,none⟩) (block_lt_of_cell (b k u c))).trans (b k u c)⟩
theorem zh(h:DataW.trod enc prog W 0 (λ_=>true) true fuel 34 cs=some (d,p))(q:Rows.uptoBulk d<=1048576):
 ∃t:Tr,cs=t.cs/\0<=Rows.uptoBulk d/\True:=by
 obtain⟨y,A,B,n,r,j,f,g,i⟩:=vN underlying34 h;obtain⟨c0,c1,c2,rfl⟩:=Em (j.trans tK);simp only[lh,eH,fs,eO,fj] at f g i;obtain⟨k,b,_,s⟩:=DataW.trod_int underlying3 f;obtain⟨l,c,_,v⟩:=DataW.trod_int underlying3 g;obtain⟨m,e,_,x⟩:=DataW.trod_int underlying3 i;simp only[eJ,d9] at b c e;subst b c e;exact⟨⟨k,l,m⟩,rfl,an _,trivial⟩
structure Imi(w:World)(x:Img):Prop where
 c:Q.Ir w x.aC x.C
 n:Nm w x.aN x.N
 t:Trs w x.aT x.T
 nl:x.N.length<=1000000
 tl:x.T.length<=1048576
theorem Imi.keep{w b:World}{x:Img}(h:Imi w x)(hb:Below w.heap.size w b):Imi b x:=⟨h.c.keep hb,h.n.keep hb,h.t.keep hb,h.nl,h.tl⟩
theorem open_img{cs:Array Value}(h:DataW.Trod enc prog W 0 (λ_=>true) true 26 (.agg cs) d p)(f:Rows.uptoBulk d<=1048576):
 ∃x:Img,cs=x.cs/\Imi W x:=by
 obtain⟨fuel,L⟩:=h;obtain⟨U,q,s,t,n,m,c,i,j,k,l⟩:=pw underlying26 L;obtain⟨c0,c1,c2,c3,C⟩:=Ev (c.trans Bz);rw[C] at i j k l;simp only[AI,lh,Ar,yA,eH,fs,eO,fj] at i j k l;obtain⟨V,v,_,Z⟩:=DataW.trod_int underlying3 i;obtain rfl:d=.agg [U.1,q.1,s.1,t.1]:=m;simp only[Rows.uptoBulk,Rows.uptoBulkAll] at f
 obtain⟨I,D,N,y,n1,_,_,_,R⟩:=mO 0 (E:=λz:Int=>[Value.int .i64 z]) (Y:=λ_=>True) 0 underlying22 lh (by decide) (λ_=>rfl) (λ_ _ _ _ h _=>by
  obtain⟨z,e,_⟩:=DataW.trod_int underlying3 h;exact⟨z,e,an _,trivial⟩) (d:=q.1) (p:=q.2) j (by omega)
 obtain⟨J,F,O,A,_,n2,_,X,S⟩:=mO nm0 (E:=nmc) 3 underlying23 un (by decide) (λ_=>rfl) (λ_ _ _ _ h f=>Bc h f) (d:=s.1) (p:=s.2) k (by omega)
 obtain⟨K,G,P,B,M,_,_,_,T⟩:=mO (⟨0,0,0⟩:Tr) (E:=Tr.cs) (Y:=λ_=>True) 0 underlying24 tK (by decide) (λ_=>rfl) (λ_ _ _ _ h f=>zh h f) (d:=t.1) (p:=t.2) l (by omega)
 simp only[eJ,d9] at v y A B;subst v y A B;refine⟨⟨V,I,N,D,J,O,F,K,P,G⟩,Array.ext' (by show cs.toList=[_,_,_,_];simpa[Value.cells] using C),⟨?_,⟨λr c=>?_,λx m=>(X x m).1⟩,λr c=>?_,by dsimp only;omega,M⟩⟩
 . exact R.imp id λ⟨b,g,e,h⟩=>⟨b,g,e,λr c=>by simpa using h r c 0 _ rfl⟩
 . rcases S with rfl|⟨b,g,e,h⟩
   . exact absurd c (dA _)
   exact⟨b,g,e,h r c⟩
 . rcases T with rfl|⟨b,g,e,h⟩
   . exact absurd c (dA _)
   exact⟨b,g,e,h r c⟩
end
end Go.Proofs.YteaogidofpfmmaaGreat
namespace Go.Proofs.YteaogidofpfmmaaGreat
open Go.Proofs.Tryz
open Go.RowKit
variable {rd:Int->Option Pg}{x:Iv}{k:List Nat}{v:Value}{w w':World}
theorem Ca:(prog.info? 91).map (λi=>(i.zero,i.size,i.bytes))=some (some (.agg #[.int .i64 0,.int .i64 0,.int .i64 0,.slice none 0 0,.slice none 0 0,.int .i64 0]),6,80):=by kernel_rfl
def nmw(L:List (Int×Pv)):List Value:=(L.map nmc).flatten
theorem DQ(L:List (Int×Pv))(x:Int×Pv):nmw L++nmc x=nmw (L++[x]):=by simp[nmw]
theorem r8:∀(L:List (Int×Pv))(i k:Nat),i<L.length->k<6->(nmw L)[i*6+k]?=(nmc (L.getD i (0,Pv.zero)))[k]?
 | [],i,k,h,_=>absurd h (dA _)
 |x::L,0,k,h,hk=>by
  have a:(nmc x).length=6:=rfl;simp only[nmw,bT,dY,eV,de];rw[db (by omega)]
  rfl
 |x::L,i+1,k,h,hk=>by
  have a:(nmc x).length=6:=rfl;have b:=r8 L i k (by simpa using h) hk
  show((x::L).map nmc).flatten[(i+1)*6+k]?=_;rw[bT,dY,bP (by omega),a,show(i+1)*6+k-6=i*6+k by omega]
  exact b
theorem FJ{W:World}{g:Nat}{x:Int×Pv}{t:TypeId}(h:W.heap[g]?=some (.cells (nmc x).toArray t (0,0))):∀j u,(nmc x)[j]?=some u->W.cell? ((⟨g,0,none⟩:Addr).add j)=some u:=by
 intro j u a;rw[Addr.add_mid,de,ai _ _ _ _ _ _ h,<-a];simp
theorem EY{x:Int×Pv}:∀u∈nmc x,u.oneCell'=true:=by
 intro u hu;unfold nmc at hu;rcases bQ.1 hu with rfl|hu
 . rfl
 . simp[Pv.cs] at hu;rcases hu with rfl|rfl|rfl|rfl|rfl<;>rfl
def iZ(rd:Int->Option Pg)(k:List Nat):Nat->Int->Option (List (Int×Pg))
 |0,_=>some []
 |h+1,n=>match rd n with
  |none=>none
  |some p=>if lvl p h=false then none else (iZ rd k h (p.at (jg k p.items)).child).map λl=>(n,p)::l
theorem tF{L:List It}(h:0<L.length):jg k L<L.length:=by
 unfold jg;have:=pG k (L.drop 1);rw[dv] at this;omega
theorem Bo{h:Nat}{n:Int}{q:Pv}(b:rd n=some q.pg)(a:lvl q.pg h=true)(L:List (Int×Pv)):(iZ rd k (h+1) n).map (λl=>nmg L++l)=(iZ rd k h (q.pg.at (jg k q.pg.items)).child).map (λl=>nmg (L++[(n,q)])++l):=by
 conv=>lhs;unfold iZ
 rw[b];simp only[a,Bool.true_eq_false,if_false,Option.map_map];congr 1
 funext l
 simp[nmg]
def WayR(w w':World)(e:Ending)(R:Option (List (Int×Pg))):Prop:=(R=none/\e=.returned (.tuple #[.slice none 0 0,.int .i64 15])/\Below w.heap.size w w')\/
 ∃(L:List (Int×Pv))(a:Option Addr)(c:Nat),R=some (nmg L)/\e=.returned (.tuple #[.slice a L.length c,.int .i64 0])/\Q.Gw 91 6 w' a c L.length (nmw L)/\(∀y,a=some y->w.heap.size<=y.block)/\(∀x,L.getLast?=some x->Pi w' x.2)/\Below w.heap.size w w'
theorem tN(w:World)(af:Nat)(rd:Int->Option Pg)(hA:iF rd)(XV:Nat->Prop)(hR:i9 52 (.pointer (some ⟨af,0,none⟩)) rd XV w)(root ac:Int)(h:Nat)(hh:h<=12)(ak:Option Addr)(ck:Nat)(k:List Nat)(J:Bs w ak k):
 Calls prog 42 #[.pointer (some ⟨af,0,none⟩),.agg #[.int .i64 root,.int .i64 (h:Int),.int .i64 ac],.slice ak k.length ck] w λe w'=>WayR w w' e (iZ rd k h root):=by
 have A0:=ix (al w (.cells #[.int .i64 root,.int .i64 (h:Int),.int .i64 ac] 34));have X0:=ag w (.cells #[.int .i64 root,.int .i64 (h:Int),.int .i64 ac] 34);obtain⟨t0,t1,t2⟩:=iz X0;obtain⟨R,ao⟩:∃R,iZ rd k h root=R:=⟨_,rfl⟩;rw[ao];have RR:=ix ao;have HR:=ix hR;have HA:=ix hA;have HB:=ix J;have aF:IntKind.i64.wrap ((h:Int)-1)=(h:Int)-1:=iQ (by omega) (by omega)
 clear ao hR hA J X0;go_enter func42,ntmps42;go_upto_region 4 with fail
 generalize w.alloc (.cells #[.int .i64 root,.int .i64 (h:Int),.int .i64 ac] 34)=w1 at *;clear t0 t1 t2;have aG:(nmg ([]:List (Int×Pv)))=[]:=rfl;go_loopw [8,9,10] (λp q ai wr=>∃(C:Nat)(n:Int)(a:Option Addr)(c:Nat)(L:List (Int×Pv)),p=.slice a L.length c/\q=.int .i64 n/\ai=.int .i64 ((C:Int)-1)/\L.length+C=h/\Below w.heap.size w wr/\Q.Gw 91 6 wr a c L.length (nmw L)/\(∀y,a=some y->w.heap.size<=y.block)/\(∀x,L.getLast?=some x->Pi wr x.2)/\(iZ rd k C n).map (λah=>nmg L++ah)=R) (λ_ _ ai _=>(intOf ai+1).toNat)
 case atStart=>
  refine⟨h,root,none,0,[],rfl,rfl,rfl,by simp,A0.o,Q.Gw.nil _ _ _,λy F=>(by cases F),λx P=>absurd P (by simp),?_⟩
  rw[RR.o.symm];cases iZ rd k h root<;>rfl
 case round=>
  obtain⟨C,n,a,c,L,rfl,rfl,rfl,hL,hb,O,av,hP,hc⟩:=hrel;have M:=ix hb;have GG:=ix O;have PP:=ix hP;have NA:=ix av;have G:=ix hc;clear hb O hP hc av;cases C with
  |zero=>
   have K:Hid (R=some (nmg L)):=ix (by rw[<-G.o];simp[iZ])
   clear G;go_wp2;go_ret2
   exact Or.inr ⟨L,a,c,K.o,rfl,GG.o,NA.o,PP.o,M.o⟩
  |succ C=>
   have e1:((C+1:Nat):Int)-1=(C:Int):=by omega
   rw[e1];have OR:=ix (tM wr ⟨af,0,none⟩ rd XV (HR.o.keep M.o) wr (But.refl _ _) n);go_wp2_with fail
   refine OR.o.mono ?_;rintro _ E ⟨q,rfl,hq,hg,aw⟩;have PN:=ix hq;have QG:=ix hg;have B2:=ix aw;clear hq hg aw OR;cases hrd:rd n with
   |none=>
    have K:Hid (R=none):=ix (by rw[<-G.o];unfold iZ;rw[hrd];rfl)
    obtain⟨f,r,B,m,d,g,i,A,t⟩:=q;simp only[Pv.vl,Pv.cs];have s:=ix (al E (.cells #[.int .i64 f,.int .i64 r,.slice B d.length m,.slice g A.length i,.int .i64 t] 77));clear G;simp only[Option.isSome_none,Bool.false_eq_true,if_false];go_wp2;go_ret2
    exact Or.inl ⟨K.o,rfl,bt M.o (bt B2.o s.o)⟩
   |some pg=>
    have aD:q.pg=pg:=by rw[QG.o,hrd];rfl
    have V:=ix (HA.o n pg hrd);simp only[Option.isSome_some,if_true];subst aD;obtain⟨f,r,B,m,d,g,i,A,t⟩:=q;have I:=ix (λ(U:World)=>vB U ⟨f,r,B,m,d,g,i,A,t⟩ (C:Int))
    unfold Pv.vl at I;simp only[Pv.vl,Pv.cs] at I ⊢;have s:=ix (al E (.cells #[.int .i64 f,.int .i64 r,.slice B d.length m,.slice g A.length i,.int .i64 t] 77));have X3:=ix (ag E (.cells #[.int .i64 f,.int .i64 r,.slice B d.length m,.slice g A.length i,.int .i64 t] 77));have au:=ix hrd;clear hrd QG;go_upto_region 7 with fail
    generalize E.alloc (.cells #[.int .i64 f,.int .i64 r,.slice B d.length m,.slice g A.length i,.int .i64 t] 77)=w3 at *;obtain⟨m0,m1,m2,m3,m4⟩:=i6 X3.o;have B3:=ix (bt B2.o s.o);cases hlq:lvl (Pv.pg ⟨f,r,B,m,d,g,i,A,t⟩) (C:Int) with
    |false=>
     have K:Hid (R=none):=ix (by rw[<-G.o];unfold iZ;rw[au.o];simp only[hlq,if_true];rfl)
     rw[hlq] at I;clear G hlq;go_wp2_with (go_at_call 80;refine(I.o _).mono ?_;rintro _ V6 ⟨rfl,b⟩;have X:=ix b;clear b)
     go_ret2
     exact Or.inl ⟨K.o,rfl,bt M.o (bt B3.o X.o)⟩
    |true=>
     have Z:=ix ((Bo (k:=k) au.o hlq L).symm.trans G.o);rw[hlq] at I;have am:=ix hlq;clear G hlq;go_upto_region 9 with(go_at_call 80;refine(I.o _).mono ?_;rintro _ V6 ⟨rfl,b⟩;have X:=ix b;clear b)
     have aj:=ix (bt B3.o X.o);have X6:=ix ((X.o.block E.heap.size (ae.1 X3.o).1).trans X3.o);clear m0 m1 m2 m3 m4 I;obtain⟨m0,m1,m2,m3,m4⟩:=i6 X6.o;have W:=ix (al V6 (.cells #[.int .i64 n,.int .i64 f,.int .i64 r,.slice B d.length m,.slice g A.length i,.int .i64 t] 91));have X9:=ix (ag V6 (.cells #[.int .i64 n,.int .i64 f,.int .i64 r,.slice B d.length m,.slice g A.length i,.int .i64 t] 91));have G9:=ix (GG.o.keep (bt aj.o W.o));have aC:L.length+1<=maxLen:=by unfold maxLen;omega
     have ar:∀y,a=some y->y.block<wr.heap.size:=λy F=>GG.o.lt F
     have P9:=ix ((PN.o.keep (bt (bt s.o X.o) W.o)));go_wp2_with (at_builtin;refine jq underlying23 Ca rfl (by decide) rfl _ _ rfl a L.length c (nmw L) rfl G9.o ⟨V6.heap.size,0,none⟩ 1 (nmc (n,⟨f,r,B,m,d,g,i,A,t⟩)) rfl rfl (FJ X9.o) EY aC (by omega) ?_)
     intro g5 c5 H O hN J;rw[DQ] at O;have G5:=ix O;have P5:=ix ((P9.o.old J (λk hk=>by obtain⟨y,F,e⟩:=hk;have:=ar y F;omega)))
     have aA:=B2.o.size;have nA:∀j,wr.heap.size<=j->¬Q.InA a j:=λj hj ⟨y,F,e⟩=>by have:=ar y F;omega
     have X5:=ix (J.same ((W.o.block E.heap.size (ae.1 X6.o).1).trans X6.o) (nA _ aA))
     have N5:Hid (∀y,(some ⟨g5,0,none⟩:Option Addr)=some y->w.heap.size<=y.block):=ix (λy F=>by
      rcases hN y F with⟨z,hz,e⟩|h2
      . rw[<-e];exact NA.o z hz
      . have:=M.o.size;have:=aj.o.size;have:=W.o.size;have:=aA;omega)
     have B5:Hid (Below w.heap.size w H):=ix (((But.ofBelow (S:=Q.InA a) (bt M.o (bt aj.o W.o))).trans J (λ_ _ e=>e)).below (λj hj ⟨y,F,e⟩=>by have:=NA.o y F;omega))
     have an:=ix (P5.o.pi (show d.length<=2199023255520 by
      have h8:d.length<=8\/f=3:=by
       rcases V.o.kind with h|h|h
       . left;have:=(V.o.node (.inl h)).2.2.1;simpa[Pv.pg] using this
       . left;have:=(V.o.node (.inr h)).2.2.1;simpa[Pv.pg] using this
       . exact .inr h
      have:=h8.resolve_right (λh=>(jA.1 am.o).1 h)
      omega))
     have ap:L.length+1=(L++[(n,(⟨f,r,B,m,d,g,i,A,t⟩:Pv))]).length:=by simp
     rw[ap] at G5;have aa:=ix ap;clear ap
     have az:Hid (∀x,(L++[(n,(⟨f,r,B,m,d,g,i,A,t⟩:Pv))]).getLast?=some x->Pi H x.2):=ix (λx P=>by
      rw[ir] at P;cases P;exact an.o)
     clear O hN J P9 P5 m0 m1 m2 m3 m4 nA ar;obtain⟨m0,m1,m2,m3,m4⟩:=i6 X5.o;cases C with
     |zero=>
      have K:Hid ((iZ rd k 0 n).map (λah=>nmg (L++[(n,(⟨f,r,B,m,d,g,i,A,t⟩:Pv))])++ah)=R):=Z
      clear Z;go_wp2;go_roundw
      case rel=>exact⟨0,n,some ⟨g5,0,none⟩,c5,L++[(n,⟨f,r,B,m,d,g,i,A,t⟩)],by rw[<-aa.o],rfl,by first|rfl|go_num,by rw[<-aa.o];omega,B5.o,G5.o,N5.o,az.o,K.o⟩
      case measure=>simp[intOf]
     |succ C=>
      have aH:(0:Int)<((C+1:Nat):Int):=by omega
      have ay:f=2:=by
       rcases V.o.kind with h|h|h
       . have h1:=(V.o.leaf0 h).1;have h2:=(jA.1 am.o).2;simp only[Pv.pg] at h1 h2;omega
       . exact h
       . exact absurd h (jA.1 am.o).1
      have hI:=(V.o.idx ay).2.2;obtain⟨D,ab⟩:∃D,jg k (Pv.pg ⟨f,r,B,m,d,g,i,A,t⟩).items=D:=⟨_,rfl⟩
      have aE:D<d.length:=by
       have h1:2<=(Pv.pg ⟨f,r,B,m,d,g,i,A,t⟩).items.length:=hI;have:=tF (k:=k) (L:=(Pv.pg ⟨f,r,B,m,d,g,i,A,t⟩).items) (by omega)
       rw[ab] at this;simpa[Pv.pg] using this
      have aJ:(D:Int)<(d.length:Int):=by omega
      have aI:(0:Int)<=(D:Int):=by omega
      rw[ab] at Z;obtain⟨N,T,ea,cA⟩:=an.o.it.at aE;have ea:B=some ⟨N,T,none⟩:=ea;have AT:(Pv.pg ⟨f,r,B,m,d,g,i,A,t⟩).at D=(d.getD D Iv.zero).it:=js d D;rw[AT] at Z;have cA:H.rangeAt N (T+D*4) (d.getD D Iv.zero).cs.toList:=cA;have Y:=ix (λ(U:World)(hb:Below H.heap.size H U)=>AE U ⟨f,r,B,m,d,g,i,A,t⟩ ak ck k (an.o.keep hb) (HB.o.keep (bt B5.o hb)))
      simp only[ab] at Y;generalize d.getD D Iv.zero=it at *;obtain⟨_,_,_,_,_,_,ch,_⟩:=it;have d2:=(jn cA).2.2.1;simp only at d2;subst ea;unfold Pv.vl at Y;simp only[Pv.cs] at Y;have SS:Hid (∀U:World,Below H.heap.size H U->((U.cell? ⟨E.heap.size,0,none⟩=some (.int .i64 f)/\U.cell? ⟨E.heap.size,1,none⟩=some (.int .i64 r)/\U.cell? ⟨E.heap.size,2,none⟩=some (.slice (some ⟨N,T,none⟩) d.length m)/\U.cell? ⟨E.heap.size,3,none⟩=some (.slice g A.length i)/\U.cell? ⟨E.heap.size,4,none⟩=some (.int .i64 t))/\U.cell? ⟨N,T+D*4+2,none⟩=some (.int .i64 ch))):=ix (λU hb=>⟨i6 ((hb.block E.heap.size (ae.1 X5.o).1).trans X5.o),(hb.cell (p:=⟨N,T+D*4+2,none⟩) (block_lt_of_cell d2)).trans d2⟩)
      clear cA AT ab hI ay;go_upto_region 11 with fail
      have DR:=ix (dr2 H);refine wrd SS DR.o λhHeld=>?_
      refine tkd 0 1 2 3 ?_;refine tw 4 λKx hK=>?_
      go_simp;refine(Y.o _ DR.o).mono ?_;rintro _ W2 ⟨rfl,ax⟩;have l:=ix (bt DR.o ax);clear ax Y;go_wp2_with fail
      refine hK.o _ _ (SS.o _ l.o) (λhHeld=>?_)
      refine tkd 5 6 7 8 ?_;refine td ?_;clear hHeld SS;have aB:=ix (bt B5.o l.o);have G7:=ix (G5.o.keep l.o);have L7:=ix (λx P=>(az.o x P).keep l.o)
      go_wp2;go_roundw
      case rel=>exact⟨C+1,ch,some ⟨g5,0,none⟩,c5,L++[(n,⟨f,r,some ⟨N,T,none⟩,m,d,g,i,A,t⟩)],by rw[<-aa.o],rfl,by first|rfl|go_num,by rw[<-aa.o];omega,aB.o,G7.o,N5.o,L7.o,Z.o⟩
      case measure=>simp[intOf];omega
def ldv(rd:Int->Option Pg)(x:Iv):Nat×List Nat:=if x.size<0\/3840<x.size then (8,[]) else if 32<x.size then jp rd x.size.toNat x.size.toNat [] x.child else if (x.val.length:Int)≠x.size then (8,[]) else (0,x.val)
theorem xv(h:x.size<0\/3840<x.size):ldv rd x=(8,[]):=by unfold ldv;rw[if_pos h]
theorem uM{s:Nat}(a:32<s)(b:s<=3840)(h:x.size=(s:Int)):ldv rd x=jp rd s s [] x.child:=by
 unfold ldv;rw[if_neg (by omega),if_pos (by omega),h]
 rfl
theorem yg(a:0<=x.size)(b:x.size<=32)(h:(x.val.length:Int)≠x.size):ldv rd x=(8,[]):=by unfold ldv;rw[if_neg (by omega),if_neg (by omega),if_pos h]
theorem tP(a:x.size<=32)(h:(x.val.length:Int)=x.size):ldv rd x=(0,x.val):=by unfold ldv;rw[if_neg (by omega),if_neg (by omega),if_neg (λe=>e h)]
theorem kX.keep{f:FuncId}(h:kX f v rd w)(hb:Below w.heap.size w w'):kX f v rd w':=λW a z=>h W (bt hb a) z
theorem tL(w:World)(v:Value)(rd:Int->Option Pg)(l:kX 52 v rd w)(x:Iv)(i:Ii w x):Calls prog 44 #[v,x.vl] w λe w'=>Gvn w w' e (ldv rd x):=by
 by_cases d:0<=x.size/\x.size<=32/\(x.val.length:Int)=x.size
 . rw[tP d.2.1 d.2.2];refine(yG w v x i.bv (by omega) d.2.2.symm).mono ?_
   rintro _ w' ⟨a,c,rfl,W⟩;exact .inr ⟨rfl,a,c,rfl,W,i.bv.1⟩
 have b:=ix (al w (.cells x.cs 89));have g:=ix (bj w (.cells x.cs 89));by_cases hb:x.size<0\/3840<x.size
 . rw[xv hb];clear l i d;obtain⟨K,M,R,L,N,y,O,f⟩:=x;simp only at hb;unfold Iv.vl;simp only[Iv.cs] at b g ⊢;obtain⟨G,H,I,J⟩:=lc g.o;by_cases B:f<0
   . have q:decide (f<0)=true:=ar B;go_enter func44,ntmps44;go_wp2_with fail
     refine az (dh rfl _ _ _) rfl ?_;exact .inl ⟨by decide,rfl,b.o⟩
   . have q:decide (f<0)=false:=ah B;have A:decide ((3840:Int)<f)=true:=ar (by omega)
     go_enter func44,ntmps44;go_wp2_with fail
     refine az (dh rfl _ _ _) rfl ?_;exact .inl ⟨by decide,rfl,b.o⟩
 by_cases E:32<x.size
 . obtain⟨s,r⟩:∃s:Nat,x.size=(s:Int):=⟨x.size.toNat,by omega⟩
   have C:32<s:=by omega
   have D:s<=3840:=by omega
   rw[uM C D r];have n:=ix (yv (w.alloc (.cells x.cs 89)) v rd (l.keep b.o) s C D x.child);obtain⟨t,P⟩:∃t,jp rd s s [] x.child=t:=⟨_,rfl⟩;rw[P] at n ⊢;clear l i d hb E P;obtain⟨K,M,R,L,N,y,O,f⟩:=x;simp only at r;subst r;unfold Iv.vl;simp only[Iv.cs] at b g n ⊢;have q:decide ((s:Int)<0)=false:=ah (by omega)
   have A:decide ((3840:Int)<(s:Int))=false:=ah (by omega)
   have V:decide ((32:Int)<(s:Int))=true:=ar (by omega)
   obtain⟨G,H,I,J⟩:=lc g.o;go_enter func44,ntmps44;go_wp2_with fail
   refine n.o.mono ?_;rintro _ w3 (⟨j,rfl,h⟩|⟨j,a,c,rfl,h,F⟩)
   . have S:=ix (bt b.o h);have p:=ix j;clear h j;go_wp2_with fail
     refine az (dh rfl _ _ _) rfl ?_;exact .inl ⟨p.o,rfl,S.o⟩
   . have T:Hid (Own w w3 a c t.2):=⟨h.r,h.n.mono b.o.size,bt b.o h.b⟩;have U:=ix F;have p:=ix j;clear h F j;go_wp2_with fail
     refine az (dh rfl _ _ _) rfl ?_;exact .inr ⟨p.o,a,c,rfl,T.o,U.o⟩
 . have m:(x.val.length:Int)≠x.size:=λe=>d ⟨by omega,by omega,e⟩
   rw[yg (by omega) (by omega) m]
   clear l i d;obtain⟨K,M,R,L,N,y,O,f⟩:=x;simp only at hb E m;unfold Iv.vl;simp only[Iv.cs] at b g ⊢;obtain⟨s,d⟩:∃s,y.length=s:=⟨_,rfl⟩;rw[d] at m b g ⊢;clear d;obtain⟨G,H,I,J⟩:=lc g.o;have q:decide (f<0)=false:=ah (by omega)
   have A:decide ((3840:Int)<f)=false:=ah (by omega)
   have V:decide ((32:Int)<f)=false:=ah (by omega)
   have X:((s:Int) != f)=true:=by simpa using m
   go_enter func44,ntmps44;go_wp2_with fail
   refine az (dh rfl _ _ _) rfl ?_;exact .inl ⟨by decide,rfl,b.o⟩
theorem yF(w:World)(v:Value)(rd:Int->Option Pg)(r:kX 53 v rd w)(x:Iv)(hx:Ii w x):Calls prog 85 #[v,x.vl] w λe w'=>Gvn w w' e (ldv rd x):=by
 have l:=ix (al w (.cells x.cs 89));have D:=ix (bj w (.cells x.cs 89));by_cases hb:x.size<0\/3840<x.size
 . rw[xv hb];clear r hx;obtain⟨U,Y,W,V,Z,G,R,F⟩:=x;simp only at hb;unfold Iv.vl;simp only[Iv.cs] at l D ⊢;obtain⟨M,N,O,P⟩:=lc D.o;by_cases H:F<0
   . have d1:decide (F<0)=true:=ar H;go_enter func85,ntmps85;go_wp2_with fail
     refine az (dh rfl _ _ _) rfl ?_;exact .inl ⟨by decide,rfl,l.o⟩
   . have d1:decide (F<0)=false:=ah H;have d2:decide ((3840:Int)<F)=true:=ar (by omega)
     go_enter func85,ntmps85;go_wp2_with fail
     refine az (dh rfl _ _ _) rfl ?_;exact .inl ⟨by decide,rfl,l.o⟩
 by_cases L:32<x.size
 . obtain⟨s,hz⟩:∃s:Nat,x.size=(s:Int):=⟨x.size.toNat,by omega⟩
   have h1:32<s:=by omega
   have h2:s<=3840:=by omega
   rw[uM h1 h2 hz];have RD:=ix r;obtain⟨aq,hn⟩:∃aq,x.child=aq:=⟨_,rfl⟩;obtain⟨f,aC⟩:∃f,jp rd s s [] aq=f:=⟨_,rfl⟩;have aU:=ix aC;rw[hn,aC];clear r hx hb L aC;obtain⟨U,Y,W,V,Z,G,R,F⟩:=x;simp only at hz hn;subst hz;subst hn;unfold Iv.vl;simp only[Iv.cs] at l D ⊢;have d1:decide ((s:Int)<0)=false:=ah (by omega)
   have d2:decide ((3840:Int)<(s:Int))=false:=ah (by omega)
   have d3:decide ((s:Int)<=32)=false:=ah (by omega)
   obtain⟨M,N,O,P⟩:=lc D.o;go_enter func85,ntmps85;go_wp2_with fail
   have A1:=ix (al (w.alloc (.cells #[.slice U W.length Y,.slice V G.length Z,.int .i64 R,.int .i64 (s:Int)] 89)) (.cells #[] 5));have X1:=ix (bj (w.alloc (.cells #[.slice U W.length Y,.slice V G.length Z,.int .i64 R,.int .i64 (s:Int)] 89)) (.cells #[] 5));rw[size_alloc] at X1;have R1:Hid (Rw ((w.alloc (.cells #[.slice U W.length Y,.slice V G.length Z,.int .i64 R,.int .i64 (s:Int)] 89)).alloc (.cells #[] 5)) (some ⟨w.heap.size+1,0,none⟩) 0 []):=Rw.mk (cur:=#[]) X1.o (an _) (an _) rfl rfl;have XB:=ix (iJ D.o A1.o);have BA:=ix (bt l.o A1.o);generalize ((w.alloc (.cells #[.slice U W.length Y,.slice V G.length Z,.int .i64 R,.int .i64 (s:Int)] 89)).alloc (.cells #[] 5))=w1 at *;clear l A1 D X1 M N O P;obtain⟨J,aA⟩:∃J,w.heap.size=J:=⟨_,rfl⟩;have aO:=ix aA;rw[aA] at XB R1 ⊢;clear aA;go_loopw [6,7] (λvv nv wx=>∃(j:List Nat)(n':Int)(a:Option Addr)(c m:Nat),vv=.slice a m c/\nv=.int .i64 n'/\m=j.length/\m<=s/\Rw wx a c j/\New w none a/\Below w.heap.size w wx/\B8 j/\wx.heap[J]?=some (.cells #[.slice U W.length Y,.slice V G.length Z,.int .i64 R,.int .i64 (s:Int)] 89 (0,0))/\jp rd s (s-m) j n'=f) (λvv _ _=>s-(mM vv))
   case atStart=>exact⟨[],R,some ⟨J+1,0,none⟩,0,0,rfl,rfl,rfl,an _,R1.o,λx hx=>.inr (by cases hx;rw[aO.o];exact eS _),BA.o,(λx hx=>absurd hx (cf)),XB.o,by rw[Nat.sub_zero];exact aU.o⟩
   case round=>
    clear R1 BA XB;obtain⟨j,n',a,c,m,rfl,rfl,hm,aY,r,T,hb,h8,aE,d⟩:=hrel;have C:=ix hm;have RW:=ix r;have NW:=ix T;have BB:=ix hb;have n:=ix h8;have EE:=ix d;have XB:=ix aE;clear hm r T hb h8 d aE;obtain⟨M,N,O,P⟩:=lc XB.o;have ak:J<wr.heap.size:=(ae.1 XB.o).1;by_cases aT:m<s
    . have a1:(m:Int)<(s:Int):=by omega
      have RR:=ix (RD.o wr BB.o n');obtain⟨t,ht⟩:∃t,s-m=t+1:=⟨s-m-1,by omega⟩
      have d:=EE.o;rw[ht] at d;unfold jp at d;rw[if_pos (by rw[<-C.o];exact aT)] at d
      obtain⟨o,ho⟩:∃o,rd n'=o:=⟨_,rfl⟩;rw[ho] at RR d;clear ho EE;cases o with
      |none=>
       simp only at d;have g:Hid ((15,[])=f):=d;clear d;go_wp2_with fail
       refine RR.o.mono ?_;rintro _ w3 ⟨q,rfl,ab,am,I⟩;have A3:=ix (al w3 (.cells #[.int .i64 q.kind,.int .i64 q.level,.slice q.aI q.items.length q.cI,.slice q.aD q.data.length q.cD,.int .i64 q.next] 77));have p:=ix (bt BB.o (bt I A3.o));clear ab am I RR;obtain⟨aj,aN,aK,aL,aM,ao,ap,y,E⟩:=q;unfold Pv.vl;simp only[Pv.cs] at p ⊢;go_wp2_with fail
       refine az (dh rfl _ _ _) rfl ?_;rw[<-g.o];exact .inl ⟨by decide,rfl,p.o⟩
      |some pg=>
       simp only at d
       have av:Hid ((pg.kind≠3->(15,[])=f)/\(pg.kind=3->pg.data.length≠min (s-m) 480->(5,[])=f)/\(pg.kind=3->pg.data.length=min (s-m) 480->decide (pg.next=0)≠decide (s-m<=480)->(5,[])=f)/\(pg.kind=3->pg.data.length=min (s-m) 480->decide (pg.next=0)=decide (s-m<=480)->jp rd s (s-(m+pg.data.length)) (j++pg.data) pg.next=f)):=by
        rw[<-C.o] at d;refine⟨λk1=>?_,λk1 k2=>?_,λk1 k2 k3=>?_,λk1 k2 k3=>?_⟩
        . rw[if_pos k1] at d;exact d
        . rw[if_neg (λe=>e k1),if_pos k2] at d;exact d
        . rw[if_neg (λe=>e k1),if_neg (λe=>e k2),if_pos k3] at d;exact d
        . rw[if_neg (λe=>e k1),if_neg (λe=>e k2),if_neg (λe=>e k3)] at d
          rw[<-d];exact oZ _ _ _ _ (by rw[af,<-C.o];omega) (by rw[af,<-C.o];omega)
       clear d;rw[if_pos (show(some pg).isSome=true from rfl)] at RR
       go_wp2_with fail
       refine RR.o.mono ?_;rintro _ w3 ⟨q,rfl,ab,am,I⟩;have aF:q.pg=pg:=am;have A3:=ix (al w3 (.cells q.cs 77));have X3:=ix (bj w3 (.cells q.cs 77));have aa:=ix (iJ XB.o (bt I A3.o));have p:=ix (bt BB.o (bt I A3.o));have PN:=ix (ab.keep A3.o);have R3:=ix ((RW.o.keep I).keep A3.o);rw[<-aF] at av;clear ab am I RR aF M N O P ak;have BD:=ix (PN.o.d.bs PN.o.d8 PN.o.d.len_le);have D8:Hid (B8 q.data):=PN.o.d8;have i:Hid ((q.kind≠3->(15,[])=f)/\(q.kind=3->q.data.length≠min (s-m) 480->(5,[])=f)/\(q.kind=3->q.data.length=min (s-m) 480->decide (q.next=0)≠decide (s-m<=480)->(5,[])=f)/\(q.kind=3->q.data.length=min (s-m) 480->decide (q.next=0)=decide (s-m<=480)->jp rd s (s-(m+q.data.length)) (j++q.data) q.next=f)):=av.o;clear av PN;obtain⟨aj,aN,aK,aL,aM,ao,ap,y,E⟩:=q;unfold Pv.vl;simp only[Pv.cs] at X3 p R3 i BD D8 aa ⊢;obtain⟨b,A⟩:∃b,y.length=b:=⟨_,rfl⟩;have ac:=ix A;simp only[A] at X3 p R3 BD i aa ⊢;clear A;have aI:Hid (∀x,a=some x->x.block≠w3.heap.size):=λx hx=>R3.o.nty13 (t:=77) X3.o (by decide) hx
       have aJ:Hid (∀x,a=some x->x.block≠J):=λx hx=>R3.o.nty13 (t:=89) aa.o (by decide) hx
       go_upto_region 9 with fail
       generalize (w3.alloc (.cells #[.int .i64 aj,.int .i64 aN,.slice aK aM.length aL,.slice ao b ap,.int .i64 E] 77))=w4 at *;have aH:w3.heap.size<w4.heap.size:=(ae.1 X3.o).1;have ak:J<w4.heap.size:=(ae.1 aa.o).1;generalize w3.heap.size=gp at *;obtain⟨y0,y1,y2,y3,y4⟩:=jk X3.o;obtain⟨M,N,O,P⟩:=lc aa.o;by_cases ag:aj=3
       . have ad:=ix ag;have dk:(aj != 3)=false:=by simpa using ag
         clear ag;have aZ:(s:Int)-(m:Int)<=3840:=by omega
         have a0:1<=(s:Int)-(m:Int):=by omega
         by_cases L:s-m<=480
         . have aV:decide ((480:Int)<(s:Int)-(m:Int))=false:=ah (by omega)
           have aQ:((m:Int)+((s:Int)-(m:Int))==(s:Int))=true:=by simp;omega
           by_cases A:b=min (s-m) 480
           . have ai:=ix A;have aS:m+b<=s:=by omega
             have aW:1<=b:=by omega
             have ax:((b:Int) != (s:Int)-(m:Int))=false:=by simp;omega
             have aB:j.length+b<=140737488355328:=by rw[<-C.o];omega
             clear A;by_cases B:E=0
             . have d0:(E==0)=true:=by simpa using B
               have g:Hid (jp rd s (s-(m+b)) (j++y) E=f):=i.o.2.2.2 ad.o ai.o (by rw[ar B,ar L])
               clear B i;go_wp2_with (at_builtin;refine jP rfl _ _ rfl a m c j rfl C.o R3.o ao b ap y rfl ac.o.symm BD.o (by rw[ac.o];exact aB) ?_)
               intro a' c' w5 r T K _;have R5:=ix r
               have X5:=ix ((K.block gp aH (λe=>by
                cases ha:a with
                |none=>rw[ha] at e;cases e
                |some x=>rw[ha] at e;exact aI.o x ha (by simpa using e.symm))).trans X3.o)
               have aw:=ix ((K.block J ak (λe=>by
                cases ha:a with
                |none=>rw[ha] at e;cases e
                |some x=>rw[ha] at e;exact aJ.o x ha (by simpa using e.symm))).trans aa.o)
               have N5:Hid (New w none a'):=λau hy=>by
                rcases T au hy with⟨z,hz,e⟩|h
                . rcases NW.o z hz with⟨_,H,_⟩|h1
                  . cases H
                  . exact .inr (by rw[<-e];exact h1)
                . exact .inr (ay p.o.size h)
               have B5:Hid (Below w.heap.size w w5):=(But.grown (S:=λk=>∃x,a=some x/\x.block=k) (But.ofBelow p.o) K (by
                intro k e _;cases ha:a with
                |none=>rw[ha] at e;simp at e
                |some x=>rw[ha] at e;exact⟨x,rfl,by first|(simpa using e)|(simpa using e.symm)⟩)).below (λk hk ⟨x,hx,e⟩=>by
                 rcases NW.o x hx with⟨_,H,_⟩|h1
                 . cases H
                 . omega)
               clear r T K y0 y1 y2 y3 y4 M N O P;obtain⟨y0,y1,y2,y3,y4⟩:=jk X5.o;go_wp2_with fail
               go_roundw
               case rel=>exact⟨j++y,E,a',c',m+b,by first|rfl|trivial,by first|rfl|trivial,by rw[af,<-C.o,ac.o],by omega,R5.o,N5.o,B5.o,(λx hx=>by
                rcases bO.1 hx with hx|hx
                . exact n.o x hx
                . exact D8.o x hx),aw.o,g.o⟩
               case measure=>simp[mM];omega
             . have d0:(E==0)=false:=by simpa using B
               have g:Hid ((5,[])=f):=i.o.2.2.1 ad.o ai.o (by rw[ah B,ar L];decide)
               clear B i;go_wp2_with fail
               refine az (dh rfl _ _ _) rfl ?_;rw[<-g.o];exact .inl ⟨by decide,rfl,p.o⟩
           . have ax:((b:Int) != (s:Int)-(m:Int))=true:=by
              have:¬((b:Int)=(s:Int)-(m:Int)):=by omega
              simpa using this
             have g:Hid ((5,[])=f):=i.o.2.1 ad.o A;clear A i;go_wp2_with fail
             refine az (dh rfl _ _ _) rfl ?_;rw[<-g.o];exact .inl ⟨by decide,rfl,p.o⟩
         . have aV:decide ((480:Int)<(s:Int)-(m:Int))=true:=ar (by omega)
           have aQ:((m:Int)+480==(s:Int))=false:=by
            have:¬((m:Int)+480=(s:Int)):=by omega
            simpa using this
           by_cases A:b=min (s-m) 480
           . have ai:=ix A;have aX:b=480:=by omega
             have aS:m+b<=s:=by omega
             have aW:1<=b:=by omega
             have ax:((b:Int) != 480)=false:=by simp;omega
             have aB:j.length+b<=140737488355328:=by rw[<-C.o];omega
             clear A aX;by_cases B:E=0
             . have d0:(E==0)=true:=by simpa using B
               have g:Hid ((5,[])=f):=i.o.2.2.1 ad.o ai.o (by rw[ar B,ah L];decide)
               clear B i;go_wp2_with fail
               refine az (dh rfl _ _ _) rfl ?_;rw[<-g.o];exact .inl ⟨by decide,rfl,p.o⟩
             . have d0:(E==0)=false:=by simpa using B
               have g:Hid (jp rd s (s-(m+b)) (j++y) E=f):=i.o.2.2.2 ad.o ai.o (by rw[ah B,ah L])
               clear B i;go_wp2_with (at_builtin;refine jP rfl _ _ rfl a m c j rfl C.o R3.o ao b ap y rfl ac.o.symm BD.o (by rw[ac.o];exact aB) ?_)
               intro a' c' w5 r T K _;have R5:=ix r
               have X5:=ix ((K.block gp aH (λe=>by
                cases ha:a with
                |none=>rw[ha] at e;cases e
                |some x=>rw[ha] at e;exact aI.o x ha (by simpa using e.symm))).trans X3.o)
               have aw:=ix ((K.block J ak (λe=>by
                cases ha:a with
                |none=>rw[ha] at e;cases e
                |some x=>rw[ha] at e;exact aJ.o x ha (by simpa using e.symm))).trans aa.o)
               have N5:Hid (New w none a'):=λau hy=>by
                rcases T au hy with⟨z,hz,e⟩|h
                . rcases NW.o z hz with⟨_,H,_⟩|h1
                  . cases H
                  . exact .inr (by rw[<-e];exact h1)
                . exact .inr (ay p.o.size h)
               have B5:Hid (Below w.heap.size w w5):=(But.grown (S:=λk=>∃x,a=some x/\x.block=k) (But.ofBelow p.o) K (by
                intro k e _;cases ha:a with
                |none=>rw[ha] at e;simp at e
                |some x=>rw[ha] at e;exact⟨x,rfl,by first|(simpa using e)|(simpa using e.symm)⟩)).below (λk hk ⟨x,hx,e⟩=>by
                 rcases NW.o x hx with⟨_,H,_⟩|h1
                 . cases H
                 . omega)
               clear r T K y0 y1 y2 y3 y4 M N O P;obtain⟨y0,y1,y2,y3,y4⟩:=jk X5.o;go_wp2_with fail
               go_roundw
               case rel=>exact⟨j++y,E,a',c',m+b,by first|rfl|trivial,by first|rfl|trivial,by rw[af,<-C.o,ac.o],by omega,R5.o,N5.o,B5.o,(λx hx=>by
                rcases bO.1 hx with hx|hx
                . exact n.o x hx
                . exact D8.o x hx),aw.o,g.o⟩
               case measure=>simp[mM];omega
           . have ax:((b:Int) != 480)=true:=by
              have:¬((b:Int)=480):=by omega
              simpa using this
             have g:Hid ((5,[])=f):=i.o.2.1 ad.o A;clear A i;go_wp2_with fail
             refine az (dh rfl _ _ _) rfl ?_;rw[<-g.o];exact .inl ⟨by decide,rfl,p.o⟩
       . have dk:(aj != 3)=true:=by simpa using ag
         have g:Hid ((15,[])=f):=i.o.1 ag;clear ag i;go_wp2_with fail
         refine az (dh rfl _ _ _) rfl ?_;rw[<-g.o];exact .inl ⟨by decide,rfl,p.o⟩
    . have e1:m=s:=by omega
      have g:Hid ((0,j)=f):=by
       show _=_;rw[<-EE.o];exact(mo (by rw[<-C.o];omega) _).symm
      subst e1;go_wp2_with fail
      refine az (dh rfl _ _ _) rfl ?_;rw[<-g.o];exact .inr ⟨rfl,a,c,(by show Ending.returned (.tuple #[.slice a m c,.int .i64 0])=_;rw[C.o]),⟨RW.o,NW.o,BB.o⟩,n.o⟩
 . have CB:=ix λ(aD:World)(hb:Below w.heap.size w aD)(L:x.val.length<=32)=>jw aD x.aV x.val.length x.cV x.val (hx.bv.keep hb) rfl (by omega)
   have n:Hid (B8 x.val):=hx.bv.1;by_cases X:(x.val.length:Int)=x.size
   . rw[tP (by omega) X]
     have CC:=ix (CB.o _ l.o (by omega))
     clear r hx CB;obtain⟨U,Y,W,V,Z,G,R,F⟩:=x;simp only at hb L X n;unfold Iv.vl;simp only[Iv.cs] at l D CC ⊢;obtain⟨s,hs⟩:∃s,G.length=s:=⟨_,rfl⟩;have aP:=ix hs;rw[hs] at X l D CC ⊢;clear hs;subst X;obtain⟨M,N,O,P⟩:=lc D.o;have d1:decide ((s:Int)<0)=false:=ah (by omega)
     have d2:decide ((3840:Int)<(s:Int))=false:=ah (by omega)
     have d3:decide ((s:Int)<=32)=true:=ar (by omega)
     have d4:((s:Int) != (s:Int))=false:=by simp
     go_enter func85,ntmps85;go_wp2_with fail
     refine CC.o.mono ?_;rintro _ w3 aR;obtain⟨a3,c3,rfl,aG,ab,I⟩:=aR;have OO:Hid (Own w w3 a3 c3 G):=⟨aG,ab.mono l.o.size,bt l.o I⟩;clear aG ab I;go_wp2_with fail
     refine az (dh rfl _ _ _) rfl ?_;exact .inr ⟨rfl,a3,c3,(by show Ending.returned (.tuple #[.slice a3 s c3,.int .i64 0])=_;rw[<-aP.o]),OO.o,n.o⟩
   . rw[yg (by omega) (by omega) X]
     clear r hx CB n;obtain⟨U,Y,W,V,Z,G,R,F⟩:=x;simp only at hb L X;unfold Iv.vl;simp only[Iv.cs] at l D ⊢;obtain⟨s,hs⟩:∃s,G.length=s:=⟨_,rfl⟩;rw[hs] at X l D ⊢;clear hs;obtain⟨M,N,O,P⟩:=lc D.o;have d1:decide (F<0)=false:=ah (by omega)
     have d2:decide ((3840:Int)<F)=false:=ah (by omega)
     have d3:decide (F<=32)=true:=ar (by omega)
     have d4:((s:Int) != F)=true:=by simpa using X
     go_enter func85,ntmps85;go_wp2_with fail
     refine az (dh rfl _ _ _) rfl ?_;exact .inl ⟨by decide,rfl,l.o⟩
theorem x8{e:Ending}{r:Nat×List Nat}(h:Gvn w w' e r):∃(a:Option Addr)(c:Nat),e=.returned (.tuple #[.slice a (if r.1=0 then r.2 else []).length c,.int .i64 ((r.1:Nat):Int)])/\Own w w' a c (if r.1=0 then r.2 else [])/\B8 (if r.1=0 then r.2 else []):=by
 rcases h with⟨h1,h2,h3⟩|⟨h1,a,c,h2,h3,h4⟩
 . rw[if_neg h1];exact⟨none,0,h2,Own.nil w h3,λx b=>absurd b (cf)⟩
 . rw[if_pos h1];refine⟨a,c,?_,h3,h4⟩;rw[h2,h1];rfl
theorem i9.reads{f:FuncId}{X:Nat->Prop}(h:i9 f v rd X w):kX f v rd w:=λW hb z=>h W (But.ofBelow hb) z
def sx(rd:Int->Option Pg)(k:List Nat)(p:Pg):List Nat×Bool×Nat:=if lN k p.items=false then ([],false,0) else (if (ldI rd (p.at (jy k p.items))).1=0 then (ldI rd (p.at (jy k p.items))).2 else [],decide ((ldI rd (p.at (jy k p.items))).1=0),(ldI rd (p.at (jy k p.items))).1)
def oG(rd:Int->Option Pg)(k:List Nat)(h:Nat)(root:Int):List Nat×Bool×Nat:=if k.length<1\/24<k.length then ([],false,7) else match iZ rd k h root with
 |none=>([],false,15)
 |some l=>match l.getLast? with
  |none=>([],false,0)
  |some x=>sx rd k x.2
def sD(w w':World)(e:Ending)(R:List Nat×Bool×Nat):Prop:=∃(a:Option Addr)(c:Nat),e=.returned (.tuple #[.slice a R.1.length c,.bool R.2.1,.int .i64 ((R.2.2:Nat):Int)])/\Own w w' a c R.1/\B8 R.1
theorem xR(w:World)(b:Nat)(rd:Int->Option Pg)(hA:iF rd)(XV:Nat->Prop)(hR:i9 52 (.pointer (some ⟨b,0,none⟩)) rd XV w)(root X:Int)(h:Nat)(K:h<=12)(a:Option Addr)(ck:Nat)(k:List Nat)(hB:Bs w a k):
 Calls prog 11 #[.pointer (some ⟨b,0,none⟩),.agg #[.int .i64 root,.int .i64 (h:Int),.int .i64 X],.slice a k.length ck] w λe w'=>sD w w' e (oG rd k h root):=by
 have I:=ix (al w (.cells #[.int .i64 root,.int .i64 (h:Int),.int .i64 X] 34));have X0:=ag w (.cells #[.int .i64 root,.int .i64 (h:Int),.int .i64 X] 34);obtain⟨t0,t1,t2⟩:=iz X0;obtain⟨R,af⟩:∃R,oG rd k h root=R:=⟨_,rfl⟩;rw[af];have n:=ix af;have HR:=ix (hR.keep I.o);have HA:=ix hA;have HB:=ix (hB.keep I.o);have WT:=ix (tN _ b rd hA XV HR.o root X h K a ck k HB.o);clear af hR hA hB X0;by_cases r:k.length<1\/24<k.length
 . have i:Hid (R=([],false,7)):=ix (by rw[<-n.o];unfold oG;exact if_pos r)
   by_cases h1:k.length=0
   . have aA:(k.length:Int)=0:=by omega
     rw[h1];go_enter func11,ntmps11;go_wp2;go_ret3
     rw[i.o];exact⟨none,0,rfl,Own.nil w I.o,B8.nil⟩
   . have h2:(24:Int)<(k.length:Int):=by omega
     have av:((k.length:Int)==0)=false:=by simp[h1]
     go_enter func11,ntmps11;go_wp2;go_ret3
     rw[i.o];exact⟨none,0,rfl,Own.nil w I.o,B8.nil⟩
 . have h1:¬(k.length:Int)=0:=by omega
   have av:((k.length:Int)==0)=false:=by simp[show ¬k=[] from λe=>r (.inl (by rw[e];decide))]
   have h2:¬(24:Int)<(k.length:Int):=by omega
   replace n:Hid ((match iZ rd k h root with
    |none=>([],false,15)
    |some l=>match l.getLast? with
     |none=>([],false,0)
     |some x=>sx rd k x.2)=R):=ix (by rw[<-n.o];unfold oG;exact(if_neg r).symm)
   clear r;go_enter func11,ntmps11;go_upto_region 3 with fail
   generalize w.alloc (.cells #[.int .i64 root,.int .i64 (h:Int),.int .i64 X] 34)=w1 at *;go_wp2_with fail
   refine WT.o.mono ?_;rintro e W (⟨V,rfl,N⟩|⟨ao,ay,az,V,rfl,hG,aw,hP,N⟩)
   . have i:Hid (R=([],false,15)):=ix (by rw[<-n.o,V])
     have P:=ix (bt I.o N);clear V N WT n t0 t1 t2;go_wp2;go_ret3
     rw[i.o];exact⟨none,0,rfl,Own.nil w P.o,B8.nil⟩
   . have P:=ix (bt I.o N);have K2:=ix N;rw[V] at n;have J:=ix hG;have Z:=ix hP;clear V N WT t0 t1 t2 hG hP aw;rcases ie ao with rfl|⟨M,x,rfl⟩
     . have i:Hid (R=([],false,0)):=ix (by rw[<-n.o];rfl)
       clear n J Z;simp only[bg];go_wp2;go_ret3
       rw[i.o];exact⟨none,0,rfl,Own.nil w P.o,B8.nil⟩
     . have t:Hid (sx rd k x.2.pg=R):=ix (by
        have h:=n.o;simp only[nmg,dy,bT,eG,fO,ir] at h;exact h)
       rw[fO] at J Z ⊢;have PX:=ix (Z.o x (by rw[ir]))
       have aa:(M++[x]).length=M.length+1:=by simp
       obtain⟨ap,ax⟩:=J.o.addr (by rw[aa];omega)
       subst ax
       have H:∀j u,j<5->x.2.cs.toList[j]?=some u->W.cell? ⟨ap,M.length*6+1+j,none⟩=some u:=λj u hj hu=>by
        have h6:(nmw (M++[x]))[M.length*6+(j+1)]?=some u:=by
         rw[r8 (M++[x]) M.length (j+1) (by simp) (by omega)]
         have e:(M++[x]).getD M.length (0,Pv.zero)=x:=by simp
         rw[e];exact hu
        have h7:=J.o.cell h6;rw[show M.length*6+(j+1)=M.length*6+1+j by omega] at h7
        exact h7
       obtain⟨no,ar⟩:=x;obtain⟨C,D,s,B,d,y,A,G,E⟩:=ar;simp only at H PX t;have y0:=H 0 _ (by decide) rfl
       have y1:=H 1 _ (by decide) rfl
       have y2:=H 2 _ (by decide) rfl
       have y3:=H 3 _ (by decide) rfl
       have y4:=H 4 _ (by decide) rfl
       rw[dp] at y0;obtain⟨m,g⟩:∃m,M.length=m:=⟨_,rfl⟩
       have am:m+1<=maxLen:=by
        have:=J.o.capLe;rw[aa,g] at this;omega
       have aD:m+1<=9223372036854775807:=by unfold maxLen at am;omega
       rw[aa,g];rw[g] at y0 y1 y2 y3 y4;clear H J Z n aa g am;have au:¬(m:Int)+1=0:=by omega
       have h0:((m:Int)+1==0)=false:=by simp[au]
       have aC:IntKind.i64.wrap ((m:Int)+1-1)=(m:Int):=by rw[show(m:Int)+1-1=(m:Int) by omega];exact iQ (by omega) (by omega)
       have aI:(m:Int)+1-1=(m:Int):=by omega
       have aB:(m:Int)<(m:Int)+1:=by omega
       go_upto_region 7 with fail
       have Y:=ix (al W (.cells #[.int .i64 C,.int .i64 D,.slice s d.length B,.slice y G.length A,.int .i64 E] 77));have X3:=ix (ag W (.cells #[.int .i64 C,.int .i64 D,.slice s d.length B,.slice y G.length A,.int .i64 E] 77));clear y0 y1 y2 y3 y4;generalize W.alloc (.cells #[.int .i64 C,.int .i64 D,.slice s d.length B,.slice y G.length A,.int .i64 E] 77)=w3 at *;have p:=ix (mG w3 ⟨C,D,s,B,d,y,A,G,E⟩ a ck k (PX.o.keep Y.o) (HB.o.keep (bt K2.o Y.o)));unfold sx at t;obtain⟨f,ai⟩:∃f,jy k (Pv.pg ⟨C,D,s,B,d,y,A,G,E⟩).items=f:=⟨_,rfl⟩
       have ah:lN k (Pv.pg ⟨C,D,s,B,d,y,A,G,E⟩).items=true->f<d.length:=λK=>by
        unfold lN at K;rw[ai] at K;simp[Pv.pg] at K;exact K.1
       rw[ai] at t p;clear ai;obtain⟨q,m1,m2,m3,m4⟩:=i6 X3.o;unfold Pv.vl at p;simp only[Pv.cs] at p;cases hk:lN k (Pv.pg ⟨C,D,s,B,d,y,A,G,E⟩).items with
       |false=>
        rw[hk] at t p;have i:Hid (R=([],false,0)):=ix (t.o.symm.trans (if_pos rfl));clear t ah;go_wp2_with fail
        refine p.o.mono ?_;rintro _ w4 ⟨rfl,O⟩;have B4:=ix (bt P.o (bt Y.o O));clear O p q m1 m2 m3 m4;go_wp2;go_ret3
        rw[i.o];exact⟨none,0,rfl,Own.nil w B4.o,B8.nil⟩
       |true=>
        have an:=ah hk;rw[hk] at t p;have F:=ix ((if_neg (by decide)).symm.trans t.o)
        clear t ah hk;have aJ:(f:Int)<(d.length:Int):=by omega
        have aE:(0:Int)<=(f:Int):=by omega
        go_wp2_with fail
        refine p.o.mono ?_;rintro _ w4 ⟨rfl,O⟩;have ac:=ix (bt Y.o O);have B4:=ix (bt P.o ac.o);have X4:=ix ((O.block W.heap.size (ae.1 X3.o).1).trans X3.o);clear O p q m1 m2 m3 m4;obtain⟨q,m1,m2,m3,m4⟩:=i6 X4.o;have P4:=ix (PX.o.keep ac.o);obtain⟨b1,o1,ea,c⟩:=P4.o.it.at an;have ea:s=some ⟨b1,o1,none⟩:=ea;have AT:(Pv.pg ⟨C,D,s,B,d,y,A,G,E⟩).at f=(d.getD f Iv.zero).it:=js d f;have c:w4.rangeAt b1 (o1+f*4) (d.getD f Iv.zero).cs.toList:=c;have T:=ix (tL w4 (.pointer (some ⟨b,0,none⟩)) rd ((HR.o.keep K2.o).keep ac.o).reads (d.getD f Iv.zero) (P4.o.it.1 _ (iH an)));rw[AT] at F;generalize d.getD f Iv.zero=it at *;have LE:ldI rd it.it=ldv rd it:=rfl;rw[LE] at F;obtain⟨ab,hr⟩:∃ab,ldv rd it=ab:=⟨_,rfl⟩;rw[hr] at F T;clear hr LE AT;obtain⟨aK,cK,aH,aV,cV,val,child,aL⟩:=it;unfold Iv.vl at T;simp only[Iv.cs] at T;obtain⟨d0,d1,d2,d3⟩:=jn c;simp only at d0 d1 d2 d3;subst ea;clear c;obtain⟨r1,r2⟩:=ab;simp only at F;go_wp2_with fail
        refine T.o.mono ?_;rintro e w5 aj;obtain⟨a5,c5,rfl,hO,h8⟩:=x8 aj;have U:=ix (Own.pre B4.o hO);have S:=ix h8;clear aj hO h8 T d0 d1 d2 d3 q m1 m2 m3 m4;simp only at U S;by_cases L:r1=0
        . subst L;simp only[if_true] at U S;have i:Hid (R=(r2,true,0)):=ix (by rw[<-F.o];simp)
          clear F;go_wp2;go_ret3
          rw[i.o];exact⟨a5,c5,rfl,U.o,S.o⟩
        . simp only[if_neg L] at U S;have i:Hid (R=([],false,r1)):=ix (by rw[<-F.o];simp[L])
          have aF:((r1:Int)==0)=false:=by simp[L]
          have aG:¬(r1:Int)=0:=by omega
          clear F;go_wp2;go_ret3
          rw[i.o];exact⟨a5,c5,by simp,U.o,S.o⟩
theorem iN:(prog.info? 45).map (·.size)=some 2:=by kernel_rfl
def Hp(w w':World)(e:Ending)(x:Iv)(r:Nat×List Nat):Prop:=(r.1≠0/\e=.returned (.tuple #[.agg #[.slice none 0 0,.slice none 0 0],.int .i64 ((r.1:Nat):Int)])/\Below w.heap.size w w')\/(r.1=0/\∃(a:Option Addr)(c:Nat),e=.returned (.tuple #[.agg #[.slice x.aK x.key.length x.cK,.slice a r.2.length c],.int .i64 0])/\Own w w' a c r.2/\B8 r.2)
theorem yL(w:World)(b:Nat)(rd:Int->Option Pg)(G:kX 52 (.pointer (some ⟨b,0,none⟩)) rd w)(x:Iv)(H:Ii w x):
 Calls prog 92 #[.pointer (some ⟨b,0,none⟩),x.vl] w λe w'=>Hp w w' e x (ldI rd x.it):=by
 obtain⟨I,J,j,U⟩:=iS w (.cells x.cs 89) (.cells #[.slice none 0 0,.slice none 0 0] 45) (Below.refl _ _);have r:=ix j;have m:=ix I;have t:=ix J;have l:=ix (tL _ (.pointer (some ⟨b,0,none⟩)) rd (G.keep j) x (H.keep j));have s:ldI rd x.it=ldv rd x:=rfl;obtain⟨R,q⟩:∃R,ldv rd x=R:=⟨_,rfl⟩;rw[s,q];rw[q] at l;clear I J j G q s H;obtain⟨N,P,X,O,T,val,child,Y⟩:=x;obtain⟨p,r2⟩:=R;unfold Iv.vl at *;simp only[Iv.cs] at *;obtain⟨A,B,C,D⟩:=jJ m.o;go_enter func92,ntmps92;go_upto_region 1 with fail
 generalize (w.alloc (.cells #[.slice N X.length P,.slice O val.length T,.int .i64 child,.int .i64 Y] 89)).alloc (.cells #[.slice none 0 0,.slice none 0 0] 45)=V at *;go_wp2_with fail
 refine l.o.mono ?_;rintro e W F;obtain⟨a,c,rfl,d,E⟩:=x8 F;have g:=ix (Own.pre r.o d);have f:=ix E;have M:=ix ((d.b.block w.heap.size (ae.1 m.o).1).trans m.o);have h:=ix ((d.b.block (w.heap.size+1) (ae.1 t.o).1).trans t.o);have K:=ix (bt r.o d.b);have L:=ix (λy (n:a=some y)=>d.fresh n)
 have aa:w.heap.size+2<=V.heap.size:=U;clear F d E l A B C D;simp only at g f;have Z:=λcs:Array Value=>Q.iD W (w.heap.size+1) cs
 by_cases i:p=0
 . subst i;simp only[if_true] at g f;obtain⟨A,B,C,D⟩:=jJ M.o;go_wp2_with (first|(refine bz rfl 45 _ _ rfl (w.heap.size+1) _ rfl rfl 45 _ h.o iN rfl (by simp[Value.oneCell']) ?_)|fail)
   refine az (v:=.tuple #[.agg _,_]) (jR results92 _ _ (w.heap.size+1) 45 _ (0,0) _ rfl (bu _ _ _ _ _ _ h.o) underlying45 rfl iN) rfl ?_;refine Or.inr ⟨rfl,a,c,by simp,g.o.setRow (by omega) (λy n e=>by have:=L.o y n;omega) _,f.o⟩
 . simp only[if_neg i] at g f;have ab:((p:Int)==0)=false:=by simp[i]
   have ac:¬(p:Int)=0:=by omega
   go_wp2_with (first|(refine bz rfl 45 _ _ rfl (w.heap.size+1) _ rfl rfl 45 _ h.o iN rfl (by simp[Value.oneCell']) ?_)|fail)
   refine az (v:=.tuple #[.agg _,_]) (jR results92 _ _ (w.heap.size+1) 45 _ (0,0) _ rfl (bu _ _ _ _ _ _ h.o) underlying45 rfl iN) rfl ?_;exact Or.inl ⟨i,rfl,((But.ofBelow (S:=λk=>k=w.heap.size+1) K.o).trans (Q.iD _ _ _) (λ_ _ e=>e)).below (λk hk e=>by have e:k=w.heap.size+1:=e;omega)⟩
end Go.Proofs.YteaogidofpfmmaaGreat
