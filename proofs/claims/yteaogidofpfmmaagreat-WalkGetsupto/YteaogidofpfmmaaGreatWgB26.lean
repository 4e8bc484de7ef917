import Derived.Test.YteaogidofpfmmaaGreatWgB25
import Derived.Deep.Cut
import Derived.Laws.BytesArg
set_option linter.all false
set_option maxHeartbeats 8000000
set_option maxRecDepth 16000
namespace Go.Proofs.YteaogidofpfmmaaGreat
open Go.Proofs.Tryz
open Go.RowKit
variable {B:List Nat}{b gk rb x y:Nat}{P:Pv}{D:Rd}{V W W1 W2 w:World}
structure Ld(w W:World)(b rb:Nat)(S:Vs)(pb mb:Nat)(pc col:Nat->Nat)(D:Rd)(colR:Nat->Nat)(rd:Int->Option Pg):Prop where
 bl:Below w.heap.size w W
 v:Vw W b S pb mb pc col
 r:Rq W rb D colR
 s:∀z,Sml (S.X.on z)
 rv:rdV S=rd
 rr:rdR D=rd
 ok:ix rd
 c:S.X.P.counts=D.C
 dj:∀k,col k≠0->colR k=0
 nv:∀k,col k≠0->w.heap.size<=k
 nr:∀k,colR k≠0->w.heap.size<=k
def qS(w w':World)(e:Ending)(x:Img):Prop:=
 (¬((iu x.r x.C (nmg x.N)).1=0/\x.C.length<=4096)/\e=.returned (.tuple #[.pointer none,.pointer none,.bool true])/\Below w.heap.size w w')\/
 ((iu x.r x.C (nmg x.N)).1=0/\x.C.length<=4096/\∃(b rb:Nat)(S:Vs)(pb mb:Nat)(pc col:Nat->Nat)(D:Rd)(colR:Nat->Nat),e=.returned (.tuple #[.pointer (some ⟨b,0,none⟩),.pointer (some ⟨rb,0,none⟩),.bool true])/\Ld w w' b rb S pb mb pc col D colR (iu x.r x.C (nmg x.N)).2)
theorem Ld.mk14{r:Int}{C:List Int}{L:List (Int×Pg)}{f:Int->Option Pv}(H:C.length<=4096)(p:(iu r C L).1=0)(d:Rn w W1 rb D)(a:PRi C (iu r C L).2 D)(s:yd W1 W2 b (ldS r C f))(A:∀k,(f k).map Pv.pg=(iu r C L).2 k)(v:∀k q,f k=some q->q.pg.check=0)(F:∀k,(f k).isSome=true->0<ip C k):
 ∃(i g:Nat)(j l:Nat->Nat)(G:Nat->Nat),Ld w W2 b rb (ldS r C f) i g j l D G (iu r C L).2:=by
 obtain⟨i,g,j,l,t,hb,hk⟩:=s;obtain⟨m,E⟩:=d.rq (by rw[a.2.1,a.1];simp) (by rw[a.2.2.1,a.1]) (by rw[a.1];omega)
 have c:PVi r C (iu r C L).2 (ldS r C f):=⟨f,rfl,A,v,F⟩;have e:=Bw c a (xt p);refine⟨i,g,j,l,_,bt d.b hb,t,m.keep hb,Ab c,(wa c a).trans e,e,BY c,uG c a,λk h=>?_,λk h=>az d.b.size (hk k h),E⟩
 by_cases n:kS w W1 rb D k=0
 . exact n
 . have:=m.lt k n;have:=hk k h;omega
theorem qQ(w:World)(x:Img)(a:Imi w x):Calls prog 7 #[.agg x.cs] w λe j=>qS w j e x:=by
 have c:=gW (al w (.cells x.cs 26));have K:=gW (ah w (.cells x.cs 26));have n:=gW λ(W:World)(hb:Below w.heap.size w W)=>xD W x (a.keep hb)
 have J:=gW λ(W:World)(hb:Below w.heap.size w W)=>Ad W x.r x.aC x.C.length x.cC x.C (a.c.keep hb) rfl x.aN x.N.length x.cN x.N (a.n.keep hb) rfl a.nl
 have E:=gW λ(j:World)(e:Ending)(h:qS w j e x)=>h
 clear a;unfold qS at E ⊢;unfold xm at n;obtain⟨r,aC,cC,C,aN,cN,N,aT,cT,T⟩:=x;simp only[Img.cs] at *;go_enter func7,ntmps7;go_wp2_with fail
 refine(n.o _ c.o).mono ?_;rintro _ w2 (⟨v,rfl,hb⟩|⟨d,rb,D,rfl,i,p⟩)
 . have H:=gW v;have F:=gW (bt c.o hb);clear v hb;go_wp2_with fail
   go_ret3
   exact .inl ⟨λh=>H.o h.1,rfl,F.o⟩
 . have g:=gW d;have m:=gW i;have I:=gW p;have L:=gW (iy K.o i.b);clear d i p;obtain⟨x0,x1,x2,x3⟩:=jp L.o;have k:=gW (bt c.o m.o.b);by_cases M:4096<C.length
   . have X:(4096:Int)<(C.length:Int):=by omega
     go_wp2_with fail
     go_ret3
     exact .inl ⟨λh=>by omega,rfl,k.o⟩
   . have X:¬(4096:Int)<(C.length:Int):=by omega
     have l:Hid (C.length<=4096):=by show _<=_;omega
     clear M;go_wp2_with fail
     refine(J.o _ k.o).mono ?_;rintro _ w3 (⟨er,Y,d,rfl,hb⟩|⟨_,b,f,rfl,q,t,s,A⟩)
     . exact absurd (d.symm.trans g.o) Y
     . have G:=gW (Ld.mk14 l.o g.o (m.o.pre14 c.o) I.o q t s A);clear q t s A;go_wp2_with fail
       go_ret3
       obtain⟨R,O,S,U,Z,h⟩:=G.o;exact .inr ⟨g.o,l.o,b,rb,_,R,O,S,U,D,Z,rfl,h⟩
theorem zQ(w0 w:World)(b rb:Nat)(S:Vs)(H mb:Nat)(pc ao:Nat->Nat)(D:Rd)(am:Nat->Nat)(rd:Int->Option Pg)(h:Ld w0 w b rb S H mb pc ao D am rd):
 Calls prog 24 #[.pointer (some ⟨b,0,none⟩),.pointer (some ⟨rb,0,none⟩)] w λe Y=>e=.returned (.bool true)/\Below w.heap.size w Y:=by
 have RV:Hid (jL 52 (.pointer (some ⟨b,0,none⟩)) rd w):=by rw[<-h.rv];exact h.v.reads h.s
 have RR:Hid (jL 53 (.pointer (some ⟨rb,0,none⟩)) rd w):=by rw[<-h.rr];exact h.r.reads
 have PL:Hid (∀z,((rd z).getD Pv.zero.pg).items.length<=1048576):=λz=>by
  rw[<-h.rr];unfold rdR;by_cases F:0<D.count z
  . rw[if_pos F]
    have hh:D.has z=true:=by
     unfold Rd.count at F;split at F
     . assumption
     . omega
    have:=(kW (h.r.ps _ (Rd.on_mem h.r hh))).2;show((D.on z).items.map Iv.it).length<=_;rw[bu];exact this
  . rw[if_neg F];exact an _
 have L:=gW λ(W:World)(hb:Below w.heap.size w W)=>qb W rb D am (h.r.keep hb)
 have CN:=gW λ(W:World)(hb:Below w.heap.size w W)=>(show Calls prog 50 #[.pointer (some ⟨H,0,none⟩)] W λe Y=>∃a ab,e=.returned (.slice a D.C.length ab)/\Q.IOwn W Y a ab D.C from by
  obtain⟨ac,cc,aa,ca,G⟩:=h.v.keep hb;have k:=Q.xr W H _ _ G.pool;rw[h.c] at k;exact k)
 have C:Hid (∀W:World,Below w.heap.size w W->W.cell? ⟨b,0,none⟩=some (.pointer (some ⟨H,0,none⟩))/\W.cell? ⟨rb,1,none⟩=some (.slice D.aC D.C.length D.cC)):=λW hb=>⟨(h.v.keep hb).c0,(h.r.keep hb).cells.2.1⟩
 have IR:=gW λ(W:World)(hb:Below w.heap.size w W)=>(show Q.Ir W D.aC D.C from(h.r.keep hb).cr.ir)
 have h6:=h.r.n6;clear h;obtain⟨n,U⟩:∃n,D.C.length=n:=⟨_,rfl⟩;have K:=gW U;simp only[U] at L CN C h6;clear U;have v:=gW (dr2 w);go_enter func24,ntmps24;go_upto_region 1 with fail
 refine wrd C v.o λhHeld=>?_
 refine tkd 0 1 2 3 ?_;refine tkd 5 6 7 8 ?_;refine tw 4 λKx R=>?_
 go_simp;refine(CN.o _ v.o).mono ?_;rintro _ j ⟨a2,c2,rfl,T⟩;have O2:=gW T;have d:=gW (bt v.o T.b);clear T;go_wp2_with fail
 refine R.o _ _ (C.o _ d.o) (λhHeld=>?_)
 refine tw 9 λKx R=>?_
 go_simp;refine(Q.mC j a2 D.aC n n c2 D.cC D.C O2.o.r.ir (IR.o _ d.o) K.o.symm K.o.symm (by have:=K.o;omega)).mono ?_
 rintro _ s ⟨rfl,f⟩;have i:=gW (bt d.o f);clear f;go_wp2_with fail
 refine R.o _ _ (C.o _ i.o) (λhHeld=>?_)
 refine tk 10 ?_;refine td ?_;clear hHeld v O2 d;go_wp2_with fail
 go_loopw [5] (λX wx=>∃k:Nat,1<=k/\k<=n+1/\X=.int .i64 (k:Int)/\Below w.heap.size w wx) (λX _=>n+1-(intOf X).toNat)
 case atStart=>exact⟨1,ai _,Nat.succ_le_succ (an _),rfl,i.o⟩
 case round=>
  clear i;obtain⟨k,aw,ax,rfl,hb⟩:=hrel;have m:=gW hb;clear hb;by_cases ay:k<=n
  . have c:(k:Int)<=(n:Int):=by omega
    have ap:decide ((k:Int)<=(n:Int))=true:=au c;go_wp2_with fail
    refine(L.o _ m.o).mono ?_;rintro _ wq ⟨rfl,t⟩;rw[t];clear t;go_wp2_with fail
    refine(RV.o _ m.o _).mono ?_;rintro _ j ⟨p,rfl,hp,aj,ae⟩;obtain⟨E,Z⟩:∃E:Int,(if (rd (k:Int)).isSome=true then (0:Int) else 15)=E:=⟨_,rfl⟩
    rw[Z];have ad:=gW hp;have PG:=gW aj;have d:=gW (bt m.o ae);clear hp aj ae;have M:Hid (p.vl=.agg #[.int .i64 p.kind,.int .i64 p.level,.slice p.aI p.items.length p.cI,.slice p.aD p.data.length p.cD,.int .i64 p.next]):=rfl;rw[M.o];have I:=gW (al j (.cells #[.int .i64 p.kind,.int .i64 p.level,.slice p.aI p.items.length p.cI,.slice p.aD p.data.length p.cD,.int .i64 p.next] 77));have O:=gW (aZ j (.cells #[.int .i64 p.kind,.int .i64 p.level,.slice p.aI p.items.length p.cI,.slice p.aD p.data.length p.cD,.int .i64 p.next] 77));go_upto_region 7 with fail
    have J:=gW (bt d.o I.o);have P3:=gW (ad.o.keep I.o);generalize aq:j.alloc (.cells #[.int .i64 p.kind,.int .i64 p.level,.slice p.aI p.items.length p.cI,.slice p.aD p.data.length p.cD,.int .i64 p.next] 77)=w3 at *;clear aq I ad d;obtain⟨gp,ag⟩:∃gp,j.heap.size=gp:=⟨_,rfl⟩;simp only[ag] at O ⊢;clear ag;go_wp2_with fail
    refine(RR.o _ J.o _).mono ?_;rintro _ s ⟨q,rfl,G,ak,f⟩;rw[Z];clear Z;have Q4:=gW G;have QG:=gW ak;have i:=gW (bt J.o f);have P4:=gW (P3.o.keep f);have X4:=gW (iy O.o f);clear G ak f P3 O J;have N:Hid (q.vl=.agg #[.int .i64 q.kind,.int .i64 q.level,.slice q.aI q.items.length q.cI,.slice q.aD q.data.length q.cD,.int .i64 q.next]):=rfl;rw[N.o];have l:=gW (al s (.cells #[.int .i64 q.kind,.int .i64 q.level,.slice q.aI q.items.length q.cI,.slice q.aD q.data.length q.cD,.int .i64 q.next] 77));have r:=gW (aZ s (.cells #[.int .i64 q.kind,.int .i64 q.level,.slice q.aI q.items.length q.cI,.slice q.aD q.data.length q.cD,.int .i64 q.next] 77));go_upto_region 8 with fail
    have B5:=gW (bt i.o l.o);have P5:=gW (P4.o.keep l.o);have Q5:=gW (Q4.o.keep l.o);have X5:=iy X4.o l.o;have r:=r.o;generalize av:s.alloc (.cells #[.int .i64 q.kind,.int .i64 q.level,.slice q.aI q.items.length q.cI,.slice q.aD q.data.length q.cD,.int .i64 q.next] 77)=w5 at *;clear av l P4 Q4 X4 i;obtain⟨gq,ah⟩:∃gq,s.heap.size=gq:=⟨_,rfl⟩;simp only[ah] at r ⊢;clear ah
    have A:Hid (p.pg=q.pg/\p.items.length<=2199023255520/\q.items.length<=2199023255520):=by
     have e1:=PG.o;have e2:=QG.o;have l1:=PL.o (k:Int);refine⟨by rw[e1,e2],?_,?_⟩
     . have e:=bf (λg:Pg=>g.items.length) e1
       simp only[Pv.pg,bu] at e;rw[e];exact az l1 (by decide)
     . have e:=bf (λg:Pg=>g.items.length) e2
       simp only[Pv.pg,bu] at e;rw[e];exact az l1 (by decide)
    have EQ:=gW λ(W:World)(hb:Below w5.heap.size w5 W)=>vU W p q ((P5.o.keep hb).pi A.o.2.1) ((Q5.o.keep hb).pi A.o.2.2) A.o.1
    rw[M.o,N.o] at EQ;have de:(E != E)=false:=by simp
    clear PG QG A M N P5 Q5;obtain⟨x0,x1,x2,x3,x4⟩:=iI X5;obtain⟨y0,y1,y2,y3,y4⟩:=iI r;clear X5 r;go_wp2_with fail
    refine(EQ.o _ (Below.refl _ _)).mono ?_;rintro _ w6 ⟨rfl,af⟩;have B6:=gW (bt B5.o af);clear af x0 x1 x2 x3 x4 y0 y1 y2 y3 y4;go_wp2_with fail
    go_roundw
    case rel=>exact⟨k+1,by omega,by omega,by first|(go_num;done)|exact bf (Value.int IntKind.i64) (by omega),B6.o⟩
    case measure=>(simp[intOf];omega)
  . obtain rfl:k=n+1:=by omega
    have c:¬(((n+1:Nat):Int)<=(n:Int)):=by omega
    have ap:decide (((n+1:Nat):Int)<=(n:Int))=false:=ar c;go_wp2_with fail
    refine(L.o _ m.o).mono ?_;rintro _ wq ⟨rfl,t⟩;rw[t];clear t;go_wp2_with fail
    go_ret;exact⟨rfl,m.o⟩
def qd(B:List Nat):Pg:=⟨1,0,B.map λx=>⟨[x],[x,x],0,2⟩,[],0⟩
def livI:Pg:=⟨2,1,[⟨[],[],1,0⟩,⟨[109],[],2,0⟩],[],0⟩
def xn:List (Int×Pg):=[(1,qd [97,99,101,103]),(2,qd [109,112,114,116,118]),(3,livI)]
def j7:Int->Option Pg:=(iu 2 [1,1,1] xn).2
set_option maxRecDepth 20000 in
theorem FQ:(iu 2 [1,1,1] xn).1=0:=by kernel_rfl
set_option maxRecDepth 20000 in
theorem Cg:chk j7 ⟨3,2,9⟩=0:=by kernel_rfl
set_option maxRecDepth 20000 in
theorem Bg:chk j7 ⟨3,2,8⟩=4:=by kernel_rfl
set_option maxRecDepth 20000 in
theorem EY:ng j7 [112] 2 3=([112,112],true,0):=by kernel_rfl
def livR:Rg:=⟨[101],[112],false⟩
set_option maxRecDepth 20000 in
theorem Dt:(ib (prM Yl j7 livR true) j7 (iG livR) true 1 ⟨[],([],0)⟩ (iV 3 2)).c=([([101],[101,101]),([103],[103,103]),([109],[109,109])],0):=by kernel_rfl
theorem Pn.push14{w g W1 W2:World}{P:Pv}{x:Iv}{j c2:Nat}(h:Pn w g P)(A:P.aD=none)(k:Io g W1 x)(C:N64 x.child/\N64 x.size)(n:w.heap.size<=g.heap.size)
 (q:Jw W2 (some ⟨j,0,none⟩) c2 (P.items++[x])) (v:New W1 P.aI (some ⟨j,0,none⟩)) (p:But (Q.InA P.aI) W1 W2):
 Pn w W2 ⟨P.kind,P.level,some ⟨j,0,none⟩,c2,P.items++[x],P.aD,P.cD,P.data,P.next⟩:=by
 have f:=h.keep k.k.b;have hr:∀{a c l},Rw W1 a c l->Rw W2 a c l:=λhr=>hr.but p λy d ⟨z,m,e⟩=>f.it.ne hr m d e
 have i:=k.fam;refine⟨q,f.itn.trans v (az n k.k.b.size),hr f.d,h.dn,λt ht=>?_,?_,h.d8,λr hr=>?_,h.nk,h.nl,h.nn⟩
 . rw[jW,lH] at ht;rcases bG.1 ht with ht|ht
   . exact⟨hr (f.fr t ht).1,(f.fr t ht).2⟩
   . obtain⟨o,G⟩:=i.own t ht;exact⟨hr o.r,o.n.mono n,G⟩
 . rw[jW,lH];have E:=cF.1 h.dist;refine cF.2 ⟨λt _ y z d _=>?_,dA.2 ⟨E.2,i.dist,λs F t ht y z d m e=>?_⟩⟩
   . simp only at d;rw[A] at d;cases d
   . have H:=(h.fr s F).1.lt d;have I:=(i.own t ht).1.fresh m;omega
 . rcases bG.1 hr with hr|hr
   . exact h.ns r hr
   . rw[aM.1 hr];exact C
structure Grp(w W:World)(y:Nat)(P:Pv)(B:List Nat):Prop where
 but:But (λk=>k=y) w W
 box:W.heap[y]?=some (.cells P.cs 77 (0,0))
 pn:Pn w W P
 dn:P.aD=none
 pg:P.pg=qd B
 lt:y<w.heap.size
theorem Grp.len(h:Grp w W y P B):P.items.length=B.length:=by
 have e:=bf (λg:Pg=>g.items.length) h.pg
 simpa[Pv.pg,qd] using e
theorem Grp.push{v:Iv}{g c n:Nat}(h:Grp w W y P B)(I:P.items.length=n)(a:Io W W1 v)(f:v.it=⟨[x],[x,x],0,2⟩)(A:Q.Gw 89 4 W2 (some ⟨g,0,none⟩) c (n+1) (Jc P.items++v.cs.toList))(E:New W1 P.aI (some ⟨g,0,none⟩))(d:But (Q.InA P.aI) W1 W2):
 Grp w (W2.setCell ⟨y,2,none⟩ (.slice (some ⟨g,0,none⟩) (n+1) c)) y ⟨P.kind,P.level,some ⟨g,0,none⟩,c,P.items++[v],P.aD,P.cD,P.data,P.next⟩ (B++[x]):=by
 subst I
 have C:Jw W2 (some ⟨g,0,none⟩) c (P.items++[v]):=by
  show Q.Gw 89 4 W2 (some ⟨g,0,none⟩) c (P.items++[v]).length (Jc (P.items++[v]));rw[wQ,af];exact A
 have F:N64 v.child/\N64 v.size:=by
  obtain⟨J,L,N,K,M,val,child,O⟩:=v;simp only[Iv.it,It.mk.injEq] at f;obtain⟨_,_,rfl,rfl⟩:=f;show N64 0/\N64 2;exact⟨⟨by decide,by decide⟩,⟨by decide,by decide⟩⟩
 have j:=iy h.box a.k.b;have G:¬Q.InA P.aI y:=λ⟨z,i,e⟩=>(h.pn.it.keep a.k.b).nty j (by decide) i e
 have l:W2.heap[y]?=some (.cells P.cs 77 (0,0)):=d.same j G;have H:=h.pn.push14 h.dn a F h.but.size C E d;have bs:But (λk=>k=y) W2 (W2.setCell ⟨y,2,none⟩ (.slice (some ⟨g,0,none⟩) (P.items.length+1) c)):=(But.refl (λk=>k=y) W2).setCell (p:=⟨y,2,none⟩) (λ_=>rfl) _
 refine⟨((h.but.andBelow a.k.b).trans d (λk hk ⟨z,i,e⟩=>?_)).trans bs (λ_ _ e=>e),?_,H.but bs (λk e=>⟨77,P.cs,by rw[e];exact l,by decide,by decide⟩),h.dn,?_,h.lt⟩
 . exfalso;have:=y8 h.pn.itn i;omega
 . rw[aS _ _ _ _ _ _ l];show some (Obj.cells _ _ _)=some (Obj.cells (Pv.cs _) _ _);unfold Pv.cs;simp only[af];rfl
 . have e:=h.pg;simp only[Pv.pg,qd,Pg.mk.injEq] at e ⊢;obtain⟨m,q,r,s,t⟩:=e;refine⟨m,q,?_,s,t⟩;rw[dd,dd,r,List.map_singleton,List.map_singleton,f]
theorem o9(w:World)(l:List Nat)(e:l.length<=1000)(cs:Array Value)(a:cs.toList=l.map λx:Nat=>Value.int .u8 ((x:Nat):Int)):Own w (w.alloc (.cells cs 5)) (some ⟨w.heap.size,0,none⟩) l.length l:=by
 have c:cs.size=l.length:=by
  have:=bf List.length a;simpa using this
 refine⟨Rw.mk (ah w (.cells cs 5)) (ai _) (by unfold maxLen;omega) c ?_,λy d=>?_,al w _⟩
 . rw[a,<-bu (f:=λx:Nat=>Value.int .u8 ((x:Nat):Int)),dp]
   rfl
 . cases d;exact .inr (ai _)
def lowB:List Nat:=[97,99,101,103]
def DI:List Nat:=[109,112,114,116,118]
theorem Grp.start(h:W.heap[y]?=some (.cells #[.int .i64 1,.int .i64 0,.slice none 0 0,.slice none 0 0,.int .i64 0] 77 (0,0))):Grp W W y ⟨1,0,none,0,[],none,0,[],0⟩ []:=
 ⟨But.refl _ _,h,⟨Jw.nil _,New.none _ _,Rw.nil _,New.none _ _,(λ_ h=>by cases h),eo _ _,B8.nil,(λ_ h=>by cases h),by simp[N64],by simp[N64],by simp[N64]⟩,rfl,rfl,(ae.1 h).1⟩
def jC(gk gv x:Nat):Iv:=⟨some ⟨gk,0,none⟩,1,[x],some ⟨gv,0,none⟩,2,[x,x],0,2⟩
theorem wO{a:Nat}:∀u∈(jC gk a x).cs.toList,u.oneCell'=true:=by simp[jC,Iv.cs,Value.oneCell']
theorem zY(w:World)(x:Nat)(g:x<256):Io w ((w.alloc (.cells #[.int .u8 (x:Int)] 5)).alloc (.cells #[.int .u8 (x:Int),.int .u8 (x:Int)] 5)) (jC w.heap.size (w.heap.size+1) x):=by
 have e:=o9 w [x] (by simp) #[.int .u8 (x:Int)] rfl
 have c:=o9 (w.alloc (.cells #[.int .u8 (x:Int)] 5)) [x,x] (by simp) #[.int .u8 (x:Int),.int .u8 (x:Int)] rfl
 rw[size_alloc] at c;refine⟨e.keep c.b,c.pre e.b,λa b f hb=>?_,λz d=>?_,λz d=>?_⟩
 . cases f;cases hb;simp
 all_goals
  simp[jC] at d;omega
theorem As(w:World)(x:Nat)(g:x<256):Io w ((w.alloc (.cells #[.int .u8 (x:Int),.int .u8 (x:Int)] 5)).alloc (.cells #[.int .u8 (x:Int)] 5)) (jC (w.heap.size+1) w.heap.size x):=by
 have e:=o9 w [x,x] (by simp) #[.int .u8 (x:Int),.int .u8 (x:Int)] rfl
 have c:=o9 (w.alloc (.cells #[.int .u8 (x:Int),.int .u8 (x:Int)] 5)) [x] (by simp) #[.int .u8 (x:Int)] rfl
 rw[size_alloc] at c;refine⟨c.pre e.b,e.keep c.b,λa b f hb=>?_,λz d=>?_,λz d=>?_⟩
 . cases f;cases hb;simp
 all_goals
  simp[jC] at d;omega
theorem t2{P:Program}{e:Region.Mode}{c:Array Oper}{Q:Exit->Act->World->Prop}{S:World->Prop}(i j:Nat){o p:Oper}{g:Nat}{f:Array Bool}{a:Act}{w:World}
 (h:∀d:Act->World->Prop,Shut (∀a w,S w->(S w->wpAnyH P e c Q S g (f.setIfInBounds i true) a w)->d a w)->if Region.wanted o (yielded c a.tmps)=true then Oper.wp P o a w d Q else d (a.put o.dst undef) w)
 (k:∀d:Act->World->Prop,Shut (∀a w,S w->(S w->wpAnyH P e c Q S g (f.setIfInBounds j true) a w)->d a w)->if Region.wanted p (yielded c a.tmps)=true then Oper.wp P p a w d Q else d (a.put p.dst undef) w)
 (l:c[i]?=some o:=by exact rfl) (m:c[j]?=some p:=by exact rfl) (n:Region.ready e c f=[i,j]:=by kernel_rfl):wpAnyH P e c Q S (g+1) f a w:=
 wpAnyH_ready n (by simp) (AllReadyH.cons l h (AllReadyH.cons m k AllReadyH.nil))
theorem t3{P:Program}{e:Region.Mode}{d:Array Oper}{Q:Exit->Act->World->Prop}{S:World->Prop}(i j l:Nat){o p q:Oper}{g:Nat}{f:Array Bool}{a:Act}{w:World}
 (h:∀c:Act->World->Prop,Shut (∀a w,S w->(S w->wpAnyH P e d Q S g (f.setIfInBounds i true) a w)->c a w)->if Region.wanted o (yielded d a.tmps)=true then Oper.wp P o a w c Q else c (a.put o.dst undef) w)
 (k:∀c:Act->World->Prop,Shut (∀a w,S w->(S w->wpAnyH P e d Q S g (f.setIfInBounds j true) a w)->c a w)->if Region.wanted p (yielded d a.tmps)=true then Oper.wp P p a w c Q else c (a.put p.dst undef) w)
 (m:∀c:Act->World->Prop,Shut (∀a w,S w->(S w->wpAnyH P e d Q S g (f.setIfInBounds l true) a w)->c a w)->if Region.wanted q (yielded d a.tmps)=true then Oper.wp P q a w c Q else c (a.put q.dst undef) w)
 (n:d[i]?=some o:=by exact rfl) (r:d[j]?=some p:=by exact rfl) (s:d[l]?=some q:=by exact rfl) (t:Region.ready e d f=[i,j,l]:=by kernel_rfl):wpAnyH P e d Q S (g+1) f a w:=
 wpAnyH_ready t (by simp) (AllReadyH.cons n h (AllReadyH.cons r k (AllReadyH.cons s m AllReadyH.nil)))
theorem mq(w:World)(g:Nat)(cs:Array Value):But (λk=>k=g) w (w.setRow g cs):=Q.gZ w g cs
def oj(gk gi:Nat):Pv:=⟨2,1,some ⟨gi,0,none⟩,2,[⟨none,0,[],none,0,[],1,0⟩,⟨some ⟨gk,0,none⟩,1,[109],none,0,[],2,0⟩],none,0,[],0⟩
theorem pa(V:World)(a:Option Addr):Bs V a []:=⟨λx c=>absurd c (bX),by simp,.inl rfl⟩
theorem o5{t:TypeId}(c:x<256)(h:V.heap[gk]?=some (.cells #[.int .u8 ((x:Nat):Int)] t (1,2))):Bs V (some ⟨gk,0,none⟩) [x]:=by
 refine⟨λy d=>by rw[aM.1 d];exact c,by simp,.inr ⟨gk,0,rfl,λi a=>?_⟩⟩
 have:i=0:=by simp at a;exact a
 subst this;rw[am _ _ _ _ _ _ h];rfl
theorem ug:N64 0:=⟨by decide,by decide⟩
theorem ul:N64 1:=⟨by decide,by decide⟩
theorem uB:N64 2:=⟨by decide,by decide⟩
theorem CU{c:Nat}(e:V.heap[gk]?=some (.cells #[.int .u8 ((109:Nat):Int)] 5 (1,2)))(f:V.heap[c]?=some (.cells #[.slice none 0 0,.slice none 0 0,.int .i64 1,.int .i64 0,.slice (some ⟨gk,0,none⟩) 1 1,.slice none 0 0,.int .i64 2,.int .i64 0] 89 (0,0))):Pi V (oj gk c):=by
 refine⟨⟨λr d=>?_,by simp[oj],.inr ⟨c,0,rfl,λr d j u a=>?_⟩⟩,by simp[oj],pa _ _,by simp[oj],uB,ul,ug⟩
 . have:r=⟨none,0,[],none,0,[],1,0⟩\/r=⟨some ⟨gk,0,none⟩,1,[109],none,0,[],2,0⟩:=by simpa[oj] using d
   rcases this with rfl|rfl
   . exact⟨pa _ _,by simp,pa _ _,by simp,ul,ug⟩
   . exact⟨o5 (by decide) e,by simp,pa _ _,by simp,uB,ug⟩
 . have:r=0\/r=1:=by simp[oj] at d;omega
   rw[am _ _ _ _ _ _ f];rcases this with rfl|rfl
   all_goals
    match j,a with
    |0,a=>exact a
    |1,a=>exact a
    |2,a=>exact a
    |3,a=>exact a
    |j+4,a=>simp[oj,Iv.cs] at a
theorem lv3w(a:World)(c1 c2 c3 f:Array Value):∃c:World,Hid (c=(((a.alloc (.cells c1 5 (1,2))).alloc (.cells c2 89)).alloc (.cells c3 77)).setRow (a.heap.size+1+1) f)/\Hid ((((a.alloc (.cells c1 5 (1,2))).alloc (.cells c2 89)).alloc (.cells c3 77)).heap[a.heap.size+1+1]?=some (.cells c3 77 (0,0)))/\Hid (Below a.heap.size a c)/\Hid (c.heap[a.heap.size]?=some (.cells c1 5 (1,2)))/\Hid (c.heap[a.heap.size+1]?=some (.cells c2 89 (0,0)))/\Hid (c.heap[a.heap.size+1+1]?=some (.cells f 77 (0,0))):=by
 have g:=aZ (a.alloc (.cells c1 5 (1,2))) (.cells c2 89);have d:=aZ ((a.alloc (.cells c1 5 (1,2))).alloc (.cells c2 89)) (.cells c3 77);rw[size_alloc] at g;rw[size_alloc,size_alloc] at d;exact⟨_,rfl,d,((But.ofBelow (S:=λ_=>False) (bt (bt (al a _) (al _ _)) (al _ _))).trans (mq _ _ _) (λk hk e=>by omega)).below (λ_ _ e=>e),(mq _ _ _).same (iy (iy (aZ a _) (al _ _)) (al _ _)) (by omega),(mq _ _ _).same (iy g (al _ _)) (by omega),br _ _ _ _ _ _ d⟩
theorem Fw(h:W.heap[y]?=some (.cells #[.int .i64 1,.int .i64 1,.int .i64 1] 3 (0,0))):Q.Ir W (some ⟨y,0,none⟩) [1,1,1]:=.inr ⟨y,0,rfl,λi a=>by
 have:i=0\/i=1\/i=2:=by simp at a;omega
 rcases this with rfl|rfl|rfl<;>(rw[am _ _ _ _ _ _ h];rfl)⟩
theorem tP(h:P.pg=qd B):P.items.length=B.length:=by
 have e:=bf (λg:Pg=>g.items.length) h
 simpa[Pv.pg,qd] using e
theorem FE{A B C:Pv}(h:W.heap[y]?=some (.cells #[.int .i64 1,.int .i64 A.kind,.int .i64 A.level,.slice A.aI A.items.length A.cI,.slice A.aD A.data.length A.cD,.int .i64 A.next,.int .i64 2,.int .i64 B.kind,.int .i64 B.level,.slice B.aI B.items.length B.cI,.slice B.aD B.data.length B.cD,.int .i64 B.next,.int .i64 3,.int .i64 C.kind,.int .i64 C.level,.slice C.aI C.items.length C.cI,.slice C.aD C.data.length C.cD,.int .i64 C.next] 91 (0,0)))(d:Pi W A)(e:Pi W B)(f:Pi W C):Nm W (some ⟨y,0,none⟩) [(1,A),(2,B),(3,C)]:=by
 refine⟨λj g=>⟨y,0,rfl,λk u hk=>?_⟩,λx i=>?_⟩
 . rw[am _ _ _ _ _ _ h]
   have l:k<6:=by
    have:=(bE.1 hk).1;exact a6 this (Nat.le_of_eq rfl)
   have a:j=0\/j=1\/j=2:=by simp at g;omega
   have c:k=0\/k=1\/k=2\/k=3\/k=4\/k=5:=by omega
   rcases a with rfl|rfl|rfl<;>rcases c with rfl|rfl|rfl|rfl|rfl|rfl<;>exact hk
 . have:x=(1,A)\/x=(2,B)\/x=(3,C):=by simpa using i
   rcases this with rfl|rfl|rfl
   . exact⟨d,ul⟩
   . exact⟨e,uB⟩
   . exact⟨f,(show N64 3 from⟨by decide,by decide⟩)⟩
theorem tI(w:World)(p:Addr)(v:Value):(w.setCell p v).heap.size=w.heap.size:=by simp
theorem Av{a:Option Addr}{c:Nat}{l:List Nat}(h:Rw w a c l)(f:0<l.length):(convert 37 9 (.slice a l.length c)).run prog w=.ok (.string (strOfNums (l.map λx:Nat=>(x:Int)))) w:=by
 obtain⟨g,rfl,_⟩:=h.addr2 f;refine run_convert_bytes_arg w 37 5 underlying37 underlying5 g 0 l.length c (l.map λx:Nat=>(x:Int)) (by simp) (λi d=>?_) 9 underlying9
 have e:(l.map λx:Nat=>(x:Int)).getD i 0=((l.getD i 0:Nat):Int):=by simp[d]
 rw[b9,e];exact h.cell d
theorem zr(w:World):Calls prog 8 #[] w λe L=>e=.returned (.bool true)/\Below w.heap.size w L:=by
 go_enter func8,ntmps8;go_upto_region 6 with fail
 obtain⟨W1,hW,hX,hC,hA,hB,br,aK⟩:=qU w (.cells #[.int .i64 2,.slice (some ⟨w.heap.size+1,0,none⟩) 3 3,.slice none 0 0,.slice none 0 0] 26) (.cells #[.int .i64 1,.int .i64 1,.int .i64 1] 3) (.cells #[.int .i64 1,.int .i64 0,.slice none 0 0,.slice none 0 0,.int .i64 0] 77) (.cells #[.int .i64 1,.int .i64 0,.slice none 0 0,.slice none 0 0,.int .i64 0] 77);rw[hW];clear hW;obtain⟨r,aP⟩:∃y,w.heap.size=y:=⟨_,rfl⟩;obtain⟨yc,aN⟩:∃y,r+1=y:=⟨_,rfl⟩;obtain⟨s,aL⟩:∃y,yc+1=y:=⟨_,rfl⟩;obtain⟨A,aM⟩:∃y,s+1=y:=⟨_,rfl⟩;have e2:r+2=s:=by omega
 have e3:r+3=A:=by omega
 simp only[aP,aN,aL,aM,e2,e3] at hX hC hA hB aK ⊢;have Z:Hid (w.heap.size=r/\r+1=yc/\yc+1=s/\s+1=A/\W1.heap.size=r+4):=⟨aP,aN,aL,aM,aK⟩;have HX:=gW hX;have HC:=gW hC;have HA:=gW hA;have HB:=gW hB;have H1:=gW br;clear aP aN aL aM hX hC hA hB br aK e2 e3;have G0:Hid (Grp W1 W1 s ⟨1,0,none,0,[],none,0,[],0⟩ (lowB.take 0)):=gW (Grp.start HA.o);go_wp2_with fail
 go_loopw [6] (λvi wx=>∃(k:Nat)(P:Pv),k<=4/\vi=.int .i64 (k:Int)/\Grp W1 wx s P (lowB.take k)) (λvi _=>4-(intOf vi).toNat)
 case atStart=>exact⟨0,_,an _,rfl,G0.o⟩
 case round=>
  clear G0;obtain⟨k,P,hk,rfl,E⟩:=hrel;have N:=gW E;have R:P.items.length=k:=by rw[E.len];simp[lowB];omega
  have ag:=gW R;by_cases aI:k<4
  . have bJ:(k:Int)<(4:Int):=by omega
    have af:Hid (wr.heap[s]?=some (.cells #[.int .i64 P.kind,.int .i64 P.level,.slice P.aI k P.cI,.slice P.aD P.data.length P.cD,.int .i64 P.next] 77 (0,0))):=by rw[<-R];exact E.box
    obtain⟨_,_,c2,_⟩:=iI af.o;have JG:=gW (λ(W:World)(hb:Below wr.heap.size wr W)=>(show Q.Gw 89 4 W P.aI P.cI k (Jc P.items) from R▸(E.pn.it.keep hb)))
    have NI:=gW (λ(z:Nat)(O:Q.InA P.aI z)(e:z=s)=>(by obtain⟨bB,O,e2⟩:=O;exact E.pn.it.nty E.box (by decide) O (e2.trans e):False))
    clear E R;go_upto_region 9 with fail
    refine bA (S:=λ_=>True) (by kernel_rfl) trivial (λhHeld=>?_)
    refine tkd 0 2 3 6 ?_;refine tkd 7 9 10 4 ?_;refine tkb 8 11 ?_;try simp only[pt]
    obtain⟨x,hx⟩:∃x:Nat,((ByteArray.mk #[97,99,101,103])[k]'(by show k<4;exact aI)).toNat=x:=⟨_,rfl⟩
    simp only[hx]
    have TK:Hid (lowB.take (k+1)=lowB.take k++[x]/\x<256):=by
     have:k=0\/k=1\/k=2\/k=3:=by omega
     rcases this with rfl|rfl|rfl|rfl<;>(rw[<-hx];exact⟨by kernel_rfl,UInt8.toNat_lt _⟩)
    clear hx;have ck:=((al wr (.cells #[.int .u8 (x:Int)] 5)).cell (p:=⟨s,2,none⟩) (block_lt_of_cell c2)).trans c2;have cv:=((al wr (.cells #[.int .u8 (x:Int),.int .u8 (x:Int)] 5)).cell (p:=⟨s,2,none⟩) (block_lt_of_cell c2)).trans c2;have ab:=((al (wr.alloc (.cells #[.int .u8 (x:Int)] 5)) (.cells #[.int .u8 (x:Int),.int .u8 (x:Int)] 5)).cell (p:=⟨s,2,none⟩) (block_lt_of_cell ck)).trans ck;have ac:=((al (wr.alloc (.cells #[.int .u8 (x:Int),.int .u8 (x:Int)] 5)) (.cells #[.int .u8 (x:Int)] 5)).cell (p:=⟨s,2,none⟩) (block_lt_of_cell cv)).trans cv;have aD:=((al ((wr.alloc (.cells #[.int .u8 (x:Int)] 5)).alloc (.cells #[.int .u8 (x:Int),.int .u8 (x:Int)] 5)) (.cells #[.slice (some ⟨wr.heap.size,0,none⟩) 1 1,.slice (some ⟨wr.heap.size+1,0,none⟩) 2 2,.int .i64 0,.int .i64 2] 89)).cell (p:=⟨s,2,none⟩) (block_lt_of_cell ab)).trans ab;have aE:=((al ((wr.alloc (.cells #[.int .u8 (x:Int),.int .u8 (x:Int)] 5)).alloc (.cells #[.int .u8 (x:Int)] 5)) (.cells #[.slice (some ⟨wr.heap.size+1,0,none⟩) 1 1,.slice (some ⟨wr.heap.size,0,none⟩) 2 2,.int .i64 0,.int .i64 2] 89)).cell (p:=⟨s,2,none⟩) (block_lt_of_cell ac)).trans ac;refine t3 1 5 12 (λK a=>?p1) (λK a=>?p2) (λK a=>?p3)
    all_goals (go_simp;refine a.o _ _ trivial (λhHeld=>?_);clear a K;try simp only[pt])
    case' p1=>refine t2 5 12 (λK a=>?p4) (λK a=>?p5)
    case' p2=>refine t2 1 12 (λK a=>?p6) (λK a=>?p7)
    case' p3=>refine t2 1 5 (λK a=>?p8) (λK a=>?p9)
    all_goals (go_simp;refine a.o _ _ trivial (λhHeld=>?_);clear a K;try simp only[pt])
    case' p4=>refine tw 12 λK a=>?_
    case' p5=>refine tw 5 λK a=>?_
    case' p6=>refine tw 12 λK a=>?_
    case' p8=>refine tw 5 λK a=>?_
    case' p7=>(refine tk 13 ?_;refine t2 1 14 (λK a=>?p10) (λK a=>?p11))
    case' p9=>(refine tk 13 ?_;refine t2 1 14 (λK a=>?p12) (λK a=>?p13))
    all_goals (go_simp;refine a.o _ _ trivial (λhHeld=>?_);clear a K;try simp only[pt])
    case' p4=>(refine tk 13 ?_;refine tw 14 λK a=>?_)
    case' p5=>(refine tk 13 ?_;refine tw 14 λK a=>?_)
    case' p6=>(refine tk 13 ?_;refine tw 14 λK a=>?_)
    case' p8=>(refine tk 13 ?_;refine tw 14 λK a=>?_)
    case' p10=>refine tw 14 λK a=>?_
    case' p11=>refine tw 1 λK a=>?_
    case' p12=>refine tw 14 λK a=>?_
    case' p13=>refine tw 1 λK a=>?_
    all_goals
     go_simp;clear c2 ck cv ab ac aD aE;first
     |(obtain⟨V5,F⟩:∃aa,(((wr.alloc (.cells #[.int .u8 (x:Int)] 5)).alloc (.cells #[.int .u8 (x:Int),.int .u8 (x:Int)] 5)).alloc (.cells #[.slice (some ⟨wr.heap.size,0,none⟩) 1 1,.slice (some ⟨wr.heap.size+1,0,none⟩) 2 2,.int .i64 0,.int .i64 2] 89)).drew=aa:=⟨_,rfl⟩
       have v:=gW (show Io wr (((wr.alloc (.cells #[.int .u8 (x:Int)] 5)).alloc (.cells #[.int .u8 (x:Int),.int .u8 (x:Int)] 5)).alloc (.cells #[.slice (some ⟨wr.heap.size,0,none⟩) 1 1,.slice (some ⟨wr.heap.size+1,0,none⟩) 2 2,.int .i64 0,.int .i64 2] 89)).drew (jC wr.heap.size (wr.heap.size+1) x) from(zY wr x TK.o.2).keep ((al ((wr.alloc (.cells #[.int .u8 (x:Int)] 5)).alloc (.cells #[.int .u8 (x:Int),.int .u8 (x:Int)] 5)) (.cells #[.slice (some ⟨wr.heap.size,0,none⟩) 1 1,.slice (some ⟨wr.heap.size+1,0,none⟩) 2 2,.int .i64 0,.int .i64 2] 89)).drew))
       have G:=gW (show ∀j u,(jC wr.heap.size (wr.heap.size+1) x).cs.toList[j]?=some u->(((wr.alloc (.cells #[.int .u8 (x:Int)] 5)).alloc (.cells #[.int .u8 (x:Int),.int .u8 (x:Int)] 5)).alloc (.cells #[.slice (some ⟨wr.heap.size,0,none⟩) 1 1,.slice (some ⟨wr.heap.size+1,0,none⟩) 2 2,.int .i64 0,.int .i64 2] 89)).drew.cell? ((⟨wr.heap.size+1+1,0,none⟩:Addr).add j)=some u from ma ((wr.alloc (.cells #[.int .u8 (x:Int)] 5)).alloc (.cells #[.int .u8 (x:Int),.int .u8 (x:Int)] 5)) (jC wr.heap.size (wr.heap.size+1) x) (wr.heap.size+1+1) (by simp only[size_alloc]))
       obtain⟨gk,T⟩:∃g,wr.heap.size=g:=⟨_,rfl⟩;obtain⟨q,X⟩:∃g,gk+1=g:=⟨_,rfl⟩;obtain⟨gi,Y⟩:∃g,q+1=g:=⟨_,rfl⟩;simp only[F];simp only[F] at v G;simp only[T,X,Y] at v G ⊢;clear F T X Y)
     |(obtain⟨V5,F⟩:∃aa,(((wr.alloc (.cells #[.int .u8 (x:Int),.int .u8 (x:Int)] 5)).alloc (.cells #[.int .u8 (x:Int)] 5)).alloc (.cells #[.slice (some ⟨wr.heap.size+1,0,none⟩) 1 1,.slice (some ⟨wr.heap.size,0,none⟩) 2 2,.int .i64 0,.int .i64 2] 89)).drew=aa:=⟨_,rfl⟩
       have v:=gW (show Io wr (((wr.alloc (.cells #[.int .u8 (x:Int),.int .u8 (x:Int)] 5)).alloc (.cells #[.int .u8 (x:Int)] 5)).alloc (.cells #[.slice (some ⟨wr.heap.size+1,0,none⟩) 1 1,.slice (some ⟨wr.heap.size,0,none⟩) 2 2,.int .i64 0,.int .i64 2] 89)).drew (jC (wr.heap.size+1) wr.heap.size x) from(As wr x TK.o.2).keep ((al ((wr.alloc (.cells #[.int .u8 (x:Int),.int .u8 (x:Int)] 5)).alloc (.cells #[.int .u8 (x:Int)] 5)) (.cells #[.slice (some ⟨wr.heap.size+1,0,none⟩) 1 1,.slice (some ⟨wr.heap.size,0,none⟩) 2 2,.int .i64 0,.int .i64 2] 89)).drew))
       have G:=gW (show ∀j u,(jC (wr.heap.size+1) wr.heap.size x).cs.toList[j]?=some u->(((wr.alloc (.cells #[.int .u8 (x:Int),.int .u8 (x:Int)] 5)).alloc (.cells #[.int .u8 (x:Int)] 5)).alloc (.cells #[.slice (some ⟨wr.heap.size+1,0,none⟩) 1 1,.slice (some ⟨wr.heap.size,0,none⟩) 2 2,.int .i64 0,.int .i64 2] 89)).drew.cell? ((⟨wr.heap.size+1+1,0,none⟩:Addr).add j)=some u from ma ((wr.alloc (.cells #[.int .u8 (x:Int),.int .u8 (x:Int)] 5)).alloc (.cells #[.int .u8 (x:Int)] 5)) (jC (wr.heap.size+1) wr.heap.size x) (wr.heap.size+1+1) (by simp only[size_alloc]))
       obtain⟨q,T⟩:∃g,wr.heap.size=g:=⟨_,rfl⟩;obtain⟨gk,X⟩:∃g,q+1=g:=⟨_,rfl⟩;obtain⟨gi,Y⟩:∃g,gk+1=g:=⟨_,rfl⟩;simp only[F];simp only[F] at v G;simp only[T,X,Y] at v G ⊢;clear F T X Y)
    all_goals
     refine a.o _ _ trivial (λhHeld=>?_)
     clear a K;refine tw 15 λK a=>?_
     refine mV underlying75 mc rfl (by decide) rfl _ _ rfl P.aI k P.cI (Jc P.items) (by first|(simp[Act.eval];done)|simp[Act.eval,Act.put]) (JG.o _ v.o.k.b) ⟨gi,0,none⟩ 1 (jC gk q x).cs.toList (by first|(simp[Act.eval];done)|simp[Act.eval,Act.put]) rfl G.o wO (by unfold maxLen;omega) (by omega) ?_
     intro g5 c5 w5 aj ak ad;have z5:w5.heap[s]?=some (.cells #[.int .i64 P.kind,.int .i64 P.level,.slice P.aI k P.cI,.slice P.aD P.data.length P.cD,.int .i64 P.next] 77 (0,0)):=ad.same (ij v.o.k.b af.o) (λO=>NI.o _ O rfl)
     obtain⟨_,_,z2,_⟩:=iI z5;have f2:w5.frozen? ⟨s,2,none⟩=false:=by simp[World.frozen?,z5]
     have ay:=gW (N.o.push (x:=x) ag.o v.o rfl aj ak ad);refine a.o _ _ trivial (λhHeld=>?_)
     clear a K aj ak ad z5;refine tk 16 ?_;refine tw 17 λK a=>?_
     go_simp;refine a.o _ _ trivial (λhHeld=>?_)
     clear a K z2 f2 hHeld;refine td ?_;go_wp2_with fail
     go_roundw
     case rel=>exact⟨k+1,_,by omega,by first|(go_num;done)|exact bf (Value.int IntKind.i64) (by omega),by rw[TK.o.1];exact ay.o⟩
     case measure=>(simp[intOf];omega)
  . obtain rfl:k=4:=by omega
    have GA:=gW (show Grp W1 wr s P lowB from N.o)
    have X2:=gW (N.o.but.same HX.o (λe=>by have:=Z.o;omega))
    have C2:=gW (N.o.but.same HC.o (λe=>by have:=Z.o;omega))
    have B2:=gW (N.o.but.same HB.o (λe=>by have:=Z.o;omega))
    have L2:=gW (((But.ofBelow (S:=λk=>k=s) H1.o).trans N.o.but (λ_ _ e=>e)).below (λk hk e=>by have e:k=s:=e;have:=Z.o;omega))
    clear N ag R hk HX HC HA HB H1;generalize P=f at *;generalize wr=W2 at *;have G1:Hid (Grp W2 W2 A ⟨1,0,none,0,[],none,0,[],0⟩ (DI.take 0)):=gW (Grp.start B2.o);simp only[show((4:Nat):Int)=4 from rfl]
    go_wp2_with fail
    go_loopw [7] (λvi wx=>∃(k:Nat)(P:Pv),k<=5/\vi=.int .i64 (k:Int)/\Grp W2 wx A P (DI.take k)) (λvi _=>5-(intOf vi).toNat)
    case atStart=>exact⟨0,_,an _,rfl,G1.o⟩
    case round=>
     clear G1;obtain⟨k,P,hk,rfl,E⟩:=hrel;have N:=gW E;have R:P.items.length=k:=by rw[E.len];simp[DI];omega
     have ag:=gW R;by_cases aI:k<5
     . have bJ:(k:Int)<(5:Int):=by omega
       have af:Hid (wr.heap[A]?=some (.cells #[.int .i64 P.kind,.int .i64 P.level,.slice P.aI k P.cI,.slice P.aD P.data.length P.cD,.int .i64 P.next] 77 (0,0))):=by rw[<-R];exact E.box
       obtain⟨_,_,c2,_⟩:=iI af.o;have JG:=gW (λ(W:World)(hb:Below wr.heap.size wr W)=>(show Q.Gw 89 4 W P.aI P.cI k (Jc P.items) from R▸(E.pn.it.keep hb)))
       have NI:=gW (λ(z:Nat)(O:Q.InA P.aI z)(e:z=A)=>(by obtain⟨bB,O,e2⟩:=O;exact E.pn.it.nty E.box (by decide) O (e2.trans e):False))
       clear E R;go_upto_region 13 with fail
       refine bA (S:=λ_=>True) (by kernel_rfl) trivial (λhHeld=>?_)
       refine tkd 0 2 3 6 ?_;refine tkd 7 9 10 4 ?_;refine tkb 8 11 ?_;try simp only[pt]
       obtain⟨x,hx⟩:∃x:Nat,((ByteArray.mk #[109,112,114,116,118])[k]'(by show k<5;exact aI)).toNat=x:=⟨_,rfl⟩
       simp only[hx]
       have TK:Hid (DI.take (k+1)=DI.take k++[x]/\x<256):=by
        have:k=0\/k=1\/k=2\/k=3\/k=4:=by omega
        rcases this with rfl|rfl|rfl|rfl|rfl<;>(rw[<-hx];exact⟨by kernel_rfl,UInt8.toNat_lt _⟩)
       clear hx;have ck:=((al wr (.cells #[.int .u8 (x:Int)] 5)).cell (p:=⟨A,2,none⟩) (block_lt_of_cell c2)).trans c2;have cv:=((al wr (.cells #[.int .u8 (x:Int),.int .u8 (x:Int)] 5)).cell (p:=⟨A,2,none⟩) (block_lt_of_cell c2)).trans c2;have ab:=((al (wr.alloc (.cells #[.int .u8 (x:Int)] 5)) (.cells #[.int .u8 (x:Int),.int .u8 (x:Int)] 5)).cell (p:=⟨A,2,none⟩) (block_lt_of_cell ck)).trans ck;have ac:=((al (wr.alloc (.cells #[.int .u8 (x:Int),.int .u8 (x:Int)] 5)) (.cells #[.int .u8 (x:Int)] 5)).cell (p:=⟨A,2,none⟩) (block_lt_of_cell cv)).trans cv;have aD:=((al ((wr.alloc (.cells #[.int .u8 (x:Int)] 5)).alloc (.cells #[.int .u8 (x:Int),.int .u8 (x:Int)] 5)) (.cells #[.slice (some ⟨wr.heap.size,0,none⟩) 1 1,.slice (some ⟨wr.heap.size+1,0,none⟩) 2 2,.int .i64 0,.int .i64 2] 89)).cell (p:=⟨A,2,none⟩) (block_lt_of_cell ab)).trans ab;have aE:=((al ((wr.alloc (.cells #[.int .u8 (x:Int),.int .u8 (x:Int)] 5)).alloc (.cells #[.int .u8 (x:Int)] 5)) (.cells #[.slice (some ⟨wr.heap.size+1,0,none⟩) 1 1,.slice (some ⟨wr.heap.size,0,none⟩) 2 2,.int .i64 0,.int .i64 2] 89)).cell (p:=⟨A,2,none⟩) (block_lt_of_cell ac)).trans ac;refine t3 1 5 12 (λK a=>?q1) (λK a=>?q2) (λK a=>?q3)
       all_goals (go_simp;refine a.o _ _ trivial (λhHeld=>?_);clear a K;try simp only[pt])
       case' q1=>refine t2 5 12 (λK a=>?q4) (λK a=>?q5)
       case' q2=>refine t2 1 12 (λK a=>?q6) (λK a=>?q7)
       case' q3=>refine t2 1 5 (λK a=>?q8) (λK a=>?q9)
       all_goals (go_simp;refine a.o _ _ trivial (λhHeld=>?_);clear a K;try simp only[pt])
       case' q4=>refine tw 12 λK a=>?_
       case' q5=>refine tw 5 λK a=>?_
       case' q6=>refine tw 12 λK a=>?_
       case' q8=>refine tw 5 λK a=>?_
       case' q7=>(refine tk 13 ?_;refine t2 1 14 (λK a=>?q10) (λK a=>?q11))
       case' q9=>(refine tk 13 ?_;refine t2 1 14 (λK a=>?q12) (λK a=>?q13))
       all_goals (go_simp;refine a.o _ _ trivial (λhHeld=>?_);clear a K;try simp only[pt])
       case' q4=>(refine tk 13 ?_;refine tw 14 λK a=>?_)
       case' q5=>(refine tk 13 ?_;refine tw 14 λK a=>?_)
       case' q6=>(refine tk 13 ?_;refine tw 14 λK a=>?_)
       case' q8=>(refine tk 13 ?_;refine tw 14 λK a=>?_)
       case' q10=>refine tw 14 λK a=>?_
       case' q11=>refine tw 1 λK a=>?_
       case' q12=>refine tw 14 λK a=>?_
       case' q13=>refine tw 1 λK a=>?_
       all_goals
        go_simp;clear c2 ck cv ab ac aD aE;first
        |(obtain⟨V5,F⟩:∃aa,(((wr.alloc (.cells #[.int .u8 (x:Int)] 5)).alloc (.cells #[.int .u8 (x:Int),.int .u8 (x:Int)] 5)).alloc (.cells #[.slice (some ⟨wr.heap.size,0,none⟩) 1 1,.slice (some ⟨wr.heap.size+1,0,none⟩) 2 2,.int .i64 0,.int .i64 2] 89)).drew=aa:=⟨_,rfl⟩
          have v:=gW (show Io wr (((wr.alloc (.cells #[.int .u8 (x:Int)] 5)).alloc (.cells #[.int .u8 (x:Int),.int .u8 (x:Int)] 5)).alloc (.cells #[.slice (some ⟨wr.heap.size,0,none⟩) 1 1,.slice (some ⟨wr.heap.size+1,0,none⟩) 2 2,.int .i64 0,.int .i64 2] 89)).drew (jC wr.heap.size (wr.heap.size+1) x) from(zY wr x TK.o.2).keep ((al ((wr.alloc (.cells #[.int .u8 (x:Int)] 5)).alloc (.cells #[.int .u8 (x:Int),.int .u8 (x:Int)] 5)) (.cells #[.slice (some ⟨wr.heap.size,0,none⟩) 1 1,.slice (some ⟨wr.heap.size+1,0,none⟩) 2 2,.int .i64 0,.int .i64 2] 89)).drew))
          have G:=gW (show ∀j u,(jC wr.heap.size (wr.heap.size+1) x).cs.toList[j]?=some u->(((wr.alloc (.cells #[.int .u8 (x:Int)] 5)).alloc (.cells #[.int .u8 (x:Int),.int .u8 (x:Int)] 5)).alloc (.cells #[.slice (some ⟨wr.heap.size,0,none⟩) 1 1,.slice (some ⟨wr.heap.size+1,0,none⟩) 2 2,.int .i64 0,.int .i64 2] 89)).drew.cell? ((⟨wr.heap.size+1+1,0,none⟩:Addr).add j)=some u from ma ((wr.alloc (.cells #[.int .u8 (x:Int)] 5)).alloc (.cells #[.int .u8 (x:Int),.int .u8 (x:Int)] 5)) (jC wr.heap.size (wr.heap.size+1) x) (wr.heap.size+1+1) (by simp only[size_alloc]))
          obtain⟨gk,T⟩:∃g,wr.heap.size=g:=⟨_,rfl⟩;obtain⟨q,X⟩:∃g,gk+1=g:=⟨_,rfl⟩;obtain⟨gi,Y⟩:∃g,q+1=g:=⟨_,rfl⟩;simp only[F];simp only[F] at v G;simp only[T,X,Y] at v G ⊢;clear F T X Y)
        |(obtain⟨V5,F⟩:∃aa,(((wr.alloc (.cells #[.int .u8 (x:Int),.int .u8 (x:Int)] 5)).alloc (.cells #[.int .u8 (x:Int)] 5)).alloc (.cells #[.slice (some ⟨wr.heap.size+1,0,none⟩) 1 1,.slice (some ⟨wr.heap.size,0,none⟩) 2 2,.int .i64 0,.int .i64 2] 89)).drew=aa:=⟨_,rfl⟩
          have v:=gW (show Io wr (((wr.alloc (.cells #[.int .u8 (x:Int),.int .u8 (x:Int)] 5)).alloc (.cells #[.int .u8 (x:Int)] 5)).alloc (.cells #[.slice (some ⟨wr.heap.size+1,0,none⟩) 1 1,.slice (some ⟨wr.heap.size,0,none⟩) 2 2,.int .i64 0,.int .i64 2] 89)).drew (jC (wr.heap.size+1) wr.heap.size x) from(As wr x TK.o.2).keep ((al ((wr.alloc (.cells #[.int .u8 (x:Int),.int .u8 (x:Int)] 5)).alloc (.cells #[.int .u8 (x:Int)] 5)) (.cells #[.slice (some ⟨wr.heap.size+1,0,none⟩) 1 1,.slice (some ⟨wr.heap.size,0,none⟩) 2 2,.int .i64 0,.int .i64 2] 89)).drew))
          have G:=gW (show ∀j u,(jC (wr.heap.size+1) wr.heap.size x).cs.toList[j]?=some u->(((wr.alloc (.cells #[.int .u8 (x:Int),.int .u8 (x:Int)] 5)).alloc (.cells #[.int .u8 (x:Int)] 5)).alloc (.cells #[.slice (some ⟨wr.heap.size+1,0,none⟩) 1 1,.slice (some ⟨wr.heap.size,0,none⟩) 2 2,.int .i64 0,.int .i64 2] 89)).drew.cell? ((⟨wr.heap.size+1+1,0,none⟩:Addr).add j)=some u from ma ((wr.alloc (.cells #[.int .u8 (x:Int),.int .u8 (x:Int)] 5)).alloc (.cells #[.int .u8 (x:Int)] 5)) (jC (wr.heap.size+1) wr.heap.size x) (wr.heap.size+1+1) (by simp only[size_alloc]))
          obtain⟨q,T⟩:∃g,wr.heap.size=g:=⟨_,rfl⟩;obtain⟨gk,X⟩:∃g,q+1=g:=⟨_,rfl⟩;obtain⟨gi,Y⟩:∃g,gk+1=g:=⟨_,rfl⟩;simp only[F];simp only[F] at v G;simp only[T,X,Y] at v G ⊢;clear F T X Y)
       all_goals
        refine a.o _ _ trivial (λhHeld=>?_)
        clear a K;refine tw 15 λK a=>?_
        refine mV underlying75 mc rfl (by decide) rfl _ _ rfl P.aI k P.cI (Jc P.items) (by first|(simp[Act.eval];done)|simp[Act.eval,Act.put]) (JG.o _ v.o.k.b) ⟨gi,0,none⟩ 1 (jC gk q x).cs.toList (by first|(simp[Act.eval];done)|simp[Act.eval,Act.put]) rfl G.o wO (by unfold maxLen;omega) (by omega) ?_
        intro g5 c5 w5 aj ak ad;have z5:w5.heap[A]?=some (.cells #[.int .i64 P.kind,.int .i64 P.level,.slice P.aI k P.cI,.slice P.aD P.data.length P.cD,.int .i64 P.next] 77 (0,0)):=ad.same (ij v.o.k.b af.o) (λO=>NI.o _ O rfl)
        obtain⟨_,_,z2,_⟩:=iI z5;have f2:w5.frozen? ⟨A,2,none⟩=false:=by simp[World.frozen?,z5]
        have ay:=gW (N.o.push (x:=x) ag.o v.o rfl aj ak ad);refine a.o _ _ trivial (λhHeld=>?_)
        clear a K aj ak ad z5;refine tk 16 ?_;refine tw 17 λK a=>?_
        go_simp;refine a.o _ _ trivial (λhHeld=>?_)
        clear a K z2 f2 hHeld;refine td ?_;go_wp2_with fail
        go_roundw
        case rel=>exact⟨k+1,_,by omega,by first|(go_num;done)|exact bf (Value.int IntKind.i64) (by omega),by rw[TK.o.1];exact ay.o⟩
        case measure=>(simp[intOf];omega)
     . obtain rfl:k=5:=by omega
       have c:=gW (show Grp W2 wr A P DI from N.o)
       clear N ag R hk;have BA:=gW (c.o.but.same GA.o.box (λe=>by have:=Z.o;omega))
       have a8:=gW (GA.o.pn.but c.o.but (λk e=>⟨77,(⟨1,0,none,0,[],none,0,[],0⟩:Pv).cs,by rw[e];exact B2.o,by decide,by decide⟩))
       have X3:=gW (c.o.but.same X2.o (λe=>by have:=Z.o;omega))
       have C3:=gW (c.o.but.same C2.o (λe=>by have:=Z.o;omega))
       have L3:=gW (((But.ofBelow (S:=λk=>k=A) L2.o).trans c.o.but (λ_ _ e=>e)).below (λk hk e=>by have e:k=A:=e;have:=Z.o;omega))
       generalize P=i at *;generalize wr=I at*
       have bp:∀(W:World)(C:Array Value)(aq ap g:Nat),W.heap.size=g->(convert 37 37 (.slice (some ⟨g,0,none⟩) aq ap)).run prog (W.alloc (.cells C 5))=.ok (.slice (some ⟨g,0,none⟩) aq ap) (W.alloc (.cells C 5 (C.size,C.size+1))):=by
        intro W C aq ap g hg;subst hg;exact Lib.run_convert_bytes_const W 37 5 C aq ap underlying37 underlying5
       have au:=gW bp;clear bp;obtain⟨J,HE,E3,t,F1,F2,F3⟩:=lv3w I #[.int .u8 109] #[.slice none 0 0,.slice none 0 0,.int .i64 1,.int .i64 0,.slice (some ⟨I.heap.size,0,none⟩) 1 1,.slice none 0 0,.int .i64 2,.int .i64 0] #[.int .i64 0,.int .i64 0,.slice none 0 0,.slice none 0 0,.int .i64 0] #[.int .i64 2,.int .i64 1,.slice (some ⟨I.heap.size+1,0,none⟩) 2 2,.slice none 0 0,.int .i64 0];have am:(convert 37 37 (.slice (some ⟨I.heap.size,0,none⟩) 1 1)).run prog (I.alloc (.cells #[.int .u8 109] 5))=.ok (.slice (some ⟨I.heap.size,0,none⟩) 1 1) (I.alloc (.cells #[.int .u8 109] 5 (1,2))):=au.o I #[.int .u8 109] 1 1 I.heap.size rfl;go_upto_region 15 with(first|(refine bz rfl 77 _ _ rfl (I.heap.size+1+1) _ rfl rfl 77 _ E3.o iD rfl (by simp[Value.oneCell']) ?_)|fail)
       rw[<-HE.o];have az:=F1;have ar:=F2;have XI:=F3.o;have X4:=iy X3.o t.o;have XA:=iy BA.o t.o;have XB:=iy c.o.box t.o;have C4:=gW (iy C3.o t.o);have L4:=gW (bt L3.o t.o);have ba:=gW (a8.o.keep t.o);have bd:=gW (c.o.pn.keep t.o);have EA:=gW GA.o.pg;have EB:=gW c.o.pg;clear HE E3 F1 F2 F3 am t GA c C3 L3 a8 BA X2 C2 B2 L2;generalize I.heap.size+1+1=yi at *;obtain⟨gK,aH⟩:∃g,I.heap.size=g:=⟨_,rfl⟩;obtain⟨gI,bq⟩:∃g,gK+1=g:=⟨_,rfl⟩;have GK:Hid (r<gK/\gK<gI):=⟨by rw[<-aH];exact(ae.1 X3.o).1,by omega⟩
       simp only[aH] at az ar XI;simp only[bq] at ar XI;clear aH bq;obtain⟨d,av⟩:∃p,oj gK gI=p:=⟨_,rfl⟩;have aW:=gW av;have EI:Hid (d.pg=livI):=by rw[<-av];rfl
       have VI:J.heap[yi]?=some (.cells #[.int .i64 d.kind,.int .i64 d.level,.slice d.aI d.items.length d.cI,.slice d.aD d.data.length d.cD,.int .i64 d.next] 77 (0,0)):=by rw[<-av];exact XI
       clear av XI X3;simp only[Pv.cs] at XA XB;obtain⟨a0,a1,a2,a3,a4⟩:=iI XA;obtain⟨b0,b1,b2,b3,b4⟩:=iI XB;obtain⟨i0,i1,i2,i3,i4⟩:=iI VI;obtain⟨x0,x1,x2,x3⟩:=jp X4;have fx:J.frozen? ⟨r,2,none⟩=false:=by simp[World.frozen?,X4]
       have M:=al J (.cells #[.int .i64 1,.int .i64 f.kind,.int .i64 f.level,.slice f.aI f.items.length f.cI,.slice f.aD f.data.length f.cD,.int .i64 f.next,.int .i64 2,.int .i64 i.kind,.int .i64 i.level,.slice i.aI i.items.length i.cI,.slice i.aD i.data.length i.cD,.int .i64 i.next,.int .i64 3,.int .i64 d.kind,.int .i64 d.level,.slice d.aI d.items.length d.cI,.slice d.aD d.data.length d.cD,.int .i64 d.next] 91);have bL:=(M.cell (p:=⟨r,2,none⟩) (block_lt_of_cell x2)).trans x2;have bl:=iy X4 M;have bH:(J.alloc (.cells #[.int .i64 1,.int .i64 f.kind,.int .i64 f.level,.slice f.aI f.items.length f.cI,.slice f.aD f.data.length f.cD,.int .i64 f.next,.int .i64 2,.int .i64 i.kind,.int .i64 i.level,.slice i.aI i.items.length i.cI,.slice i.aD i.data.length i.cD,.int .i64 i.next,.int .i64 3,.int .i64 d.kind,.int .i64 d.level,.slice d.aI d.items.length d.cI,.slice d.aD d.data.length d.cD,.int .i64 d.next] 91)).frozen? ⟨r,2,none⟩=false:=by simp[World.frozen?,bl]
       have bM:=(ae.1 X4).1;go_upto_region 16 with fail
       clear a0 a1 a2 a3 a4 b0 b1 b2 b3 b4 i0 i1 i2 i3 i4 x0 x1 x2 x3 fx bL bH XA XB VI bl M;obtain⟨l,aO⟩:∃y,J.heap.size=y:=⟨_,rfl⟩;have BS:But (λk=>k=r) J (J.setCell ⟨r,2,none⟩ (.slice (some ⟨l,0,none⟩) 3 3)):=(But.refl (λk=>k=r) J).setCell (p:=⟨r,2,none⟩) (λ_=>rfl) _
       have ao:(J.setCell ⟨r,2,none⟩ (.slice (some ⟨l,0,none⟩) 3 3)).heap.size=l:=by rw[<-aO];exact tI _ _ _
       have X5:(J.setCell ⟨r,2,none⟩ (.slice (some ⟨l,0,none⟩) 3 3)).heap[r]?=some (.cells #[.int .i64 2,.slice (some ⟨yc,0,none⟩) 3 3,.slice (some ⟨l,0,none⟩) 3 3,.slice none 0 0] 26 (0,0)):=by
        rw[aS _ _ _ _ _ _ X4];rfl
       have ty:∀k:Nat,k=r->∃(aw:TypeId)(cs:Array Value),Bx J aw k cs/\aw≠5/\aw≠89:=λk e=>⟨26,_,e▸X4,by decide,by decide⟩
       have bb:=gW (ba.o.but BS ty);have be:=gW (bd.o.but BS ty);have C5:=gW (BS.same C4.o (show ¬(yc=r) by have:=Z.o;omega))
       have bi:=gW (aW.o▸CU (BS.same az (show ¬(gK=r) by have:=GK.o;omega)) (BS.same ar (show ¬(gI=r) by have:=GK.o;omega)))
       have L5:=gW (((But.ofBelow (S:=λk=>k=r) L4.o).trans BS (λ_ _ e=>e)).below (λk hk e=>by have e:k=r:=e;have:=Z.o;omega))
       simp only[aO];clear ba bd C4 az ar L4 BS X4 ty bM aO;generalize J.setCell ⟨r,2,none⟩ (.slice (some ⟨l,0,none⟩) 3 3)=V5 at *;have M:=al V5 (.cells #[.int .i64 1,.int .i64 f.kind,.int .i64 f.level,.slice f.aI f.items.length f.cI,.slice f.aD f.data.length f.cD,.int .i64 f.next,.int .i64 2,.int .i64 i.kind,.int .i64 i.level,.slice i.aI i.items.length i.cI,.slice i.aD i.data.length i.cD,.int .i64 i.next,.int .i64 3,.int .i64 d.kind,.int .i64 d.level,.slice d.aI d.items.length d.cI,.slice d.aD d.data.length d.cD,.int .i64 d.next] 91);have N6:=aZ V5 (.cells #[.int .i64 1,.int .i64 f.kind,.int .i64 f.level,.slice f.aI f.items.length f.cI,.slice f.aD f.data.length f.cD,.int .i64 f.next,.int .i64 2,.int .i64 i.kind,.int .i64 i.level,.slice i.aI i.items.length i.cI,.slice i.aD i.data.length i.cD,.int .i64 i.next,.int .i64 3,.int .i64 d.kind,.int .i64 d.level,.slice d.aI d.items.length d.cI,.slice d.aD d.data.length d.cD,.int .i64 d.next] 91);rw[ao] at N6;have X6:=iy X5 M;have bc:=gW (bb.o.keep M);have bh:=gW (be.o.keep M);have bj:=gW (bi.o.keep M);have C6:=gW (iy C5.o M);have L6:=gW (bt L5.o M);clear bb be bi C5 L5 M X5 ao;generalize (V5.alloc (.cells #[.int .i64 1,.int .i64 f.kind,.int .i64 f.level,.slice f.aI f.items.length f.cI,.slice f.aD f.data.length f.cD,.int .i64 f.next,.int .i64 2,.int .i64 i.kind,.int .i64 i.level,.slice i.aI i.items.length i.cI,.slice i.aD i.data.length i.cD,.int .i64 i.next,.int .i64 3,.int .i64 d.kind,.int .i64 d.level,.slice d.aI d.items.length d.cI,.slice d.aD d.data.length d.cD,.int .i64 d.next] 91))=W5 at*
       have aX:Hid (Imi W5 ⟨2,some ⟨yc,0,none⟩,3,[1,1,1],some ⟨l,0,none⟩,3,[(1,f),(2,i),(3,d)],none,0,[]⟩):=
        ⟨Fw C6.o,FE N6 (bc.o.pi (by rw[tP EA.o];decide)) (bh.o.pi (by rw[tP EB.o];decide)) bj.o,λj hj=>absurd hj (dz _),(show 3<=1000000 by decide),(show 0<=1048576 by decide)⟩
       have NE:Hid (nmg [((1:Int),f),(2,i),(3,d)]=xn):=by
        show[((1:Int),f.pg),(2,i.pg),(3,d.pg)]=xn;rw[EA.o,EB.o,EI.o];rfl
       have LD:Hid (Calls prog 7 #[.agg #[.int .i64 2,.slice (some ⟨yc,0,none⟩) 3 3,.slice (some ⟨l,0,none⟩) 3 3,.slice none 0 0]] W5 (λe L=>qS W5 L e ⟨2,some ⟨yc,0,none⟩,3,[1,1,1],some ⟨l,0,none⟩,3,[(1,f),(2,i),(3,d)],none,0,[]⟩)):=qQ W5 _ aX.o
       clear aX bc bh C6 bj N6 EA EB EI aW GK;obtain⟨x0,x1,x2,x3⟩:=jp X6;go_wp2_with fail
       refine LD.o.mono ?_;rintro _ w6 (⟨bK,_⟩|⟨h0,_,b,rb,S,pb,mb,pc,U,D,bu,rfl,hL⟩)
       . exact absurd ⟨by show(iu 2 [1,1,1] (nmg [((1:Int),f),(2,i),(3,d)])).1=0;rw[NE.o];exact FQ,(show 3<=4096 by decide)⟩ bK
       have hL:Ld W5 w6 b rb S pb mb pc U D bu (iu 2 [1,1,1] (nmg [((1:Int),f),(2,i),(3,d)])).2:=hL;rw[NE.o] at hL;have LX:Hid (Ld W5 w6 b rb S pb mb pc U D bu j7):=hL;have B6:=gW (bt L6.o hL.bl);clear hL h0 x0 x1 x2 x3 X6 LD NE L6;have RD:=gW (show iZ 52 (.pointer (some ⟨b,0,none⟩)) j7 (λk=>U k≠0) w6 from LX.o.rv▸LX.o.v.rdsx LX.o.s)
       have XL:=gW LX.o.v.xlt;have UP:=gW (show j5 j7 65536 from LX.o.rr▸nU LX.o.r)
       have ah:=gW LX.o.ok;clear LX;go_upto_region 20 with fail
       have X7:=gW (aZ w6 (.cells #[.int .i64 3,.int .i64 2,.int .i64 9] 34));have A7:=al w6 (.cells #[.int .i64 3,.int .i64 2,.int .i64 9] 34);have B7:=gW (bt B6.o A7);have aA:=gW (RD.o.keep A7);have bm:=gW λ(k:Nat)(hk:U k≠0)=>a6 (XL.o k hk) A7.size
       clear RD XL A7 B6;generalize w6.alloc (.cells #[.int .i64 3,.int .i64 2,.int .i64 9] 34)=H at *;obtain⟨yt,bs⟩:∃y,w6.heap.size=y:=⟨_,rfl⟩;simp only[bs] at X7 ⊢;clear bs;have am:(convert 37 37 (.slice (some ⟨H.heap.size,0,none⟩) 1 1)).run prog (H.alloc (.cells #[.int .u8 112] 5))=.ok (.slice (some ⟨H.heap.size,0,none⟩) 1 1) (H.alloc (.cells #[.int .u8 112] 5 (1,2))):=au.o H #[.int .u8 112] 1 1 H.heap.size rfl;have A8:=gW (al H (.cells #[.int .u8 112] 5 (1,2)))
       have aV:Hid (Calls prog 11 #[.pointer (some ⟨b,0,none⟩),.agg #[.int .i64 3,.int .i64 2,.int .i64 9],.slice (some ⟨H.heap.size,0,none⟩) 1 1] (H.alloc (.cells #[.int .u8 112] 5 (1,2))) (λe L=>uO (H.alloc (.cells #[.int .u8 112] 5 (1,2))) L e ([112,112],true,0))):=by
        have h:=wR (H.alloc (.cells #[.int .u8 112] 5 (1,2))) b j7 ah.o (λk=>U k≠0) (aA.o.keep A8.o) 3 9 2 (by decide) (some ⟨H.heap.size,0,none⟩) 1 [112] (o5 (by decide) (aZ H (.cells #[.int .u8 112] 5 (1,2))))
        rw[EY] at h;exact h
       obtain⟨t0,t1,t2⟩:=ia X7.o;go_wp2_with fail
       refine aV.o.mono ?_;rintro _ m ⟨a9,c9,rfl,aG,h8⟩;clear t0 t1 t2 am aV;have O9:=gW aG;have AB:=gW (bt A8.o aG.b);have B9:=gW (bt B7.o AB.o);have aB:=gW (aA.o.keep AB.o);have X9:=gW (iy X7.o AB.o);have aC:=gW λ(k:Nat)(hk:U k≠0)=>a6 (bm.o k hk) AB.o.size
       clear aG h8 A8 AB B7 aA X7 bm;go_upto_region 21 with fail
       have am:(convert 37 37 (.slice (some ⟨m.heap.size,0,none⟩) 1 1)).run prog (m.alloc (.cells #[.int .u8 101] 5))=.ok (.slice (some ⟨m.heap.size,0,none⟩) 1 1) (m.alloc (.cells #[.int .u8 101] 5 (1,2))):=au.o m #[.int .u8 101] 1 1 m.heap.size rfl;have bI:(convert 37 37 (.slice (some ⟨m.heap.size+1,0,none⟩) 1 1)).run prog ((m.alloc (.cells #[.int .u8 101] 5 (1,2))).alloc (.cells #[.int .u8 112] 5))=.ok (.slice (some ⟨m.heap.size+1,0,none⟩) 1 1) ((m.alloc (.cells #[.int .u8 101] 5 (1,2))).alloc (.cells #[.int .u8 112] 5 (1,2))):=au.o (m.alloc (.cells #[.int .u8 101] 5 (1,2))) #[.int .u8 112] 1 1 (m.heap.size+1) (size_alloc _ _);have aU:=gW (al m (.cells #[.int .u8 101] 5 (1,2)));have ax:=gW (al (m.alloc (.cells #[.int .u8 101] 5 (1,2))) (.cells #[.int .u8 112] 5 (1,2)));have bn:=aZ m (.cells #[.int .u8 101] 5 (1,2));have aF:=aZ (m.alloc (.cells #[.int .u8 101] 5 (1,2))) (.cells #[.int .u8 112] 5 (1,2));rw[size_alloc] at aF;have AA:=gW (bt aU.o ax.o);have ao:((m.alloc (.cells #[.int .u8 101] 5 (1,2))).alloc (.cells #[.int .u8 112] 5 (1,2))).heap.size=m.heap.size+2:=by rw[size_alloc,size_alloc]
       have aY:Hid (Calls prog 26 #[.pointer (some ⟨b,0,none⟩),.agg #[.int .i64 3,.int .i64 2,.int .i64 9],.agg #[.slice (some ⟨m.heap.size,0,none⟩) 1 1,.slice (some ⟨m.heap.size+1,0,none⟩) 1 1,.bool false]] ((m.alloc (.cells #[.int .u8 101] 5 (1,2))).alloc (.cells #[.int .u8 112] 5 (1,2))) (λe L=>Below ((m.alloc (.cells #[.int .u8 101] 5 (1,2))).alloc (.cells #[.int .u8 112] 5 (1,2))).heap.size ((m.alloc (.cells #[.int .u8 101] 5 (1,2))).alloc (.cells #[.int .u8 112] 5 (1,2))) L/\CoR ((m.alloc (.cells #[.int .u8 101] 5 (1,2))).alloc (.cells #[.int .u8 112] 5 (1,2))) L e ([([101],[101,101]),([103],[103,103]),([109],[109,109])],0))):=by
        have h:=Cz ((m.alloc (.cells #[.int .u8 101] 5 (1,2))).alloc (.cells #[.int .u8 112] 5 (1,2))) b j7 ah.o 65536 UP.o (ai _) (λk=>U k≠0) (aB.o.keep AA.o) (λk hk=>a6 (aC.o k hk) AA.o.size) 3 2 9 (by decide) (by decide) ⟨some ⟨m.heap.size,0,none⟩,1,[101],some ⟨m.heap.size+1,0,none⟩,1,[112],false⟩ ⟨o5 (by decide) (iy bn ax.o),ai _,o5 (by decide) aF,ai _⟩ (show(1:Nat)<=140737488355328/\(1:Nat)<=140737488355328 by decide) (λk hk=>by
         rw[ao];rcases hk with⟨y,hy,rfl⟩|⟨y,hy,rfl⟩<;>(cases hy;simp))
        have e:(ib (prM Yl j7 (⟨[101],[112],false⟩:Rg) true) j7 (iG ⟨[101],[112],false⟩) true 1 ⟨[],([],0)⟩ (iV 3 2)).c=([([101],[101,101]),([103],[103,103]),([109],[109,109])],0):=Dt;rw[<-e];exact h
       clear bn aF ao;obtain⟨t0,t1,t2⟩:=ia X9.o;go_wp2_with fail
       refine aY.o.mono ?_;rintro _ n ⟨bv,bN⟩;have BC:=gW (bt AA.o bv);have bC:=gW (bt B9.o BC.o);have aQ:=gW (aB.o.keep BC.o);have bk:=gW (iy X9.o BC.o);have a5:=gW (O9.o.keep BC.o);have aR:=gW λ(k:Nat)(hk:U k≠0)=>a6 (aC.o k hk) BC.o.size
       clear am bI aU ax AA aY t0 t1 t2 bv BC B9 aB X9 O9 aC;rcases bN with⟨hz,_⟩|⟨_,a12,c12,C,rfl,hPrs,hpl,_⟩
       . exact absurd rfl hz
       have bo:C.length=3:=by rw[<-kK C,hpl];rfl
       obtain⟨p1,p2,p3,rfl⟩:=DF bo
       have aJ:p3.1.l=[109]:=by
        have:=bf (λbx=>(bx.getD 2 ([],[])).1) hpl
        simpa[prl] using this
       obtain⟨g,rfl⟩:∃g,a12=some ⟨g,0,none⟩:=hPrs.row.addr (by simp)
       have k4:n.cell? ⟨g,4,none⟩=some (.slice p3.1.a 1 p3.1.c):=hPrs.row.cell (show(prv [p1,p2,p3])[4]?=some (.slice p3.1.a 1 p3.1.c) by simp[prv,aJ])
       have r3:=(hPrs.ok p3.1 (by simp[prR])).1
       rw[aJ] at r3;have s1:=Av a5.o.r (by simp)
       have s2:=Av r3 (by simp)
       have s1:(convert 37 9 (.slice a9 2 c9)).run prog n=.ok (.string ⟨#[112,112]⟩) n:=s1;have s2:(convert 37 9 (.slice p3.1.a 1 p3.1.c)).run prog n=.ok (.string ⟨#[109]⟩) n:=s2
       have bG:Hid (∀W:World,Below n.heap.size n W->Calls prog 36 #[.pointer (some ⟨b,0,none⟩),.agg #[.int .i64 3,.int .i64 2,.int .i64 9]] W λe L=>e=.returned (.int .i64 0)/\Below W.heap.size W L):=λW hb=>by
        have h:=qv W b j7 ah.o 65536 UP.o (ai _) (λk=>U k≠0) (aQ.o.keep hb) (λk hk=>a6 (aR.o k hk) hb.size) ⟨3,2,9⟩
        rw[Cg] at h;exact h
       have bF:Hid (∀W:World,Below n.heap.size n W->Calls prog 36 #[.pointer (some ⟨b,0,none⟩),.agg #[.int .i64 3,.int .i64 2,.int .i64 8]] W λe L=>e=.returned (.int .i64 4)/\Below W.heap.size W L):=λW hb=>by
        have h:=qv W b j7 ah.o 65536 UP.o (ai _) (λk=>U k≠0) (aQ.o.keep hb) (λk hk=>a6 (aR.o k hk) hb.size) ⟨3,2,8⟩
        rw[Bg] at h;exact h
       obtain⟨t0,t1,t2⟩:=ia bk.o;clear hPrs hpl aJ r3 a5 aQ aR bk bo ah UP;simp only[a7,bg,b9];go_wp2_with fail
       refine(bG.o _ (Below.refl _ _)).mono ?_;rintro _ bO ⟨rfl,aT⟩;have bD:=gW (bt bC.o aT);clear t0 t1 t2 k4 s1 s2;go_wp2_with fail
       refine(bF.o _ aT).mono ?_;rintro _ bP ⟨rfl,bw⟩;have bE:=gW (bt bD.o bw);clear aT bw;go_wp2_with fail
       go_ret;exact⟨rfl,bE.o⟩
theorem Ld.keep14{a:World}{S:Vs}{d c:Nat}{e f:Nat->Nat}{g:Nat->Nat}{rd:Int->Option Pg}(h:Ld w W b rb S d c e f D g rd)(hb:Below W.heap.size W a):Ld w a b rb S d c e f D g rd:=⟨bt h.bl hb,h.v.keep hb,h.r.keep hb,h.s,h.rv,h.rr,h.ok,h.c,h.dj,h.nv,h.nr⟩
end Go.Proofs.YteaogidofpfmmaaGreat
