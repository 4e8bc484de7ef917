import Derived.Test.YtbdkogimlbnlmaaGreatWlB22
import Derived.Stop.RegionWithIn
set_option linter.all false
set_option maxHeartbeats 32000000
set_option maxRecDepth 10000
namespace Go.Proofs.YtbdkogimlbnlmaaGreat
open Go.Proofs.Tryz
open Go.RowKit
theorem Tw.up{S:Vs}{D:Rd}{H:List Sn}{M N:Nat}(h:Tw S D H M)(b:M<=N):Tw S D H N:=h.same (Rd.Al.refl _) b
section
variable (v w:World) (wb b rb pb mb:Nat) (S:Vs) (D:Rd) (H:List Sn) (pc col colR:Nat->Nat) (aW:Option Addr) (cW:Nat) (W:List Wl) (K:Bkk) (M:Nat)
theorem If(h:Wo v w wb b rb pb mb S D H pc col colR aW cW W K M)(hM:M<=100000000000)(o:Oq)(J:o.kind=7):
 Calls prog 10 #[.pointer (some ⟨wb,0,none⟩),o.vl] w λe w'=>NxV v w wb b rb pb mb col colR aW cW W K M (λV=>V=S) e w':=by
 have U:Hid (o.vl=.agg o.cs):=rfl;rw[U.o];have s:=iJ (al w (.cells o.cs 33));have q:=iJ (aH w (.cells o.cs 33));have X:=iJ (h.va.z (ai w.heap.size));have f:=iJ (h.ws.keep s.o);have j:=iJ h;have ac:M<=1000000000000:=by omega
 clear h;go_enter func10,ntmps10;obtain⟨c0,c1,c2,c3,c4,c5,I,c7⟩:=iK q.o;rw[J] at c0;go_upto_region 24 with fail
 generalize w.alloc (.cells o.cs 33)=d at *;clear J;obtain⟨r,T⟩:∃r,w.heap.size=r:=⟨_,rfl⟩;simp only[T] at q X c0 c1 c2 c3 c4 c5 I c7 ⊢;clear T;have G:=iJ (dr2 d);have i:Hid (∀W:World,Below d.heap.size d W->W.cell? ⟨wb,0,none⟩=some (.pointer (some ⟨b,0,none⟩))/\W.cell? ⟨b,0,none⟩=some (.pointer (some ⟨pb,0,none⟩))/\W.cell? ⟨r,1,none⟩=some (.int .i64 o.n)/\W.cell? ⟨wb,1,none⟩=some (.pointer (some ⟨rb,0,none⟩))):=λW hb=>⟨((f.o.keep hb).cells).1,(f.o.keep hb).va.V.c0,(iK (iQ q.o hb)).2.1,((f.o.keep hb).cells).2.1⟩
 clear c0 c1 c2 c3 c4 c5 I c7;have A:=iJ λ(W:World)(hb:Below d.heap.size d W)=>show Calls _ _ _ _ λe L=>e=.returned (.int .i64 (S.X.P.count o.n))/\Below W.heap.size W L from(Q.mE W pb S.X.P pc ((f.o.keep hb).va.V.pl) o.n).mono (λ_ _ h=>⟨h.1,by rw[h.2];exact Below.refl _ _⟩)
 have B:=iJ λ(W:World)(hb:Below d.heap.size d W)=>Gc j.o.tw W rb colR ((f.o.keep hb).va.R) o.n
 have C:=iJ λ(W:World)(hb:Below d.heap.size d W)=>Q.oM W pb S.X.P pc ((f.o.keep hb).va.V.pl) o.n
 have E:=iJ λ(W:World)(hb:Below d.heap.size d W)=>Ft j.o.tw W rb colR ((f.o.keep hb).va.R) o.n
 obtain⟨x,Y⟩:∃x:Int,S.X.P.count o.n=x:=⟨_,rfl⟩;simp only[Y] at A B;obtain⟨y,Z⟩:∃y:Int,((S.X.P.state o.n:Nat):Int)=y:=⟨_,rfl⟩;simp only[Z] at C E;have aa:(x==x)=true:=by simp
 have ab:(y==y)=true:=by simp
 have t:=iJ G.o;refine wrd i G.o λhHeld=>?_
 refine tkd 0 1 2 3 ?_;refine tkd 4 5 6 7 ?_;refine tkd 8 10 11 12 ?_;refine tkb 13 14 ?_;refine tk 15 ?_;refine tw 9 λp g=>?_
 go_simp;refine(A.o _ t.o).mono ?_;rintro _ L ⟨rfl,N⟩;have k:=iJ (bt t.o N);clear N;go_wp2_with fail
 refine g.o _ _ (i.o _ k.o) (λhHeld=>?_)
 refine tw 16 λp g=>?_
 go_simp;refine(B.o _ k.o).mono ?_;rintro _ w3 ⟨rfl,O⟩;have l:=iJ (bt k.o O);clear O;go_wp2_with fail
 refine g.o _ _ (i.o _ l.o) (λhHeld=>?_)
 refine tkd 17 18 19 20 ?_;refine tkd 21 22 23 24 ?_;refine tkd 25 26 27 29 ?_;refine tkd 30 31 32 33 ?_;refine tk 34 ?_;refine tw 28 λp g=>?_
 go_simp;refine(C.o _ l.o).mono ?_;rintro _ w4 ⟨rfl,P⟩;have m:=iJ (bt l.o P);clear P;go_wp2_with fail
 refine g.o _ _ (i.o _ m.o) (λhHeld=>?_)
 refine tw 35 λp g=>?_
 go_simp;refine(E.o _ m.o).mono ?_;rintro _ w5 ⟨rfl,R⟩;have n:=iJ (bt m.o R);clear R;go_wp2_with fail
 refine g.o _ _ (i.o _ n.o) (λhHeld=>?_)
 refine tkb 36 37 ?_;refine tk 38 ?_;refine td ?_;clear hHeld i;go_wp2_with fail
 go_ret;exact⟨rfl,S,D,H,pc,col,colR,rfl,(f.o.keep n.o).wo j.o (j.o.tw.up (by omega)) (by omega),Fx.keep (bt s.o n.o)⟩
theorem Hz(h:Wo v w wb b rb pb mb S D H pc col colR aW cW W K M)(P:M<=100000000000)(o:Oq)(A:o.kind=8):
 Calls prog 10 #[.pointer (some ⟨wb,0,none⟩),o.vl] w λe O=>NxV v w wb b rb pb mb col colR aW cW W K M (λJ=>J=S) e O:=by
 have I:Hid (o.vl=.agg o.cs):=rfl;rw[I.o];have p:=iJ (al w (.cells o.cs 33));have l:=iJ (aH w (.cells o.cs 33));have L:=iJ (h.va.z (ai w.heap.size));have f:=iJ (h.ws.keep p.o);have k:=iJ h;have U:M<=1000000000000:=by omega
 clear h;go_enter func10,ntmps10;obtain⟨c0,c1,c2,c3,c4,c5,y,c7⟩:=iK l.o;rw[A] at c0;go_upto_region 26 with fail
 generalize w.alloc (.cells o.cs 33)=d at *;clear A;obtain⟨m,E⟩:∃m,w.heap.size=m:=⟨_,rfl⟩;simp only[E] at l L c0 c1 c2 c3 c4 c5 y c7 ⊢;clear E;have t:=iJ (dr2 d);have g:Hid (∀W:World,Below d.heap.size d W->W.cell? ⟨wb,0,none⟩=some (.pointer (some ⟨b,0,none⟩))/\W.cell? ⟨b,0,none⟩=some (.pointer (some ⟨pb,0,none⟩))/\W.cell? ⟨m,1,none⟩=some (.int .i64 o.n)/\W.cell? ⟨wb,1,none⟩=some (.pointer (some ⟨rb,0,none⟩))):=λW hb=>⟨((f.o.keep hb).cells).1,(f.o.keep hb).va.V.c0,(iK (iQ l.o hb)).2.1,((f.o.keep hb).cells).2.1⟩
 clear c0 c1 c2 c3 c4 c5 y c7;have r:=iJ λ(W:World)(hb:Below d.heap.size d W)=>Q.tJ W pb S.X.P pc ((f.o.keep hb).va.V.pl) o.n
 have s:=iJ λ(W:World)(hb:Below d.heap.size d W)=>ER k.o.tw W rb colR ((f.o.keep hb).va.R) o.n
 obtain⟨x,N⟩:∃x:Int,(((S.X.P.pages o.n).length:Nat):Int)=x:=⟨_,rfl⟩;simp only[N] at r s;have T:(x==x)=true:=by simp
 have q:=iJ t.o;refine wrd g t.o λhHeld=>?_
 refine tkd 0 1 2 3 ?_;refine tkd 4 5 6 7 ?_;refine tkd 8 10 11 12 ?_;refine tkb 13 14 ?_;refine tk 15 ?_;refine tw 9 λG n=>?_
 go_simp;refine(r.o _ q.o).mono ?_;rintro _ R ⟨rfl,B⟩;have i:=iJ (bt q.o B);clear B;go_wp2_with fail
 refine n.o _ _ (g.o _ i.o) (λhHeld=>?_)
 refine tw 16 λG n=>?_
 go_simp;refine(s.o _ i.o).mono ?_;rintro _ w3 ⟨rfl,C⟩;have j:=iJ (bt i.o C);clear C;go_wp2_with fail
 refine n.o _ _ (g.o _ j.o) (λhHeld=>?_)
 refine tkb 17 18 ?_;refine td ?_;clear hHeld g;go_wp2_with fail
 go_ret;exact⟨rfl,S,D,H,pc,col,colR,rfl,(f.o.keep j.o).wo k.o (k.o.tw.up (by omega)) (by omega),Fx.keep (bt p.o j.o)⟩
theorem GQ(h:Wo v w wb b rb pb mb S D H pc col colR aW cW W K M)(R:M<=100000000000)(o:Oq)(A:o.kind=11):
 Calls prog 10 #[.pointer (some ⟨wb,0,none⟩),o.vl] w λe P=>NxV v w wb b rb pb mb col colR aW cW W K M (λL=>L=S) e P:=by
 have J:Hid (o.vl=.agg o.cs):=rfl;rw[J.o];have m:=iJ (al w (.cells o.cs 33));have s:=iJ (aH w (.cells o.cs 33));have N:=iJ (h.va.z (ai w.heap.size));have f:=iJ (h.ws.keep m.o);have g:=iJ h;have B:M<=1000000000000:=by omega
 clear h;go_enter func10,ntmps10;obtain⟨c0,c1,c2,c3,c4,c5,t,c7⟩:=iK s.o;rw[A] at c0;go_upto_region 38 with fail
 generalize w.alloc (.cells o.cs 33)=d at *;clear A;obtain⟨y,G⟩:∃y,w.heap.size=y:=⟨_,rfl⟩;simp only[G] at s N c0 c1 c2 c3 c4 c5 t c7 ⊢;clear G;have r:=iJ (dr2 d);have i:Hid (∀W:World,Below d.heap.size d W->W.cell? ⟨wb,0,none⟩=some (.pointer (some ⟨b,0,none⟩))/\W.cell? ⟨wb,1,none⟩=some (.pointer (some ⟨rb,0,none⟩))):=λW hb=>⟨((f.o.keep hb).cells).1,((f.o.keep hb).cells).2.1⟩
 clear c0 c1 c2 c3 c4 c5 t c7;have p:=iJ λ(W:World)(hb:Below d.heap.size d W)=>Ak g.o.tw B W b pb mb pc col (f.o.keep hb).va.V
 have q:=iJ λ(W:World)(hb:Below d.heap.size d W)=>vt g.o.tw B W rb colR ((f.o.keep hb).va.R)
 obtain⟨x,O⟩:∃x:Int,((S.fl+S.al.length:Nat):Int)=x:=⟨_,rfl⟩;simp only[O] at p q;have U:(x==x)=true:=by simp
 have n:=iJ r.o;refine wrd i r.o λhHeld=>?_
 refine tkd 0 1 2 3 ?_;refine tkd 5 6 7 8 ?_;refine tw 4 λI l=>?_
 go_simp;refine(p.o _ n.o).mono ?_;rintro _ T ⟨rfl,C⟩;have j:=iJ (bt n.o C);clear C;go_wp2_with fail
 refine l.o _ _ (i.o _ j.o) (λhHeld=>?_)
 refine tw 9 λI l=>?_
 go_simp;refine(q.o _ j.o).mono ?_;rintro _ w3 ⟨rfl,E⟩;have k:=iJ (bt j.o E);clear E;go_wp2_with fail
 refine l.o _ _ (i.o _ k.o) (λhHeld=>?_)
 refine tkb 10 11 ?_;refine td ?_;clear hHeld i;go_wp2_with fail
 go_ret;exact⟨rfl,S,D,H,pc,col,colR,rfl,(f.o.keep k.o).wo g.o (g.o.tw.up (by omega)) (by omega),Fx.keep (bt m.o k.o)⟩
theorem Ge(h:Wo v w wb b rb pb mb S D H pc col colR aW cW W K M)(hM:M<=100000000000)(o:Oq)(t:o.kind=13):
 Calls prog 10 #[.pointer (some ⟨wb,0,none⟩),o.vl] w λe X=>NxV v w wb b rb pb mb col colR aW cW W K M (λR=>R=S.settle) e X:=by
 have P:Hid (o.vl=.agg o.cs):=rfl;rw[P.o];have l:=iJ (al w (.cells o.cs 33));have q:=iJ (aH w (.cells o.cs 33));have U:=iJ (h.va.z (ai w.heap.size));have f:=iJ (h.ws.keep l.o);have i:=iJ h;have y:M<=1000000000000:=by omega
 clear h;go_enter func10,ntmps10;obtain⟨c0,c1,c2,c3,c4,c5,r,c7⟩:=iK q.o;rw[t] at c0;go_upto_region 42 with fail
 generalize w.alloc (.cells o.cs 33)=x at *;clear t;obtain⟨s,E⟩:∃s,w.heap.size=s:=⟨_,rfl⟩;simp only[E] at q U c0 c1 c2 c3 c4 c5 r c7 ⊢;clear E;have DR:=iJ (dr2 x);clear c1 c2 c3 c4 c5 r c7;have I:=((f.o).cells).1;have m:=iJ (BY i.o.tw y x b pb mb pc col f.o.va.V);have n:=iJ λ(d:World)(V:Ra d rb D H colR)=>CU i.o.tw y d rb colR V
 go_wp2_with fail
 refine m.o.mono ?_;rintro _ d ⟨rfl,Y,Z,C,j⟩;have L:=iJ j;have g:=iJ (f.o.prog C j);clear C j m I c0;have G:=(g.o.cells).2.1;have p:=iJ (n.o d g.o.va.R);go_wp2_with fail
 refine p.o.mono ?_;rintro _ w3 ⟨rfl,J,aa,A,k,B⟩;have N:=iJ k;have O:=iJ (g.o.doc A k);have T:=iJ B;clear A k B p n G;go_wp2_with fail
 go_ret;exact⟨rfl,_,J,_,Y,Z,aa,rfl,O.o.wo i.o (T.o.up (by omega)) (by omega),((Fx.keep l.o).trans (Fx.vf L.o) (λ_ _ e=>e)).trans (Fx.vfR N.o) (λ_ _ e=>e)⟩
theorem Gs(h:Wo v w wb b rb pb mb S D H pc col colR aW cW W K M)(U:M<=100000000000)(o:Oq)(P:o.kind<0\/15<o.kind):
 Calls prog 10 #[.pointer (some ⟨wb,0,none⟩),o.vl] w λe T=>NxV v w wb b rb pb mb col colR aW cW W K M (λN=>N=S) e T:=by
 have L:Hid (o.vl=.agg o.cs):=rfl;rw[L.o];have n:=iJ (al w (.cells o.cs 33));have s:=iJ (aH w (.cells o.cs 33));have O:=iJ (h.va.z (ai w.heap.size));have d:=iJ (h.ws.keep n.o);have i:=iJ h;have ad:M<=1000000000000:=by omega
 have V:(o.kind==0)=false:=by simp;omega
 have X:(o.kind==1)=false:=by simp;omega
 have Y:(o.kind==2)=false:=by simp;omega
 have Z:(o.kind==3)=false:=by simp;omega
 have k4:(o.kind==4)=false:=by simp;omega
 have k5:(o.kind==5)=false:=by simp;omega
 have k6:(o.kind==6)=false:=by simp;omega
 have k7:(o.kind==7)=false:=by simp;omega
 have k8:(o.kind==8)=false:=by simp;omega
 have k9:(o.kind==9)=false:=by simp;omega
 have ae:(o.kind==10)=false:=by simp;omega
 have af:(o.kind==11)=false:=by simp;omega
 have ag:(o.kind==12)=false:=by simp;omega
 have ah:(o.kind==13)=false:=by simp;omega
 have aj:(o.kind==14)=false:=by simp;omega
 have ak:(o.kind==15)=false:=by simp;omega
 clear h P;go_enter func10,ntmps10;obtain⟨c0,c1,c2,c3,c4,c5,t,c7⟩:=iK s.o;go_upto_region 53 with fail
 generalize w.alloc (.cells o.cs 33)=f at *;obtain⟨y,E⟩:∃y,w.heap.size=y:=⟨_,rfl⟩;simp only[E] at s O c0 c1 c2 c3 c4 c5 t c7 ⊢;clear E;have r:=iJ (dr2 f);obtain⟨mC,G⟩:∃mC,D.C.length=mC:=⟨_,rfl⟩;have A:=iJ G;clear G;have g:Hid (∀W:World,Below f.heap.size f W->W.cell? ⟨wb,0,none⟩=some (.pointer (some ⟨b,0,none⟩))/\W.cell? ⟨b,0,none⟩=some (.pointer (some ⟨pb,0,none⟩))/\W.cell? ⟨wb,1,none⟩=some (.pointer (some ⟨rb,0,none⟩))/\W.cell? ⟨rb,1,none⟩=some (.slice D.aC mC D.cC)/\W.cell? ⟨rb,0,none⟩=some (.int .i64 D.R)):=λW hb=>⟨((d.o.keep hb).cells).1,(d.o.keep hb).va.V.c0,((d.o.keep hb).cells).2.1,(by rw[<-A.o];exact((d.o.keep hb).va.R.q.cells).2.1),((d.o.keep hb).va.R.q.cells).1⟩
 clear c0 c1 c2 c3 c4 c5 t c7;have I:=iJ λ(W:World)(hb:Below f.heap.size f W)=>show Calls _ _ _ _ λe j=>e=.returned (.int .i64 ((mC:Nat):Int))/\Below W.heap.size W j from((Q.Gt W pb S.X.P pc ((d.o.keep hb).va.V.pl)).mono (λ_ _ h=>⟨by rw[h.1,i.o.tw.now.r.rel.len,A.o],by rw[h.2];exact Below.refl _ _⟩))
 have q:=iJ λ(W:World)(hb:Below f.heap.size f W)=>show Calls _ _ _ _ λe j=>e=.returned (.int .i64 D.R)/\Below W.heap.size W j from((Q.Eu W pb S.X.P pc ((d.o.keep hb).va.V.pl)).mono (λ_ _ h=>⟨by rw[h.1,i.o.tw.now.r.rel.rf],by rw[h.2];exact Below.refl _ _⟩))
 have aa:(((mC:Nat):Int)==(mC:Int))=true:=by simp
 have ac:(mC==mC)=true:=by simp
 obtain⟨x,R⟩:∃x:Int,D.R=x:=⟨_,rfl⟩;simp only[R] at g q ⊢;have ab:(x==x)=true:=by simp
 have p:=iJ r.o;refine wrd g r.o λhHeld=>?_
 refine tkd 0 1 2 3 ?_;refine tkd 4 5 6 8 ?_;refine tkd 9 10 11 12 ?_;refine tkb 13 14 ?_;refine tk 15 ?_;refine tw 7 λJ m=>?_
 go_simp;refine(I.o _ p.o).mono ?_;rintro _ j ⟨rfl,B⟩;have k:=iJ (bt p.o B);clear B;go_wp2_with fail
 refine m.o _ _ (g.o _ k.o) (λhHeld=>?_)
 refine tkd 16 17 18 19 ?_;refine tkd 20 21 22 23 ?_;refine tkd 24 26 27 28 ?_;refine tkd 29 30 31 32 ?_;refine tw 25 λJ m=>?_
 go_simp;refine(q.o _ k.o).mono ?_;rintro _ w3 ⟨rfl,C⟩;have l:=iJ (bt k.o C);clear C;go_wp2_with fail
 refine m.o _ _ (g.o _ l.o) (λhHeld=>?_)
 refine tkb 33 34 ?_;refine tk 35 ?_;refine td ?_;clear hHeld g;go_wp2_with fail
 go_ret;exact⟨rfl,S,D,H,pc,col,colR,rfl,(d.o.keep l.o).wo i.o (i.o.tw.up (by omega)) (by omega),Fx.keep (bt n.o l.o)⟩
end
theorem kM{w:World}{e f:TypeId}{sz q:Nat}{a d:Option Addr}{c c2 n p:Nat}{C g:List Value}(j:Q.Gw e sz w a c n C)(k:Q.Gw f q w d c2 p g)(h:e≠f):∀y,a=some y->¬Q.InA d y.block:=λy l ⟨z,m,e⟩=>by
 obtain⟨r,i⟩:=k.blk m;exact jv j i h y l e.symm
section
variable {v w w' w1 wd w2 w3:World} {wb b rb pb mb:Nat} {S S':Vs} {D D':Rd} {H H':List Sn} {pc pc' pc2 col col' col2 colR colR' colR2:Nat->Nat} {aW:Option Addr} {cW:Nat} {W:List Wl} {K K':Bkk} {M N:Nat} {g:Pg} {gj:Nat} {q:Pv} {zs:Array Value}
def kN(wb:Nat)(K:Bkk)(k:Nat):Prop:=K.own wb k\/∃p∈K.T,Blk p k
theorem Bo.row_off{e:TypeId}{sz:Nat}{a:Option Addr}{c n:Nat}{C:List Value}{m:Value}(h:Bo v w wb b rb col colR m K)(d:Q.Gw e sz w a c n C)(j:e≠55)(i:e≠31)(k:e≠5)(l:e≠51):∀y,a=some y->¬kN wb K y.block:=λy f e=>by
 rcases e with(e|e|e)|⟨p,hp,e⟩
 . exact jv d h.box j y f e
 . exact kM d h.gt i y f e
 . exact kM d h.gx i y f e
 . exact(h.tp p hp).n.ne_row e d k l ⟨y,f,rfl⟩
theorem Bo.box_off{t:TypeId}{g:Nat}{cs:Array Value}{l:Value}(h:Bo v w wb b rb col colR l K)(d:w.heap[g]?=some (.cells cs t (0,0)))(i:t≠55)(f:31≠t)(j:t≠5)(k:t≠51):¬kN wb K g:=λe=>by
 rcases e with(e|⟨y,hy,e⟩|⟨y,hy,e⟩)|⟨p,hp,e⟩
 . have b:=h.box;rw[<-e,d] at b;simp only[aE,dU] at b;exact i b.2.1
 . exact jv h.gt d f y hy e
 . exact jv h.gx d f y hy e
 . exact(h.tp p hp).n.ne e d j k rfl
theorem Bo.col_off{i:Value}(h:Bo v w wb b rb col colR i K){k:Nat}(f:kN wb K k):col k=0/\colR k=0/\v.heap.size<=k:=by
 rcases f with e|⟨p,d,e⟩
 . exact h.own0 e
 . have:=(h.tp p d).c k e;exact⟨this.1,this.2,(h.tp p d).n.blk_new e⟩
theorem Wo.booked(h:Wo v w wb b rb pb mb S D H pc col colR aW cW W K M)(hb:But (kN wb K) w w')(s:Bo v w' wb b rb col colR (.slice aW W.length cW) K')(r:K'.T.length<=40)(y:K'.T.map Pv.pg=K'.X.map Pv.pg)(l:∀q∈K'.T,q∈K.T\/Smi q/\∀k∈W,∀x∈k.N,Bdj q x.2):Wo v w' wb b rb pb mb S D H pc col colR aW cW W K' M:=by
 have o:=h.bo;refine⟨h.va.but hb (λk e=>o.col_off e),s,h.gw.but hb (o.row_off h.gw (by decide) (by decide) (by decide) (by decide)),h.oW,λk d=>?_,λk d=>?_,h.we,λp hp k d x f=>?_,h.tw,y,r,h.wl,λp hp=>(l p hp).elim (h.sm p) And.left⟩
 . have t:=h.wt k d;exact t.but hb (o.box_off t.bx (by decide) (by decide) (by decide) (by decide)) (o.row_off t.lr (by decide) (by decide) (by decide) (by decide)) (λk A m=>by have:=o.col_off m;omega)
 . have t:=h.wn k d;refine t.but hb (o.row_off t.nr (by decide) (by decide) (by decide) (by decide)) (λx f j i e=>?_)
   rcases e with(e|e|e)|⟨p,hp,e⟩
   . exact(t.np x f).n.ne i o.box (by decide) (by decide) e
   . exact(t.np x f).n.ne_row i o.gt (by decide) (by decide) e
   . exact(t.np x f).n.ne_row i o.gx (by decide) (by decide) e
   . exact h.tn p hp k d x f j e i
 . rcases l p hp with hp|hp
   . exact h.tn p hp k d x f
   . exact hp.2 k d x f
theorem Fx.booked(hb:But (kN wb K) w w'):Fx w col colR (ot wb aW K) w' col colR:=⟨hb.mono (λk _ e=>.inr (.inr (by
 rcases e with e|e
 . exact .inl e
 . exact .inr (.inr e)))),λ_ _=>rfl,λ_ _=>rfl⟩
def PTl(w:World)(b pb mb:Nat)(col:Nat->Nat)(er:Int)(g:Pg)(S':Vs)(e:Ending)(w':World):Prop:=∃q:Pv,e=.returned (.tuple #[q.vl,.int .i64 er])/\q.pg=g/\Pn w w' q/\q.items.length<=1048576/\∃pc' col',Vw w' b S' pb mb pc' col'/\Vf w col w' col'/\∀k,Blk q k->col' k=0
def DTl(w:World)(rb:Nat)(col:Nat->Nat)(er:Int)(g:Pg)(S':Vs)(N:Nat)(e:Ending)(w':World):Prop:=∃q:Pv,e=.returned (.tuple #[q.vl,.int .i64 er])/\q.pg=g/\Pn w w' q/\q.items.length<=1048576/\∃D' H' col',Ra w' rb D' H' col'/\Vf w col w' col'/\(∀k,Blk q k->col' k=0)/\Tw S' D' H' N
theorem Hu(m:Tw S D H M)(w:World)(b pb mb:Nat)(pc col:Nat->Nat)(h:Vw w b S pb mb pc col)(z:Int):Calls prog 44 #[.pointer (some ⟨b,0,none⟩),.int .i64 z] w λe w'=>PTl w b pb mb col (if 0<S.X.P.count z then 0 else 15) (if 0<S.X.P.count z then (S.X.on z).pg else Pv.zero.pg) S e w':=by
 refine(Hk m w b pb mb pc col h z).mono ?_;rintro e w' ⟨q,f,d,l,i,hb⟩;exact⟨q,f,i,d,l,pc,col,h.keep hb,Vf.keep hb,λk j=>h.z (d.blk_new j)⟩
theorem Gz(f:Tw S D H M)(w:World)(rb:Nat)(col:Nat->Nat)(h:Ra w rb D H col)(z:Int):Calls prog 45 #[.pointer (some ⟨rb,0,none⟩),.int .i64 z] w λe w'=>DTl w rb col (if 0<S.X.P.count z then 0 else 15) (if 0<S.X.P.count z then (S.X.on z).pg else Pv.zero.pg) S (M+20) e w':=by
 refine(Gh f w rb col h z).mono ?_;rintro e w' ⟨q,i,d,m,j,hb⟩;refine⟨q,i,j,d,m,D,H,col,h.keep hb,Vf.keep hb,λk l=>?_,f.same (Rd.Al.refl _) (by omega)⟩
 have:=d.blk_new l;by_cases e:col k=0
 . exact e
 . have:=h.q.lt k e;omega
theorem Hb(f:Tw S D H M)(d:M<=1000000000000)(w:World)(b pb mb:Nat)(pc col:Nat->Nat)(h:Vw w b S pb mb pc col)(z:Int):Calls prog 37 #[.pointer (some ⟨b,0,none⟩),.int .i64 z] w λe w'=>PTl w b pb mb col (S.X.leave z).1.2 (S.X.leave z).1.1.pg (S.done (S.X.leave z).1.2 (S.X.leave z).2) e w':=
 GC f d w b pb mb pc col h z
theorem Hc(f:Tw S D H M)(d:M<=1000000000000)(w:World)(rb:Nat)(col:Nat->Nat)(h:Ra w rb D H col)(z:Int):Calls prog 38 #[.pointer (some ⟨rb,0,none⟩),.int .i64 z] w λe w'=>DTl w rb col (S.X.leave z).1.2 (S.X.leave z).1.1.pg (S.done (S.X.leave z).1.2 (S.X.leave z).2) (M+20) e w':=
 Gx f d w rb col h z
theorem rF:Smi Pv.zero:=⟨⟨az _,λx d=>absurd d (bm)⟩,az _⟩
theorem Bw(d:Tw S D H M)(z:Int):∃r,Smi r/\r.pg=(if 0<S.X.P.count z then (S.X.on z).pg else Pv.zero.pg):=by
 split
 . exact⟨_,d.now.sm z,rfl⟩
 . exact⟨_,rF,rfl⟩
theorem Bk(d:Tw S D H M)(z:Int):∃r,Smi r/\r.pg=(S.X.leave z).1.1.pg:=by
 refine⟨(S.X.leave z).1.1,?_,rfl⟩;show Smi (if (S.X.left z).1=0 then S.X.on z else Pv.zero)
 split
 . exact d.now.sm z
 . exact rF
structure Tk1(v w1 wx:World)(wb b rb pb mb:Nat)(S':Vs)(D:Rd)(H:List Sn)(pc2 col col2 colR:Nat->Nat)(aW:Option Addr)(cW:Nat)(W:List Wl)(K:Bkk)(g:Pg)(gj:Nat)(q:Pv):Prop where
 ws:Ws v wx wb b rb pb mb S' D H pc2 col2 colR aW cW W K
 f:Vf w1 col wx col2
 bx:wx.heap[gj]?=some (.cells #[.int .i64 q.kind,.int .i64 q.level,.slice q.aI q.items.length q.cI,.slice q.aD q.data.length q.cD,.int .i64 q.next] 31 (0,0))
 gc:col2 gj=0/\colR gj=0/\w1.heap.size<=gj
 pn:Pw1 w1 wx col2 colR q
 pg:q.pg=g
theorem ve(i:Below w1.heap.size w1 wd)(h:Ws v w1 wb b rb pb mb S D H pc col colR aW cW W K)(y:Vw w2 b S' pb mb pc2 col2)(x:Vf wd col w2 col2)(p:Pn wd w2 q)(B:q.pg=g)(C:q.items.length<=1048576)(A:∀k,Blk q k->col2 k=0)(j:Below w2.heap.size w2 w3)(r:w3.heap[gj]?=some (.cells zs 31 (0,0)))(G:zs.size=5)(m:w1.heap.size<=gj)(n:col2 gj=0):
 Tk1 v w1 (w3.setRow gj #[.int .i64 q.kind,.int .i64 q.level,.slice q.aI q.items.length q.cI,.slice q.aD q.data.length q.cD,.int .i64 q.next]) wb b rb pb mb S' D H pc2 col col2 colR aW cW W K g gj q:=by
 have l:=jz w3 gj #[.int .i64 q.kind,.int .i64 q.level,.slice q.aI q.items.length q.cI,.slice q.aD q.data.length q.cD,.int .i64 q.next];have s:Vf w1 col w3 col2:=((Vf.keep (c:=col) i).trans x).trans (Vf.keep (c:=col2) j);have f:Vf w1 col (w3.setRow gj #[.int .i64 q.kind,.int .i64 q.level,.slice q.aI q.items.length q.cI,.slice q.aD q.data.length q.cD,.int .i64 q.next]) col2:=⟨s.b.trans l (λk d e=>by omega),s.c⟩
 have E:Vw (w3.setRow gj #[.int .i64 q.kind,.int .i64 q.level,.slice q.aI q.items.length q.cI,.slice q.aD q.data.length q.cD,.int .i64 q.next]) b S' pb mb pc2 col2:=(y.keep j).but13 l (λk d e=>d (by rw[e];exact n))
 have t:=p.keep j;refine⟨h.prog E f,f,dc _ _ _ _ _ _ r,⟨n,(h.va.z m).2,m⟩,⟨(t.but2 l (λk d e=>t.ne d r (by decide) (by decide) e)).pre i.size,C,λk d=>⟨A k d,(h.va.z (aO i.size (p.blk_new d))).2⟩⟩,B⟩
structure Tk2(v w1 wx:World)(wb b rb pb mb:Nat)(S':Vs)(D':Rd)(H':List Sn)(pc col colR colR2:Nat->Nat)(aW:Option Addr)(cW:Nat)(W:List Wl)(K:Bkk)(g:Pg)(N:Nat)(gj:Nat)(q:Pv):Prop where
 ws:Ws v wx wb b rb pb mb S' D' H' pc col colR2 aW cW W K
 f:Vf w1 colR wx colR2
 bx:wx.heap[gj]?=some (.cells #[.int .i64 q.kind,.int .i64 q.level,.slice q.aI q.items.length q.cI,.slice q.aD q.data.length q.cD,.int .i64 q.next] 31 (0,0))
 gc:col gj=0/\colR2 gj=0/\w1.heap.size<=gj
 pn:Pw1 w1 wx col colR2 q
 pg:q.pg=g
 tw:Tw S' D' H' N
theorem tE(l:Below w1.heap.size w1 wd)(h:Ws v w1 wb b rb pb mb S D H pc col colR aW cW W K)(A:Ra w2 rb D' H' colR2)(y:Vf wd colR w2 colR2)(p:Pn wd w2 q)(C:q.pg=g)(E:q.items.length<=1048576)(B:∀k,Blk q k->colR2 k=0)(G:Tw S D' H' N)(m:Below w2.heap.size w2 w3)(r:w3.heap[gj]?=some (.cells zs 31 (0,0)))(J:zs.size=5)(n:w1.heap.size<=gj)(j:colR2 gj=0):
 Tk2 v w1 (w3.setRow gj #[.int .i64 q.kind,.int .i64 q.level,.slice q.aI q.items.length q.cI,.slice q.aD q.data.length q.cD,.int .i64 q.next]) wb b rb pb mb S D' H' pc col colR colR2 aW cW W K g N gj q:=by
 have i:=jz w3 gj #[.int .i64 q.kind,.int .i64 q.level,.slice q.aI q.items.length q.cI,.slice q.aD q.data.length q.cD,.int .i64 q.next];have s:Vf w1 colR w3 colR2:=((Vf.keep (c:=colR) l).trans y).trans (Vf.keep (c:=colR2) m);have f:Vf w1 colR (w3.setRow gj #[.int .i64 q.kind,.int .i64 q.level,.slice q.aI q.items.length q.cI,.slice q.aD q.data.length q.cD,.int .i64 q.next]) colR2:=⟨s.b.trans i (λk d e=>by omega),s.c⟩
 have t:=A.keep m;have I:Ra (w3.setRow gj #[.int .i64 q.kind,.int .i64 q.level,.slice q.aI q.items.length q.cI,.slice q.aD q.data.length q.cD,.int .i64 q.next]) rb D' H' colR2:=⟨t.q.but i (λk d e=>d (by rw[e];exact j)),t.a.but i (λk d e=>d (by rw[e];exact j))⟩
 have x:=p.keep m;refine⟨h.doc I f,f,dc _ _ _ _ _ _ r,⟨(h.va.z n).1,j,n⟩,⟨(x.but2 i (λk d e=>x.ne d r (by decide) (by decide) e)).pre l.size,E,λk d=>⟨(h.va.z (aO l.size (p.blk_new d))).1,B k d⟩⟩,C,G⟩
theorem Pw1.vfR(h:Pw1 v w col colR q)(f:Vf w colR w' colR'):Pw1 v w' col colR' q:=by
 refine⟨h.n.but2 f.b (λk d e=>by have:=h.c k d;omega),h.l,λk d=>?_⟩
 have i:=h.n.blk_lt d;rw[f.c k i];exact h.c k d
theorem Pw1.pre(h:Pw1 v w col colR q)(d:w1.heap.size<=v.heap.size):Pw1 w1 w col colR q:=⟨h.n.pre d,h.l,h.c⟩
theorem Ga{w5 m:World}{y:Pv}{t:Rd}{B:Vs}{A:List Sn}{P s R:Nat->Nat}{gk:Nat}(i:Ws v w1 wb b rb pb mb B t A P s R aW cW W K)(f:Tk1 v w1 w5 wb b rb pb mb S D H pc s col colR aW cW W K g gj q)(h:Tk2 v w5 m wb b rb pb mb S' D' H' pc col colR colR2 aW cW W K g N gk y)(I:∃r,Smi r/\r.pg=g):Kd v m col colR2 K q y/\Smi q/\(∀k∈W,∀x∈k.N,Bdj q x.2):=by
 have T:=f.f.b.size;have U:=h.f.b.size;have O:=i.va.bl.size;have L:Pw1 w1 m col colR2 q:=f.pn.vfR h.f;refine⟨⟨L.pre O,h.pn.pre (by omega),f.pg.trans h.pg.symm,λp l k d e=>?_,λp l k e d=>?_,λp l k d e=>?_,λk e d=>?_,λk d=>h.ws.va.z d,by omega⟩,(by obtain⟨r,C,E⟩:=I;exact qh C (f.pg.trans E.symm)),λk d x J j e G=>?_⟩
 . have:=(i.wr.bo.tp p l).n.blk_lt d;have:=f.pn.n.blk_new e;omega
 . have:=(i.wr.bo.xp p l).n.blk_lt d;have:=f.pn.n.blk_new e;omega
 . have:=(i.wr.bo.tp p l).n.blk_lt d;have:=h.pn.n.blk_new e;omega
 . have:=f.pn.n.blk_lt e;have:=h.pn.n.blk_new d;omega
 . have:=((i.wr.wn k d).np x J).n.blk_lt G;have:=f.pn.n.blk_new e;omega
end
section
variable (v w:World) (wb b rb pb mb:Nat) (S:Vs) (D:Rd) (H:List Sn) (pc col colR:Nat->Nat) (aW:Option Addr) (cW:Nat) (W:List Wl) (K:Bkk) (M:Nat)
theorem Hq(aj:Wo v w wb b rb pb mb S D H pc col colR aW cW W K M)(hM:M<=100000000000)(o:Oq)(hk:o.kind=3\/o.kind=6):
 Calls prog 10 #[.pointer (some ⟨wb,0,none⟩),o.vl] w λe w'=>Nx v w wb b rb pb mb col colR aW W K M e w':=by
 have OV:Hid (o.vl=.agg o.cs):=rfl;rw[OV.o];have A0:=iJ (al w (.cells o.cs 33));have X0:=iJ (aH w (.cells o.cs 33));have Z:=iJ (aj.va.z (ai w.heap.size));have E:=iJ (aj.ws.keep A0.o);have G:=iJ aj;have am:M<=1000000000000:=by omega
 clear aj;rcases hk with hk|hk
 all_goals
  go_enter func10,ntmps10;obtain⟨c0,c1,c2,c3,c4,c5,c6,c7⟩:=iK X0.o;rw[hk] at c0;have HK:=iJ hk;first
  |have e0:o.kind=3:=HK.o
   clear e0;go_upto_region 10 with fail
  |go_upto_region 20 with fail
  clear hk;generalize w.alloc (.cells o.cs 33)=w1 at *;obtain⟨gi,ao⟩:∃gi,w.heap.size=gi:=⟨_,rfl⟩;simp only[ao] at X0 Z c0 c1 c2 c3 c4 c5 c6 c7 ⊢;clear ao;have n:=iJ (dr2 w1);clear n c0 c1 c2 c3 c4 c5 c6 c7;first
  |have e0:o.kind=3:=HK.o
   clear e0;have h:=iJ λ(W:World)(hV:Vw W b S pb mb pc col)=>Hb G.o.tw am W b pb mb pc col hV o.n
   have PD:=iJ λ(W:World)(hR:Ra W rb D H colR)=>Hc G.o.tw am W rb colR hR o.n
   obtain⟨O,an⟩:∃O,S.done (S.X.leave o.n).1.2 (S.X.leave o.n).2=O:=⟨_,rfl⟩;simp only[an] at h PD;clear an;have SG:=iJ (Bk G.o.tw o.n);obtain⟨s,ac⟩:∃s:Int,(S.X.leave o.n).1.2=s:=⟨_,rfl⟩;obtain⟨T,ad⟩:∃T,(S.X.leave o.n).1.1.pg=T:=⟨_,rfl⟩;simp only[ac,ad] at h PD SG;clear ac ad;go_cut [9,10] from 63 to 72 (λp9 ab wx=>∃(gj:Nat)(q:Pv)(pc2 col2:Nat->Nat),p9=.pointer (some ⟨gj,0,none⟩)/\ab=.int .i64 s/\Tk1 v w1 wx wb b rb pb mb O D H pc2 col col2 colR aW cW W K T gj q)
  |have h:=iJ λ(W:World)(hV:Vw W b S pb mb pc col)=>Hu G.o.tw W b pb mb pc col hV o.n
   have PD:=iJ λ(W:World)(hR:Ra W rb D H colR)=>Gz G.o.tw W rb colR hR o.n
   have SG:=iJ (Bw G.o.tw o.n);obtain⟨s,ac⟩:∃s:Int,(if 0<S.X.P.count o.n then 0 else 15)=s:=⟨_,rfl⟩
   obtain⟨T,ad⟩:∃T,(if 0<S.X.P.count o.n then (S.X.on o.n).pg else Pv.zero.pg)=T:=⟨_,rfl⟩
   simp only[ac,ad] at h PD SG;clear ac ad;obtain⟨O,rfl⟩:∃O,O=S:=⟨_,rfl⟩;go_cut [15,16] from 130 to 139 (λp9 ab wx=>∃(gj:Nat)(q:Pv)(pc2 col2:Nat->Nat),p9=.pointer (some ⟨gj,0,none⟩)/\ab=.int .i64 s/\Tk1 v w1 wx wb b rb pb mb O D H pc2 col col2 colR aW cW W K T gj q)
  case first=>
   have n:=iJ (dr2 w1);have SS:Hid (∀W:World,Below w1.heap.size w1 W->W.cell? ⟨wb,0,none⟩=some (.pointer (some ⟨b,0,none⟩))/\W.cell? ⟨gi,1,none⟩=some (.int .i64 o.n)):=λW hb=>⟨(E.o.keep hb).cells.1,(iK (iQ X0.o hb)).2.1⟩
   refine wrd SS n.o λhHeld=>?_
   refine tkd 0 1 2 3 ?_;refine tkb 4 5 ?_;refine fh (rs:=[6,10]) (by kernel_rfl) (by simp) ?_
   refine(AllReadyH.cons rfl (λI f=>?_) (AllReadyH.cons rfl (λI f=>?_) AllReadyH.nil))
   all_goals
    first
    |go_simp
     refine(h.o _ (E.o.keep n.o).va.V).mono ?_;rintro _ w2 ⟨q,rfl,x,B,A,pc2,col2,j,i,t⟩;have l:=iJ ((Vf.keep (c:=col) n.o).trans i);have p:=iJ (E.o.prog j l.o);have r:=iJ (l.o.b.same X0.o (λe=>by have:=Z.o.1;omega))
     have Z2:Hid (col2 w2.heap.size=0):=(j.z (ai w2.heap.size));have L2:=iJ (l.o.b.size);have d:=iJ (al w2 (.cells #[.int .i64 0,.int .i64 0,.slice none 0 0,.slice none 0 0,.int .i64 0] 31));have P:=iJ (aH w2 (.cells #[.int .i64 0,.int .i64 0,.slice none 0 0,.slice none 0 0,.int .i64 0] 31));have L:=iJ (ve n.o E.o j i B x A t d.o P.o rfl L2.o Z2.o);clear x B A j i t;have R:Hid (q.vl=.agg #[.int .i64 q.kind,.int .i64 q.level,.slice q.aI q.items.length q.cI,.slice q.aD q.data.length q.cD,.int .i64 q.next]):=rfl;rw[R.o];go_wp2_with fail
     refine f.o _ _ ⟨(p.o).cells.1,(iK (r.o)).2.1⟩ (λhHeld=>?_)
     refine tkb 7 8 ?_;refine tk 9 ?_;refine tw 10 λI f=>?_
     go_simp;refine f.o _ _ ⟨(p.o.keep d.o).cells.1,(iK (iQ r.o d.o)).2.1⟩ (λhHeld=>?_)
     try simp only[pt]
     clear p r l d R;generalize w2.alloc (.cells #[.int .i64 0,.int .i64 0,.slice none 0 0,.slice none 0 0,.int .i64 0] 31)=w3 at *;generalize w2.heap.size=gj at*
    |go_simp
     have d:=iJ (bt (al w1 (.cells #[.int .i64 0,.int .i64 0,.slice none 0 0,.slice none 0 0,.int .i64 0] 31)) (dr2 (w1.alloc (.cells #[.int .i64 0,.int .i64 0,.slice none 0 0,.slice none 0 0,.int .i64 0] 31))));have aa:Hid ((w1.alloc (.cells #[.int .i64 0,.int .i64 0,.slice none 0 0,.slice none 0 0,.int .i64 0] 31)).drew.heap[w1.heap.size]?=some (.cells #[.int .i64 0,.int .i64 0,.slice none 0 0,.slice none 0 0,.int .i64 0] 31 (0,0))):=aH w1 (.cells #[.int .i64 0,.int .i64 0,.slice none 0 0,.slice none 0 0,.int .i64 0] 31);refine f.o _ _ (SS.o _ d.o) (λhHeld=>?_)
     try simp only[pt]
     generalize (w1.alloc (.cells #[.int .i64 0,.int .i64 0,.slice none 0 0,.slice none 0 0,.int .i64 0] 31)).drew=wd at *;obtain⟨gj,U⟩:∃gj,w1.heap.size=gj:=⟨_,rfl⟩;have GJ:Hid (w1.heap.size<=gj):=iF U;rw[U] at aa;rw[U];clear U;have CJ:Hid (col gj=0):=(E.o.va.z GJ.o).1;refine tw 6 λI f=>?_
     go_simp;refine(h.o _ (E.o.keep d.o).va.V).mono ?_;rintro _ w2 ⟨q,rfl,x,B,A,pc2,col2,j,i,t⟩;have l:=iJ ((Vf.keep (c:=col) d.o).trans i);have p:=iJ (E.o.prog j l.o);have r:=iJ (l.o.b.same X0.o (λe=>by have:=Z.o.1;omega))
     have P:=iJ (i.box aa.o CJ.o);have C2:Hid (col2 gj=0):=(i.c _ (af.1 aa.o).1).trans CJ.o;have L:=iJ (ve d.o E.o j i B x A t (Below.refl _ _) P.o rfl GJ.o C2.o);clear x B A j i t;have R:Hid (q.vl=.agg #[.int .i64 q.kind,.int .i64 q.level,.slice q.aI q.items.length q.cI,.slice q.aD q.data.length q.cD,.int .i64 q.next]):=rfl;rw[R.o];go_wp2_with fail
     refine f.o _ _ ⟨(p.o).cells.1,(iK (r.o)).2.1⟩ (λhHeld=>?_)
     refine tkb 7 8 ?_;refine tk 9 ?_
    refine tw 11 λI f=>?_
    rw[if_pos (by rfl)]
    refine g9 31 _ _ rfl gj _ rfl rfl 31 _ P.o iP rfl (by simp[Value.oneCell']) ?_
    have XI:=iJ (L.o.f.b.same X0.o (λe=>by have:=Z.o.1;omega))
    refine f.o _ _ ⟨(L.o.ws).cells.1,(iK (XI.o)).2.1⟩ (λhHeld=>?_)
    refine tk 12 ?_;refine td ?_;clear hHeld;go_wp2_with fail
    go_meet
    case rel=>exact⟨gj,q,pc2,col2,rfl,rfl,L.o⟩
  case rest=>
   obtain⟨gj,q,pc2,col2,rfl,rfl,hQ⟩:=hcut;have Y:=iJ hQ;clear hQ h;generalize wc=m at *;have X5:=iJ (Y.o.f.b.same X0.o (λe=>by have:=Z.o.1;omega))
   have X:=iJ Y.o.ws;first
   |have e0:o.kind=3:=HK.o
    clear e0;go_upto_region 11 with fail
    go_cut [11,12] from 73 to 82 (λp9 ab wx=>∃(gk:Nat)(y:Pv)(V:Rd)(k:List Sn)(C:Nat->Nat),p9=.pointer (some ⟨gk,0,none⟩)/\ab=.int .i64 s/\Tk2 v m wx wb b rb pb mb O V k pc2 col2 colR C aW cW W K T (M+20) gk y)
   |go_upto_region 21 with fail
    go_cut [17,18] from 140 to 149 (λp9 ab wx=>∃(gk:Nat)(y:Pv)(V:Rd)(k:List Sn)(C:Nat->Nat),p9=.pointer (some ⟨gk,0,none⟩)/\ab=.int .i64 s/\Tk2 v m wx wb b rb pb mb O V k pc2 col2 colR C aW cW W K T (M+20) gk y)
   case first=>
    have n:=iJ (dr2 m);have SS:Hid (∀W:World,Below m.heap.size m W->W.cell? ⟨wb,1,none⟩=some (.pointer (some ⟨rb,0,none⟩))/\W.cell? ⟨gi,1,none⟩=some (.int .i64 o.n)):=λW hb=>⟨(X.o.keep hb).cells.2.1,(iK (iQ X5.o hb)).2.1⟩
    refine wrd SS n.o λhHeld=>?_
    refine tkd 0 1 2 3 ?_;refine tkb 4 5 ?_;refine fh (rs:=[6,10]) (by kernel_rfl) (by simp) ?_
    refine(AllReadyH.cons rfl (λI f=>?_) (AllReadyH.cons rfl (λI f=>?_) AllReadyH.nil))
    all_goals
     first
     |go_simp
      refine(PD.o _ (X.o.keep n.o).va.R).mono ?_;rintro _ w2 ⟨y,rfl,x,B,A,V,k,C,j,i,t,ah⟩;have l:=iJ ((Vf.keep (c:=colR) n.o).trans i);have p:=iJ (X.o.doc j l.o);have r:=iJ (l.o.b.same X5.o (λe=>by have:=Z.o.2;omega))
      have Z2:Hid (C w2.heap.size=0):=(eW λe=>by have:=j.q.lt _ e;omega)
      have L2:=iJ (l.o.b.size);have d:=iJ (al w2 (.cells #[.int .i64 0,.int .i64 0,.slice none 0 0,.slice none 0 0,.int .i64 0] 31));have P:=iJ (aH w2 (.cells #[.int .i64 0,.int .i64 0,.slice none 0 0,.slice none 0 0,.int .i64 0] 31));have L:=iJ (tE n.o X.o j i B x A t ah d.o P.o rfl L2.o Z2.o);clear x B A j i t ah;have R:Hid (y.vl=.agg #[.int .i64 y.kind,.int .i64 y.level,.slice y.aI y.items.length y.cI,.slice y.aD y.data.length y.cD,.int .i64 y.next]):=rfl;rw[R.o];go_wp2_with fail
      refine f.o _ _ ⟨(p.o).cells.2.1,(iK (r.o)).2.1⟩ (λhHeld=>?_)
      refine tkb 7 8 ?_;refine tk 9 ?_;refine tw 10 λI f=>?_
      go_simp;refine f.o _ _ ⟨(p.o.keep d.o).cells.2.1,(iK (iQ r.o d.o)).2.1⟩ (λhHeld=>?_)
      try simp only[pt]
      clear p r l d R;generalize w2.alloc (.cells #[.int .i64 0,.int .i64 0,.slice none 0 0,.slice none 0 0,.int .i64 0] 31)=w3 at *;generalize w2.heap.size=gk at*
     |go_simp
      have d:=iJ (bt (al m (.cells #[.int .i64 0,.int .i64 0,.slice none 0 0,.slice none 0 0,.int .i64 0] 31)) (dr2 (m.alloc (.cells #[.int .i64 0,.int .i64 0,.slice none 0 0,.slice none 0 0,.int .i64 0] 31))));have aa:Hid ((m.alloc (.cells #[.int .i64 0,.int .i64 0,.slice none 0 0,.slice none 0 0,.int .i64 0] 31)).drew.heap[m.heap.size]?=some (.cells #[.int .i64 0,.int .i64 0,.slice none 0 0,.slice none 0 0,.int .i64 0] 31 (0,0))):=aH m (.cells #[.int .i64 0,.int .i64 0,.slice none 0 0,.slice none 0 0,.int .i64 0] 31);refine f.o _ _ (SS.o _ d.o) (λhHeld=>?_)
      try simp only[pt]
      generalize (m.alloc (.cells #[.int .i64 0,.int .i64 0,.slice none 0 0,.slice none 0 0,.int .i64 0] 31)).drew=wd at *;obtain⟨gk,U⟩:∃gj,m.heap.size=gj:=⟨_,rfl⟩;have GJ:Hid (m.heap.size<=gk):=iF U;rw[U] at aa;rw[U];clear U;have CJ:Hid (colR gk=0):=(X.o.va.z GJ.o).2;refine tw 6 λI f=>?_
      go_simp;refine(PD.o _ (X.o.keep d.o).va.R).mono ?_;rintro _ w2 ⟨y,rfl,x,B,A,V,k,C,j,i,t,ah⟩;have l:=iJ ((Vf.keep (c:=colR) d.o).trans i);have p:=iJ (X.o.doc j l.o);have r:=iJ (l.o.b.same X5.o (λe=>by have:=Z.o.2;omega))
      have P:=iJ (i.box aa.o CJ.o);have C2:Hid (C gk=0):=(i.c _ (af.1 aa.o).1).trans CJ.o;have L:=iJ (tE d.o X.o j i B x A t ah (Below.refl _ _) P.o rfl GJ.o C2.o);clear x B A j i t ah;have R:Hid (y.vl=.agg #[.int .i64 y.kind,.int .i64 y.level,.slice y.aI y.items.length y.cI,.slice y.aD y.data.length y.cD,.int .i64 y.next]):=rfl;rw[R.o];go_wp2_with fail
      refine f.o _ _ ⟨(p.o).cells.2.1,(iK (r.o)).2.1⟩ (λhHeld=>?_)
      refine tkb 7 8 ?_;refine tk 9 ?_
     refine tw 11 λI f=>?_
     rw[if_pos (by rfl)]
     refine g9 31 _ _ rfl gk _ rfl rfl 31 _ P.o iP rfl (by simp[Value.oneCell']) ?_
     have XI:=iJ (L.o.f.b.same X5.o (λe=>by have:=Z.o.2;omega))
     refine f.o _ _ ⟨(L.o.ws).cells.2.1,(iK (XI.o)).2.1⟩ (λhHeld=>?_)
     refine tk 12 ?_;refine td ?_;clear hHeld;go_wp2_with fail
     go_meet
     case rel=>exact⟨gk,y,V,k,C,rfl,rfl,L.o⟩
   case rest=>
    obtain⟨gk,y,V,k,C,rfl,rfl,hQ⟩:=hcut;have J:=iJ hQ;clear hQ PD;generalize wc=w9 at *;have BJ:=iJ (J.o.f.box Y.o.bx Y.o.gc.2.1);obtain⟨p0,p1,p2,p3,p4⟩:=iR BJ.o;obtain⟨x0,x1,x2,x3,x4⟩:=iR J.o.bx;have KD:=iJ (Ga E.o Y.o J.o SG.o);have LK:=iJ (tN v w9 wb b rb col2 C (.slice aW W.length cW) K J.o.ws.wr.bo G.o.eq G.o.l4 q y KD.o.1);unfold Pv.vl at LK;simp only[Pv.cs] at LK;have ap:(s==s)=true:=by simp
    go_wp2_with fail
    refine LK.o.mono ?_;rintro _ aq ⟨rfl,K',hB,h4,he,ht,hx,hb,ho⟩;have wo:=(J.o.ws.wo G.o J.o.tw (by omega)).booked (hb.mono (λ_ _ e=>.inl e)) hB h4 he (λq' ag=>(ht q' ag).imp id (λe=>by rw[e];exact KD.o.2))
    have WO:=iJ wo;have FX:=iJ ((((Fx.keep A0.o).trans (Fx.vf Y.o.f) (λ_ _ e=>e)).trans (Fx.vfR J.o.f) (λ_ _ e=>e)).trans (Fx.booked (aW:=aW) (hb.mono (λ_ _ e=>.inl e))) (λ_ _ e=>e))
    have SB:Hid (Sb w.heap.size wb aW W K aW W K'):=by
     have s1:=A0.o.size;have s2:=Y.o.f.b.size;have s3:=J.o.f.b.size;exact Sb.book (λq' ag=>(ht q' ag).imp id (λe ak hk ae=>by rw[e] at ae;have:=Y.o.pn.n.blk_new ae;omega)) (λq' ag=>(hx q' ag).imp id (λe ak hk ae=>by rw[e] at ae;have:=J.o.pn.n.blk_new ae;omega)) (λak hk=>(ho ak hk).imp id (λe=>by omega))
    clear wo hB h4 he ht hx hb ho LK;go_wp2_with fail
    go_ret;exact⟨rfl,_,V,k,pc2,col2,C,aW,cW,W,K',WO.o,FX.o,SB.o⟩
end
end Go.Proofs.YtbdkogimlbnlmaaGreat
namespace Go.Proofs.YtbdkogimlbnlmaaGreat
open Go.Proofs.Tryz
open Go.RowKit Go.Shelf
attribute [local go_sem] Oper.semAt_some
variable {c:Nat}{a:Option Addr}{w:World}
def EnP(W0 W1:World)(x:Int×Pv)(vals:Array Value):Prop:=∃q:Pv,vals=#[.int .i64 x.1,q.vl]/\q.pg=x.2.pg/\Pn W0 W1 q/\q.items.length<=1048576
theorem tkI{F:Fence}{n:Nat}{P:Program}{g:Region.Mode}{d:Array Oper}{Q:Exit->Act->World->Prop}(i:Nat){e:Oper}{v:Value}{j:Nat}{listed l:Array Bool}{a b:Act}{w:World}(h:wpAnyIn F n P g d Q j l b w)(s:F.round=none:=by exact rfl)(hi:d[i]?=some e:=by exact rfl)
 (f:(Region.noSelect d&&(Region.free g d listed i&&(Region.ready g d listed).contains i))=true:=by kernel_rfl)
 (k:∀c a w,Q (.panic c) (a.put e.dst v) w->Q (.panic c) a w:=by exact λ_ _ _ h=>h) (q:Region.wanted e (yielded d a.tmps)=true:=by exact rfl)
 (r:∀w,(execOp a.eval e).run P w=.ok (.value v) w:=by (intro _;go_simp<;>with_reducible rfl)) (m:∀w,e.about P w a.eval=none:=by exact λ_=>rfl)
 (p:listed.setIfInBounds i true=l:=by ((try simp only[pt]);exact rfl)) (hb:a.put e.dst v=b:=by ((try simp only[pt]);exact rfl)):wpAnyIn F n P g d Q (j+1) listed a w:=by
 simp only[bO] at f;exact wpAnyIn_take s hi f.1 f.2.1 f.2.2 k ⟨.inl ⟨q,r⟩,m⟩ (p▸hb▸h)
theorem s8:∀(L:List (Int×Pv))(i k:Nat),i<L.length->k<6->(nms L)[i*6+k]?=(nmc (L.getD i (0,Pv.zero)))[k]?
 | [],i,k,h,_=>absurd h (dQ _)
 |x::L,0,k,h,hk=>by
  have b:(nmc x).length=6:=rfl;simp only[nms,bL,dZ,eE,bN];rw[br (by omega)]
  rfl
 |x::L,i+1,k,h,hk=>by
  have b:(nmc x).length=6:=rfl;have d:=s8 L i k (by simpa using h) hk
  simp only[nms,bL,dZ] at d ⊢;rw[bg (by omega),b,show(i+1)*6+k-6=i*6+k by omega,d]
  rfl
theorem sF{L:List (Int×Pv)}(h:Q.Gw 39 6 w a c L.length (nms L)){i:Nat}(hi:i<L.length){x:Int×Pv}(d:L.getD i (0,Pv.zero)=x):∃g,a=some ⟨g,0,none⟩/\w.cell? ⟨g,i*6,none⟩=some (.int .i64 x.1)/\w.cell? ⟨g,i*6+1,none⟩=some (.int .i64 x.2.kind)/\w.cell? ⟨g,i*6+2,none⟩=some (.int .i64 x.2.level)/\w.cell? ⟨g,i*6+3,none⟩=some (.slice x.2.aI x.2.items.length x.2.cI)/\w.cell? ⟨g,i*6+4,none⟩=some (.slice x.2.aD x.2.data.length x.2.cD)/\w.cell? ⟨g,i*6+5,none⟩=some (.int .i64 x.2.next):=by
 obtain⟨g,e⟩:=h.addr (by omega)
 have r:=h;rw[e] at r;have k:=λ(j:Nat)(b:j<6)=>s8 L i j hi b
 rw[d] at k;exact⟨g,e,r.cell (by have:=k 0 (by decide);rw[bY] at this;rw[this];rfl),r.cell (by rw[k 1 (by decide)];rfl),r.cell (by rw[k 2 (by decide)];rfl),r.cell (by rw[k 3 (by decide)];rfl),r.cell (by rw[k 4 (by decide)];rfl),r.cell (by rw[k 5 (by decide)];rfl)⟩
theorem Am{v:World}{col colR:Nat->Nat}{tb:Nat}{L:List (Int×Pv)}(h:Wt v w col colR tb a c L)(ap:L.length<=9223372036854775807):
 SeqG prog 116 #[.pointer (some ⟨tb,0,none⟩)] EnP L w (λk=>k=tb\/Q.InA a k\/col k=6):=by
 intro aj J Jx W C hW hS aJ sJ hY h0;have ab:Wt v W col colR tb a c L:=h.but hW (λe=>e (.inl rfl)) (λy P e=>e (.inr (.inl ⟨y,P,rfl⟩))) (λk hk e=>e (.inr (.inr hk)))
 have ak:=iJ ab;have ai:=iJ hY;have AJ:=iJ aJ;have SJ:=iJ sJ;have g:=iJ hS;obtain⟨n,d⟩:∃n:Nat,n=L.length:=⟨_,rfl⟩;have ag:=iJ d;have am:W.cell? ⟨tb,0,none⟩=some (.slice a n c):=by rw[d];exact em ab.bx
 rw[<-d] at ap;clear d h ab hY hW hS aJ sJ;refine gR func116 rfl trivial ?_ rfl;simp only[ntmps116,dm,bf,bj,Nat.reduceAdd,Nat.reduceSub,dG,dH,dY,dO,cY,dw];gi_wp2
 gi_loopw [7] (λi wr=>∃k:Nat,∃F:Nat->Prop,k<=n/\i=.int .i64 k/\J F (L.take k) wr/\But C W wr/\(∀q,F q->C q\/W.heap.size<=q))
  (λi _=>n-(intOf i).toNat)
 case atStart=>exact⟨0,C,az _,rfl,h0,But.refl _ _,λq s=>.inl s⟩
 case round=>
  obtain⟨k,F,hk,rfl,Y,N,j⟩:=hrel;by_cases an:k<n
  . have R:k<L.length:=by rw[<-ag.o];exact an
    obtain⟨x,hx⟩:∃x,L.getD k (0,Pv.zero)=x:=⟨_,rfl⟩;have Z:L[k]=x:=by rw[<-hx];simp[R]
    have ac:x∈L:=by rw[<-Z];exact eK R
    have TK:=iJ (show L.take (k+1)=L.take k++[x] by rw[ik,aR R,Z];rfl)
    have aa:=iJ (show L=L.take k++x::L.drop (k+1) by
     have e:L.drop k=x::L.drop (k+1):=by rw[cF R,Z]
     rw[<-e,cZ])
    have l:Wt v wr col colR tb a c L:=ak.o.but N (λe=>g.o _ e (.inl rfl)) (λy P e=>g.o _ e (.inr (.inl ⟨y,P,rfl⟩))) (λau hj e=>g.o _ e (.inr (.inr hj)))
    obtain⟨ad,ea,d0,d1,d2,d3,d4,d5⟩:=sF l.lr R hx;have EA:=iJ ea;have S:=iJ (bt (al wr (.cells #[.int .i64 x.1,.int .i64 x.2.kind,.int .i64 x.2.level,.slice x.2.aI x.2.items.length x.2.cI,.slice x.2.aD x.2.data.length x.2.cD,.int .i64 x.2.next] 39)) (dr2 (wr.alloc (.cells #[.int .i64 x.1,.int .i64 x.2.kind,.int .i64 x.2.level,.slice x.2.aI x.2.items.length x.2.cI,.slice x.2.aD x.2.data.length x.2.cD,.int .i64 x.2.next] 39))));have V:=iJ (aH wr (.cells #[.int .i64 x.1,.int .i64 x.2.kind,.int .i64 x.2.level,.slice x.2.aI x.2.items.length x.2.cI,.slice x.2.aD x.2.data.length x.2.cD,.int .i64 x.2.next] 39));have PI:=iJ ((l.lp x ac).keep S.o).pi;have U:=iJ (l.ls x ac);have H:=iJ (kH (wr.alloc (.cells #[.int .i64 x.1,.int .i64 x.2.kind,.int .i64 x.2.level,.slice x.2.aI x.2.items.length x.2.cI,.slice x.2.aD x.2.data.length x.2.cD,.int .i64 x.2.next] 39)).drew x.2 PI.o U.o.1.1 U.o.1.2);have J1:Hid (J F (L.take k) (wr.alloc (.cells #[.int .i64 x.1,.int .i64 x.2.kind,.int .i64 x.2.level,.slice x.2.aI x.2.items.length x.2.cI,.slice x.2.aD x.2.data.length x.2.cD,.int .i64 x.2.next] 39)).drew):=AJ.o _ _ _ _ Y (But.ofBelow S.o);have BA:Hid (But C W (wr.alloc (.cells #[.int .i64 x.1,.int .i64 x.2.kind,.int .i64 x.2.level,.slice x.2.aI x.2.items.length x.2.cI,.slice x.2.aD x.2.data.length x.2.cD,.int .i64 x.2.next] 39)).drew):=N.andBelow S.o;have aw:=N.size;have D:=iJ S.o.size;have A:=iJ j
    have t:Hid (∀(q:Pv)(f:World),Pn (wr.alloc (.cells #[.int .i64 x.1,.int .i64 x.2.kind,.int .i64 x.2.level,.slice x.2.aI x.2.items.length x.2.cI,.slice x.2.aD x.2.data.length x.2.cD,.int .i64 x.2.next] 39)).drew f q->q.pg=x.2.pg->Below (wr.alloc (.cells #[.int .i64 x.1,.int .i64 x.2.kind,.int .i64 x.2.level,.slice x.2.aI x.2.items.length x.2.cI,.slice x.2.aD x.2.data.length x.2.cD,.int .i64 x.2.next] 39)).drew.heap.size (wr.alloc (.cells #[.int .i64 x.1,.int .i64 x.2.kind,.int .i64 x.2.level,.slice x.2.aI x.2.items.length x.2.cI,.slice x.2.aD x.2.data.length x.2.cD,.int .i64 x.2.next] 39)).drew f->YieldAt Fence.wide 0 prog aj #[.int .i64 x.1,.agg #[.int .i64 q.kind,.int .i64 q.level,.slice q.aI q.items.length q.cI,.slice q.aD q.data.length q.cD,.int .i64 q.next]] f (YesG F J Jx (L.take k++[x]) (wr.alloc (.cells #[.int .i64 x.1,.int .i64 x.2.kind,.int .i64 x.2.level,.slice x.2.aI x.2.items.length x.2.cI,.slice x.2.aD x.2.data.length x.2.cD,.int .i64 x.2.next] 39)).drew f)):=λq f d m hb=>
     ai.o F (L.take k) x (L.drop (k+1)) _ f _ aa.o J1.o hb ⟨q,rfl,m,d,by
      have e:=a7 (λad:Pg=>ad.items.length) m
      simp only[Pv.pg,aZ] at e;rw[e];exact U.o.2⟩ (by have:=D.o;omega) A.o
    obtain⟨z0,z1,z2,z3,z4,z5⟩:=qm V.o;unfold Pv.vl at H;simp only[Pv.cs] at H;rw[ea] at am;subst ea;clear Y j l hx Z ac N PI U;have av:(k:Int)<(n:Int):=by omega
    gi_wp2
    refine iI (by kernel_rfl) ?_
    change wpAnyIn _ _ _ _ _ _ _ _ _ (World.drew _);refine tkI 0 ?_;refine tkI 1 ?_;refine tkI 3 ?_;refine fN (rs:=[2,4]) (by kernel_rfl) (by simp) ?_
    refine(AllReadyIn.cons rfl (λr b=>?_) (AllReadyIn.cons rfl (λr b=>?_) AllReadyIn.nil))
    . go_simp;refine b _ _ ?_;try simp only[pt]
      refine fN (rs:=[4]) (by kernel_rfl) (by simp) ?_
      refine AllReadyIn.cons rfl (λr b=>?_) AllReadyIn.nil
      go_simp;refine b _ _ ?_;try simp only[pt]
      refine fN (rs:=[5]) (by kernel_rfl) (by simp) ?_
      refine AllReadyIn.cons rfl (λr b=>?_) AllReadyIn.nil
      go_simp;refine⟨trivial,rfl,(fj.2 H.o).mono ?_⟩;rintro _ f ⟨q,rfl,d,m,hb⟩;have X:=iJ (t.o q f d m hb);have T:=iJ hb;have ah:=(hb.cell (p:=⟨wr.heap.size,0,none⟩) (by show wr.heap.size<_;have:=D.o;exact(af.1 V.o).1)).trans z0
      clear d m hb;refine b _ _ ?_;try simp only[pt]
      refine fN (rs:=[6]) (by kernel_rfl) (by simp) ?_
      refine AllReadyIn.cons rfl (λr b=>?_) AllReadyIn.nil
      obtain⟨fn,aq,ar,ao,P,hR⟩:=X.o;go_simp;refine⟨rfl,hR.mono ?_⟩;rintro e W5 ⟨G,M,O,⟨rfl,B⟩|⟨rfl,B⟩⟩
      all_goals
       have K:=iJ B;have E:=iJ ((BA.o.andBelow T.o).trans M (λq s h=>(A.o q h).elim id (λh=>by omega)))
       have I:Hid (∀q,G q->C q\/W.heap.size<=q):=λq s=>(O q s).elim (A.o q) (λh=>.inr (by have:=D.o;omega))
       clear B M O;refine b _ _ ?_;refine tkI 7 ?_;refine wpAnyIn_done (by kernel_rfl) ?_ _
       gi_wp2
      . go_roundw
        case rel=>exact⟨k+1,G,by omega,by simp,by rw[TK.o];exact K.o,E.o,I.o⟩
        case measure=>simp[intOf];omega
      . refine bZ (eQ rfl _ _ _) rfl ?_;exact⟨G,⟨_,rfl⟩,E.o,I.o,.inr ⟨_,L.drop (k+1),by rw[aU];exact aa.o,K.o⟩⟩
    go_simp;refine b _ _ ?_;try simp only[pt]
    refine fN (rs:=[2,5]) (by kernel_rfl) (by simp) ?_
    refine(AllReadyIn.cons rfl (λr b=>?_) (AllReadyIn.cons rfl (λr b=>?_) AllReadyIn.nil))
    all_goals
     first
     |go_simp
      refine b _ _ ?_;try simp only[pt]
      refine fN (rs:=[5]) (by kernel_rfl) (by simp) ?_
      refine AllReadyIn.cons rfl (λr b=>?_) AllReadyIn.nil
      go_simp;refine⟨trivial,rfl,(fj.2 H.o).mono ?_⟩;rintro _ f ⟨q,rfl,d,m,hb⟩;have X:=iJ (t.o q f d m hb);have T:=iJ hb;have ah:=(hb.cell (p:=⟨wr.heap.size,0,none⟩) (by show wr.heap.size<_;have:=D.o;exact(af.1 V.o).1)).trans z0
      clear d m hb;refine b _ _ ?_;try simp only[pt]
     |go_simp
      refine⟨trivial,rfl,(fj.2 H.o).mono ?_⟩;rintro _ f ⟨q,rfl,d,m,hb⟩;have X:=iJ (t.o q f d m hb);have T:=iJ hb;have ah:=(hb.cell (p:=⟨wr.heap.size,0,none⟩) (by show wr.heap.size<_;have:=D.o;exact(af.1 V.o).1)).trans z0
      clear d m hb;refine b _ _ ?_;try simp only[pt]
      refine fN (rs:=[2]) (by kernel_rfl) (by simp) ?_
      refine AllReadyIn.cons rfl (λr b=>?_) AllReadyIn.nil
      go_simp;refine b _ _ ?_;try simp only[pt]
    all_goals
     refine fN (rs:=[6]) (by kernel_rfl) (by simp) ?_
     refine AllReadyIn.cons rfl (λr b=>?_) AllReadyIn.nil
     obtain⟨fn,aq,ar,ao,P,hR⟩:=X.o;go_simp;refine⟨rfl,hR.mono ?_⟩;rintro e W5 ⟨G,M,O,⟨rfl,B⟩|⟨rfl,B⟩⟩
     all_goals
      have K:=iJ B;have E:=iJ ((BA.o.andBelow T.o).trans M (λq s h=>(A.o q h).elim id (λh=>by omega)))
      have I:Hid (∀q,G q->C q\/W.heap.size<=q):=λq s=>(O q s).elim (A.o q) (λh=>.inr (by have:=D.o;omega))
      clear B M O;refine b _ _ ?_;refine tkI 7 ?_;refine wpAnyIn_done (by kernel_rfl) ?_ _
      gi_wp2
     . go_roundw
       case rel=>exact⟨k+1,G,by omega,by simp,by rw[TK.o];exact K.o,E.o,I.o⟩
       case measure=>simp[intOf];omega
     . refine bZ (eQ rfl _ _ _) rfl ?_;exact⟨G,⟨_,rfl⟩,E.o,I.o,.inr ⟨_,L.drop (k+1),by rw[aU];exact aa.o,K.o⟩⟩
  . obtain rfl:k=n:=by omega
    have HJ:=iJ Y;have A:=iJ j;clear Y j;gi_wp2
    go_end0
    exact⟨F,⟨_,rfl⟩,N,A.o,.inl (by have ae:=HJ.o;rw[ag.o,cJ] at ae;exact ae)⟩
end Go.Proofs.YtbdkogimlbnlmaaGreat
