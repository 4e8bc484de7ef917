import Derived.Test.YteaogidofpfmmaaGreatWaB22
set_option linter.all false
set_option maxHeartbeats 8000000
set_option maxRecDepth 10000
namespace Go.Proofs.YteaogidofpfmmaaGreat
open Go.Proofs.Tryz
open Go.RowKit Go.Shelf
attribute [local go_sem] Oper.semAt_some
theorem s7(w:World):Bs (w.alloc (.cells #[.int .u8 0] 5)) (some ⟨w.heap.size,0,none⟩) [0]:=by
 have h:=ag w (.cells #[.int .u8 0] 5);refine⟨by simp,by simp,.inr ⟨w.heap.size,0,rfl,λi a=>?_⟩⟩
 have a:i=0:=by simpa using a
 subst a;rw[ai _ _ _ _ _ _ h];rfl
theorem ze(w:World)(b:Nat)(rd:Int->Option Pg)(hA:iF rd)(ac:Nat)(hN:jx rd ac)(G:Nat->Prop)(r:i9 52 (.pointer (some ⟨b,0,none⟩)) rd G w)(hX:∀k,G k->k<w.heap.size)(root g A:Int)(h2:1<=g)(h3:g<=12)(Z:Option Addr)(ck:Nat)(k:List Nat)(hB:Bs w Z k)(hk:k.length<=1048576):
 Calls prog 17 #[.pointer (some ⟨b,0,none⟩),.agg #[.int .i64 root,.int .i64 g,.int .i64 A],.slice Z k.length ck] w λe w'=>Below w.heap.size w w'/\FiR w w' e (iE (prM Yf rd ⟨[],k++[0],false⟩ false) rd (iU ⟨[],k++[0],false⟩) false (g-1).toNat ⟨[],none⟩ (ja root g)).c:=by
 have B:=ix (λ(ar:World)(l:Option Addr)(c2:Nat)=>jI ar b root g A ⟨none,0,[],l,c2,k++[0],false⟩ 1)
 obtain⟨X,D,n,s0⟩:=iS w (.cells #[.int .i64 root,.int .i64 g,.int .i64 A] 34) (.cells #[.slice none 0 0,.slice none 0 0] 45) (Below.refl _ _);have n:=ix n;have D:=ix D;have HR:=ix r;have HX:=ix hX;have HB:=ix hB;have HA:=ix hA;have HN:=ix hN;clear r hX hB hA hN;unfold Rv.val at B;simp only[Rv.cs,bg,af,a7,de] at B;have J:=ix X;obtain⟨t,t1,t2⟩:=je X;go_enter func17,ntmps17;obtain⟨R,aa⟩:∃R,(iE (prM Yf rd ⟨[],k++[0],false⟩ false) rd (iU ⟨[],k++[0],false⟩) false (g-1).toNat ⟨[],none⟩ (ja root g)).c=R:=⟨_,rfl⟩;rw[aa];have av:=ix aa;clear aa;go_wp2_with fail
 generalize (w.alloc (.cells #[.int .i64 root,.int .i64 g,.int .i64 A] 34)).alloc (.cells #[.slice none 0 0,.slice none 0 0] 45)=U at *;have CL:=ix (lL U Z k.length ck k (HB.o.keep n.o) rfl (by omega))
 have aC:w.heap.size<=U.heap.size:=n.o.size;refine CL.o.mono ?_;rintro _ i ⟨q,c1,rfl,ap,ao,y⟩;have A1:=ix (bt n.o y);have R1:=ix (ap.keep (al i (.cells #[.int .u8 0] 5)));have N1:=ix ao;have B0:=ix (show Bs (i.alloc (.cells #[.int .u8 0] 5)) (some ⟨i.heap.size,0,none⟩) [0] from s7 _)
 have Y:=al i (.cells #[.int .u8 0] 5);have ag:=ix ((y.block (w.heap.size+1) (by omega)).trans D.o)
 have aD:i.cell? ⟨w.heap.size,0,none⟩=_:=(y.cell (p:=⟨w.heap.size,0,none⟩) (block_lt_of_cell t)).trans t;clear ap ao CL;go_wp2_with (at_builtin;refine jP rfl _ _ rfl q k.length c1 k rfl rfl R1.o (some ⟨i.heap.size,0,none⟩) 1 1 [0] rfl rfl B0.o (by simp;omega) ?_)
 intro l c2 d L aB ai _;have hA1:But (Q.InA q) (i.alloc (.cells #[.int .u8 0] 5)) d:=But.inA ai
 have M:∀j,Q.InA q j->U.heap.size<=j:=λj ⟨x,a,e⟩=>by
  rcases N1.o x a with⟨z,hz,_⟩|h
  . cases hz
  . omega
 have AB:=ix ((((But.ofBelow (S:=λj=>w.heap.size<=j) (bt A1.o Y))).trans (hA1.mono (T:=λj=>w.heap.size<=j) λj _ e=>by have:=M j e;omega) (λ_ _ e=>e)).below (λj hj e=>by omega))
 have W:But (Q.InA q) i d:=(But.ofBelow (S:=Q.InA q) Y).trans hA1 (λ_ _ e=>e)
 have XB:=ix (W.same ag.o (λe=>by have:=M _ e;have:=(ae.1 D.o).1;omega))
 have XT:=(W.same ((y.block w.heap.size (ae.1 J.o).1).trans J.o) (λe=>by have:=M _ e;have:=(ae.1 J.o).1;omega))
 clear t t1 t2 aD;obtain⟨t,t1,t2⟩:=je XT
 have aq:B8 (k++[0]):=λx a=>by
  rcases bO.1 a with h|h
  . exact HB.o.1 x h
  . rw[aZ.1 h];decide
 have aj:(k++[0]).length<=140737488355328:=by rw[af];simp only[dR];omega
 have ax:Hid (Ri d ⟨none,0,[],l,c2,k++[0],false⟩):=ix ⟨Bs.nil _,am _,L.bs aq (by show(k++[0]).length<=_;omega),L.cap⟩
 have aw:Hid (Rb ⟨none,0,[],l,c2,k++[0],false⟩):=ix ⟨an _,aj⟩
 have aA:Hid (∀j,i5 ⟨none,0,[],l,c2,k++[0],false⟩ j->j<d.heap.size):=ix (λj hj=>by
  rcases hj with⟨x,a,_⟩|⟨x,a,rfl⟩
  . cases a
  . exact L.lt a)
 clear L aB ai hA1 M W XT aq aj y Y R1 N1 B0 ag J X;go_wp2_with fail
 refine(B.o _ _ _).mono ?_;rintro _ C ⟨rfl,m1,m2,m3,m4,I,ms⟩;have O:=ix (bt AB.o I);have MB:=ix I;have aC:w.heap.size<=d.heap.size:=AB.o.size
 have P:Hid (∀j,(j=d.heap.size+1\/j=d.heap.size+2\/j=d.heap.size\/j=d.heap.size+3\/G j\/i5 ⟨none,0,[],l,c2,k++[0],false⟩ j)->j<C.heap.size):=ix (λj hk=>by
  rcases hk with h|h|h|h|h|h
  . omega
  . omega
  . omega
  . omega
  . have:=HX.o j h;omega
  . have:=aA.o j h;omega)
 have CO:=ix (mD (enters_of func86 (by kernel_rfl) rfl) (lI Yf zN rd HA.o (λ_=>0) (λ_ _=>by omega) ac HN.o b G C (d.heap.size+1) (d.heap.size+2) d.heap.size (d.heap.size+3) root g A h2 h3 ⟨none,0,[],l,c2,k++[0],false⟩ false m2 m3 m1 (by rw[if_neg (by decide)];exact m4) (ax.o.keep MB.o) aw.o (HR.o.keep O.o) (λj hk=>P.o j (.inr (.inr (.inr (.inr (.inl hk)))))) (λj hk=>P.o j (.inr (.inr (.inr (.inr (.inr hk)))))) none rfl rfl) (But.refl _ _) P.o)
 have E:=ix ((I.block (w.heap.size+1) (ae.1 XB.o).1).trans XB.o);have aE:w.heap.size+2<=C.heap.size:=by have:=(ae.1 E.o).1;omega
 clear m1 m2 m3 m4 I ms t t1 t2 B;go_wp2_with fail
 refine CO.o.mono ?_;rintro e m ⟨ab,au,hs,hc⟩;have B3:=ix (bt O.o ab);have F:=ix ((ab.block (w.heap.size+1) (ae.1 E.o).1).trans E.o);have r:au=R:=hs.trans av.o;have ah:w.heap.size<=C.heap.size:=O.o.size;clear hs CO ab E
 have ad:Hid (∃(c:Array Value)(H:Bool)(f:Int),e=.returned (.tuple #[.agg c,.bool H,.int .i64 f])/\(prog.info? 45).map (·.size)=some c.size/\(#[.slice none 0 0,.slice none 0 0]:Array Value).size=c.size/\c.all (·.oneCell')=true/\(m.setRow (w.heap.size+1) c).heap[w.heap.size+1]?=some (.cells c 45 (0,0))/\Below w.heap.size w (m.setRow (w.heap.size+1) c)/\FiR w (m.setRow (w.heap.size+1) c) (.returned (.tuple #[.agg c,.bool H,.int .i64 f])) R):=ix (by
  subst r;have s:∀c,But (λj=>j=w.heap.size+1) m (m.setRow (w.heap.size+1) c):=λc=>Q.iD _ _ _
  have N:∀c,Below w.heap.size w (m.setRow (w.heap.size+1) c):=λc=>((But.ofBelow (S:=λj=>j=w.heap.size+1) B3.o).trans (s c) (λ_ _ e=>e)).below (λj hj e=>by omega)
  rcases hc with⟨hn,rfl⟩|⟨c,H,f,rfl,hv⟩
  . exact⟨_,false,0,rfl,iN,rfl,(by simp[Value.oneCell']),bu _ _ _ _ _ _ F.o,N _,.inl ⟨hn,rfl⟩⟩
  . rcases hv with⟨K,V,g1,rfl,rfl,rfl,g5,g6,g7,g8,g9,g10,g11⟩|⟨e',g1,g2,rfl,rfl,rfl⟩
    . exact⟨_,true,0,rfl,iN,rfl,(by simp[Value.oneCell']),bu _ _ _ _ _ _ F.o,N _,.inr ⟨_,true,0,rfl,.inl ⟨K,V,g1,rfl,rfl,rfl,g5.but (s _) (λx a e=>by have:=g10 x a;omega),g6,g7.but (s _) (λx a e=>by have:=g11 x a;omega),g8,g9,λx a=>ay ah (g10 x a),λx a=>ay ah (g11 x a)⟩⟩⟩
    . exact⟨_,false,_,rfl,iN,rfl,(by simp[Value.oneCell']),bu _ _ _ _ _ _ F.o,N _,.inr ⟨_,false,_,rfl,.inr ⟨e',g1,g2,rfl,rfl,rfl⟩⟩⟩)
 clear r hc;obtain⟨c,H,f,rfl,y1,y2,y3,y4,y5,y6⟩:=ad.o;have Y1:=ix y1;have Y2:=ix y2;have Y3:=ix y3;have Y4:=ix y4;have Y5:=ix y5;have Y6:=ix y6;clear ad y1 y2 y3 y4 y5 y6;go_wp2_with (refine bz rfl 45 _ _ rfl (w.heap.size+1) _ rfl rfl 45 _ F.o Y1.o Y2.o Y3.o ?_)
 refine az (v:=.tuple #[.agg _,_,_]) (jU results17 _ _ (w.heap.size+1) 45 _ (0,0) _ rfl Y4.o underlying45 rfl Y1.o) rfl ?_;exact⟨Y5.o,Y6.o⟩
theorem Bq(w:World)(b:Nat)(rd:Int->Option Pg)(A:iF rd)(N:Nat)(D:jx rd N)(af:N<=65536)(l:Nat->Prop)(f:i9 52 (.pointer (some ⟨b,0,none⟩)) rd l w)(E:∀k,l k->k<w.heap.size)(r:Rv)(K:Ri w r)(J:Rb r)(L:∀k,i5 r k->k<w.heap.size):
 Calls prog 26 #[.pointer (some ⟨b,0,none⟩),.agg #[.int .i64 0,.int .i64 0,.int .i64 0],r.val] w λe I=>Below w.heap.size w I/\CoR w I e (([],0):List (List Nat×List Nat)×Nat):=by
 have i:=ix (λ(W:World)=>jI W b 0 0 0 r 0)
 obtain⟨p,q,g,s0⟩:=iS w (.cells #[.int .i64 0,.int .i64 0,.int .i64 0] 34) (.cells r.cs 62) (Below.refl _ _);have g:=ix g;have HR:=ix f;have O:=ix E;have ae:=ix K;have ad:=ix J;have ab:=ix L;have HA:=ix A;have HN:=ix D;clear f E K J L A D;unfold Rv.val at i ⊢;simp only[Rv.cs] at i p q g s0 ⊢;obtain⟨t0,t1,t2⟩:=je p;obtain⟨Z,r1,r2⟩:=je q;go_enter func26,ntmps26;obtain⟨R,t⟩:∃R,(([],0):List (List Nat×List Nat)×Nat)=R:=⟨_,rfl⟩;rw[t];have aa:=ix t;clear t;go_wp2_with fail
 generalize (w.alloc (.cells #[.int .i64 0,.int .i64 0,.int .i64 0] 34)).alloc (.cells #[.slice r.aL r.lo.length r.cL,.slice r.aH r.hi.length r.cH,.bool r.op] 62)=d at *;refine(i.o _).mono ?_;rintro _ n ⟨rfl,U,G,V,X,H,Y⟩;have v:=ix (bt g.o H);have ag:w.heap.size<=d.heap.size:=g.o.size
 have P:Hid (∀k,(k=d.heap.size+1\/k=d.heap.size+2\/k=d.heap.size\/k=d.heap.size+3\/l k\/i5 r k)->k<n.heap.size):=ix (λk hk=>by
  rcases hk with h|h|h|h|h|h
  . omega
  . omega
  . omega
  . omega
  . have:=O.o k h;omega
  . have:=ab.o k h;omega)
 have y:=ix (jM (B:=8*N) (enters_of func86 (by kernel_rfl) rfl) (by omega) (kZ Yl (λc=>c.1.length) (8*N) n (d.heap.size+1) (d.heap.size+2) d.heap.size (d.heap.size+3) G (λj=>j=d.heap.size+1\/j=d.heap.size+2\/j=d.heap.size\/j=d.heap.size+3\/l j\/i5 r j) (.inl rfl) ([],0)) (But.refl _ _) P.o)
 clear U G V X H Y t0 t1 t2 Z r1 r2 p q i;go_wp2_with fail
 refine y.o.mono ?_;rintro e S ⟨M,s,F,T⟩;have x:=ix (bt v.o M);have f:s=R:=F.trans aa.o;have ac:w.heap.size<=n.heap.size:=v.o.size;clear F y M;rcases T with⟨hz,rfl⟩|⟨hz,a,c,C,rfl,hP,hl,hn⟩
 . have m:Hid (R.2≠0/\R.2=s.2):=ix ⟨by rw[<-f];exact hz,by rw[f]⟩
   clear hz f;go_wp2;go_ret2
   exact⟨x.o,.inl ⟨m.o.1,by rw[m.o.2];rfl⟩⟩
 . have m:Hid (CoR w S (.returned (.tuple #[.slice a C.length c,.int .i64 0])) R):=ix (.inr ⟨by rw[<-f];exact hz,a,c,C,rfl,hP,by rw[<-f];exact hl,λk hk=>ay ac (hn k hk)⟩)
   clear hz f hP hl hn;go_wp2;go_ret2
   exact⟨x.o,m.o⟩
theorem yJ(w:World)(b:Nat)(rd:Int->Option Pg)(M:iF rd)(N:Nat)(O:jx rd N)(y:Nat->Prop)(m:i9 52 (.pointer (some ⟨b,0,none⟩)) rd y w)(P:∀k,y k->k<w.heap.size)(d:Option Addr)(g:Nat)(k:List Nat)(ac:Ri w ⟨d,g,k,none,0,[],true⟩)(ab:Rb ⟨d,g,k,none,0,[],true⟩)(af:∀j,i5 ⟨d,g,k,none,0,[],true⟩ j->j<w.heap.size):
 Calls prog 14 #[.pointer (some ⟨b,0,none⟩),.agg #[.int .i64 0,.int .i64 0,.int .i64 0],.slice d k.length g] w λe Y=>Below w.heap.size w Y/\FiR w Y e (none:Option (Nat×List Nat×List Nat)):=by
 have p:=ix (λ(ag:World)=>jI ag b 0 0 0 ⟨d,g,k,none,0,[],true⟩ 0)
 obtain⟨J,r,n,s0⟩:=iS w (.cells #[.int .i64 0,.int .i64 0,.int .i64 0] 34) (.cells #[.slice none 0 0,.slice none 0 0] 45) (Below.refl _ _);have n:=ix n;have r:=ix r;have HR:=ix m;have HX:=ix P;have am:=ix ac;have al:=ix ab;have aj:=ix af;have HA:=ix M;have HN:=ix O;clear m P ac ab af M O;unfold Rv.val at p;simp only[Rv.cs,bg] at p;obtain⟨t0,t1,t2⟩:=je J;go_enter func14,ntmps14;obtain⟨R,F⟩:∃R,(none:Option (Nat×List Nat×List Nat))=R:=⟨_,rfl⟩;rw[F];have ai:=ix F;clear F;go_wp2_with fail
 generalize (w.alloc (.cells #[.int .i64 0,.int .i64 0,.int .i64 0] 34)).alloc (.cells #[.slice none 0 0,.slice none 0 0] 45)=a at *;refine(p.o _).mono ?_;rintro _ q ⟨rfl,m1,X,m3,m4,E,ms⟩;have H:=ix (bt n.o E);have ao:w.heap.size<=a.heap.size:=n.o.size
 have LT:Hid (∀j,(j=a.heap.size+1\/j=a.heap.size+2\/j=a.heap.size\/j=a.heap.size+3\/y j\/i5 ⟨d,g,k,none,0,[],true⟩ j)->j<q.heap.size):=ix (λj hk=>by
  rcases hk with h|h|h|h|h|h
  . omega
  . omega
  . omega
  . omega
  . have:=HX.o j h;omega
  . have:=aj.o j h;omega)
 have I:=ix (mD (enters_of func86 (by kernel_rfl) rfl) (kZ Yf (λ_=>0) (8*N) q (a.heap.size+1) (a.heap.size+2) a.heap.size (a.heap.size+3) X (λj=>j=a.heap.size+1\/j=a.heap.size+2\/j=a.heap.size\/j=a.heap.size+3\/y j\/i5 ⟨d,g,k,none,0,[],true⟩ j) (.inl rfl) none) (But.refl _ _) LT.o)
 have B:=ix ((E.block (w.heap.size+1) (by omega)).trans r.o)
 have an:w.heap.size+2<=q.heap.size:=by omega
 clear m1 X m3 m4 E ms t0 t1 t2 J r p;go_wp2_with fail
 refine I.o.mono ?_;rintro e l ⟨G,ah,U,T⟩;have B3:=ix (bt H.o G);have t:=ix ((G.block (w.heap.size+1) (ae.1 B.o).1).trans B.o);have m:ah=R:=U.trans ai.o;have ad:w.heap.size<=q.heap.size:=H.o.size;clear U I G B
 have aa:Hid (∃(c:Array Value)(A:Bool)(f:Int),e=.returned (.tuple #[.agg c,.bool A,.int .i64 f])/\(prog.info? 45).map (·.size)=some c.size/\(#[.slice none 0 0,.slice none 0 0]:Array Value).size=c.size/\c.all (·.oneCell')=true/\(l.setRow (w.heap.size+1) c).heap[w.heap.size+1]?=some (.cells c 45 (0,0))/\Below w.heap.size w (l.setRow (w.heap.size+1) c)/\FiR w (l.setRow (w.heap.size+1) c) (.returned (.tuple #[.agg c,.bool A,.int .i64 f])) R):=ix (by
  subst m;have D:∀c,But (λj=>j=w.heap.size+1) l (l.setRow (w.heap.size+1) c):=λc=>Q.iD _ _ _
  have C:∀c,Below w.heap.size w (l.setRow (w.heap.size+1) c):=λc=>((But.ofBelow (S:=λj=>j=w.heap.size+1) B3.o).trans (D c) (λ_ _ e=>e)).below (λj hj e=>by omega)
  rcases T with⟨hn,rfl⟩|⟨c,A,f,rfl,hv⟩
  . exact⟨_,false,0,rfl,iN,rfl,(by simp[Value.oneCell']),bu _ _ _ _ _ _ t.o,C _,.inl ⟨hn,rfl⟩⟩
  . rcases hv with⟨K,V,g1,rfl,rfl,rfl,g5,g6,g7,g8,g9,g10,g11⟩|⟨e',g1,g2,rfl,rfl,rfl⟩
    . exact⟨_,true,0,rfl,iN,rfl,(by simp[Value.oneCell']),bu _ _ _ _ _ _ t.o,C _,.inr ⟨_,true,0,rfl,.inl ⟨K,V,g1,rfl,rfl,rfl,g5.but (D _) (λx i e=>by have:=g10 x i;omega),g6,g7.but (D _) (λx i e=>by have:=g11 x i;omega),g8,g9,λx i=>ay ad (g10 x i),λx i=>ay ad (g11 x i)⟩⟩⟩
    . exact⟨_,false,_,rfl,iN,rfl,(by simp[Value.oneCell']),bu _ _ _ _ _ _ t.o,C _,.inr ⟨_,false,_,rfl,.inr ⟨e',g1,g2,rfl,rfl,rfl⟩⟩⟩)
 clear m T;obtain⟨c,A,f,rfl,Z,W,s,y4,y5,y6⟩:=aa.o;have L:=ix Z;have Y2:=ix W;have Y3:=ix s;have Y4:=ix y4;have Y5:=ix y5;have Y6:=ix y6;clear aa Z W s y4 y5 y6;go_wp2_with (refine bz rfl 45 _ _ rfl (w.heap.size+1) _ rfl rfl 45 _ t.o L.o Y2.o Y3.o ?_)
 refine az (v:=.tuple #[.agg _,_,_]) (jU results14 _ _ (w.heap.size+1) 45 _ (0,0) _ rfl Y4.o underlying45 rfl L.o) rfl ?_;exact⟨Y5.o,Y6.o⟩
theorem xm(w:World)(b:Nat)(rd:Int->Option Pg)(hA:iF rd)(aa:Nat)(hN:jx rd aa)(E:Nat->Prop)(q:i9 52 (.pointer (some ⟨b,0,none⟩)) rd E w)(hX:∀k,E k->k<w.heap.size)(P:Option Addr)(ck:Nat)(k:List Nat)(hB:Bs w P k)(hk:k.length<=1048576):
 Calls prog 17 #[.pointer (some ⟨b,0,none⟩),.agg #[.int .i64 0,.int .i64 0,.int .i64 0],.slice P k.length ck] w λe w'=>Below w.heap.size w w'/\FiR w w' e (none:Option (Nat×List Nat×List Nat)):=by
 have y:=ix (λ(ap:World)(i:Option Addr)(c2:Nat)=>jI ap b 0 0 0 ⟨none,0,[],i,c2,k++[0],false⟩ 1)
 obtain⟨M,B,m,s0⟩:=iS w (.cells #[.int .i64 0,.int .i64 0,.int .i64 0] 34) (.cells #[.slice none 0 0,.slice none 0 0] 45) (Below.refl _ _);have m:=ix m;have B:=ix B;have HR:=ix q;have HX:=ix hX;have HB:=ix hB;have HA:=ix hA;have HN:=ix hN;clear q hX hB hA hN;unfold Rv.val at y;simp only[Rv.cs,bg,af,a7,de] at y;have H:=ix M;obtain⟨r,W,t2⟩:=je M;go_enter func17,ntmps17;obtain⟨R,N⟩:∃R,(none:Option (Nat×List Nat×List Nat))=R:=⟨_,rfl⟩;rw[N];have ar:=ix N;clear N;go_wp2_with fail
 generalize (w.alloc (.cells #[.int .i64 0,.int .i64 0,.int .i64 0] 34)).alloc (.cells #[.slice none 0 0,.slice none 0 0] 45)=L at *;have CL:=ix (lL L P k.length ck k (HB.o.keep m.o) rfl (by omega))
 have aw:w.heap.size<=L.heap.size:=m.o.size;refine CL.o.mono ?_;rintro _ g ⟨n,c1,rfl,aj,ai,t⟩;have A1:=ix (bt m.o t);have R1:=ix (aj.keep (al g (.cells #[.int .u8 0] 5)));have N1:=ix ai;have B0:=ix (show Bs (g.alloc (.cells #[.int .u8 0] 5)) (some ⟨g.heap.size,0,none⟩) [0] from s7 _)
 have O:=al g (.cells #[.int .u8 0] 5);have ac:=ix ((t.block (w.heap.size+1) (by omega)).trans B.o)
 have ax:g.cell? ⟨w.heap.size,0,none⟩=_:=(t.cell (p:=⟨w.heap.size,0,none⟩) (block_lt_of_cell r)).trans r;clear aj ai CL;go_wp2_with (at_builtin;refine jP rfl _ _ rfl n k.length c1 k rfl rfl R1.o (some ⟨g.heap.size,0,none⟩) 1 1 [0] rfl rfl B0.o (by simp;omega) ?_)
 intro i c2 a I av ag _;have hA1:But (Q.InA n) (g.alloc (.cells #[.int .u8 0] 5)) a:=But.inA ag
 have J:∀j,Q.InA n j->L.heap.size<=j:=λj ⟨x,d,e⟩=>by
  rcases N1.o x d with⟨z,hz,_⟩|h
  . cases hz
  . omega
 have AB:=ix ((((But.ofBelow (S:=λj=>w.heap.size<=j) (bt A1.o O))).trans (hA1.mono (T:=λj=>w.heap.size<=j) λj _ e=>by have:=J j e;omega) (λ_ _ e=>e)).below (λj Z e=>by omega))
 have U:But (Q.InA n) g a:=(But.ofBelow (S:=Q.InA n) O).trans hA1 (λ_ _ e=>e)
 have XB:=ix (U.same ac.o (λe=>by have:=J _ e;have:=(ae.1 B.o).1;omega))
 have XT:=(U.same ((t.block w.heap.size (ae.1 H.o).1).trans H.o) (λe=>by have:=J _ e;have:=(ae.1 H.o).1;omega))
 clear r W t2 ax;obtain⟨r,W,t2⟩:=je XT
 have ao:B8 (k++[0]):=λx d=>by
  rcases bO.1 d with h|h
  . exact HB.o.1 x h
  . rw[aZ.1 h];decide
 have ah:(k++[0]).length<=140737488355328:=by rw[af];simp only[dR];omega
 have aB:Hid (Ri a ⟨none,0,[],i,c2,k++[0],false⟩):=ix ⟨Bs.nil _,am _,I.bs ao (by show(k++[0]).length<=_;omega),I.cap⟩
 have aA:Hid (Rb ⟨none,0,[],i,c2,k++[0],false⟩):=ix ⟨an _,ah⟩
 have au:Hid (∀j,i5 ⟨none,0,[],i,c2,k++[0],false⟩ j->j<a.heap.size):=ix (λj Z=>by
  rcases Z with⟨x,d,_⟩|⟨x,d,rfl⟩
  . cases d
  . exact I.lt d)
 clear I av ag hA1 J U XT ao ah t O R1 N1 B0 ac H M;go_wp2_with fail
 refine(y.o _ _ _).mono ?_;rintro _ A ⟨rfl,m1,m2,m3,m4,G,ms⟩;have A2:=ix (bt AB.o G);have MB:=ix G;have aw:w.heap.size<=a.heap.size:=AB.o.size
 have LT:Hid (∀j,(j=a.heap.size+1\/j=a.heap.size+2\/j=a.heap.size\/j=a.heap.size+3\/E j\/i5 ⟨none,0,[],i,c2,k++[0],false⟩ j)->j<A.heap.size):=ix (λj hk=>by
  rcases hk with h|h|h|h|h|h
  . omega
  . omega
  . omega
  . omega
  . have:=HX.o j h;omega
  . have:=au.o j h;omega)
 have CO:=ix (mD (enters_of func86 (by kernel_rfl) rfl) (kZ Yf (λ_=>0) (8*aa) A (a.heap.size+1) (a.heap.size+2) a.heap.size (a.heap.size+3) m2 (λj=>j=a.heap.size+1\/j=a.heap.size+2\/j=a.heap.size\/j=a.heap.size+3\/E j\/i5 ⟨none,0,[],i,c2,k++[0],false⟩ j) (.inl rfl) none) (But.refl _ _) LT.o)
 have C:=ix ((G.block (w.heap.size+1) (ae.1 XB.o).1).trans XB.o);have aC:w.heap.size+2<=A.heap.size:=by have:=(ae.1 C.o).1;omega
 clear m1 m2 m3 m4 G ms r W t2 y;go_wp2_with fail
 refine CO.o.mono ?_;rintro e l ⟨s,aq,hs,hc⟩;have B3:=ix (bt A2.o s);have D:=ix ((s.block (w.heap.size+1) (ae.1 C.o).1).trans C.o);have q:aq=R:=hs.trans ar.o;have ad:w.heap.size<=A.heap.size:=A2.o.size;clear hs CO s C
 have ab:Hid (∃(c:Array Value)(F:Bool)(f:Int),e=.returned (.tuple #[.agg c,.bool F,.int .i64 f])/\(prog.info? 45).map (·.size)=some c.size/\(#[.slice none 0 0,.slice none 0 0]:Array Value).size=c.size/\c.all (·.oneCell')=true/\(l.setRow (w.heap.size+1) c).heap[w.heap.size+1]?=some (.cells c 45 (0,0))/\Below w.heap.size w (l.setRow (w.heap.size+1) c)/\FiR w (l.setRow (w.heap.size+1) c) (.returned (.tuple #[.agg c,.bool F,.int .i64 f])) R):=ix (by
  subst q;have Y:∀c,But (λj=>j=w.heap.size+1) l (l.setRow (w.heap.size+1) c):=λc=>Q.iD _ _ _
  have X:∀c,Below w.heap.size w (l.setRow (w.heap.size+1) c):=λc=>((But.ofBelow (S:=λj=>j=w.heap.size+1) B3.o).trans (Y c) (λ_ _ e=>e)).below (λj Z e=>by omega)
  rcases hc with⟨hn,rfl⟩|⟨c,F,f,rfl,hv⟩
  . exact⟨_,false,0,rfl,iN,rfl,(by simp[Value.oneCell']),bu _ _ _ _ _ _ D.o,X _,.inl ⟨hn,rfl⟩⟩
  . rcases hv with⟨K,V,g1,rfl,rfl,rfl,g5,g6,g7,g8,g9,g10,g11⟩|⟨e',g1,g2,rfl,rfl,rfl⟩
    . exact⟨_,true,0,rfl,iN,rfl,(by simp[Value.oneCell']),bu _ _ _ _ _ _ D.o,X _,.inr ⟨_,true,0,rfl,.inl ⟨K,V,g1,rfl,rfl,rfl,g5.but (Y _) (λx d e=>by have:=g10 x d;omega),g6,g7.but (Y _) (λx d e=>by have:=g11 x d;omega),g8,g9,λx d=>ay ad (g10 x d),λx d=>ay ad (g11 x d)⟩⟩⟩
    . exact⟨_,false,_,rfl,iN,rfl,(by simp[Value.oneCell']),bu _ _ _ _ _ _ D.o,X _,.inr ⟨_,false,_,rfl,.inr ⟨e',g1,g2,rfl,rfl,rfl⟩⟩⟩)
 clear q hc;obtain⟨c,F,f,rfl,y1,y2,y3,y4,y5,y6⟩:=ab.o;have Y1:=ix y1;have Y2:=ix y2;have Y3:=ix y3;have Y4:=ix y4;have Y5:=ix y5;have Y6:=ix y6;clear ab y1 y2 y3 y4 y5 y6;go_wp2_with (refine bz rfl 45 _ _ rfl (w.heap.size+1) _ rfl rfl 45 _ D.o Y1.o Y2.o Y3.o ?_)
 refine az (v:=.tuple #[.agg _,_,_]) (jU results17 _ _ (w.heap.size+1) 45 _ (0,0) _ rfl Y4.o underlying45 rfl Y1.o) rfl ?_;exact⟨Y5.o,Y6.o⟩
end Go.Proofs.YteaogidofpfmmaaGreat
namespace Go.Proofs.YteaogidofpfmmaaGreat
open Go.Proofs.Tryz
open Go.RowKit Go.Shelf
def PthM(R:Option (List (Int×Pg)))(l:List Int)(ev:Int):Prop:=match R with
 |none=>l=[]/\ev=15
 |some L=>l=L.map (·.1)/\ev=0
def yD(w w':World)(e:Ending)(R:Option (List (Int×Pg))):Prop:=∃(l:List Int)(ev:Int)(a:Option Addr)(c:Nat),e=.returned (.tuple #[.slice a l.length c,.int .i64 ev])/\Q.Gw 3 1 w' a c l.length (Q.vi l)/\(∀y,a=some y->w.heap.size<=y.block)/\Below w.heap.size w w'/\PthM R l ev
theorem qG{rd:Int->Option Pg}{k:List Nat}:∀{h:Nat}{n:Int}{l:List (Int×Pg)},iZ rd k h n=some l->l.length=h
 |0,n,l,e=>by
  unfold iZ at e;cases e;rfl
 |h+1,n,l,e=>by
  unfold iZ at e;cases hr:rd n with
  |none=>rw[hr] at e;cases e
  |some p=>
   rw[hr] at e;simp only at e;split at e
   . cases e
   . cases hw:iZ rd k h (p.at (jg k p.items)).child with
     |none=>rw[hw] at e;cases e
     |some m=>
      rw[hw] at e;simp only[eX,au] at e;subst e;simp[qG hw]
theorem Av(w:World)(b:Nat)(rd:Int->Option Pg)(hA:iF rd)(XV:Nat->Prop)(hR:i9 52 (.pointer (some ⟨b,0,none⟩)) rd XV w)(root B:Int)(h:Nat)(hh:h<=12)(q:Option Addr)(ck:Nat)(k:List Nat)(t:Bs w q k):
 Calls prog 19 #[.pointer (some ⟨b,0,none⟩),.agg #[.int .i64 root,.int .i64 (h:Int),.int .i64 B],.slice q k.length ck] w λe w'=>yD w w' e (iZ rd k h root):=by
 have C:=ix (al w (.cells #[.int .i64 root,.int .i64 (h:Int),.int .i64 B] 34));have X0:=ag w (.cells #[.int .i64 root,.int .i64 (h:Int),.int .i64 B] 34);obtain⟨t0,t1,t2⟩:=iz X0;have Z:=ix (tN _ b rd hA XV (hR.keep C.o) root B h hh q ck k (t.keep C.o));obtain⟨R,aa⟩:∃R,iZ rd k h root=R:=⟨_,rfl⟩;have WL:=ix (show ∀l,R=some l->l.length<=12 from λl hl=>by rw[<-aa] at hl;rw[qG hl];exact hh)
 rw[aa] at Z ⊢;clear aa hR hA t X0;go_enter func19,ntmps19;go_upto_region 1 with fail
 generalize w.alloc (.cells #[.int .i64 root,.int .i64 (h:Int),.int .i64 B] 34)=w1 at *;go_wp2_with fail
 refine Z.o.mono ?_;rintro e s hw
 have ae:Hid (∃(L:List (Int×Pv))(a:Option Addr)(c:Nat)(H:Int),e=.returned (.tuple #[.slice a L.length c,.int .i64 H])/\Q.Gw 91 6 s a c L.length (nmw L)/\Below w.heap.size w s/\L.length<=12/\PthM R (L.map (·.1)) H):=ix (by
  rcases hw with⟨rfl,rfl,hb⟩|⟨L,a,c,rfl,rfl,d,hN,_,hb⟩
  . exact⟨[],none,0,15,rfl,Q.Gw.nil _ _ _,bt C.o hb,an _,rfl,rfl⟩
  . exact⟨L,a,c,0,rfl,d,bt C.o hb,by have:=WL.o _ rfl;simpa[nmg] using this,by simp[nmg],rfl⟩)
 clear hw;obtain⟨L,a,c,H,rfl,d,af,ac,aj⟩:=ae.o;have W:=ix d;have B2:=ix af;have FF:=ix aj;clear ae d af aj Z t0 t1 t2;obtain⟨n,hn⟩:∃n,L.length=n:=⟨_,rfl⟩;have X:=ix hn;rw[hn] at W ac ⊢;clear hn;have HM:=ix ac;clear ac;go_upto_region 4 with fail
 go_loopw [10,22] (λvo vi wx=>∃(i:Nat)(m:Option Addr)(r:Nat),i<=n/\vo=.slice m i r/\vi=.int .i64 (i:Int)/\Q.Gw 3 1 wx m r i (Q.vi ((L.take i).map (·.1)))/\(∀y,m=some y->s.heap.size<=y.block)/\Below s.heap.size s wx) (λ_ vi _=>n-(intOf vi).toNat)
 case atStart=>exact⟨0,none,0,an _,rfl,rfl,Q.Gw.nil _ _ _,λy v=>(by cases v),Below.refl _ _⟩
 case round=>
  obtain⟨i,m,r,hi,rfl,rfl,d,A,hb⟩:=hrel;have GI:=ix d;have Y:=ix A;have U:=ix hb;clear d A hb;by_cases az:i<n
  . have aA:(i:Int)<(n:Int):=by omega
    have ab:i<L.length:=by rw[X.o];exact az
    obtain⟨ap,ax⟩:=W.o.addr (by omega)
    subst ax;have GK:=ix (W.o.keep U.o);have f:∀j u,j<6->(nmc (L.getD i (0,Pv.zero)))[j]?=some u->wr.cell? ⟨ap,i*6+j,none⟩=some u:=λj u hj hu=>GK.o.cell (by rw[r8 L i j ab hj];exact hu)
    have SN:Hid (Q.vi ((L.take i).map (·.1))++[.int .i64 (L.getD i (0,Pv.zero)).1]=Q.vi ((L.take (i+1)).map (·.1))):=ix (by
     have e:L.take (i+1)=L.take i++[L.getD i (0,Pv.zero)]:=by rw[bZ ab];simp[ab]
     rw[nU,e,dy];rfl)
    obtain⟨x,I⟩:∃x,L.getD i (0,Pv.zero)=x:=⟨_,rfl⟩;rw[I] at f SN;clear I;obtain⟨p,ar⟩:=x;obtain⟨K,M,E,G,J,D,F,P,N⟩:=ar;have y0:=f 0 _ (by decide) rfl
    have y1:=f 1 _ (by decide) rfl
    have y2:=f 2 _ (by decide) rfl
    have y3:=f 3 _ (by decide) rfl
    have y4:=f 4 _ (by decide) rfl
    have y5:=f 5 _ (by decide) rfl
    rw[dp] at y0;have aw:=HM.o;have ah:i+1<=maxLen:=ay (by omega:i+1<=12) (by decide)
    have ao:(i+1)*8<=140737488355328:=by omega
    have av:=ix ah;have au:=ix ao;have aB:i+1<=17592186044416:=by omega
    clear f ah ao aw;have A1:=ix (al wr (.cells #[.int .i64 p,.int .i64 K,.int .i64 M,.slice E J.length G,.slice D P.length F,.int .i64 N] 91));have X1:=ix (bj wr (.cells #[.int .i64 p,.int .i64 K,.int .i64 M,.slice E J.length G,.slice D P.length F,.int .i64 N] 91));go_upto_region 6 with fail
    have sA:=size_alloc wr (.cells #[.int .i64 p,.int .i64 K,.int .i64 M,.slice E J.length G,.slice D P.length F,.int .i64 N] 91);generalize wr.alloc (.cells #[.int .i64 p,.int .i64 K,.int .i64 M,.slice E J.length G,.slice D P.length F,.int .i64 N] 91)=O at *;have m0:O.cell? ⟨wr.heap.size,0,none⟩=some (.int .i64 p):=by rw[ai _ _ _ _ _ _ X1.o];rfl
    have BA:=ix (bt U.o A1.o);have T:=ix (al O (.cells #[.int .i64 p] 3));have X2:=ix (bj O (.cells #[.int .i64 p] 3));have G1:=ix ((GI.o.keep A1.o).keep T.o);have V:=ix (bt BA.o T.o);clear y0 y1 y2 y3 y4 y5 sA;go_wp2_with (at_builtin;refine jq underlying22 li rfl (by decide) rfl _ _ rfl m i r (Q.vi ((L.take i).map (·.1))) rfl G1.o ⟨O.heap.size,0,none⟩ 1 [Value.int .i64 p] rfl rfl (lF X2.o) (λu hu=>by rw[aZ.1 hu];rfl) av.o au.o ?_)
    intro g c2 w5 d A t;have B5:=ix (((But.ofBelow (S:=Q.InA m) V.o).trans t (λ_ _ e=>e)).below (λk hk ⟨x,I,e⟩=>by have:=Y.o x I;omega))
    have N5:=ix (show ∀y,(some ⟨g,0,none⟩:Option Addr)=some y->s.heap.size<=y.block from λy v=>by
     rcases A y v with⟨z,hz,e⟩|h
     . rw[<-e];exact Y.o z hz
     . exact ay V.o.size h)
    have G5:=ix (show Q.Gw 3 1 w5 (some ⟨g,0,none⟩) c2 (i+1) (Q.vi ((L.take (i+1)).map (·.1))) from by rw[<-SN.o,List.map_take];exact d)
    clear d A t G1 V T X2 m0;go_wp2_with fail
    go_roundw
    case rel=>exact⟨i+1,some ⟨g,0,none⟩,c2,by omega,rfl,by go_num,G5.o,N5.o,B5.o⟩
    case measure=>simp[intOf];omega
  . obtain rfl:i=n:=by omega
    have GE:=ix (show Q.Gw 3 1 wr m r i (Q.vi (L.map (·.1))) from by
     have k:=GI.o;rw[eU (by rw[X.o];exact am _)] at k
     exact k)
    have LL:=ix (show(L.map (·.1)).length=i from by rw[bM];exact X.o)
    go_wp2_with fail
    go_ret2
    refine⟨L.map (·.1),H,m,r,by rw[LL.o];rfl,by rw[LL.o];exact GE.o,λy v=>ay B2.o.size (Y.o y v),bt B2.o U.o,FF.o⟩
end Go.Proofs.YteaogidofpfmmaaGreat
namespace Go.Proofs.YteaogidofpfmmaaGreat
open Go.Proofs.Tryz
open Go.RowKit
variable {e:Ending}{h:Int}{rd:Int->Option Pg}{k x:List Nat}{r:Rg}{w w':World}
theorem zl(w:World)(p:Pv)(H:Option Addr)(R:Nat)(k:List Nat)(I:Pi w p)(T:Bs w H k):
 Calls prog 49 #[p.vl,.slice H k.length R] w λe w'=>e=.returned (.int .i64 ((jg k p.pg.items:Nat):Int))/\Below w.heap.size w w':=by
 obtain⟨kind,A,l,q,L,g,m,y,next⟩:=p
 have O:=ix I.it;have hL:=I.it.2.1;have BB:=ix T;have N:Hid ((L.map Iv.it).drop 1=(L.drop 1).map Iv.it):=by show _=_;rw[List.map_drop]
 have f:=ix λ(j:Nat)(h1:j<=L.length-1)(h2:∀i,i<j->(L.getD (i+1) Iv.zero).key<=k)(h3:j=L.length-1\/¬(L.getD (j+1) Iv.zero).key<=k)=>(show jg k (L.map Iv.it)=j from by
  have S:∀i,(L.drop 1).getD i Iv.zero=L.getD (i+1) Iv.zero:=λi=>by simp[Nat.add_comm]
  unfold jg;rw[N.o];exact su k _ j (by simpa using h1) (λi s=>by rw[js,S];exact h2 i s) (h3.imp (λe=>by simpa using e) (λe=>by rw[js,S];exact e)))
 unfold Pv.vl Pv.pg;simp only[Pv.cs] at *;have M:=ix (al w (.cells #[.int .i64 kind,.int .i64 A,.slice l L.length q,.slice g y.length m,.int .i64 next] 77))
 have P:=ix (bj w (.cells #[.int .i64 kind,.int .i64 A,.slice l L.length q,.slice g y.length m,.int .i64 next] 77))
 obtain⟨n,K⟩:∃n,L.length=n:=⟨_,rfl⟩;have D:=ix K;rw[K] at hL M P ⊢;clear I T K N;go_enter func49,ntmps49;go_wp2;generalize (w.alloc (.cells #[.int .i64 kind,.int .i64 A,.slice l n q,.slice g y.length m,.int .i64 next] 77))=w1 at*
 go_loopw [5] (λi wr=>∃j:Nat,j<=n-1/\i=.int .i64 (j:Int)/\(∀i,i<j->(L.getD (i+1) Iv.zero).key<=k)/\Below w.heap.size w wr/\wr.heap[w.heap.size]?=some (.cells #[.int .i64 kind,.int .i64 A,.slice l n q,.slice g y.length m,.int .i64 next] 77 (0,0))) (λi _=>n-(intOf i).toNat)
 case atStart=>exact⟨0,an _,rfl,λi s=>absurd s (dA _),M.o,P.o⟩
 case round=>
  obtain⟨j,hj,rfl,J,hb,t⟩:=hrel;have G:=ix J;have B:=ix hb;have X1:=ix t;obtain⟨x0,x1,x2,x3,x4⟩:=Am t;by_cases ab:j+1<n
  . have aa:(j:Int)+1<(n:Int):=by omega
    have Z:j+1<L.length:=by rw[D.o];exact ab
    obtain⟨bI,af,rfl,U⟩:=(O.o.keep hb).at Z;obtain⟨V,W,X,Y⟩:=jn U;have E:=ix ((O.o.1 _ (iH Z)).keep hb);have a:=ix (jo wr (L.getD (j+1) Iv.zero).aK H (L.getD (j+1) Iv.zero).key.length k.length (L.getD (j+1) Iv.zero).cK R _ k E.o.bk (BB.o.keep hb) rfl rfl);clear J hb t U;by_cases c:(L.getD (j+1) Iv.zero).key<=k
    . have U2:Hid (∀i,i<j+1->(L.getD (i+1) Iv.zero).key<=k):=λi s=>by
       by_cases e:i=j
       . rw[e];exact c
       . exact G.o i (by omega)
      obtain⟨z,d,ac⟩:∃z,iy (L.getD (j+1) Iv.zero).key k=z/\decide (z<=0)=true:=⟨_,rfl,ar (kS.2 c)⟩;rw[d] at a;clear c d E f;generalize L.getD (j+1) Iv.zero=v at *;obtain⟨aK,cK,ad,aV,cV,val,child,ae⟩:=v;simp only at V W X Y a;go_wp2_with (go_at_call 37;refine a.o.mono ?_;rintro _ w2 ⟨rfl,b⟩)
      have C:=ix (bt B.o b);have X2:=ix (uH X1.o b);clear b;go_roundw
      case rel=>exact⟨j+1,by omega,by go_num,U2.o,C.o,X2.o⟩
      case measure=>simp[intOf];omega
    . have F:Hid (jg k (L.map Iv.it)=j):=f.o j (by omega) G.o (.inr c)
      obtain⟨z,d,ac⟩:∃z,iy (L.getD (j+1) Iv.zero).key k=z/\decide (z<=0)=false:=⟨_,rfl,ah (λh=>c (kS.1 h))⟩
      rw[d] at a;clear c d f E;generalize L.getD (j+1) Iv.zero=v at *;obtain⟨aK,cK,ad,aV,cV,val,child,ae⟩:=v;simp only at V W X Y a;go_wp2_with (go_at_call 37;refine a.o.mono ?_;rintro _ w2 ⟨rfl,b⟩;have C:=ix (bt B.o b);clear b)
      go_ret;exact⟨by rw[F.o];rfl,C.o⟩
  . have aa:¬((j:Int)+1<(n:Int)):=by omega
    have F:Hid (jg k (L.map Iv.it)=j):=f.o j (by rw[D.o];exact hj) G.o (.inl (by rw[D.o];omega))
    clear J hb t;go_wp2;go_ret;exact⟨by rw[F.o];rfl,B.o⟩
theorem Ac{rd:Int->Option Pg}{k:List Nat}{h:Nat}{n:Int}{L:List (Int×Pg)}(e:iZ rd k (h+1) n=some L):∃(p:Pg)(a:List (Int×Pg)),rd n=some p/\lvl p h=true/\iZ rd k h (p.at (jg k p.items)).child=some a/\L=(n,p)::a:=by
 unfold iZ at e;cases hr:rd n with
 |none=>rw[hr] at e;cases e
 |some p=>
  rw[hr] at e;simp only at e;split at e
  . cases e
  . rename_i b;cases hw:iZ rd k h (p.at (jg k p.items)).child with
    |none=>rw[hw] at e;cases e
    |some m=>
     rw[hw] at e;simp only[eX,au] at e;exact⟨p,m,rfl,by simpa using b,hw,e.symm⟩
theorem Js.child{b o:Nat}{L:List Iv}(h:Js w (some ⟨b,o,none⟩) L){j:Nat}(a:j<L.length):w.cell? ⟨b,o+j*4+2,none⟩=some (.int .i64 (L.getD j Iv.zero).child):=by
 obtain⟨d,f,e,c⟩:=h.at a;cases e;exact(jn c).2.2.1
def PtD(w w':World)(e:Ending)(l:List Int):Prop:=Below w.heap.size w w'/\∃(a:Option Addr)(c:Nat),e=.returned (.tuple #[.slice a l.length c,.int .i64 0])/\Q.Gw 3 1 w' a c l.length (Q.vi l)
theorem A6(w:World)(rb:Nat)(D:Rd)(aL:Nat->Nat)(hR:Rq w rb D aL)(hA:iF (rdR D))(root ah:Int)(h:Nat)(hh:h<=12)(g:Option Addr)(ck:Nat)(k:List Nat)(K:Bs w g k)(Y:List (Int×Pg))(hW:iZ (rdR D) k h root=some Y):
 Calls prog 20 #[.pointer (some ⟨rb,0,none⟩),.agg #[.int .i64 root,.int .i64 (h:Int),.int .i64 ah],.slice g k.length ck] w λe w'=>PtD w w' e (Y.map Prod.fst):=by
 have A0:=ix (al w (.cells #[.int .i64 root,.int .i64 (h:Int),.int .i64 ah] 34));have c:=ix (ag w (.cells #[.int .i64 root,.int .i64 (h:Int),.int .i64 ah] 34));have HR:=ix λ(W:World)(hb:Below w.heap.size w W)=>hR.keep hb
 have HB:=ix λ(W:World)(hb:Below w.heap.size w W)=>K.keep hb
 have HA:=ix hA;obtain⟨l,hl⟩:∃l,Y.map Prod.fst=l:=⟨_,rfl⟩;rw[hl];have H0:=ix (show ∃(f:List (Int×Pg)),iZ (rdR D) k (h-0) root=some f/\([]:List Int)++f.map Prod.fst=l from⟨Y,hW,hl⟩)
 clear hR K hA hl hW;obtain⟨N,O,t2⟩:=iz c.o;go_enter func20,ntmps20;go_upto_region 4 with fail
 obtain⟨P,ap⟩:∃W,w.alloc (.cells #[.int .i64 root,.int .i64 (h:Int),.int .i64 ah] 34)=W:=⟨_,rfl⟩;have S1:P.heap.size=w.heap.size+1:=by rw[<-ap,size_alloc]
 rw[ap] at A0 c ⊢;clear ap N O t2;go_loopw [8,9,10] (λvo vn vi wx=>∃(i:Nat)(n:Option Addr)(J:Nat)(b:List Int)(a:Int),i<=h/\vo=.slice n i J/\vn=.int .i64 a/\vi=.int .i64 (i:Int)/\Q.Gw 3 1 wx n J i (Q.vi b)/\(∀y,n=some y->P.heap.size<=y.block)/\Below P.heap.size P wx/\b.length=i/\∃(f:List (Int×Pg)),iZ (rdR D) k (h-i) a=some f/\b++f.map Prod.fst=l) (λ_ _ vi _=>h-(intOf vi).toNat)
 case atStart=>exact⟨0,none,0,[],root,an _,rfl,rfl,rfl,Q.Gw.nil _ _ _,λy hy=>(by cases hy),Below.refl _ _,rfl,H0.o⟩
 case round=>
  obtain⟨i,n,J,b,a,hi,rfl,rfl,rfl,M,R,hb,az,f,t,ac⟩:=hrel;have GI:=ix M;have NN:=ix R;have BB:=ix hb;have X:=ix az;have B0:=ix (bt A0.o (hb.mono (by omega)))
  have X1:=ix ((hb.block w.heap.size (by omega)).trans c.o)
  obtain⟨N,O,t2⟩:=iz X1.o;clear M R hb az;by_cases aW:i<h
  . have aN:(i:Int)<(h:Int):=by omega
    obtain⟨m,hm⟩:∃m,h-i=m+1:=⟨h-i-1,by omega⟩
    rw[hm] at t;obtain⟨p,L3,hp,aA,aD,rfl⟩:=Ac t;have HP:=ix hp;have aI:=ix aA;have Z:=ix aD;have SN:Hid (Q.vi b++[.int .i64 a]=Q.vi (b++[a])):=ix (by rw[nU])
    have SE:Hid ((b++[a])++L3.map Prod.fst=l):=by show _=_;rw[<-ac];simp
    clear hp aA aD t ac;have aB:i+1<=maxLen:=ay (by omega:i+1<=13) (by decide)
    have aK:=ix aB;have aJ:=ix (show(i+1)*8<=140737488355328 by omega)
    have aR:i+1<=17592186044416:=by omega
    have A2:=ix (al wr (.cells #[.int .i64 a] 3));have X2:=ix (bj wr (.cells #[.int .i64 a] 3));have G1:=ix (GI.o.keep A2.o);have BX:=ix (bt BB.o A2.o);clear aB;go_wp2_with (at_builtin;refine jq underlying22 li rfl (by decide) rfl _ _ rfl n i J (Q.vi b) rfl G1.o ⟨wr.heap.size,0,none⟩ 1 [Value.int .i64 a] rfl rfl (lF X2.o) (λaP hu=>by rw[aZ.1 hu];rfl) aK.o aJ.o ?_)
    intro u c2 H M R K;have U:=ix (((But.ofBelow (S:=Q.InA n) BX.o).trans K (λ_ _ e=>e)).below (λk hk ⟨x,hx,e⟩=>by have:=NN.o x hx;omega))
    have N5:=ix (show ∀y,(some ⟨u,0,none⟩:Option Addr)=some y->P.heap.size<=y.block from λy hy=>by
     rcases R y hy with⟨z,hz,e⟩|h
     . rw[<-e];exact NN.o z hz
     . exact ay BX.o.size h)
    have G5:=ix (show Q.Gw 3 1 H (some ⟨u,0,none⟩) c2 (i+1) (Q.vi (b++[a])) from by rw[<-SN.o];exact M)
    have B6:=ix (bt A0.o (U.o.mono (by omega)))
    have X5:=ix ((U.o.block w.heap.size (by omega)).trans c.o)
    clear M R K G1 BX A2 X2 GI NN BB X1 N O t2;obtain⟨N,O,t2⟩:=iz X5.o;by_cases aV:i+1<h
    . have aO:(i:Int)<(h:Int)-1:=by omega
      obtain⟨q,rfl⟩:∃q,m=q+1:=⟨m-1,by omega⟩
      obtain⟨ar,am⟩:=qR HP.o;have RW:=ix (HR.o H B6.o);obtain⟨z,g3,rfl,hz,aQ,c3,s⟩:=RW.o.page ar;have aE:=Rd.on_mem RW.o (jN ar);have PI:=ix λ(W:World)(hb:Below w.heap.size w W)=>((HR.o W hb).pz _ aE).pi
      obtain⟨pv,aC⟩:∃q,D.on ((z:Int)+1)=q:=⟨_,rfl⟩;rw[aC] at am s PI;have aa:=ix (HA.o _ _ HP.o);have PQ:=ix am;clear aC aE ar am;have aY:(z:Int)<(D.C.length:Int):=by omega
      have aM:(z:Int)+1-1=(z:Int):=by omega
      have aS:IntKind.i64.wrap ((z:Int)+1-1)=(z:Int):=by rw[aM];exact iQ (by omega) (by omega)
      obtain⟨E,F,A,C,L,v,B,I,G⟩:=pv;have y0:=s 0 _ (by decide) rfl
      have y1:=s 1 _ (by decide) rfl
      have y2:=s 2 _ (by decide) rfl
      have y3:=s 3 _ (by decide) rfl
      have y4:=s 4 _ (by decide) rfl
      rw[dp] at y0;have T:=ix (al H (.cells #[.int .i64 E,.int .i64 F,.slice A L.length C,.slice v I.length B,.int .i64 G] 77));have X3:=ix (ag H (.cells #[.int .i64 E,.int .i64 F,.slice A L.length C,.slice v I.length B,.int .i64 G] 77));clear s;go_upto_region 9 with fail
      have B7:=ix (bt U.o T.o);have B8:=ix (bt B6.o T.o);have G7:=ix (G5.o.keep T.o);generalize H.alloc (.cells #[.int .i64 E,.int .i64 F,.slice A L.length C,.slice v I.length B,.int .i64 G] 77)=d at *;obtain⟨gp,aw⟩:∃aH,H.heap.size=aH:=⟨_,rfl⟩;simp only[aw] at X3 ⊢;clear aw y0 y1 y2 y3 y4 c3 T RW N O t2;have RT:=ix λ(W:World)(hb:Below d.heap.size d W)=>(zl W ⟨E,F,A,C,L,v,B,I,G⟩ g ck k (PI.o _ (bt B8.o hb)) (HB.o _ (bt B8.o hb)))
      have aj:=ix (PI.o _ B8.o).it;obtain⟨m0,m1,m2,m3,m4⟩:=i6 X3.o;have ae:p.items=L.map Iv.it:=by rw[<-PQ.o];rfl
      have aF:0<p.items.length:=by
       rcases aa.o.kind with h|h|h
       . exact(aa.o.leaf0 h).2
       . have:=(aa.o.idx h).2.2;omega
       . exact absurd h (jA.1 aI.o).1
      have ao:=tF (k:=k) aF;rw[ae,bM] at ao
      have CH:Hid ((p.at (jg k p.items)).child=(L.getD (jg k p.items) Iv.zero).child):=by
       show(p.items.getD _ It.zero).child=_;rw[ae,js];rfl
      have W4:=Z.o;rw[CH.o] at W4
      have au:Hid (∀(W:World),Below d.heap.size d W->Calls prog 49 #[.agg #[.int .i64 E,.int .i64 F,.slice A L.length C,.slice v I.length B,.int .i64 G],.slice g k.length ck] W λe w'=>e=.returned (.int .i64 ((jg k p.items:Nat):Int))/\Below d.heap.size d w'):=by
       show ∀_,_->_;intro W hb;have h:=RT.o W hb;have e:(⟨E,F,A,C,L,v,B,I,G⟩:Pv).pg.items=p.items:=by rw[PQ.o]
       rw[e] at h;exact h.mono λ_ _ hx=>⟨hx.1,bt hb hx.2⟩
      have WW:=ix W4;obtain⟨j,V⟩:∃j,jg k p.items=j:=⟨_,rfl⟩;rw[V] at au WW;rw[ae] at V;have ax:j<L.length:=by rw[<-V];exact ao
      have aU:(j:Int)<(L.length:Int):=by omega
      have aT:(0:Int)<=(j:Int):=by omega
      clear V ao ae aF CH Z W4 RT PQ aa;obtain⟨b1,o1,rfl,hr⟩:=aj.o.at ax;have K2:Hid (∀(ai:World),Below d.heap.size d ai->ai.cell? ⟨b1,o1+j*4+2,none⟩=some (.int .i64 (L.getD j Iv.zero).child)):=λai hb=>Js.child (aj.o.keep hb) ax
      obtain⟨ch,av⟩:∃aG,(L.getD j Iv.zero).child=aG:=⟨_,rfl⟩;rw[av] at K2 WW;clear av;clear hr aj;go_region_with (go_at_call 49;with_reducible refine(au.o _ (dr2 d)).mono ?_;rintro _ w8 ⟨rfl,ab⟩;have B9:=ix (bt B7.o ab);have G9:=ix (G7.o.keep ab);have k2:=K2.o w8 ab;have aX:=(ab.cell (p:=⟨gp,2,none⟩) (block_lt_of_cell m2)).trans m2)
      all_goals (go_wp2_with fail;go_roundw)
      all_goals first
       |(exact⟨i+1,some ⟨u,0,none⟩,c2,b++[(z:Int)+1],ch,by omega,rfl,rfl,by first|(go_num;done)|exact bf (Value.int IntKind.i64) (by omega),G9.o,N5.o,B9.o,by rw[af,X.o];rfl,L3,by rw[show h-(i+1)=q+1 by omega];exact WW.o,SE.o⟩)
       |(simp[intOf];done)
       |(simp[intOf];omega)
    . obtain rfl:m=0:=by omega
      have aO:¬(i:Int)<(h:Int)-1:=by omega
      have e3:L3=[]:=by
       have h:=Z.o;unfold iZ at h;cases h;rfl
      subst e3;have W0:Hid (iZ (rdR D) k 0 a=some []):=ix (by unfold iZ;rfl)
      clear Z;go_wp2_with fail
      go_roundw
      case rel=>exact⟨i+1,some ⟨u,0,none⟩,c2,b++[a],a,by omega,rfl,rfl,by first|(go_num;done)|exact bf (Value.int IntKind.i64) (by omega),G5.o,N5.o,U.o,by rw[af,X.o];rfl,[],by rw[show h-(i+1)=0 by omega];exact W0.o,SE.o⟩
      case measure=>first|(simp[intOf];done)|(simp[intOf];omega)
  . obtain rfl:i=h:=by omega
    have aN:¬(i:Int)<(i:Int):=by omega
    rw[eC] at t
    have e2:f=[]:=by
     unfold iZ at t;cases t;rfl
    subst e2;have e1:b=l:=by rw[<-ac];simp
    subst e1;clear t ac;go_wp2_with fail
    go_ret2
    exact⟨B0.o,n,J,by rw[X.o];rfl,by rw[X.o];exact GI.o⟩
theorem lE:∀x k:List Nat,iy x (k++[0])<0↔iy x k<=0
 | [],[]=>by simp[iy]
 | [],b::k=>by simp[iy]
 |a::x,[]=>by
  simp only[b9,iy];constructor
  . intro h;split at h
    . omega
    . split at h
      . omega
      . cases x<;>simp[iy] at h
  . intro h;omega
 |a::x,b::k=>by
  have ih:=lE x k;simp only[b7,iy];split
  . simp
  . split
    . simp
    . exact ih
theorem Di(h:isK x=true):has ⟨k,[],true⟩ x=decide (0<=iy x k):=by
 rw[dW,has_iff,dI,sB];simp[h]
theorem Bb(h:isK x=true):has ⟨[],k++[0],false⟩ x=decide (iy x k<=0):=by
 rw[dW,has_iff,dI,<-lE,kw];simp[h]
theorem mq{n:Int}:has (ja n h).keys k=isK k:=by
 rw[dW,show(ja n h).keys=⟨[],[],true⟩ from rfl,has_iff]
 simp
theorem tq(L:List (List Nat×List Nat)):flw Yf.yl Yf.ystp L none=L.head?.map λp=>(0,p.1,p.2):=by
 cases L with
 |nil=>rfl
 |cons x L=>rfl
theorem FK(b:iF rd)(g:mU rd){t:Tr}(j:chk rd t=0)(d:t.root≠0)(hk:∀x∈k,x<256):
 (iE (prM Yf rd ⟨k,[],true⟩ true) rd (iU ⟨k,[],true⟩) true (t.height-1).toNat ⟨[],none⟩ (ja t.root t.height)).c=(kJ (PLt rd t) k).map λp=>(0,p.1,p.2):=by
 obtain⟨m,s,f,i,a,_⟩:=jm b j d;rw[(oO (Y:=Yf) (o:=true) b g (r:=⟨k,[],true⟩) ⟨hk,λx a=>by cases a⟩ _ (ja t.root t.height) ⟨[],none⟩ f ⟨λx a=>(by cases a),λx a=>by cases a⟩ i (λx _ h=>by cases h) rfl).1]
 show flw _ _ (inR rd _ true _ t.root) none=_;rw[tq];unfold inR kJ PLt iW;rw[if_neg d,if_pos rfl,gR (p:=λx:It=>has ⟨k,[],true⟩ x.key) (q:=λx=>decide (0<=iy x.key k)) (l:=lits rd (t.height-1).toNat t.root) (λx a=>Di (by rw[<-mq (n:=t.root) (h:=t.height)];exact(f.hk b x a).1)),List.head?_map,gT,List.find?_map]
 rfl
theorem Dp(b:iF rd)(g:mU rd){t:Tr}(j:chk rd t=0)(d:t.root≠0)(hk:∀x∈k,x<256):
 (iE (prM Yf rd ⟨[],k++[0],false⟩ false) rd (iU ⟨[],k++[0],false⟩) false (t.height-1).toNat ⟨[],none⟩ (ja t.root t.height)).c=(jT (PLt rd t) k).map λp=>(0,p.1,p.2):=by
 obtain⟨m,s,f,i,a,_⟩:=jm b j d
 rw[(oO (Y:=Yf) (o:=false) b g (r:=⟨[],k++[0],false⟩) ⟨λx a=>(by cases a),λx a=>by
  rcases bO.1 a with h|h
  . exact hk x h
  . rw[aZ.1 h];omega⟩ _ (ja t.root t.height) ⟨[],none⟩ f ⟨λx a=>(by cases a),λx a=>by cases a⟩ i (λx _ h=>by cases h) rfl).1]
 show flw _ _ (inR rd _ false _ t.root) none=_;rw[tq];unfold inR jT PLt iW;rw[if_neg d,if_neg (by decide),gR (p:=λx:It=>has ⟨[],k++[0],false⟩ x.key) (q:=λx=>decide (iy x.key k<=0)) (l:=lits rd (t.height-1).toNat t.root) (λx a=>Bb (by rw[<-mq (n:=t.root) (h:=t.height)];exact(f.hk b x a).1)),List.head?_map,<-gY,List.find?_map,<-List.filter_reverse,gT]
 rfl
theorem ou{rd:Int->Option Pg}{root:Int}(i:iF rd){k:List Nat}:∀{f:Nat}{a:Plx},Sub rd root f a->a.lv=f->∃(l:List (Int×Pg))(q:Pg),iZ rd k (f+1) a.no=some l/\l.getLast?=some (mB rd k f a.no,q)/\rd (mB rd k f a.no)=some q
 |0,a,h,hl=>by
  obtain⟨p,b,c,v,m,g⟩:=h.page;refine⟨[(a.no,p)],p,?_,rfl,b⟩;rw[hl] at c;unfold iZ;rw[b];simp only;rw[if_neg (by rw[c];decide)]
  rfl
 |f+1,a,h,hl=>by
  obtain⟨p,b,c,v,m,g⟩:=h.page;have d:=i _ _ b;obtain⟨A,D⟩:=jA.1 c;have hk:p.kind≠1:=λe=>by have:=(d.leaf0 e).1;omega
  have B:p.kind=2:=by
   rcases d.kind with h|h|h
   . exact absurd h hk
   . exact h
   . exact absurd h A
  obtain⟨j,e,n⟩:=g hk;cases e;have C:=qi (k:=k) (show 0<p.items.length by have:=(d.idx B).2.2;omega)
  obtain⟨l,q,y,s,t⟩:=ou i (k:=k) (Sub.kid n C) (by show a.lv-1=_;omega)
  rw[hl] at c
  have e:mB rd k (f+1) a.no=mB rd k f (p.at (jg k p.items)).child:=by
   conv=>lhs;unfold mB
   rw[b]
  refine⟨(a.no,p)::l,q,?_,?_,?_⟩
  . unfold iZ;rw[b];simp only;rw[if_neg (by rw[c];decide)]
    rw[show iZ rd k (f+1) (p.at (jg k p.items)).child=some l from y]
    rfl
  . rw[e,List.getLast?_cons,show l.getLast?=_ from s]
    rfl
  . rw[e];exact t
theorem zD{rd:Int->Option Pg}{k:List Nat}{q:Pg}(m:Sound q)(j:∀x∈q.items.filter (λx=>decide (x.key=k)),(ldI rd x).1=0):sx rd k q=match q.items.find? (λx=>decide (x.key=k)) with
 |none=>([],false,0)
 |some x=>((ldI rd x).2,true,0):=by
 unfold sx;by_cases h:lN k q.items=true
 . rw[if_neg (by rw[h];decide)]
   have c:=h;unfold lN at c;rw[ce,dI,dI] at c
   have e:=jV (λx:It=>decide (x.key=k)) It.zero q.items _ c.1 (λi d=>ah (by
    intro e;have:=sP k _ i d;rw[e] at this;exact List.lt_irrefl _ this)) (ar c.2)
   rw[e]
   have l:(q.items.getD (jy k q.items) It.zero)∈q.items.filter (λx=>decide (x.key=k)):=by
    refine dX.2 ⟨?_,ar c.2⟩;rw[aM,bX c.1];exact fp _
   have g:=j _ l;have f:q.at (jy k q.items)=q.items.getD (jy k q.items) It.zero:=rfl;rw[f,g];rfl
 . rw[if_pos (by simpa using h)]
   rw[mL (λx:It=>decide (x.key=k)) It.zero q.items (λi d=>ah (by
    intro e;apply h
    have n:jy k q.items<=i:=by
     apply em;intro s;have:=sP k q.items i (by omega)
     rw[e] at this;exact List.lt_irrefl _ this
    unfold lN;rw[ce,dI,dI];refine⟨by omega,?_⟩
    rcases gH n with p|he
    . have a:=m.rise p d;have b:=wb k q.items (by omega)
      have a:(q.items.getD (jy k q.items) It.zero).key<(q.items.getD i It.zero).key:=a;rw[e] at a;exact absurd a b
    . rw[he];exact e))]
theorem Gq(a:iF rd){t:Tr}(A:chk rd t=0)(g:t.root≠0):oG rd k t.height.toNat t.root=mj (PLt rd t) k:=by
 obtain⟨B,C,c,D,d,_⟩:=jm a A g;unfold oG mj;by_cases b:k.length<1\/24<k.length
 . rw[if_pos b,if_pos b]
 . rw[if_neg b,if_neg b];obtain⟨l,q,y,v,j⟩:=ou a (k:=k) c (by show t.height-1=_;omega)
   obtain⟨f,m,E,i⟩:=Sub.find a (k:=k) c (by show t.height-1=_;omega) (by rw[mq];unfold isK;simp;omega)
   have e:f=q:=by rw[j] at m;exact(fC m).symm
   subst e
   have s:iZ rd k t.height.toNat t.root=some l:=by
    rw[show t.height.toNat=(t.height-1).toNat+1 by omega];exact y
   rw[s];simp only[v]
   rw[zD (a _ _ j) (λx d=>by
    rw[<-i] at d;exact(c.hk a x (dX.1 d).1).2)]
   unfold PLt;rw[if_neg g,List.find?_map]
   have n:(lits rd (t.height-1).toNat t.root).find? ((λp:List Nat×List Nat=>decide (p.1=k))∘jQ rd)=f.items.find? (λx=>decide (x.key=k)):=by
    rw[<-gT,<-gT];exact bf List.head? i
   rw[n];cases f.items.find? (λx=>decide (x.key=k)) with
   |none=>rfl
   |some x=>rfl
theorem Gs(a:iF rd){t:Tr}(f:chk rd t=0)(b:t.root≠0)(k:List Nat):∃l,iZ rd k t.height.toNat t.root=some l:=by
 obtain⟨g,i,c,m,p,_⟩:=jm a f b;obtain⟨l,q,d,j,n⟩:=ou a (k:=k) c (by show t.height-1=_;omega)
 exact⟨l,by rw[show t.height.toNat=(t.height-1).toNat+1 by omega];exact d⟩
theorem ky{t:Tr}(h:chk rd t=0)(c:t.root=0):t=⟨0,0,0⟩:=by
 obtain⟨r,d,i⟩:=t;dsimp only at c;subst c;unfold chk at h;split at h
 . rename_i e;obtain⟨_,a,b⟩:=e;dsimp only at a b;rw[a,b]
 . rw[if_pos (.inl rfl)] at h;cases h
theorem qw(b:iF rd){t:Tr}(h:chk rd t=0):t.height=((t.height.toNat:Nat):Int)/\t.height.toNat<=12:=by
 by_cases a:t.root=0
 . rw[ky h a];exact⟨rfl,an _⟩
 . obtain⟨c,d,_⟩:=jm b h a;exact⟨by omega,by omega⟩
theorem FH(b:iF rd){t:Tr}(h:chk rd t=0)(k:List Nat):oG rd k t.height.toNat t.root=mj (PLt rd t) k:=by
 by_cases a:t.root=0
 . obtain rfl:=ky h a;unfold oG mj PLt;split
   all_goals
    rfl
 . exact Gq b h a
theorem Fh(b:iF rd){t:Tr}(h:chk rd t=0)(k:List Nat):∃l,iZ rd k t.height.toNat t.root=some l:=by
 by_cases a:t.root=0
 . obtain rfl:=ky h a;exact⟨[],rfl⟩
 . exact Gs b h a k
def PrP(w w':World)(e:Ending)(R:Option (List Nat×List Nat)):Prop:=Below w.heap.size w w'/\∃(K V:Br),e=.returned (.tuple #[.agg #[.slice K.a K.l.length K.c,.slice V.a V.l.length V.c],.bool R.isSome,.int .i64 0])/\(R.getD ([],[])=(K.l,V.l))/\Own w w' K.a K.c K.l/\B8 K.l/\Own w w' V.a V.c V.l/\B8 V.l/\jE K V
theorem FiR.prp{R:Option (List Nat×List Nat)}(hb:Below w.heap.size w w')(h:FiR w w' e (R.map λp=>(0,p.1,p.2))):PrP w w' e R:=by
 have nil:PrP w w' (.returned (.tuple #[.agg #[.slice none 0 0,.slice none 0 0],.bool false,.int .i64 0])) none:=
  ⟨hb,⟨none,0,[]⟩,⟨none,0,[]⟩,rfl,rfl,Own.nil _ hb,(λx a=>by cases a),Own.nil _ hb,(λx a=>by cases a),λx y a=>by cases a⟩
 rcases h with⟨h0,rfl⟩|⟨c,bv,f,rfl,⟨K,V,h1,rfl,rfl,rfl,h5,h6,h7,h8,h9,h10,h11⟩|⟨f',h1,h2,_⟩⟩
 . cases R with
   |none=>exact nil
   |some p=>cases h0
 . cases R with
   |none=>cases h1
   |some p=>
    simp only[eX,au,gX,true_and] at h1;refine⟨hb,K,V,rfl,?_,⟨h5,λx a=>.inr (h10 x a),hb⟩,h6,⟨h7,λx a=>.inr (h11 x a),hb⟩,h8,h9⟩
    exact Prod.ext h1.1 h1.2
 . cases R with
   |none=>cases h1
   |some p=>
    simp only[eX,au,gX] at h1;exact absurd h1.1.symm h2
section
variable {w:World} {b:Nat} {rd:Int->Option Pg} {XV:Nat->Prop} {t:Tr} {ak:Option Addr} {ck:Nat} {k:List Nat}
theorem E8(a:iF rd)(f:i9 52 (.pointer (some ⟨b,0,none⟩)) rd XV w)(c:chk rd t=0)(d:Bs w ak k):
 Calls prog 11 #[.pointer (some ⟨b,0,none⟩),.agg #[.int .i64 t.root,.int .i64 t.height,.int .i64 t.items],.slice ak k.length ck] w λe w'=>sD w w' e (mj (PLt rd t) k):=by
 obtain⟨e,g⟩:=qw a c;have h:=xR w b rd a XV f t.root t.items t.height.toNat g ak ck k d;rw[<-e,FH a c] at h;exact h
theorem CY(a:iF rd)(d:i9 52 (.pointer (some ⟨b,0,none⟩)) rd XV w)(g:chk rd t=0)(c:Bs w ak k):
 Calls prog 19 #[.pointer (some ⟨b,0,none⟩),.agg #[.int .i64 t.root,.int .i64 t.height,.int .i64 t.items],.slice ak k.length ck] w λe w'=>yD w w' e (iZ rd k t.height.toNat t.root):=by
 obtain⟨e,f⟩:=qw a g;have h:=Av w b rd a XV d t.root t.items t.height.toNat f ak ck k c;rw[<-e] at h;exact h
theorem DZ(a:iF rd)(y:mU rd){N:Nat}(g:jx rd N)(i:i9 52 (.pointer (some ⟨b,0,none⟩)) rd XV w)(l:∀k,XV k->k<w.heap.size)(d:chk rd t=0)(f:Bs w ak k)(v:k.length<=ck)(hk:k.length<=1048576)(A:∀x,ak=some x->x.block<w.heap.size):
 Calls prog 14 #[.pointer (some ⟨b,0,none⟩),.agg #[.int .i64 t.root,.int .i64 t.height,.int .i64 t.items],.slice ak k.length ck] w λe w'=>PrP w w' e (kJ (PLt rd t) k):=by
 have n:Ri w ⟨ak,ck,k,none,0,[],true⟩:=⟨f,v,Bs.nil _,am _⟩;have m:Rb ⟨ak,ck,k,none,0,[],true⟩:=⟨by show k.length<=_;omega,an _⟩
 have p:∀j,i5 ⟨ak,ck,k,none,0,[],true⟩ j->j<w.heap.size:=λj h=>by
  rcases h with⟨x,hx,rfl⟩|⟨x,hx,_⟩
  . exact A x hx
  . cases hx
 by_cases c:t.root=0
 . obtain rfl:=ky d c;have e:kJ (PLt rd ⟨0,0,0⟩) k=none:=rfl;rw[e];exact(yJ w b rd a N g XV i l ak ck k n m p).mono λ_ _ h=>FiR.prp h.1 h.2
 . obtain⟨q,s,_⟩:=jm a d c;have h:=AF w b rd a N g XV i l t.root t.height t.items q s ak ck k n m p;rw[FK a y d c f.1] at h;exact h.mono λ_ _ h=>FiR.prp h.1 h.2
theorem AO(a:iF rd)(n:mU rd){N:Nat}(g:jx rd N)(i:i9 52 (.pointer (some ⟨b,0,none⟩)) rd XV w)(j:∀k,XV k->k<w.heap.size)(f:chk rd t=0)(d:Bs w ak k)(hk:k.length<=1048576):
 Calls prog 17 #[.pointer (some ⟨b,0,none⟩),.agg #[.int .i64 t.root,.int .i64 t.height,.int .i64 t.items],.slice ak k.length ck] w λe w'=>PrP w w' e (jT (PLt rd t) k):=by
 by_cases c:t.root=0
 . obtain rfl:=ky f c;have e:jT (PLt rd ⟨0,0,0⟩) k=none:=rfl;rw[e];exact(xm w b rd a N g XV i j ak ck k d hk).mono λ_ _ h=>FiR.prp h.1 h.2
 . obtain⟨l,m,_⟩:=jm a f c;have h:=ze w b rd a N g XV i j t.root t.height t.items l m ak ck k d hk;rw[Dp a n f c d.1] at h;exact h.mono λ_ _ h=>FiR.prp h.1 h.2
end
def jt(L:List (List Nat×List Nat))(r:Rg):List (List Nat×List Nat):=L.filter λp=>has r p.1
theorem xB:∀(L a:List (List Nat×List Nat)),flw Yl.yl Yl.ystp L (a,0)=(a++L,0)
 | [],a=>by rw[dr];rfl
 |x::L,a=>by
  rw[my (show Yl.ystp (Yl.yl (a,0) x)=false from rfl),show Yl.yl (a,0) x=(a++[x],0) from rfl,xB L (a++[x]),aR]
  rfl
theorem rY(f:iF rd)(g:mU rd){t:Tr}(m:chk rd t=0)(d:t.root≠0)(j:r.b8)(o:Bool):
 (iE (prM Yl rd r o) rd (iU r) o (t.height-1).toNat ⟨[],([],0)⟩ (ja t.root t.height)).c=(iW o (jt (PLt rd t) r),0):=by
 obtain⟨n,p,l,i,a,_⟩:=jm f m d;rw[(oO (Y:=Yl) (o:=o) f g (r:=r) j _ (ja t.root t.height) ⟨[],([],0)⟩ l ⟨λx a=>(by cases a),λx a=>by cases a⟩ i (λx _ h=>by cases h) rfl).1]
 show flw _ _ (inR rd r o _ t.root) ([],0)=_;rw[xB,b9];unfold inR jt PLt;rw[if_neg d,List.filter_map,oy];rfl
theorem yw{i:Int}:jt (PLt rd ⟨0,h,i⟩) r=[]:=rfl
def PsP(w w':World)(e:Ending)(L:List (List Nat×List Nat)):Prop:=Below w.heap.size w w'/\∃(a:Option Addr)(c:Nat)(C:List (Br×Br)),e=.returned (.tuple #[.slice a C.length c,.int .i64 0])/\Prs w' a c C/\prl C=L/\∀k,prO a C k->w.heap.size<=k
theorem CoR.psp{L:List (List Nat×List Nat)}(hb:Below w.heap.size w w')(h:CoR w w' e (L,0)):PsP w w' e L:=by
 rcases h with⟨h0,_⟩|⟨_,h⟩
 . exact absurd rfl h0
 . exact⟨hb,h⟩
section
variable {w:World} {b:Nat} {rd:Int->Option Pg} {XV:Nat->Prop} {t:Tr}
theorem Cz(a:iF rd)(s:mU rd){N:Nat}(g:jx rd N)(l:N<=65536)(i:i9 52 (.pointer (some ⟨b,0,none⟩)) rd XV w)(j:∀k,XV k->k<w.heap.size)(f:chk rd t=0){r:Rv}(d:Ri w r)(m:Rb r)(n:∀k,i5 r k->k<w.heap.size):
 Calls prog 26 #[.pointer (some ⟨b,0,none⟩),.agg #[.int .i64 t.root,.int .i64 t.height,.int .i64 t.items],r.val] w λe w'=>PsP w w' e (jt (PLt rd t) r.rg):=by
 by_cases c:t.root=0
 . obtain rfl:=ky f c;rw[yw];exact(Bq w b rd a N g l XV i j r d m n).mono λ_ _ h=>CoR.psp h.1 h.2
 . obtain⟨p,q,_⟩:=jm a f c;have h:=vG w b rd a N g l XV i j t.root t.height t.items p q r d m n;rw[rY a s f c d.b8 true] at h;exact h.mono λ_ _ h=>CoR.psp h.1 h.2
end
end Go.Proofs.YteaogidofpfmmaaGreat
namespace Go.Proofs.YteaogidofpfmmaaGreat
open Go.Proofs.Tryz
section
open Go.RowKit
end
section
open Go.ChangeShapes Go.WideShapes Go.ChangeAt Go.RowKit
end
section
open Go.RowKit
theorem ld{W:World}{g:Nat}{u v:Value}{t:TypeId}(h:W.heap[g]?=some (.cells #[u,v] t (0,0))):W.cell? ⟨g,0,none⟩=some u/\W.cell? ⟨g,1,none⟩=some v:=⟨by rw[ai _ _ _ _ _ _ h];rfl,by rw[ai _ _ _ _ _ _ h];rfl⟩
theorem kG(w:World)(b c a3 a4:Option Addr)(c1 c2 c3 h n m:Nat)(K V:List Nat)(v:Bs w b K)(x:Bs w c V)(y:Bs w a3 K)(A:Bs w a4 V)(j:n=K.length)(i:m=V.length):
 Calls prog 16 #[.agg #[.slice b n c1,.slice c m c2],.agg #[.slice a3 n c3,.slice a4 m h]] w λe D=>e=.returned (.bool true)/\Below w.heap.size w D:=by
 have q:=ix λ(W:World)(hb:Below w.heap.size w W)=>jY W b a3 n n c1 c3 K K (v.keep hb) (y.keep hb) j j
 have r:=ix λ(W:World)(hb:Below w.heap.size w W)=>jY W c a4 m m c2 h V V (x.keep hb) (A.keep hb) i i
 simp only[decide_true] at q r;obtain⟨f,g,a,G⟩:=iS w (.cells #[.slice b n c1,.slice c m c2] 45) (.cells #[.slice a3 n c3,.slice a4 m h] 45) (Below.refl _ _);have a:=ix a;have E:=ix f;have F:=ix g;obtain⟨k,l⟩:=ld f;obtain⟨t2,t3⟩:=ld g;clear v x y A j i f g;go_enter func16,ntmps16;go_upto_region 1 with fail
 go_wp2_with fail
 refine(q.o _ a.o).mono ?_;rintro _ H ⟨rfl,d⟩;have p:=ix (bt a.o d);have s:=iJ E.o d;have t:=iJ F.o d;clear d k l t2 t3;obtain⟨k,l⟩:=ld s;obtain⟨t2,t3⟩:=ld t;clear s t;go_wp2_with fail
 refine(r.o _ p.o).mono ?_;rintro _ w3 ⟨rfl,B⟩;have C:=ix (bt p.o B);clear B k l t2 t3;go_wp2_with fail
 go_ret;exact⟨rfl,C.o⟩
end
end Go.Proofs.YteaogidofpfmmaaGreat
