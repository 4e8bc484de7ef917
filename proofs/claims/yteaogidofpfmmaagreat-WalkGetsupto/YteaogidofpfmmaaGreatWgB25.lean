import Derived.Test.YteaogidofpfmmaaGreatWgB24
set_option linter.all false
set_option maxHeartbeats 8000000
set_option maxRecDepth 10000
namespace Go.Proofs.YteaogidofpfmmaaGreat
open Go.Proofs.Tryz
open Go.RowKit Go.Shelf
attribute [local go_sem] Oper.semAt_some
theorem xf(w:World):Bs (w.alloc (.cells #[.int .u8 0] 5)) (some ⟨w.heap.size,0,none⟩) [0]:=by
 have h:=ah w (.cells #[.int .u8 0] 5);refine⟨by simp,by simp,.inr ⟨w.heap.size,0,rfl,λi a=>?_⟩⟩
 have a:i=0:=by simpa using a
 subst a;rw[am _ _ _ _ _ _ h];rfl
theorem yj(w:World)(b:Nat)(rd:Int->Option Pg)(hA:ix rd)(ac:Nat)(hN:j5 rd ac)(G:Nat->Prop)(r:iZ 52 (.pointer (some ⟨b,0,none⟩)) rd G w)(hX:∀k,G k->k<w.heap.size)(root g A:Int)(h2:1<=g)(h3:g<=12)(Y:Option Addr)(ck:Nat)(k:List Nat)(hB:Bs w Y k)(hk:k.length<=1048576):
 Calls prog 17 #[.pointer (some ⟨b,0,none⟩),.agg #[.int .i64 root,.int .i64 g,.int .i64 A],.slice Y k.length ck] w λe w'=>Below w.heap.size w w'/\FiR w w' e (ib (prM Yf rd ⟨[],k++[0],false⟩ false) rd (iG ⟨[],k++[0],false⟩) false (g-1).toNat ⟨[],none⟩ (iV root g)).c:=by
 have B:=gW (λ(ar:World)(l:Option Addr)(c2:Nat)=>ls ar b root g A ⟨none,0,[],l,c2,k++[0],false⟩ 1)
 obtain⟨U,D,n,s0⟩:=iN w (.cells #[.int .i64 root,.int .i64 g,.int .i64 A] 34) (.cells #[.slice none 0 0,.slice none 0 0] 45) (Below.refl _ _);have n:=gW n;have D:=gW D;have HR:=gW r;have HX:=gW hX;have HB:=gW hB;have HA:=gW hA;have HN:=gW hN;clear r hX hB hA hN;unfold Rv.val at B;simp only[Rv.cs,bg,af,a7,b9] at B;have I:=gW U;obtain⟨t,t1,t2⟩:=jq U;go_enter func17,ntmps17;obtain⟨R,aa⟩:∃R,(ib (prM Yf rd ⟨[],k++[0],false⟩ false) rd (iG ⟨[],k++[0],false⟩) false (g-1).toNat ⟨[],none⟩ (iV root g)).c=R:=⟨_,rfl⟩;rw[aa];have av:=gW aa;clear aa;go_wp2_with fail
 generalize (w.alloc (.cells #[.int .i64 root,.int .i64 g,.int .i64 A] 34)).alloc (.cells #[.slice none 0 0,.slice none 0 0] 45)=P at *;have CL:=gW (nj P Y k.length ck k (HB.o.keep n.o) rfl (by omega))
 have aB:w.heap.size<=P.heap.size:=n.o.size;refine CL.o.mono ?_;rintro _ i ⟨q,c1,rfl,ap,ao,y⟩;have A1:=gW (bt n.o y);have R1:=gW (ap.keep (al i (.cells #[.int .u8 0] 5)));have N1:=gW ao;have B0:=gW (show Bs (i.alloc (.cells #[.int .u8 0] 5)) (some ⟨i.heap.size,0,none⟩) [0] from xf _)
 have X:=al i (.cells #[.int .u8 0] 5);have ag:=gW ((y.block (w.heap.size+1) (by omega)).trans D.o)
 have aC:i.cell? ⟨w.heap.size,0,none⟩=_:=(y.cell (p:=⟨w.heap.size,0,none⟩) (block_lt_of_cell t)).trans t;clear ap ao CL;go_wp2_with (at_builtin;refine jO rfl _ _ rfl q k.length c1 k rfl rfl R1.o (some ⟨i.heap.size,0,none⟩) 1 1 [0] rfl rfl B0.o (by simp;omega) ?_)
 intro l c2 d J aA aj _;have hA1:But (Q.InA q) (i.alloc (.cells #[.int .u8 0] 5)) d:=But.inA aj
 have L:∀j,Q.InA q j->P.heap.size<=j:=λj ⟨x,a,e⟩=>by
  rcases N1.o x a with⟨z,hz,_⟩|h
  . cases hz
  . omega
 have AB:=gW ((((But.ofBelow (S:=λj=>w.heap.size<=j) (bt A1.o X))).trans (hA1.mono (T:=λj=>w.heap.size<=j) λj _ e=>by have:=L j e;omega) (λ_ _ e=>e)).below (λj s e=>by omega))
 have Z:But (Q.InA q) i d:=(But.ofBelow (S:=Q.InA q) X).trans hA1 (λ_ _ e=>e)
 have XB:=gW (Z.same ag.o (λe=>by have:=L _ e;have:=(ae.1 D.o).1;omega))
 have XT:=(Z.same ((y.block w.heap.size (ae.1 I.o).1).trans I.o) (λe=>by have:=L _ e;have:=(ae.1 I.o).1;omega))
 clear t t1 t2 aC;obtain⟨t,t1,t2⟩:=jq XT
 have aq:B8 (k++[0]):=λx a=>by
  rcases bG.1 a with h|h
  . exact HB.o.1 x h
  . rw[aM.1 h];decide
 have am:(k++[0]).length<=140737488355328:=by rw[af];simp only[dY];omega
 have ax:Hid (Ri d ⟨none,0,[],l,c2,k++[0],false⟩):=gW ⟨Bs.nil _,ai _,J.bs aq (by show(k++[0]).length<=_;omega),J.cap⟩
 have aw:Hid (Rb ⟨none,0,[],l,c2,k++[0],false⟩):=gW ⟨an _,am⟩
 have ay:Hid (∀j,jn ⟨none,0,[],l,c2,k++[0],false⟩ j->j<d.heap.size):=gW (λj s=>by
  rcases s with⟨x,a,_⟩|⟨x,a,rfl⟩
  . cases a
  . exact J.lt a)
 clear J aA aj hA1 L Z XT aq am y X R1 N1 B0 ag I U;go_wp2_with fail
 refine(B.o _ _ _).mono ?_;rintro _ C ⟨rfl,m1,m2,m3,m4,H,ms⟩;have M:=gW (bt AB.o H);have MB:=gW H;have aB:w.heap.size<=d.heap.size:=AB.o.size
 have O:Hid (∀j,(j=d.heap.size+1\/j=d.heap.size+2\/j=d.heap.size\/j=d.heap.size+3\/G j\/jn ⟨none,0,[],l,c2,k++[0],false⟩ j)->j<C.heap.size):=gW (λj hk=>by
  rcases hk with h|h|h|h|h|h
  . omega
  . omega
  . omega
  . omega
  . have:=HX.o j h;omega
  . have:=ay.o j h;omega)
 have CO:=gW (lC (enters_of func86 (by kernel_rfl) rfl) (mT Yf y7 rd HA.o (λ_=>0) (λ_ _=>by omega) ac HN.o b G C (d.heap.size+1) (d.heap.size+2) d.heap.size (d.heap.size+3) root g A h2 h3 ⟨none,0,[],l,c2,k++[0],false⟩ false m2 m3 m1 (by rw[if_neg (by decide)];exact m4) (ax.o.keep MB.o) aw.o (HR.o.keep M.o) (λj hk=>O.o j (.inr (.inr (.inr (.inr (.inl hk)))))) (λj hk=>O.o j (.inr (.inr (.inr (.inr (.inr hk)))))) none rfl rfl) (But.refl _ _) O.o)
 have E:=gW ((H.block (w.heap.size+1) (ae.1 XB.o).1).trans XB.o);have aD:w.heap.size+2<=C.heap.size:=by have:=(ae.1 E.o).1;omega
 clear m1 m2 m3 m4 H ms t t1 t2 B;go_wp2_with fail
 refine CO.o.mono ?_;rintro e m ⟨ab,au,hs,hc⟩;have B3:=gW (bt M.o ab);have F:=gW ((ab.block (w.heap.size+1) (ae.1 E.o).1).trans E.o);have r:au=R:=hs.trans av.o;have ah:w.heap.size<=C.heap.size:=M.o.size;clear hs CO ab E
 have ad:Hid (∃(c:Array Value)(bv:Bool)(f:Int),e=.returned (.tuple #[.agg c,.bool bv,.int .i64 f])/\(prog.info? 45).map (·.size)=some c.size/\(#[.slice none 0 0,.slice none 0 0]:Array Value).size=c.size/\c.all (·.oneCell')=true/\(m.setRow (w.heap.size+1) c).heap[w.heap.size+1]?=some (.cells c 45 (0,0))/\Below w.heap.size w (m.setRow (w.heap.size+1) c)/\FiR w (m.setRow (w.heap.size+1) c) (.returned (.tuple #[.agg c,.bool bv,.int .i64 f])) R):=gW (by
  subst r;have N:∀c,But (λj=>j=w.heap.size+1) m (m.setRow (w.heap.size+1) c):=λc=>Q.gZ _ _ _
  have W:∀c,Below w.heap.size w (m.setRow (w.heap.size+1) c):=λc=>((But.ofBelow (S:=λj=>j=w.heap.size+1) B3.o).trans (N c) (λ_ _ e=>e)).below (λj s e=>by omega)
  rcases hc with⟨hn,rfl⟩|⟨c,bv,f,rfl,hv⟩
  . exact⟨_,false,0,rfl,il,rfl,(by simp[Value.oneCell']),br _ _ _ _ _ _ F.o,W _,.inl ⟨hn,rfl⟩⟩
  . rcases hv with⟨K,V,g1,rfl,rfl,rfl,g5,g6,g7,g8,g9,g10,g11⟩|⟨e',g1,g2,rfl,rfl,rfl⟩
    . exact⟨_,true,0,rfl,il,rfl,(by simp[Value.oneCell']),br _ _ _ _ _ _ F.o,W _,.inr ⟨_,true,0,rfl,.inl ⟨K,V,g1,rfl,rfl,rfl,g5.but (N _) (λx a e=>by have:=g10 x a;omega),g6,g7.but (N _) (λx a e=>by have:=g11 x a;omega),g8,g9,λx a=>az ah (g10 x a),λx a=>az ah (g11 x a)⟩⟩⟩
    . exact⟨_,false,_,rfl,il,rfl,(by simp[Value.oneCell']),br _ _ _ _ _ _ F.o,W _,.inr ⟨_,false,_,rfl,.inr ⟨e',g1,g2,rfl,rfl,rfl⟩⟩⟩)
 clear r hc;obtain⟨c,bv,f,rfl,y1,y2,y3,y4,y5,y6⟩:=ad.o;have Y1:=gW y1;have Y2:=gW y2;have Y3:=gW y3;have Y4:=gW y4;have Y5:=gW y5;have Y6:=gW y6;clear ad y1 y2 y3 y4 y5 y6;go_wp2_with (refine bz rfl 45 _ _ rfl (w.heap.size+1) _ rfl rfl 45 _ F.o Y1.o Y2.o Y3.o ?_)
 refine aF (v:=.tuple #[.agg _,_,_]) (jz results17 _ _ (w.heap.size+1) 45 _ (0,0) _ rfl Y4.o underlying45 rfl Y1.o) rfl ?_;exact⟨Y5.o,Y6.o⟩
theorem xF(w:World)(b:Nat)(rd:Int->Option Pg)(L:ix rd)(N:Nat)(M:j5 rd N)(y:Nat->Prop)(m:iZ 52 (.pointer (some ⟨b,0,none⟩)) rd y w)(O:∀k,y k->k<w.heap.size)(d:Option Addr)(g:Nat)(k:List Nat)(ac:Ri w ⟨d,g,k,none,0,[],true⟩)(ab:Rb ⟨d,g,k,none,0,[],true⟩)(af:∀j,jn ⟨d,g,k,none,0,[],true⟩ j->j<w.heap.size):
 Calls prog 14 #[.pointer (some ⟨b,0,none⟩),.agg #[.int .i64 0,.int .i64 0,.int .i64 0],.slice d k.length g] w λe X=>Below w.heap.size w X/\FiR w X e (none:Option (Nat×List Nat×List Nat)):=by
 have p:=gW (λ(ag:World)=>ls ag b 0 0 0 ⟨d,g,k,none,0,[],true⟩ 0)
 obtain⟨I,r,n,s0⟩:=iN w (.cells #[.int .i64 0,.int .i64 0,.int .i64 0] 34) (.cells #[.slice none 0 0,.slice none 0 0] 45) (Below.refl _ _);have n:=gW n;have r:=gW r;have HR:=gW m;have HX:=gW O;have am:=gW ac;have al:=gW ab;have aj:=gW af;have HA:=gW L;have HN:=gW M;clear m O ac ab af L M;unfold Rv.val at p;simp only[Rv.cs,bg] at p;obtain⟨t0,t1,t2⟩:=jq I;go_enter func14,ntmps14;obtain⟨R,E⟩:∃R,(none:Option (Nat×List Nat×List Nat))=R:=⟨_,rfl⟩;rw[E];have ai:=gW E;clear E;go_wp2_with fail
 generalize (w.alloc (.cells #[.int .i64 0,.int .i64 0,.int .i64 0] 34)).alloc (.cells #[.slice none 0 0,.slice none 0 0] 45)=a at *;refine(p.o _).mono ?_;rintro _ q ⟨rfl,m1,U,m3,m4,D,ms⟩;have G:=gW (bt n.o D);have ao:w.heap.size<=a.heap.size:=n.o.size
 have LT:Hid (∀j,(j=a.heap.size+1\/j=a.heap.size+2\/j=a.heap.size\/j=a.heap.size+3\/y j\/jn ⟨d,g,k,none,0,[],true⟩ j)->j<q.heap.size):=gW (λj hk=>by
  rcases hk with h|h|h|h|h|h
  . omega
  . omega
  . omega
  . omega
  . have:=HX.o j h;omega
  . have:=aj.o j h;omega)
 have H:=gW (lC (enters_of func86 (by kernel_rfl) rfl) (pp Yf (λ_=>0) (8*N) q (a.heap.size+1) (a.heap.size+2) a.heap.size (a.heap.size+3) U (λj=>j=a.heap.size+1\/j=a.heap.size+2\/j=a.heap.size\/j=a.heap.size+3\/y j\/jn ⟨d,g,k,none,0,[],true⟩ j) (.inl rfl) none) (But.refl _ _) LT.o)
 have A:=gW ((D.block (w.heap.size+1) (by omega)).trans r.o)
 have an:w.heap.size+2<=q.heap.size:=by omega
 clear m1 U m3 m4 D ms t0 t1 t2 I r p;go_wp2_with fail
 refine H.o.mono ?_;rintro e l ⟨F,ah,T,P⟩;have B3:=gW (bt G.o F);have t:=gW ((F.block (w.heap.size+1) (ae.1 A.o).1).trans A.o);have m:ah=R:=T.trans ai.o;have ad:w.heap.size<=q.heap.size:=G.o.size;clear T H F A
 have aa:Hid (∃(c:Array Value)(bv:Bool)(f:Int),e=.returned (.tuple #[.agg c,.bool bv,.int .i64 f])/\(prog.info? 45).map (·.size)=some c.size/\(#[.slice none 0 0,.slice none 0 0]:Array Value).size=c.size/\c.all (·.oneCell')=true/\(l.setRow (w.heap.size+1) c).heap[w.heap.size+1]?=some (.cells c 45 (0,0))/\Below w.heap.size w (l.setRow (w.heap.size+1) c)/\FiR w (l.setRow (w.heap.size+1) c) (.returned (.tuple #[.agg c,.bool bv,.int .i64 f])) R):=gW (by
  subst m;have C:∀c,But (λj=>j=w.heap.size+1) l (l.setRow (w.heap.size+1) c):=λc=>Q.gZ _ _ _
  have B:∀c,Below w.heap.size w (l.setRow (w.heap.size+1) c):=λc=>((But.ofBelow (S:=λj=>j=w.heap.size+1) B3.o).trans (C c) (λ_ _ e=>e)).below (λj hj e=>by omega)
  rcases P with⟨hn,rfl⟩|⟨c,bv,f,rfl,hv⟩
  . exact⟨_,false,0,rfl,il,rfl,(by simp[Value.oneCell']),br _ _ _ _ _ _ t.o,B _,.inl ⟨hn,rfl⟩⟩
  . rcases hv with⟨K,V,g1,rfl,rfl,rfl,g5,g6,g7,g8,g9,g10,g11⟩|⟨e',g1,g2,rfl,rfl,rfl⟩
    . exact⟨_,true,0,rfl,il,rfl,(by simp[Value.oneCell']),br _ _ _ _ _ _ t.o,B _,.inr ⟨_,true,0,rfl,.inl ⟨K,V,g1,rfl,rfl,rfl,g5.but (C _) (λx i e=>by have:=g10 x i;omega),g6,g7.but (C _) (λx i e=>by have:=g11 x i;omega),g8,g9,λx i=>az ad (g10 x i),λx i=>az ad (g11 x i)⟩⟩⟩
    . exact⟨_,false,_,rfl,il,rfl,(by simp[Value.oneCell']),br _ _ _ _ _ _ t.o,B _,.inr ⟨_,false,_,rfl,.inr ⟨e',g1,g2,rfl,rfl,rfl⟩⟩⟩)
 clear m P;obtain⟨c,bv,f,rfl,Y,Z,W,s,y5,y6⟩:=aa.o;have J:=gW Y;have Y2:=gW Z;have Y3:=gW W;have Y4:=gW s;have Y5:=gW y5;have Y6:=gW y6;clear aa Y Z W s y5 y6;go_wp2_with (refine bz rfl 45 _ _ rfl (w.heap.size+1) _ rfl rfl 45 _ t.o J.o Y2.o Y3.o ?_)
 refine aF (v:=.tuple #[.agg _,_,_]) (jz results14 _ _ (w.heap.size+1) 45 _ (0,0) _ rfl Y4.o underlying45 rfl J.o) rfl ?_;exact⟨Y5.o,Y6.o⟩
theorem wi(w:World)(b:Nat)(rd:Int->Option Pg)(hA:ix rd)(N:Nat)(hN:j5 rd N)(E:Nat->Prop)(q:iZ 52 (.pointer (some ⟨b,0,none⟩)) rd E w)(hX:∀k,E k->k<w.heap.size)(O:Option Addr)(ck:Nat)(k:List Nat)(hB:Bs w O k)(hk:k.length<=1048576):
 Calls prog 17 #[.pointer (some ⟨b,0,none⟩),.agg #[.int .i64 0,.int .i64 0,.int .i64 0],.slice O k.length ck] w λe w'=>Below w.heap.size w w'/\FiR w w' e (none:Option (Nat×List Nat×List Nat)):=by
 have y:=gW (λ(ao:World)(i:Option Addr)(c2:Nat)=>ls ao b 0 0 0 ⟨none,0,[],i,c2,k++[0],false⟩ 1)
 obtain⟨L,B,m,s0⟩:=iN w (.cells #[.int .i64 0,.int .i64 0,.int .i64 0] 34) (.cells #[.slice none 0 0,.slice none 0 0] 45) (Below.refl _ _);have m:=gW m;have B:=gW B;have HR:=gW q;have HX:=gW hX;have HB:=gW hB;have HA:=gW hA;have HN:=gW hN;clear q hX hB hA hN;unfold Rv.val at y;simp only[Rv.cs,bg,af,a7,b9] at y;have G:=gW L;obtain⟨r,Z,t2⟩:=jq L;go_enter func17,ntmps17;obtain⟨R,W⟩:∃R,(none:Option (Nat×List Nat×List Nat))=R:=⟨_,rfl⟩;rw[W];have aq:=gW W;clear W;go_wp2_with fail
 generalize (w.alloc (.cells #[.int .i64 0,.int .i64 0,.int .i64 0] 34)).alloc (.cells #[.slice none 0 0,.slice none 0 0] 45)=J at *;have CL:=gW (nj J O k.length ck k (HB.o.keep m.o) rfl (by omega))
 have av:w.heap.size<=J.heap.size:=m.o.size;refine CL.o.mono ?_;rintro _ g ⟨n,c1,rfl,aj,ah,t⟩;have A1:=gW (bt m.o t);have R1:=gW (aj.keep (al g (.cells #[.int .u8 0] 5)));have N1:=gW ah;have B0:=gW (show Bs (g.alloc (.cells #[.int .u8 0] 5)) (some ⟨g.heap.size,0,none⟩) [0] from xf _)
 have M:=al g (.cells #[.int .u8 0] 5);have ab:=gW ((t.block (w.heap.size+1) (by omega)).trans B.o)
 have aw:g.cell? ⟨w.heap.size,0,none⟩=_:=(t.cell (p:=⟨w.heap.size,0,none⟩) (block_lt_of_cell r)).trans r;clear aj ah CL;go_wp2_with (at_builtin;refine jO rfl _ _ rfl n k.length c1 k rfl rfl R1.o (some ⟨g.heap.size,0,none⟩) 1 1 [0] rfl rfl B0.o (by simp;omega) ?_)
 intro i c2 a H au ad _;have hA1:But (Q.InA n) (g.alloc (.cells #[.int .u8 0] 5)) a:=But.inA ad
 have I:∀j,Q.InA n j->J.heap.size<=j:=λj ⟨x,d,e⟩=>by
  rcases N1.o x d with⟨z,hz,_⟩|h
  . cases hz
  . omega
 have AB:=gW ((((But.ofBelow (S:=λj=>w.heap.size<=j) (bt A1.o M))).trans (hA1.mono (T:=λj=>w.heap.size<=j) λj _ e=>by have:=I j e;omega) (λ_ _ e=>e)).below (λj Y e=>by omega))
 have P:But (Q.InA n) g a:=(But.ofBelow (S:=Q.InA n) M).trans hA1 (λ_ _ e=>e)
 have XB:=gW (P.same ab.o (λe=>by have:=I _ e;have:=(ae.1 B.o).1;omega))
 have XT:=(P.same ((t.block w.heap.size (ae.1 G.o).1).trans G.o) (λe=>by have:=I _ e;have:=(ae.1 G.o).1;omega))
 clear r Z t2 aw;obtain⟨r,Z,t2⟩:=jq XT
 have am:B8 (k++[0]):=λx d=>by
  rcases bG.1 d with h|h
  . exact HB.o.1 x h
  . rw[aM.1 h];decide
 have ag:(k++[0]).length<=140737488355328:=by rw[af];simp only[dY];omega
 have ay:Hid (Ri a ⟨none,0,[],i,c2,k++[0],false⟩):=gW ⟨Bs.nil _,ai _,H.bs am (by show(k++[0]).length<=_;omega),H.cap⟩
 have ax:Hid (Rb ⟨none,0,[],i,c2,k++[0],false⟩):=gW ⟨an _,ag⟩
 have ar:Hid (∀j,jn ⟨none,0,[],i,c2,k++[0],false⟩ j->j<a.heap.size):=gW (λj Y=>by
  rcases Y with⟨x,d,_⟩|⟨x,d,rfl⟩
  . cases d
  . exact H.lt d)
 clear H au ad hA1 I P XT am ag t M R1 N1 B0 ab G L;go_wp2_with fail
 refine(y.o _ _ _).mono ?_;rintro _ A ⟨rfl,m1,m2,m3,m4,F,ms⟩;have A2:=gW (bt AB.o F);have MB:=gW F;have av:w.heap.size<=a.heap.size:=AB.o.size
 have LT:Hid (∀j,(j=a.heap.size+1\/j=a.heap.size+2\/j=a.heap.size\/j=a.heap.size+3\/E j\/jn ⟨none,0,[],i,c2,k++[0],false⟩ j)->j<A.heap.size):=gW (λj hk=>by
  rcases hk with h|h|h|h|h|h
  . omega
  . omega
  . omega
  . omega
  . have:=HX.o j h;omega
  . have:=ar.o j h;omega)
 have CO:=gW (lC (enters_of func86 (by kernel_rfl) rfl) (pp Yf (λ_=>0) (8*N) A (a.heap.size+1) (a.heap.size+2) a.heap.size (a.heap.size+3) m2 (λj=>j=a.heap.size+1\/j=a.heap.size+2\/j=a.heap.size\/j=a.heap.size+3\/E j\/jn ⟨none,0,[],i,c2,k++[0],false⟩ j) (.inl rfl) none) (But.refl _ _) LT.o)
 have C:=gW ((F.block (w.heap.size+1) (ae.1 XB.o).1).trans XB.o);have aA:w.heap.size+2<=A.heap.size:=by have:=(ae.1 C.o).1;omega
 clear m1 m2 m3 m4 F ms r Z t2 y;go_wp2_with fail
 refine CO.o.mono ?_;rintro e l ⟨s,ap,hs,hc⟩;have B3:=gW (bt A2.o s);have D:=gW ((s.block (w.heap.size+1) (ae.1 C.o).1).trans C.o);have q:ap=R:=hs.trans aq.o;have ac:w.heap.size<=A.heap.size:=A2.o.size;clear hs CO s C
 have aa:Hid (∃(c:Array Value)(bv:Bool)(f:Int),e=.returned (.tuple #[.agg c,.bool bv,.int .i64 f])/\(prog.info? 45).map (·.size)=some c.size/\(#[.slice none 0 0,.slice none 0 0]:Array Value).size=c.size/\c.all (·.oneCell')=true/\(l.setRow (w.heap.size+1) c).heap[w.heap.size+1]?=some (.cells c 45 (0,0))/\Below w.heap.size w (l.setRow (w.heap.size+1) c)/\FiR w (l.setRow (w.heap.size+1) c) (.returned (.tuple #[.agg c,.bool bv,.int .i64 f])) R):=gW (by
  subst q;have X:∀c,But (λj=>j=w.heap.size+1) l (l.setRow (w.heap.size+1) c):=λc=>Q.gZ _ _ _
  have U:∀c,Below w.heap.size w (l.setRow (w.heap.size+1) c):=λc=>((But.ofBelow (S:=λj=>j=w.heap.size+1) B3.o).trans (X c) (λ_ _ e=>e)).below (λj Y e=>by omega)
  rcases hc with⟨hn,rfl⟩|⟨c,bv,f,rfl,hv⟩
  . exact⟨_,false,0,rfl,il,rfl,(by simp[Value.oneCell']),br _ _ _ _ _ _ D.o,U _,.inl ⟨hn,rfl⟩⟩
  . rcases hv with⟨K,V,g1,rfl,rfl,rfl,g5,g6,g7,g8,g9,g10,g11⟩|⟨e',g1,g2,rfl,rfl,rfl⟩
    . exact⟨_,true,0,rfl,il,rfl,(by simp[Value.oneCell']),br _ _ _ _ _ _ D.o,U _,.inr ⟨_,true,0,rfl,.inl ⟨K,V,g1,rfl,rfl,rfl,g5.but (X _) (λx d e=>by have:=g10 x d;omega),g6,g7.but (X _) (λx d e=>by have:=g11 x d;omega),g8,g9,λx d=>az ac (g10 x d),λx d=>az ac (g11 x d)⟩⟩⟩
    . exact⟨_,false,_,rfl,il,rfl,(by simp[Value.oneCell']),br _ _ _ _ _ _ D.o,U _,.inr ⟨_,false,_,rfl,.inr ⟨e',g1,g2,rfl,rfl,rfl⟩⟩⟩)
 clear q hc;obtain⟨c,bv,f,rfl,y1,y2,y3,y4,y5,y6⟩:=aa.o;have Y1:=gW y1;have Y2:=gW y2;have Y3:=gW y3;have Y4:=gW y4;have Y5:=gW y5;have Y6:=gW y6;clear aa y1 y2 y3 y4 y5 y6;go_wp2_with (refine bz rfl 45 _ _ rfl (w.heap.size+1) _ rfl rfl 45 _ D.o Y1.o Y2.o Y3.o ?_)
 refine aF (v:=.tuple #[.agg _,_,_]) (jz results17 _ _ (w.heap.size+1) 45 _ (0,0) _ rfl Y4.o underlying45 rfl Y1.o) rfl ?_;exact⟨Y5.o,Y6.o⟩
end Go.Proofs.YteaogidofpfmmaaGreat
namespace Go.Proofs.YteaogidofpfmmaaGreat
open Go.Proofs.Tryz
open Go.RowKit Go.Shelf
def PthM(R:Option (List (Int×Pg)))(l:List Int)(ev:Int):Prop:=match R with
 |none=>l=[]/\ev=15
 |some L=>l=L.map (·.1)/\ev=0
def xy(w w':World)(e:Ending)(R:Option (List (Int×Pg))):Prop:=∃(l:List Int)(ev:Int)(a:Option Addr)(c:Nat),e=.returned (.tuple #[.slice a l.length c,.int .i64 ev])/\Q.Gw 3 1 w' a c l.length (Q.vi l)/\(∀y,a=some y->w.heap.size<=y.block)/\Below w.heap.size w w'/\PthM R l ev
theorem qm{rd:Int->Option Pg}{k:List Nat}:∀{h:Nat}{n:Int}{l:List (Int×Pg)},iJ rd k h n=some l->l.length=h
 |0,n,l,e=>by
  unfold iJ at e;cases e;rfl
 |h+1,n,l,e=>by
  unfold iJ at e;cases hr:rd n with
  |none=>rw[hr] at e;cases e
  |some p=>
   rw[hr] at e;simp only at e;split at e
   . cases e
   . cases hw:iJ rd k h (p.at (iQ k p.items)).child with
     |none=>rw[hw] at e;cases e
     |some m=>
      rw[hw] at e;simp only[eF,ay] at e;subst e;simp[qm hw]
theorem zI(w:World)(b:Nat)(rd:Int->Option Pg)(hA:ix rd)(XV:Nat->Prop)(hR:iZ 52 (.pointer (some ⟨b,0,none⟩)) rd XV w)(root B:Int)(h:Nat)(hh:h<=12)(q:Option Addr)(ck:Nat)(k:List Nat)(t:Bs w q k):
 Calls prog 19 #[.pointer (some ⟨b,0,none⟩),.agg #[.int .i64 root,.int .i64 (h:Int),.int .i64 B],.slice q k.length ck] w λe w'=>xy w w' e (iJ rd k h root):=by
 have C:=gW (al w (.cells #[.int .i64 root,.int .i64 (h:Int),.int .i64 B] 34));have X0:=ah w (.cells #[.int .i64 root,.int .i64 (h:Int),.int .i64 B] 34);obtain⟨t0,t1,t2⟩:=ia X0;have Z:=gW (s7 _ b rd hA XV (hR.keep C.o) root B h hh q ck k (t.keep C.o));obtain⟨R,aa⟩:∃R,iJ rd k h root=R:=⟨_,rfl⟩;have WL:=gW (show ∀l,R=some l->l.length<=12 from λl hl=>by rw[<-aa] at hl;rw[qm hl];exact hh)
 rw[aa] at Z ⊢;clear aa hR hA t X0;go_enter func19,ntmps19;go_upto_region 1 with fail
 generalize w.alloc (.cells #[.int .i64 root,.int .i64 (h:Int),.int .i64 B] 34)=w1 at *;go_wp2_with fail
 refine Z.o.mono ?_;rintro e s hw
 have ae:Hid (∃(L:List (Int×Pv))(a:Option Addr)(c:Nat)(H:Int),e=.returned (.tuple #[.slice a L.length c,.int .i64 H])/\Q.Gw 91 6 s a c L.length (nmw L)/\Below w.heap.size w s/\L.length<=12/\PthM R (L.map (·.1)) H):=gW (by
  rcases hw with⟨rfl,rfl,hb⟩|⟨L,a,c,rfl,rfl,d,hN,_,hb⟩
  . exact⟨[],none,0,15,rfl,Q.Gw.nil _ _ _,bt C.o hb,an _,rfl,rfl⟩
  . exact⟨L,a,c,0,rfl,d,bt C.o hb,by have:=WL.o _ rfl;simpa[nmg] using this,by simp[nmg],rfl⟩)
 clear hw;obtain⟨L,a,c,H,rfl,d,af,ac,aj⟩:=ae.o;have W:=gW d;have B2:=gW af;have FF:=gW aj;clear ae d af aj Z t0 t1 t2;obtain⟨n,hn⟩:∃n,L.length=n:=⟨_,rfl⟩;have X:=gW hn;rw[hn] at W ac ⊢;clear hn;have HM:=gW ac;clear ac;go_upto_region 4 with fail
 go_loopw [10,22] (λvo vi wx=>∃(i:Nat)(m:Option Addr)(r:Nat),i<=n/\vo=.slice m i r/\vi=.int .i64 (i:Int)/\Q.Gw 3 1 wx m r i (Q.vi ((L.take i).map (·.1)))/\(∀y,m=some y->s.heap.size<=y.block)/\Below s.heap.size s wx) (λ_ vi _=>n-(intOf vi).toNat)
 case atStart=>exact⟨0,none,0,an _,rfl,rfl,Q.Gw.nil _ _ _,λy v=>(by cases v),Below.refl _ _⟩
 case round=>
  obtain⟨i,m,r,hi,rfl,rfl,d,A,hb⟩:=hrel;have GI:=gW d;have Y:=gW A;have U:=gW hb;clear d A hb;by_cases ay:i<n
  . have aA:(i:Int)<(n:Int):=by omega
    have ab:i<L.length:=by rw[X.o];exact ay
    obtain⟨ap,ax⟩:=W.o.addr (by omega)
    subst ax;have GK:=gW (W.o.keep U.o);have f:∀j u,j<6->(nmc (L.getD i (0,Pv.zero)))[j]?=some u->wr.cell? ⟨ap,i*6+j,none⟩=some u:=λj u hj hu=>GK.o.cell (by rw[rC L i j ab hj];exact hu)
    have SN:Hid (Q.vi ((L.take i).map (·.1))++[.int .i64 (L.getD i (0,Pv.zero)).1]=Q.vi ((L.take (i+1)).map (·.1))):=gW (by
     have e:L.take (i+1)=L.take i++[L.getD i (0,Pv.zero)]:=by rw[bY ab];simp[ab]
     rw[mL,e,dd];rfl)
    obtain⟨x,I⟩:∃x,L.getD i (0,Pv.zero)=x:=⟨_,rfl⟩;rw[I] at f SN;clear I;obtain⟨p,ar⟩:=x;obtain⟨K,M,E,G,J,D,F,P,N⟩:=ar;have y0:=f 0 _ (by decide) rfl
    have y1:=f 1 _ (by decide) rfl
    have y2:=f 2 _ (by decide) rfl
    have y3:=f 3 _ (by decide) rfl
    have y4:=f 4 _ (by decide) rfl
    have y5:=f 5 _ (by decide) rfl
    rw[dr] at y0;have aw:=HM.o;have ag:i+1<=maxLen:=az (by omega:i+1<=12) (by decide)
    have ao:(i+1)*8<=140737488355328:=by omega
    have av:=gW ag;have au:=gW ao;have aB:i+1<=17592186044416:=by omega
    clear f ag ao aw;have A1:=gW (al wr (.cells #[.int .i64 p,.int .i64 K,.int .i64 M,.slice E J.length G,.slice D P.length F,.int .i64 N] 91));have X1:=gW (aZ wr (.cells #[.int .i64 p,.int .i64 K,.int .i64 M,.slice E J.length G,.slice D P.length F,.int .i64 N] 91));go_upto_region 6 with fail
    have sA:=size_alloc wr (.cells #[.int .i64 p,.int .i64 K,.int .i64 M,.slice E J.length G,.slice D P.length F,.int .i64 N] 91);generalize wr.alloc (.cells #[.int .i64 p,.int .i64 K,.int .i64 M,.slice E J.length G,.slice D P.length F,.int .i64 N] 91)=O at *;have m0:O.cell? ⟨wr.heap.size,0,none⟩=some (.int .i64 p):=by rw[am _ _ _ _ _ _ X1.o];rfl
    have BA:=gW (bt U.o A1.o);have T:=gW (al O (.cells #[.int .i64 p] 3));have X2:=gW (aZ O (.cells #[.int .i64 p] 3));have G1:=gW ((GI.o.keep A1.o).keep T.o);have V:=gW (bt BA.o T.o);clear y0 y1 y2 y3 y4 y5 sA;go_wp2_with (at_builtin;refine i5 underlying22 kG rfl (by decide) rfl _ _ rfl m i r (Q.vi ((L.take i).map (·.1))) rfl G1.o ⟨O.heap.size,0,none⟩ 1 [Value.int .i64 p] rfl rfl (kO X2.o) (λu hu=>by rw[aM.1 hu];rfl) av.o au.o ?_)
    intro g c2 w5 d A t;have B5:=gW (((But.ofBelow (S:=Q.InA m) V.o).trans t (λ_ _ e=>e)).below (λk hk ⟨x,I,e⟩=>by have:=Y.o x I;omega))
    have N5:=gW (show ∀y,(some ⟨g,0,none⟩:Option Addr)=some y->s.heap.size<=y.block from λy v=>by
     rcases A y v with⟨z,hz,e⟩|h
     . rw[<-e];exact Y.o z hz
     . exact az V.o.size h)
    have G5:=gW (show Q.Gw 3 1 w5 (some ⟨g,0,none⟩) c2 (i+1) (Q.vi ((L.take (i+1)).map (·.1))) from by rw[<-SN.o,List.map_take];exact d)
    clear d A t G1 V T X2 m0;go_wp2_with fail
    go_roundw
    case rel=>exact⟨i+1,some ⟨g,0,none⟩,c2,by omega,rfl,by go_num,G5.o,N5.o,B5.o⟩
    case measure=>simp[intOf];omega
  . obtain rfl:i=n:=by omega
    have GE:=gW (show Q.Gw 3 1 wr m r i (Q.vi (L.map (·.1))) from by
     have k:=GI.o;rw[eW (by rw[X.o];exact ai _)] at k
     exact k)
    have LL:=gW (show(L.map (·.1)).length=i from by rw[bu];exact X.o)
    go_wp2_with fail
    go_ret2
    refine⟨L.map (·.1),H,m,r,by rw[LL.o];rfl,by rw[LL.o];exact GE.o,λy v=>az B2.o.size (Y.o y v),bt B2.o U.o,FF.o⟩
end Go.Proofs.YteaogidofpfmmaaGreat
namespace Go.Proofs.YteaogidofpfmmaaGreat
open Go.Proofs.Tryz
open Go.RowKit
variable {rd:Int->Option Pg}{k x:List Nat}{w:World}
theorem yy(w:World)(p:Pv)(G:Option Addr)(P:Nat)(k:List Nat)(H:Pi w p)(S:Bs w G k):
 Calls prog 49 #[p.vl,.slice G k.length P] w λe w'=>e=.returned (.int .i64 ((iQ k p.pg.items:Nat):Int))/\Below w.heap.size w w':=by
 obtain⟨kind,y,l,q,L,g,m,t,next⟩:=p
 have N:=gW H.it;have hL:=H.it.2.1;have Z:=gW S;have M:Hid ((L.map Iv.it).drop 1=(L.drop 1).map Iv.it):=by show _=_;rw[List.map_drop]
 have f:=gW λ(j:Nat)(h1:j<=L.length-1)(h2:∀i,i<j->(L.getD (i+1) Iv.zero).key<=k)(h3:j=L.length-1\/¬(L.getD (j+1) Iv.zero).key<=k)=>(show iQ k (L.map Iv.it)=j from by
  have R:∀i,(L.drop 1).getD i Iv.zero=L.getD (i+1) Iv.zero:=λi=>by simp[Nat.add_comm]
  unfold iQ;rw[M.o];exact rN k _ j (by simpa using h1) (λi r=>by rw[iY,R];exact h2 i r) (h3.imp (λe=>by simpa using e) (λe=>by rw[iY,R];exact e)))
 unfold Pv.vl Pv.pg;simp only[Pv.cs] at *;have K:=gW (al w (.cells #[.int .i64 kind,.int .i64 y,.slice l L.length q,.slice g t.length m,.int .i64 next] 77))
 have O:=gW (aZ w (.cells #[.int .i64 kind,.int .i64 y,.slice l L.length q,.slice g t.length m,.int .i64 next] 77))
 obtain⟨n,J⟩:∃n,L.length=n:=⟨_,rfl⟩;have C:=gW J;rw[J] at hL K O ⊢;clear H S J M;go_enter func49,ntmps49;go_wp2;generalize (w.alloc (.cells #[.int .i64 kind,.int .i64 y,.slice l n q,.slice g t.length m,.int .i64 next] 77))=w1 at*
 go_loopw [5] (λi wr=>∃j:Nat,j<=n-1/\i=.int .i64 (j:Int)/\(∀i,i<j->(L.getD (i+1) Iv.zero).key<=k)/\Below w.heap.size w wr/\wr.heap[w.heap.size]?=some (.cells #[.int .i64 kind,.int .i64 y,.slice l n q,.slice g t.length m,.int .i64 next] 77 (0,0))) (λi _=>n-(intOf i).toNat)
 case atStart=>exact⟨0,an _,rfl,λi r=>absurd r (dz _),K.o,O.o⟩
 case round=>
  obtain⟨j,hj,rfl,I,hb,s⟩:=hrel;have F:=gW I;have A:=gW hb;have X1:=gW s;obtain⟨x0,x1,x2,x3,x4⟩:=zy s;by_cases ab:j+1<n
  . have aa:(j:Int)+1<(n:Int):=by omega
    have Y:j+1<L.length:=by rw[C.o];exact ab
    obtain⟨bI,af,rfl,T⟩:=(N.o.keep hb).at Y;obtain⟨U,V,W,X⟩:=iX T;have D:=gW ((N.o.1 _ (ie Y)).keep hb);have a:=gW (jc wr (L.getD (j+1) Iv.zero).aK G (L.getD (j+1) Iv.zero).key.length k.length (L.getD (j+1) Iv.zero).cK P _ k D.o.bk (Z.o.keep hb) rfl rfl);clear I hb s T;by_cases c:(L.getD (j+1) Iv.zero).key<=k
    . have U2:Hid (∀i,i<j+1->(L.getD (i+1) Iv.zero).key<=k):=λi r=>by
       by_cases e:i=j
       . rw[e];exact c
       . exact F.o i (by omega)
      obtain⟨z,d,ac⟩:∃z,gX (L.getD (j+1) Iv.zero).key k=z/\decide (z<=0)=true:=⟨_,rfl,au (rA.2 c)⟩;rw[d] at a;clear c d D f;generalize L.getD (j+1) Iv.zero=v at *;obtain⟨aK,cK,ad,aV,cV,val,child,ae⟩:=v;simp only at U V W X a;go_wp2_with (go_at_call 37;refine a.o.mono ?_;rintro _ w2 ⟨rfl,b⟩)
      have B:=gW (bt A.o b);have X2:=gW (uk X1.o b);clear b;go_roundw
      case rel=>exact⟨j+1,by omega,by go_num,U2.o,B.o,X2.o⟩
      case measure=>simp[intOf];omega
    . have E:Hid (iQ k (L.map Iv.it)=j):=f.o j (by omega) F.o (.inr c)
      obtain⟨z,d,ac⟩:∃z,gX (L.getD (j+1) Iv.zero).key k=z/\decide (z<=0)=false:=⟨_,rfl,ar (λh=>c (rA.1 h))⟩
      rw[d] at a;clear c d f D;generalize L.getD (j+1) Iv.zero=v at *;obtain⟨aK,cK,ad,aV,cV,val,child,ae⟩:=v;simp only at U V W X a;go_wp2_with (go_at_call 37;refine a.o.mono ?_;rintro _ w2 ⟨rfl,b⟩;have B:=gW (bt A.o b);clear b)
      go_ret;exact⟨by rw[E.o];rfl,B.o⟩
  . have aa:¬((j:Int)+1<(n:Int)):=by omega
    have E:Hid (iQ k (L.map Iv.it)=j):=f.o j (by rw[C.o];exact hj) F.o (.inl (by rw[C.o];omega))
    clear I hb s;go_wp2;go_ret;exact⟨by rw[E.o];rfl,A.o⟩
theorem zo{rd:Int->Option Pg}{k:List Nat}{h:Nat}{n:Int}{L:List (Int×Pg)}(e:iJ rd k (h+1) n=some L):∃(p:Pg)(a:List (Int×Pg)),rd n=some p/\lvl p h=true/\iJ rd k h (p.at (iQ k p.items)).child=some a/\L=(n,p)::a:=by
 unfold iJ at e;cases hr:rd n with
 |none=>rw[hr] at e;cases e
 |some p=>
  rw[hr] at e;simp only at e;split at e
  . cases e
  . rename_i b;cases hw:iJ rd k h (p.at (iQ k p.items)).child with
    |none=>rw[hw] at e;cases e
    |some m=>
     rw[hw] at e;simp only[eF,ay] at e;exact⟨p,m,rfl,by simpa using b,hw,e.symm⟩
theorem Js.child{b o:Nat}{L:List Iv}(h:Js w (some ⟨b,o,none⟩) L){j:Nat}(a:j<L.length):w.cell? ⟨b,o+j*4+2,none⟩=some (.int .i64 (L.getD j Iv.zero).child):=by
 obtain⟨d,f,e,c⟩:=h.at a;cases e;exact(iX c).2.2.1
def PtD(w w':World)(e:Ending)(l:List Int):Prop:=Below w.heap.size w w'/\∃(a:Option Addr)(c:Nat),e=.returned (.tuple #[.slice a l.length c,.int .i64 0])/\Q.Gw 3 1 w' a c l.length (Q.vi l)
theorem Ag(w:World)(rb:Nat)(D:Rd)(aL:Nat->Nat)(hR:Rq w rb D aL)(hA:ix (rdR D))(root ag:Int)(h:Nat)(hh:h<=12)(c:Option Addr)(ck:Nat)(k:List Nat)(J:Bs w c k)(X:List (Int×Pg))(hW:iJ (rdR D) k h root=some X):
 Calls prog 20 #[.pointer (some ⟨rb,0,none⟩),.agg #[.int .i64 root,.int .i64 (h:Int),.int .i64 ag],.slice c k.length ck] w λe w'=>PtD w w' e (X.map Prod.fst):=by
 have A0:=gW (al w (.cells #[.int .i64 root,.int .i64 (h:Int),.int .i64 ag] 34));have Z:=gW (ah w (.cells #[.int .i64 root,.int .i64 (h:Int),.int .i64 ag] 34));have HR:=gW λ(W:World)(hb:Below w.heap.size w W)=>hR.keep hb
 have HB:=gW λ(W:World)(hb:Below w.heap.size w W)=>J.keep hb
 have HA:=gW hA;obtain⟨l,hl⟩:∃l,X.map Prod.fst=l:=⟨_,rfl⟩;rw[hl];have H0:=gW (show ∃(f:List (Int×Pg)),iJ (rdR D) k (h-0) root=some f/\([]:List Int)++f.map Prod.fst=l from⟨X,hW,hl⟩)
 clear hR J hA hl hW;obtain⟨M,N,t2⟩:=ia Z.o;go_enter func20,ntmps20;go_upto_region 4 with fail
 obtain⟨O,ap⟩:∃W,w.alloc (.cells #[.int .i64 root,.int .i64 (h:Int),.int .i64 ag] 34)=W:=⟨_,rfl⟩;have S1:O.heap.size=w.heap.size+1:=by rw[<-ap,size_alloc]
 rw[ap] at A0 Z ⊢;clear ap M N t2;go_loopw [8,9,10] (λvo vn vi wx=>∃(i:Nat)(n:Option Addr)(I:Nat)(b:List Int)(a:Int),i<=h/\vo=.slice n i I/\vn=.int .i64 a/\vi=.int .i64 (i:Int)/\Q.Gw 3 1 wx n I i (Q.vi b)/\(∀y,n=some y->O.heap.size<=y.block)/\Below O.heap.size O wx/\b.length=i/\∃(f:List (Int×Pg)),iJ (rdR D) k (h-i) a=some f/\b++f.map Prod.fst=l) (λ_ _ vi _=>h-(intOf vi).toNat)
 case atStart=>exact⟨0,none,0,[],root,an _,rfl,rfl,rfl,Q.Gw.nil _ _ _,λy hy=>(by cases hy),Below.refl _ _,rfl,H0.o⟩
 case round=>
  obtain⟨i,n,I,b,a,hi,rfl,rfl,rfl,K,P,hb,ay,f,s,ac⟩:=hrel;have GI:=gW K;have NN:=gW P;have BB:=gW hb;have U:=gW ay;have B0:=gW (bt A0.o (hb.mono (by omega)))
  have X1:=gW ((hb.block w.heap.size (by omega)).trans Z.o)
  obtain⟨M,N,t2⟩:=ia X1.o;clear K P hb ay;by_cases aX:i<h
  . have aO:(i:Int)<(h:Int):=by omega
    obtain⟨m,hm⟩:∃m,h-i=m+1:=⟨h-i-1,by omega⟩
    rw[hm] at s;obtain⟨p,L3,hp,aA,aD,rfl⟩:=zo s;have HP:=gW hp;have aI:=gW aA;have Y:=gW aD;have SN:Hid (Q.vi b++[.int .i64 a]=Q.vi (b++[a])):=gW (by rw[mL])
    have SE:Hid ((b++[a])++L3.map Prod.fst=l):=by show _=_;rw[<-ac];simp
    clear hp aA aD s ac;have aB:i+1<=maxLen:=az (by omega:i+1<=13) (by decide)
    have aK:=gW aB;have aJ:=gW (show(i+1)*8<=140737488355328 by omega)
    have aS:i+1<=17592186044416:=by omega
    have A2:=gW (al wr (.cells #[.int .i64 a] 3));have X2:=gW (aZ wr (.cells #[.int .i64 a] 3));have G1:=gW (GI.o.keep A2.o);have BX:=gW (bt BB.o A2.o);clear aB;go_wp2_with (at_builtin;refine i5 underlying22 kG rfl (by decide) rfl _ _ rfl n i I (Q.vi b) rfl G1.o ⟨wr.heap.size,0,none⟩ 1 [Value.int .i64 a] rfl rfl (kO X2.o) (λaQ hu=>by rw[aM.1 hu];rfl) aK.o aJ.o ?_)
    intro g c2 G K P J;have T:=gW (((But.ofBelow (S:=Q.InA n) BX.o).trans J (λ_ _ e=>e)).below (λk hk ⟨x,V,e⟩=>by have:=NN.o x V;omega))
    have N5:=gW (show ∀y,(some ⟨g,0,none⟩:Option Addr)=some y->O.heap.size<=y.block from λy hy=>by
     rcases P y hy with⟨z,hz,e⟩|h
     . rw[<-e];exact NN.o z hz
     . exact az BX.o.size h)
    have G5:=gW (show Q.Gw 3 1 G (some ⟨g,0,none⟩) c2 (i+1) (Q.vi (b++[a])) from by rw[<-SN.o];exact K)
    have B6:=gW (bt A0.o (T.o.mono (by omega)))
    have X5:=gW ((T.o.block w.heap.size (by omega)).trans Z.o)
    clear K P J G1 BX A2 X2 GI NN BB X1 M N t2;obtain⟨M,N,t2⟩:=ia X5.o;by_cases aW:i+1<h
    . have aP:(i:Int)<(h:Int)-1:=by omega
      obtain⟨q,rfl⟩:∃q,m=q+1:=⟨m-1,by omega⟩
      obtain⟨ar,am⟩:=qy HP.o;have RW:=gW (HR.o G B6.o);obtain⟨z,g3,rfl,hz,aR,c3,r⟩:=RW.o.page ar;have aE:=Rd.on_mem RW.o (ju ar);have PI:=gW λ(W:World)(hb:Below w.heap.size w W)=>((HR.o W hb).pz _ aE).pi
      obtain⟨pv,aC⟩:∃q,D.on ((z:Int)+1)=q:=⟨_,rfl⟩;rw[aC] at am r PI;have aa:=gW (HA.o _ _ HP.o);have PQ:=gW am;clear aC aE ar am;have a0:(z:Int)<(D.C.length:Int):=by omega
      have aN:(z:Int)+1-1=(z:Int):=by omega
      have aT:IntKind.i64.wrap ((z:Int)+1-1)=(z:Int):=by rw[aN];exact iz (by omega) (by omega)
      obtain⟨C,E,v,B,L,t,A,H,F⟩:=pv;have y0:=r 0 _ (by decide) rfl
      have y1:=r 1 _ (by decide) rfl
      have y2:=r 2 _ (by decide) rfl
      have y3:=r 3 _ (by decide) rfl
      have y4:=r 4 _ (by decide) rfl
      rw[dr] at y0;have R:=gW (al G (.cells #[.int .i64 C,.int .i64 E,.slice v L.length B,.slice t H.length A,.int .i64 F] 77));have X3:=gW (ah G (.cells #[.int .i64 C,.int .i64 E,.slice v L.length B,.slice t H.length A,.int .i64 F] 77));clear r;go_upto_region 9 with fail
      have B7:=gW (bt T.o R.o);have B8:=gW (bt B6.o R.o);have G7:=gW (G5.o.keep R.o);generalize G.alloc (.cells #[.int .i64 C,.int .i64 E,.slice v L.length B,.slice t H.length A,.int .i64 F] 77)=d at *;obtain⟨gp,aw⟩:∃aH,G.heap.size=aH:=⟨_,rfl⟩;simp only[aw] at X3 ⊢;clear aw y0 y1 y2 y3 y4 c3 R RW M N t2;have RT:=gW λ(W:World)(hb:Below d.heap.size d W)=>(yy W ⟨C,E,v,B,L,t,A,H,F⟩ c ck k (PI.o _ (bt B8.o hb)) (HB.o _ (bt B8.o hb)))
      have aj:=gW (PI.o _ B8.o).it;obtain⟨m0,m1,m2,m3,m4⟩:=iI X3.o;have ae:p.items=L.map Iv.it:=by rw[<-PQ.o];rfl
      have aF:0<p.items.length:=by
       rcases aa.o.kind with h|h|h
       . exact(aa.o.leaf0 h).2
       . have:=(aa.o.idx h).2.2;omega
       . exact absurd h (jb.1 aI.o).1
      have ao:=sM (k:=k) aF;rw[ae,bu] at ao
      have CH:Hid ((p.at (iQ k p.items)).child=(L.getD (iQ k p.items) Iv.zero).child):=by
       show(p.items.getD _ It.zero).child=_;rw[ae,iY];rfl
      have W4:=Y.o;rw[CH.o] at W4
      have au:Hid (∀(W:World),Below d.heap.size d W->Calls prog 49 #[.agg #[.int .i64 C,.int .i64 E,.slice v L.length B,.slice t H.length A,.int .i64 F],.slice c k.length ck] W λe w'=>e=.returned (.int .i64 ((iQ k p.items:Nat):Int))/\Below d.heap.size d w'):=by
       show ∀_,_->_;intro W hb;have h:=RT.o W hb;have e:(⟨C,E,v,B,L,t,A,H,F⟩:Pv).pg.items=p.items:=by rw[PQ.o]
       rw[e] at h;exact h.mono λ_ _ V=>⟨V.1,bt hb V.2⟩
      have WW:=gW W4;obtain⟨j,u⟩:∃j,iQ k p.items=j:=⟨_,rfl⟩;rw[u] at au WW;rw[ae] at u;have ax:j<L.length:=by rw[<-u];exact ao
      have aV:(j:Int)<(L.length:Int):=by omega
      have aU:(0:Int)<=(j:Int):=by omega
      clear u ao ae aF CH Y W4 RT PQ aa;obtain⟨b1,o1,rfl,hr⟩:=aj.o.at ax;have K2:Hid (∀(ai:World),Below d.heap.size d ai->ai.cell? ⟨b1,o1+j*4+2,none⟩=some (.int .i64 (L.getD j Iv.zero).child)):=λai hb=>Js.child (aj.o.keep hb) ax
      obtain⟨ch,av⟩:∃aG,(L.getD j Iv.zero).child=aG:=⟨_,rfl⟩;rw[av] at K2 WW;clear av;clear hr aj;go_region_with (go_at_call 49;with_reducible refine(au.o _ (dr2 d)).mono ?_;rintro _ w8 ⟨rfl,ab⟩;have B9:=gW (bt B7.o ab);have G9:=gW (G7.o.keep ab);have k2:=K2.o w8 ab;have aY:=(ab.cell (p:=⟨gp,2,none⟩) (block_lt_of_cell m2)).trans m2)
      all_goals (go_wp2_with fail;go_roundw)
      all_goals first
       |(exact⟨i+1,some ⟨g,0,none⟩,c2,b++[(z:Int)+1],ch,by omega,rfl,rfl,by first|(go_num;done)|exact bf (Value.int IntKind.i64) (by omega),G9.o,N5.o,B9.o,by rw[af,U.o];rfl,L3,by rw[show h-(i+1)=q+1 by omega];exact WW.o,SE.o⟩)
       |(simp[intOf];done)
       |(simp[intOf];omega)
    . obtain rfl:m=0:=by omega
      have aP:¬(i:Int)<(h:Int)-1:=by omega
      have e3:L3=[]:=by
       have h:=Y.o;unfold iJ at h;cases h;rfl
      subst e3;have W0:Hid (iJ (rdR D) k 0 a=some []):=gW (by unfold iJ;rfl)
      clear Y;go_wp2_with fail
      go_roundw
      case rel=>exact⟨i+1,some ⟨g,0,none⟩,c2,b++[a],a,by omega,rfl,rfl,by first|(go_num;done)|exact bf (Value.int IntKind.i64) (by omega),G5.o,N5.o,T.o,by rw[af,U.o];rfl,[],by rw[show h-(i+1)=0 by omega];exact W0.o,SE.o⟩
      case measure=>first|(simp[intOf];done)|(simp[intOf];omega)
  . obtain rfl:i=h:=by omega
    have aO:¬(i:Int)<(i:Int):=by omega
    rw[dU] at s
    have e2:f=[]:=by
     unfold iJ at s;cases s;rfl
    subst e2;have e1:b=l:=by rw[<-ac];simp
    subst e1;clear s ac;go_wp2_with fail
    go_ret2
    exact⟨B0.o,n,I,by rw[U.o];rfl,by rw[U.o];exact GI.o⟩
theorem tq:∀x k:List Nat,gX x (k++[0])<0↔gX x k<=0
 | [],[]=>by simp[gX]
 | [],b::k=>by simp[gX]
 |a::x,[]=>by
  simp only[cJ,gX];constructor
  . intro h;split at h
    . omega
    . split at h
      . omega
      . cases x<;>simp[gX] at h
  . intro h;omega
 |a::x,b::k=>by
  have ih:=tq x k;simp only[cf,gX];split
  . simp
  . split
    . simp
    . exact ih
theorem Ca(h:isK x=true):has ⟨k,[],true⟩ x=decide (0<=gX x k):=by
 rw[ed,has_iff,d7,wP];simp[h]
theorem Ai(h:isK x=true):has ⟨[],k++[0],false⟩ x=decide (gX x k<=0):=by
 rw[ed,has_iff,d7,<-tq,mh];simp[h]
theorem mY{n h:Int}:has (iV n h).keys k=isK k:=by
 rw[ed,show(iV n h).keys=⟨[],[],true⟩ from rfl,has_iff]
 simp
theorem sB(L:List (List Nat×List Nat)):flw Yf.yl Yf.ystp L none=L.head?.map λp=>(0,p.1,p.2):=by
 cases L with
 |nil=>rfl
 |cons x L=>rfl
theorem EO(b:ix rd)(f:qe rd){t:Tr}(i:chk rd t=0)(d:t.root≠0)(hk:∀x∈k,x<256):
 (ib (prM Yf rd ⟨k,[],true⟩ true) rd (iG ⟨k,[],true⟩) true (t.height-1).toNat ⟨[],none⟩ (iV t.root t.height)).c=(jQ (PLt rd t) k).map λp=>(0,p.1,p.2):=by
 obtain⟨j,m,e,g,a,_⟩:=kw b i d;rw[(rn (Y:=Yf) (o:=true) b f (r:=⟨k,[],true⟩) ⟨hk,λx a=>by cases a⟩ _ (iV t.root t.height) ⟨[],none⟩ e ⟨λx a=>(by cases a),λx a=>by cases a⟩ g (λx _ h=>by cases h) rfl).1]
 show flw _ _ (inR rd _ true _ t.root) none=_;rw[sB];unfold inR jQ PLt iH;rw[if_neg d,if_pos rfl,List.filter_congr (p:=λx:It=>has ⟨k,[],true⟩ x.key) (q:=λx=>decide (0<=gX x.key k)) (l:=lits rd (t.height-1).toNat t.root) (λx a=>Ca (by rw[<-mY (n:=t.root) (h:=t.height)];exact(e.hk b x a).1)),List.head?_map,fY,List.find?_map]
 rfl
theorem Ci(b:ix rd)(f:qe rd){t:Tr}(i:chk rd t=0)(d:t.root≠0)(hk:∀x∈k,x<256):
 (ib (prM Yf rd ⟨[],k++[0],false⟩ false) rd (iG ⟨[],k++[0],false⟩) false (t.height-1).toNat ⟨[],none⟩ (iV t.root t.height)).c=(jr (PLt rd t) k).map λp=>(0,p.1,p.2):=by
 obtain⟨j,m,e,g,a,_⟩:=kw b i d
 rw[(rn (Y:=Yf) (o:=false) b f (r:=⟨[],k++[0],false⟩) ⟨λx a=>(by cases a),λx a=>by
  rcases bG.1 a with h|h
  . exact hk x h
  . rw[aM.1 h];omega⟩ _ (iV t.root t.height) ⟨[],none⟩ e ⟨λx a=>(by cases a),λx a=>by cases a⟩ g (λx _ h=>by cases h) rfl).1]
 show flw _ _ (inR rd _ false _ t.root) none=_;rw[sB];unfold inR jr PLt iH;rw[if_neg d,if_neg (by decide),List.filter_congr (p:=λx:It=>has ⟨[],k++[0],false⟩ x.key) (q:=λx=>decide (gX x.key k<=0)) (l:=lits rd (t.height-1).toNat t.root) (λx a=>Ai (by rw[<-mY (n:=t.root) (h:=t.height)];exact(e.hk b x a).1)),List.head?_map,<-gA,List.find?_map,<-List.filter_reverse,fY]
 rfl
theorem pV{rd:Int->Option Pg}{root:Int}(i:ix rd){k:List Nat}:∀{f:Nat}{a:Plx},Sub rd root f a->a.lv=f->∃(l:List (Int×Pg))(q:Pg),iJ rd k (f+1) a.no=some l/\l.getLast?=some (lm rd k f a.no,q)/\rd (lm rd k f a.no)=some q
 |0,a,h,hl=>by
  obtain⟨p,b,c,t,m,g⟩:=h.page;refine⟨[(a.no,p)],p,?_,rfl,b⟩;rw[hl] at c;unfold iJ;rw[b];simp only;rw[if_neg (by rw[c];decide)]
  rfl
 |f+1,a,h,hl=>by
  obtain⟨p,b,c,t,m,g⟩:=h.page;have d:=i _ _ b;obtain⟨y,C⟩:=jb.1 c;have hk:p.kind≠1:=λe=>by have:=(d.leaf0 e).1;omega
  have A:p.kind=2:=by
   rcases d.kind with h|h|h
   . exact absurd h hk
   . exact h
   . exact absurd h y
  obtain⟨j,e,n⟩:=g hk;cases e;have B:=pN (k:=k) (show 0<p.items.length by have:=(d.idx A).2.2;omega)
  obtain⟨l,q,v,r,s⟩:=pV i (k:=k) (Sub.kid n B) (by show a.lv-1=_;omega)
  rw[hl] at c
  have e:lm rd k (f+1) a.no=lm rd k f (p.at (iQ k p.items)).child:=by
   conv=>lhs;unfold lm
   rw[b]
  refine⟨(a.no,p)::l,q,?_,?_,?_⟩
  . unfold iJ;rw[b];simp only;rw[if_neg (by rw[c];decide)]
    rw[show iJ rd k (f+1) (p.at (iQ k p.items)).child=some l from v]
    rfl
  . rw[e,List.getLast?_cons,show l.getLast?=_ from r]
    rfl
  . rw[e];exact s
theorem yO{rd:Int->Option Pg}{k:List Nat}{q:Pg}(m:Sound q)(j:∀x∈q.items.filter (λx=>decide (x.key=k)),(ldI rd x).1=0):rP rd k q=match q.items.find? (λx=>decide (x.key=k)) with
 |none=>([],false,0)
 |some x=>((ldI rd x).2,true,0):=by
 unfold rP;by_cases h:kT k q.items=true
 . rw[if_neg (by rw[h];decide)]
   have c:=h;unfold kT at c;rw[b7,d7,d7] at c
   have e:=kY (λx:It=>decide (x.key=k)) It.zero q.items _ c.1 (λi d=>ar (by
    intro e;have:=r9 k _ i d;rw[e] at this;exact List.lt_irrefl _ this)) (au c.2)
   rw[e]
   have l:(q.items.getD (i9 k q.items) It.zero)∈q.items.filter (λx=>decide (x.key=k)):=by
    refine eG.2 ⟨?_,au c.2⟩;rw[be,ce c.1];exact fq _
   have g:=j _ l;have f:q.at (i9 k q.items)=q.items.getD (i9 k q.items) It.zero:=rfl;rw[f,g];rfl
 . rw[if_pos (by simpa using h)]
   rw[mH (λx:It=>decide (x.key=k)) It.zero q.items (λi d=>ar (by
    intro e;apply h
    have n:i9 k q.items<=i:=by
     apply eD;intro r;have:=r9 k q.items i (by omega)
     rw[e] at this;exact List.lt_irrefl _ this
    unfold kT;rw[b7,d7,d7];refine⟨by omega,?_⟩
    rcases Nat.lt_or_eq_of_le n with p|he
    . have a:=m.rise p d;have b:=vr k q.items (by omega)
      have a:(q.items.getD (i9 k q.items) It.zero).key<(q.items.getD i It.zero).key:=a;rw[e] at a;exact absurd a b
    . rw[he];exact e))]
theorem Fq(a:ix rd){t:Tr}(v:chk rd t=0)(g:t.root≠0):ng rd k t.height.toNat t.root=kR (PLt rd t) k:=by
 obtain⟨y,A,c,B,d,_⟩:=kw a v g;unfold ng kR;by_cases b:k.length<1\/24<k.length
 . rw[if_pos b,if_pos b]
 . rw[if_neg b,if_neg b];obtain⟨l,q,s,r,i⟩:=pV a (k:=k) c (by show t.height-1=_;omega)
   obtain⟨f,j,C,h⟩:=Sub.find a (k:=k) c (by show t.height-1=_;omega) (by rw[mY];unfold isK;simp;omega)
   have e:f=q:=by rw[i] at j;exact(Option.some.inj j).symm
   subst e
   have n:iJ rd k t.height.toNat t.root=some l:=by
    rw[show t.height.toNat=(t.height-1).toNat+1 by omega];exact s
   rw[n];simp only[r]
   rw[yO (a _ _ i) (λx d=>by
    rw[<-h] at d;exact(c.hk a x (eG.1 d).1).2)]
   unfold PLt;rw[if_neg g,List.find?_map]
   have m:(lits rd (t.height-1).toNat t.root).find? ((λp:List Nat×List Nat=>decide (p.1=k))∘jv rd)=f.items.find? (λx=>decide (x.key=k)):=by
    rw[<-fY,<-fY];exact bf List.head? h
   rw[m];cases f.items.find? (λx=>decide (x.key=k)) with
   |none=>rfl
   |some x=>rfl
theorem Fs(a:ix rd){t:Tr}(e:chk rd t=0)(b:t.root≠0)(k:List Nat):∃l,iJ rd k t.height.toNat t.root=some l:=by
 obtain⟨f,g,c,i,m,_⟩:=kw a e b;obtain⟨l,q,d,h,j⟩:=pV a (k:=k) c (by show t.height-1=_;omega)
 exact⟨l,by rw[show t.height.toNat=(t.height-1).toNat+1 by omega];exact d⟩
theorem mr{t:Tr}(h:chk rd t=0)(c:t.root=0):t=⟨0,0,0⟩:=by
 obtain⟨r,d,i⟩:=t;dsimp only at c;subst c;unfold chk at h;split at h
 . rename_i e;obtain⟨_,a,b⟩:=e;dsimp only at a b;rw[a,b]
 . rw[if_pos (.inl rfl)] at h;cases h
theorem m6(b:ix rd){t:Tr}(h:chk rd t=0):t.height=((t.height.toNat:Nat):Int)/\t.height.toNat<=12:=by
 by_cases a:t.root=0
 . rw[mr h a];exact⟨rfl,an _⟩
 . obtain⟨c,d,_⟩:=kw b h a;exact⟨by omega,by omega⟩
theorem Ez(b:ix rd){t:Tr}(h:chk rd t=0)(k:List Nat):ng rd k t.height.toNat t.root=kR (PLt rd t) k:=by
 by_cases a:t.root=0
 . obtain rfl:=mr h a;unfold ng kR PLt;split
   all_goals
    rfl
 . exact Fq b h a
theorem Ec(b:ix rd){t:Tr}(h:chk rd t=0)(k:List Nat):∃l,iJ rd k t.height.toNat t.root=some l:=by
 by_cases a:t.root=0
 . obtain rfl:=mr h a;exact⟨[],rfl⟩
 . exact Fs b h a k
def PrP(w w':World)(e:Ending)(R:Option (List Nat×List Nat)):Prop:=Below w.heap.size w w'/\∃(K V:Br),e=.returned (.tuple #[.agg #[.slice K.a K.l.length K.c,.slice V.a V.l.length V.c],.bool R.isSome,.int .i64 0])/\(R.getD ([],[])=(K.l,V.l))/\Own w w' K.a K.c K.l/\B8 K.l/\Own w w' V.a V.c V.l/\B8 V.l/\ji K V
theorem FiR.prp{b:World}{e:Ending}{R:Option (List Nat×List Nat)}(hb:Below w.heap.size w b)(h:FiR w b e (R.map λp=>(0,p.1,p.2))):PrP w b e R:=by
 have nil:PrP w b (.returned (.tuple #[.agg #[.slice none 0 0,.slice none 0 0],.bool false,.int .i64 0])) none:=
  ⟨hb,⟨none,0,[]⟩,⟨none,0,[]⟩,rfl,rfl,Own.nil _ hb,(λx a=>by cases a),Own.nil _ hb,(λx a=>by cases a),λx y a=>by cases a⟩
 rcases h with⟨h0,rfl⟩|⟨c,bv,f,rfl,⟨K,V,h1,rfl,rfl,rfl,h5,h6,h7,h8,h9,h10,h11⟩|⟨f',h1,h2,_⟩⟩
 . cases R with
   |none=>exact nil
   |some p=>cases h0
 . cases R with
   |none=>cases h1
   |some p=>
    simp only[eF,ay,fN,true_and] at h1;refine⟨hb,K,V,rfl,?_,⟨h5,λx a=>.inr (h10 x a),hb⟩,h6,⟨h7,λx a=>.inr (h11 x a),hb⟩,h8,h9⟩
    exact Prod.ext h1.1 h1.2
 . cases R with
   |none=>cases h1
   |some p=>
    simp only[eF,ay,fN] at h1;exact absurd h1.1.symm h2
section
variable {w:World} {b:Nat} {rd:Int->Option Pg} {XV:Nat->Prop} {t:Tr} {ak:Option Addr} {ck:Nat} {k:List Nat}
theorem D6(a:ix rd)(f:iZ 52 (.pointer (some ⟨b,0,none⟩)) rd XV w)(c:chk rd t=0)(d:Bs w ak k):
 Calls prog 11 #[.pointer (some ⟨b,0,none⟩),.agg #[.int .i64 t.root,.int .i64 t.height,.int .i64 t.items],.slice ak k.length ck] w λe g=>uO w g e (kR (PLt rd t) k):=by
 obtain⟨e,i⟩:=m6 a c;have h:=wR w b rd a XV f t.root t.items t.height.toNat i ak ck k d;rw[<-e,Ez a c] at h;exact h
theorem Bz(a:ix rd)(d:iZ 52 (.pointer (some ⟨b,0,none⟩)) rd XV w)(i:chk rd t=0)(c:Bs w ak k):
 Calls prog 19 #[.pointer (some ⟨b,0,none⟩),.agg #[.int .i64 t.root,.int .i64 t.height,.int .i64 t.items],.slice ak k.length ck] w λe f=>xy w f e (iJ rd k t.height.toNat t.root):=by
 obtain⟨e,g⟩:=m6 a i;have h:=zI w b rd a XV d t.root t.items t.height.toNat g ak ck k c;rw[<-e] at h;exact h
theorem Di(a:ix rd)(y:qe rd){N:Nat}(g:j5 rd N)(i:iZ 52 (.pointer (some ⟨b,0,none⟩)) rd XV w)(l:∀k,XV k->k<w.heap.size)(d:chk rd t=0)(f:Bs w ak k)(s:k.length<=ck)(hk:k.length<=1048576)(A:∀x,ak=some x->x.block<w.heap.size):
 Calls prog 14 #[.pointer (some ⟨b,0,none⟩),.agg #[.int .i64 t.root,.int .i64 t.height,.int .i64 t.items],.slice ak k.length ck] w λe v=>PrP w v e (jQ (PLt rd t) k):=by
 have n:Ri w ⟨ak,ck,k,none,0,[],true⟩:=⟨f,s,Bs.nil _,ai _⟩;have m:Rb ⟨ak,ck,k,none,0,[],true⟩:=⟨by show k.length<=_;omega,an _⟩
 have p:∀j,jn ⟨ak,ck,k,none,0,[],true⟩ j->j<w.heap.size:=λj h=>by
  rcases h with⟨x,hx,rfl⟩|⟨x,hx,_⟩
  . exact A x hx
  . cases hx
 by_cases c:t.root=0
 . obtain rfl:=mr d c;have e:jQ (PLt rd ⟨0,0,0⟩) k=none:=rfl;rw[e];exact(xF w b rd a N g XV i l ak ck k n m p).mono λ_ _ h=>FiR.prp h.1 h.2
 . obtain⟨q,r,_⟩:=kw a d c;have h:=zP w b rd a N g XV i l t.root t.height t.items q r ak ck k n m p;rw[EO a y d c f.1] at h;exact h.mono λ_ _ h=>FiR.prp h.1 h.2
theorem zW(a:ix rd)(p:qe rd){N:Nat}(g:j5 rd N)(i:iZ 52 (.pointer (some ⟨b,0,none⟩)) rd XV w)(j:∀k,XV k->k<w.heap.size)(f:chk rd t=0)(d:Bs w ak k)(hk:k.length<=1048576):
 Calls prog 17 #[.pointer (some ⟨b,0,none⟩),.agg #[.int .i64 t.root,.int .i64 t.height,.int .i64 t.items],.slice ak k.length ck] w λe n=>PrP w n e (jr (PLt rd t) k):=by
 by_cases c:t.root=0
 . obtain rfl:=mr f c;have e:jr (PLt rd ⟨0,0,0⟩) k=none:=rfl;rw[e];exact(wi w b rd a N g XV i j ak ck k d hk).mono λ_ _ h=>FiR.prp h.1 h.2
 . obtain⟨l,m,_⟩:=kw a f c;have h:=yj w b rd a N g XV i j t.root t.height t.items l m ak ck k d hk;rw[Ci a p f c d.1] at h;exact h.mono λ_ _ h=>FiR.prp h.1 h.2
end
end Go.Proofs.YteaogidofpfmmaaGreat
namespace Go.Proofs.YteaogidofpfmmaaGreat
open Go.Proofs.Tryz
section
open Go.RowKit
structure Bl(w:World)(a:Option Addr)(T:List Br):Prop where
 c:∀j,j<T.length->∃b off,a=some ⟨b,off,none⟩/\w.cell? ⟨b,off+j,none⟩=some (bv (T.getD j Br0))
 r:∀t∈T,Bs w t.a t.l/\t.l.length<=t.c/\t.l.length<=1048576
theorem Bl.keep{w f:World}{a:Option Addr}{T:List Br}(h:Bl w a T)(hb:Below w.heap.size w f):Bl f a T:=⟨λj i=>by
 obtain⟨b,g,e,c⟩:=h.c j i;exact⟨b,g,e,(hb.cell (p:=⟨b,g+j,none⟩) (block_lt_of_cell c)).trans c⟩,λt d=>⟨(h.r t d).1.keep hb,(h.r t d).2⟩⟩
end
section
open Go.ChangeShapes Go.WideShapes Go.ChangeAt Go.RowKit
theorem open_rowsU{H:Type}{enc:TypeId×Value->H}{W:World}{a:Option Addr}{len cap:Nat}{d:DataW H}{p:List MemPlace}
 (h:DataW.Trod enc prog W 0 (λ_=>true) true 27 (.slice a len cap) d p) (k:Rows.uptoBulk d<=1048576):
 ∃T:List Br,len=T.length/\Bl W a T/\T.length<=1048576:=by
 obtain⟨D,l⟩:=h
 obtain⟨A,L,q,e,n,_,_,r,m⟩:=kZ Br0 (E:=λt:Br=>[bv t]) (Y:=λt:Br=>Bs W t.a t.l/\t.l.length<=t.c/\t.l.length<=1048576) 0 underlying27 nN (by decide) (λ_=>rfl) (λ_ _ _ _ h hb=>by
  obtain⟨f,s,x,i,g,C,v,B⟩:=kB h (.inr (by omega))
  exact⟨⟨f,x,s⟩,i,an _,g,v,by dsimp only;omega⟩) l k
 simp only[Value.cells,ep,d5,bT] at e;obtain⟨rfl,rfl,rfl⟩:=e;refine⟨L,rfl,⟨λj c=>?_,r⟩,n⟩
 rcases m with rfl|⟨b,y,e,h⟩
 . exact absurd c (dz _)
 . exact⟨b,y,e,by simpa using h j c 0 _ rfl⟩
end
section
open Go.RowKit
def uA(T:List Br)(i:Nat):Option Addr:=(T.getD i Br0).a
def uC(T:List Br)(i:Nat):Nat:=(T.getD i Br0).c
def uL(T:List Br)(i:Nat):List Nat:=(T.getD i Br0).l
theorem tM{T:List Br}{i:Nat}(h:i<T.length):T.getD i Br0∈T:=by simp[h]
theorem Ev(T:List Br){i:Nat}(hi:i<T.length):(T.map bv)[i]?=some (.slice (uA T i) (uL T i).length (uC T i)):=by
 simp[hi,bv,uA,uL,uC]
theorem Aj(T:List Br):T.map bv=(List.range T.length).map (λi=>Value.slice (uA T i) (uL T i).length (uC T i)):=by
 apply List.ext_getElem?;intro i;by_cases a:i<T.length
 . rw[Ev _ a];simp only[eK,List.getElem?_range a,eF]
 . rw[dQ (by rw[bu];omega),dQ (by rw[bu,List.length_range];omega)]
theorem yq(w:World)(a:Option Addr)(g:Nat)(T:List Br)(l:Ar w a g (T.map bv))(v:∀t∈T,Rw w t.a t.c t.l)(d:T.Pairwise ji)(s:T.length<=2932031007410)(r:∀t∈T,t.l.length<=3840):
 Calls prog 23 #[.slice a T.length g] w λx m=>x=.returned (.bool true)/\But (λk=>∃t∈T,Q.InA t.a k) w m:=by
 rw[Aj] at l
 have q:yz T.length (uA T):=by
  intro i j b h A x y f c;have d:=fi.1 d;have n:T.getD i Br0=T[i]:=by simp[b]
  have p:T.getD j Br0=T[j]:=by simp[h]
  unfold uA at f c;rw[n] at f;rw[p] at c;rcases Nat.lt_or_gt_of_ne A with h1|h1
  . exact d i j b h h1 x y f c
  . exact λe=>d j i h b h1 y x c f e.symm
 refine(xA w a g T.length (uA T) (uC T) (uL T) l (λi b=>v _ (tM b)) q s λi b=>?_).mono ?_
 . have:=r _ (tM b);unfold uL;omega
 . rintro x m ⟨rfl,hb⟩;exact⟨rfl,hb.mono (λk _ ⟨i,b,y,c,e⟩=>⟨_,tM b,y,c,e⟩)⟩
theorem DC{w:World}{a:Option Addr}{c:Nat}{l:List Int}(h:Q.Gw 3 1 w a c l.length (Q.vi l)):Ir w a l:=by
 by_cases b:l=[]
 . exact .inl b
 . obtain⟨g,rfl⟩:=h.addr (by have:=bQ.2 b;omega)
   refine .inr ⟨g,0,rfl,λi d=>?_⟩
   rw[b9];refine h.cell ?_;unfold Q.vi;simp[d]
theorem li{W:World}{g:Nat}{u v:Value}{t:TypeId}(h:W.heap[g]?=some (.cells #[u,v] t (0,0))):W.cell? ⟨g,0,none⟩=some u/\W.cell? ⟨g,1,none⟩=some v:=⟨by rw[am _ _ _ _ _ _ h];rfl,by rw[am _ _ _ _ _ _ h];rfl⟩
theorem pC(w:World)(b c a3 a4:Option Addr)(c1 c2 c3 h n m:Nat)(K V:List Nat)(v:Bs w b K)(x:Bs w c V)(y:Bs w a3 K)(A:Bs w a4 V)(j:n=K.length)(i:m=V.length):
 Calls prog 16 #[.agg #[.slice b n c1,.slice c m c2],.agg #[.slice a3 n c3,.slice a4 m h]] w λe D=>e=.returned (.bool true)/\Below w.heap.size w D:=by
 have q:=gW λ(W:World)(hb:Below w.heap.size w W)=>ky W b a3 n n c1 c3 K K (v.keep hb) (y.keep hb) j j
 have r:=gW λ(W:World)(hb:Below w.heap.size w W)=>ky W c a4 m m c2 h V V (x.keep hb) (A.keep hb) i i
 simp only[decide_true] at q r;obtain⟨f,g,a,G⟩:=iN w (.cells #[.slice b n c1,.slice c m c2] 45) (.cells #[.slice a3 n c3,.slice a4 m h] 45) (Below.refl _ _);have a:=gW a;have E:=gW f;have F:=gW g;obtain⟨k,l⟩:=li f;obtain⟨t2,t3⟩:=li g;clear v x y A j i f g;go_enter func16,ntmps16;go_upto_region 1 with fail
 go_wp2_with fail
 refine(q.o _ a.o).mono ?_;rintro _ H ⟨rfl,d⟩;have p:=gW (bt a.o d);have s:=iy E.o d;have t:=iy F.o d;clear d k l t2 t3;obtain⟨k,l⟩:=li s;obtain⟨t2,t3⟩:=li t;clear s t;go_wp2_with fail
 refine(r.o _ p.o).mono ?_;rintro _ w3 ⟨rfl,B⟩;have C:=gW (bt p.o B);clear B k l t2 t3;go_wp2_with fail
 go_ret;exact⟨rfl,C.o⟩
end
end Go.Proofs.YteaogidofpfmmaaGreat
namespace Go.Proofs.YteaogidofpfmmaaGreat
open Go.Proofs.Tryz
open Go.RowKit
def xm(w w':World)(e:Ending)(x:Img):Prop:=
 ((iu x.r x.C (nmg x.N)).1≠0/\e=.returned (.pointer none)/\Below w.heap.size w w')\/
 ((iu x.r x.C (nmg x.N)).1=0/\∃(rb:Nat)(D:Rd),e=.returned (.pointer (some ⟨rb,0,none⟩))/\Rn w w' rb D/\PRi x.C (iu x.r x.C (nmg x.N)).2 D)
theorem Rn.pre14{w W b:World}{a:Nat}{D:Rd}(hb:Below w.heap.size w W)(h:Rn W b a D):Rn w b a D:=⟨h.box,h.cr,h.lr,h.pr,λp c=>(h.pn p c).pre hb.size,h.ps,az hb.size h.nb,h.nC.mono hb.size,h.nl.mono hb.size,h.np.mono hb.size,bt hb h.b⟩
theorem xD(w:World)(x:Img)(d:Imi w x):Calls prog 39 #[.agg x.cs] w λe k=>xm w k e x:=by
 have b:=gW (al w (.cells x.cs 26));have E:=ah w (.cells x.cs 26);have B:=gW λ(W:World)(hb:Below w.heap.size w W)=>zL W x.r x.aC x.C.length x.cC x.C (d.c.keep hb) rfl x.aN x.N.length x.cN x.N (d.n.keep hb) rfl d.nl
 have s:=gW λ(k:World)(e:Ending)(h:xm w k e x)=>h
 clear d;unfold xm at s ⊢;obtain⟨r,H,L,C,I,M,N,J,O,T⟩:=x;simp only[Img.cs] at *;obtain⟨U,V,X,Y⟩:=jp E;go_enter func39,ntmps39;go_wp2_with fail
 refine(B.o _ b.o).mono ?_;rintro _ l (⟨i,f,a,rfl,hb⟩|⟨a,j,D,rfl,c,F,m,n,p,q,_⟩)
 . have g:=gW a;have t:=gW (bt b.o hb);have y:=gW f;have P:(((i:Nat):Int)==(0:Int))=false:=by simp[f]
   have R:(((i:Nat):Int) != (0:Int))=true:=by simp[f]
   clear a hb f;generalize ((i:Nat):Int)=Z at *;go_wp2_with fail
   go_ret;exact .inl ⟨by rw[g.o];exact y.o,rfl,t.o⟩
 . have g:=gW a;have v:=gW (c.keep (Below.refl _ _));have K:l.cell? ⟨j,6,none⟩=some (.bool D.hush):=by rw[am _ _ _ _ _ _ c.box];rfl
   have S:l.frozen? ⟨j,6,none⟩=false:=by simp[World.frozen?,c.box]
   have A:Hid (PRi C (iu r C (nmg N)).2 {D with hush:=true}):=⟨m,n,p,q⟩;have G:=gW b.o.size;clear a c F m n p q;go_wp2_with fail
   go_ret;exact .inr ⟨g.o,j,_,rfl,(v.o.hushed).pre14 b.o,A.o⟩
end Go.Proofs.YteaogidofpfmmaaGreat
