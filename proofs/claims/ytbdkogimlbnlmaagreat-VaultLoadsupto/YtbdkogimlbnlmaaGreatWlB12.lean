import Derived.Test.YtbdkogimlbnlmaaGreatWlB11
set_option linter.all false
set_option maxHeartbeats 8000000
set_option maxRecDepth 8000
namespace Go.Proofs.YtbdkogimlbnlmaaGreat
open Tryz
open Go.RowKit
variable {L M:List Iv}{cap g i k mb pb x:Nat}{col col' pc:Nat->Nat}{D:Vd}{W w w':World}
theorem je{P:Program}{fn:Func}{p q:Tmp}{b:TypeId}(h:fn.results=#[.cell p b,.tmp q])(tmps:Array Value)(w:World)(g:Nat)(t:TypeId)(cs:Array Value)(e:Nat×Nat)(d:TypeDesc)
 (l:tmps.getD p undef=.pointer (some ⟨g,0,none⟩)) (j:w.heap[g]?=some (.cells cs t e))
 (m:P.underlying b=some d) (f:(match d with| .struct _| .array _ _=>true|_=>false)=true) (hi:(P.info? b).map (·.size)=some cs.size):
 (results fn tmps).run P w=.ok (.tuple #[.agg cs,tmps.getD q undef]) w:=by
 have n:tmps[p]?.getD undef=.pointer (some ⟨g,0,none⟩):=by simpa using l
 simp[results,h,n,asAddr,run_loadVar_row w g t b cs e d j m f hi]
def Vm.more(X:Vm)(L:List Int):Int×Vm:=((incAll X.P L).1,{X with P:=(incAll X.P L).2})
theorem FK(w:World)(b:Nat)(X:Vm)(fl:Nat)(D:Vd)(pc col:Nat->Nat)(h:Vx w b X fl D pc col)(p:Pv)(n:Pi w p)(m:X.P.ac.length+p.pg.kids.length<=17592186044416):
 Calls prog 146 #[.pointer (some ⟨b,0,none⟩),p.vl] w λe w'=>e=.returned (.int .i64 (X.more p.pg.kids).1)/\∃d col',Vx w' b (X.more p.pg.kids).2 fl D d col'/\Vf w col w' col':=by
 obtain⟨f,j,h⟩:=h;refine(Dd w b X.P fl (D.st X f j) pc col h p n m).mono ?_;rintro _ w' ⟨rfl,d,col',q,l⟩;exact⟨rfl,d,col',⟨f,j,q⟩,l⟩
theorem Vx.but{S:Nat->Prop}{b:Nat}{X:Vm}{fl:Nat}(h:Vx w b X fl D pc col)(hb:But S w w')(f:∀k,col k≠0->¬S k):Vx w' b X fl D pc col:=by
 obtain⟨d,e,h⟩:=h;exact⟨d,e,h.but hb f⟩
theorem Vx.row{b:Nat}{X:Vm}{fl:Nat}(h:Vx w b X fl D pc col)(f:col x=0)(cs:Array Value):Vx (w.setRow x cs) b X fl D pc col:=h.but (Q.jg w x cs) (λk d e=>d (by rw[e];exact f))
theorem Vf.row(h:Vf w col W col')(d:w.heap.size<=x)(cs:Array Value):Vf w col (W.setRow x cs) col':=
 ⟨h.b.trans (Q.jg W x cs) (λk b e=>by omega),h.c⟩
def Vm.left(X:Vm)(z:Int):Int×Vm:=if (X.P.dec z).1.2=0/\0<(X.P.dec z).1.1 then (X.less z).more (X.on z).pg.kids else ((X.P.dec z).1.2,X.less z)
def Vm.leave(X:Vm)(z:Int):(Pv×Int)×Vm:=((if (X.left z).1=0 then X.on z else Pv.zero,(X.left z).1),(X.left z).2)
theorem t8(w:World)(b:Nat)(X:Vm)(fl:Nat)(D:Vd)(pc col:Nat->Nat)(z:Int)(h:Vx w b X fl D pc col)(hm:X.P.ac.length+(X.on z).pg.kids.length+1<=17592186044416)(hc:X.ch.length+1<=1759218604441):
 Calls prog 106 #[.pointer (some ⟨b,0,none⟩),.int .i64 z] w λe w'=>e=.returned (.tuple #[(X.leave z).1.1.vl,.int .i64 (X.leave z).1.2])/\∃ab col',Vx w' b (X.leave z).2 fl D ab col'/\Vf w col w' col':=by
 have aB:=al w (.cells Pv.zero.cs 31);have I:=h.keep aB;obtain⟨c0,c1⟩:=h.c01;have K:=I.look z;have HZ:=iJ (h.on_z z);obtain⟨q,N⟩:∃q,X.on z=q:=⟨_,rfl⟩;have aC:=bt aB (al (w.alloc (.cells Pv.zero.cs 31)) (.cells q.cs 31));have y:Hid (((w.alloc (.cells Pv.zero.cs 31)).alloc (.cells q.cs 31)).heap[w.heap.size]?=some (.cells Pv.zero.cs 31 (0,0))):=((al (w.alloc (.cells Pv.zero.cs 31)) (.cells q.cs 31)).block w.heap.size (by rw[size_alloc];omega)).trans (aF w _)
 have A:Hid (((w.alloc (.cells Pv.zero.cs 31)).alloc (.cells q.cs 31)).heap[w.heap.size+1]?=some (.cells q.cs 31 (0,0))):=by
  show _=_;have k:=aF (w.alloc (.cells Pv.zero.cs 31)) (.cells q.cs 31);rwa [size_alloc] at k
 have f:Hid (((w.alloc (.cells Pv.zero.cs 31)).alloc (.cells q.cs 31)).heap.size=w.heap.size+2):=by show _=_;rw[size_alloc,size_alloc]
 have l:=iJ (xP _ b X fl D pc col (h.keep aC) z (by omega) hc)
 have s:=iJ aC;have n:Hid (col w.heap.size=0):=h.z (ai _);have p:Hid (col (w.heap.size+1)=0):=h.z (eJ _);have az:=h.lb;have LP:=X.less_P z
 have an:(X.less z).P.ac.length<=X.P.ac.length+1:=by
  rw[LP];obtain⟨d1,d2⟩:=sU h.ok z;by_cases e0:(X.P.dec z).1.2=0
  . rw[(d1 e0).2];exact ai _
  . rw[d2 e0];exact eJ _
 have LV:X.leave z=((if (X.left z).1=0 then q else Pv.zero,(X.left z).1),(X.left z).2):=by rw[<-N];rfl
 have O:X.left z=if (X.P.dec z).1.2=0/\0<(X.P.dec z).1.1 then (X.less z).more q.pg.kids else ((X.P.dec z).1.2,X.less z):=by rw[<-N];rfl
 have HQ:=iJ (show ∀(W:World)(col':Nat->Nat),Vf w col W col'->Pi W q from λW col' hf=>((by rw[N] at HZ;exact HZ.o:Pz (λk=>col k=6) w q).but hf.b (λk _ e hk=>by omega)).pi)
 have R:=iJ λ(W:World)(ab col':Nat->Nat)(hv:Vx W b (X.less z) fl D ab col')(hp:Pi W q)=>FK W b (X.less z) fl D ab col' hv q hp (by rw[N] at hm;omega)
 rw[N] at K;obtain⟨B,ag⟩:∃B,X.less z=B:=⟨_,rfl⟩;rw[ag] at O l R;obtain⟨c,ah⟩:∃c,(X.P.dec z).1.1=c:=⟨_,rfl⟩;obtain⟨e,aj⟩:∃e,(X.P.dec z).1.2=e:=⟨_,rfl⟩;rw[ah,aj] at O l;obtain⟨ac,hr⟩:∃ac,B.more q.pg.kids=ac:=⟨_,rfl⟩;rw[hr] at O R;obtain⟨J,U⟩:=ac;rw[O] at LV;rw[LV];simp only at R;clear h I LP an LV O ag ah aj hr N aB aC hm hc HZ;obtain⟨kp,lp,aq,av,aA,ap,ar,aw,aD⟩:=q;unfold Pv.vl at *;simp only[Pv.cs] at K R l y A f s;simp only[Pv.zero,bj] at K l y A f s;by_cases I:e=0
 . subst I;by_cases aa:0<c
   . rw[show(if (0:Int)=0/\0<c then (J,U) else (0,B))=(J,U) from if_pos ⟨rfl,aa⟩]
     have d0:decide (0<c)=true:=ax aa;by_cases h2:J=0
     all_goals
      first
      |subst h2
       simp only[if_pos]
      |have ay:(J==0)=false:=by simp[h2]
       simp only[if_neg h2]
      go_enter func106,ntmps106;go_wp2_with fail
      refine l.o.mono ?_;rintro _ T ⟨rfl,am,G,C,d⟩;have H:=iJ C;have t:=iJ ((Vf.keep s.o).trans d);have m:=iJ (d.b.same y.o (λe=>by rw[n.o] at e;omega))
      have j:=d.b.same A.o (λe=>by rw[p.o] at e;omega)
      have E:Hid (G w.heap.size=0):=(d.c _ (by rw[f.o];omega)).trans n.o
      have ad:Hid (G (w.heap.size+1)=0):=(d.c _ (by rw[f.o];omega)).trans p.o
      have af:Hid (w.heap.size+2<=T.heap.size):=by have:=d.b.size;rw[f.o] at this;exact this
      obtain⟨V,Y,Z,r,x4⟩:=iS j;have ae:=iJ j;clear C d l K c0 c1 j y A f s n p;go_wp2_with fail
      refine(R.o _ _ _ H.o (HQ.o _ _ t.o)).mono ?_;rintro _ w2 ⟨rfl,aE,ao,v2,S⟩;have H:=iJ v2;have t:=iJ (t.o.trans S);have m:=iJ (S.b.same m.o (λe=>by rw[E.o] at e;omega))
      have ak:=S.b.same ae.o (λe=>by rw[ad.o] at e;omega)
      have E:Hid (ao w.heap.size=0):=(S.c _ (by have:=af.o;omega)).trans E.o
      clear V Y Z r x4;obtain⟨V,Y,Z,r,x4⟩:=iS ak;clear v2 S ak;go_wp2_with (first|(refine cE rfl 31 _ _ rfl w.heap.size _ rfl rfl 31 _ m.o iP rfl (by simp[Value.oneCell']) ?_)|fail)
      refine bZ (v:=.tuple #[.agg _,_]) (je results106 _ _ w.heap.size 31 _ (0,0) _ rfl (dc _ _ _ _ _ _ m.o) underlying31 rfl iP) rfl ?_;exact⟨rfl,_,_,H.o.row E.o _,t.o.row (ai _) _⟩
   . rw[show(if (0:Int)=0/\0<c then (J,U) else (0,B))=(0,B) from if_neg (λhh=>aa hh.2)]
     have d0:decide (0<c)=false:=au aa;simp only[if_pos];go_enter func106,ntmps106;go_wp2_with fail
     refine l.o.mono ?_;rintro _ T ⟨rfl,am,G,C,d⟩;have H:=iJ C;have t:=iJ ((Vf.keep s.o).trans d);have m:=iJ (d.b.same y.o (λe=>by rw[n.o] at e;omega))
     have j:=d.b.same A.o (λe=>by rw[p.o] at e;omega)
     have E:Hid (G w.heap.size=0):=(d.c _ (by rw[f.o];omega)).trans n.o
     have ad:Hid (G (w.heap.size+1)=0):=(d.c _ (by rw[f.o];omega)).trans p.o
     have af:Hid (w.heap.size+2<=T.heap.size):=by have:=d.b.size;rw[f.o] at this;exact this
     obtain⟨V,Y,Z,r,x4⟩:=iS j;have ae:=iJ j;clear C d l K c0 c1 j y A f s n p;go_wp2_with (first|(refine cE rfl 31 _ _ rfl w.heap.size _ rfl rfl 31 _ m.o iP rfl (by simp[Value.oneCell']) ?_)|fail)
     refine bZ (v:=.tuple #[.agg _,_]) (je results106 _ _ w.heap.size 31 _ (0,0) _ rfl (dc _ _ _ _ _ _ m.o) underlying31 rfl iP) rfl ?_;exact⟨rfl,_,_,H.o.row E.o _,t.o.row (ai _) _⟩
 . rw[show(if e=0/\0<c then (J,U) else (e,B))=(e,B) from if_neg (λhh=>I hh.1)]
   have e0:(e==0)=false:=by simp[I]
   simp only[if_neg I];go_enter func106,ntmps106;go_wp2_with fail
   refine l.o.mono ?_;rintro _ T ⟨rfl,am,G,C,d⟩;have H:=iJ C;have t:=iJ ((Vf.keep s.o).trans d);have m:=iJ (d.b.same y.o (λe=>by rw[n.o] at e;omega))
   have j:=d.b.same A.o (λe=>by rw[p.o] at e;omega)
   have E:Hid (G w.heap.size=0):=(d.c _ (by rw[f.o];omega)).trans n.o
   have ad:Hid (G (w.heap.size+1)=0):=(d.c _ (by rw[f.o];omega)).trans p.o
   have af:Hid (w.heap.size+2<=T.heap.size):=by have:=d.b.size;rw[f.o] at this;exact this
   obtain⟨V,Y,Z,r,x4⟩:=iS j;have ae:=iJ j;clear C d l K c0 c1 j y A f s n p;go_wp2_with (first|(refine cE rfl 31 _ _ rfl w.heap.size _ rfl rfl 31 _ m.o iP rfl (by simp[Value.oneCell']) ?_)|fail)
   refine bZ (v:=.tuple #[.agg _,_]) (je results106 _ _ w.heap.size 31 _ (0,0) _ rfl (dc _ _ _ _ _ _ m.o) underlying31 rfl iP) rfl ?_;exact⟨rfl,_,_,H.o.row E.o _,t.o.row (ai _) _⟩
def Vm.lay(X:Vm)(n:Int)(p:Pv):Vm:={X with f:=jp X.f n p,ch:=X.ch++[(n,X.on n)]}
theorem ww(w:World)(b:Nat)(X:Vm)(fl:Nat)(D:Vd)(pc col:Nat->Nat)(h:Vx w b X fl D pc col)(n:Int)(p:Pv)(l:Pz (λk=>col k=6) w p)(t:X.ch.length+1<=1759218604441):
 Calls prog 131 #[.pointer (some ⟨b,0,none⟩),.int .i64 n,p.vl] w λe w'=>e=.returned (.tuple #[])/\∃s col',Vx w' b (X.lay n p) fl D s col'/\Vf w col w' col':=by
 obtain⟨d,f,h⟩:=h;refine(xN w b X.P fl (D.st X d f) pc col h n p l t).mono ?_;rintro _ w' ⟨rfl,q,r,col',m,j⟩;exact⟨rfl,pc,col',⟨q,r,m⟩,j⟩
theorem Vx.pz{b:Nat}{X:Vm}{fl:Nat}(h:Vx w b X fl D pc col)(d:Vf w col w' col'){p:Pv}(j:Pz (λk=>col k=6) w p):Pz (λk=>col' k=6) w' p:=
 (j.but d.b (λk _ e f=>by omega)).mono (λk _ e=>by
   have e:col k=6:=e;show col' k=6
   rw[d.c k (by
    by_cases f:k<w.heap.size
    . exact f
    . have:=h.z (k:=k) (by omega);omega)]
   exact e)
theorem vz(w:World)(b:Nat)(X:Vm)(fl:Nat)(D:Vd)(pc col:Nat->Nat)(h:Vx w b X fl D pc col)(n:X.P.ac.length+1<=17592186044416):
 Calls prog 130 #[.pointer (some ⟨D.pb,0,none⟩)] w λe w'=>e=.returned (.tuple #[.int .i64 X.P.alloc.1.1,.int .i64 X.P.alloc.1.2])/\∃d col',Vx w' b {X with P:=X.P.alloc.2} fl D d col'/\Vf w col w' col':=by
 obtain⟨j,l,h⟩:=h;refine(Q.AN w D.pb X.P pc h.pool n).mono ?_;rintro _ w' ⟨rfl,d,p,m⟩;obtain⟨v,f⟩:=h.pooled p m;exact⟨rfl,d,_,⟨j,l,v⟩,f⟩
theorem GH(w:World)(b:Nat)(X:Vm)(fl:Nat)(D:Vd)(pc col:Nat->Nat)(h:Vx w b X fl D pc col)(z:Int)(n:X.P.ac.length+1<=17592186044416):
 Calls prog 108 #[.pointer (some ⟨D.pb,0,none⟩),.int .i64 z] w λe w'=>e=.returned (.int .i64 (X.P.inc z).1)/\∃d col',Vx w' b {X with P:=(X.P.inc z).2} fl D d col'/\Vf w col w' col':=by
 obtain⟨j,l,h⟩:=h;refine(Q.ye w D.pb X.P pc h.pool z n).mono ?_;rintro _ w' ⟨rfl,d,p,m⟩;obtain⟨v,f⟩:=h.pooled p m;exact⟨rfl,d,_,⟨j,l,v⟩,f⟩
theorem qX(P:Q.Po):P.alloc.2.ac.length<=P.ac.length+1:=by
 unfold Q.Po.alloc;split
 . exact eJ _
 . simp[Q.Po.act]
theorem Vm.left_ch(X:Vm)(z:Int):(X.left z).2.ch.length<=X.ch.length+1:=by
 unfold Vm.left;split
 all_goals
  exact X.less_ch z
def Vm.shadow(X:Vm)(z:Int):(Int×Int)×Vm:=
 if X.P.alloc.1.2=0 then
  (if ((⟨X.P.alloc.2,X.f,X.ch⟩:Vm).leave z).1.2=0 then ((X.P.alloc.1.1,0),((⟨X.P.alloc.2,X.f,X.ch⟩:Vm).leave z).2.lay X.P.alloc.1.1 (X.on z))
  else ((0,((⟨X.P.alloc.2,X.f,X.ch⟩:Vm).leave z).1.2),((⟨X.P.alloc.2,X.f,X.ch⟩:Vm).leave z).2))
 else ((0,X.P.alloc.1.2),⟨X.P.alloc.2,X.f,X.ch⟩)
theorem zh(w:World)(b:Nat)(X:Vm)(fl:Nat)(D:Vd)(pc col:Nat->Nat)(z:Int)(h:Vx w b X fl D pc col)(hm:X.P.ac.length+(X.on z).pg.kids.length+2<=17592186044416)(s:X.ch.length+2<=1759218604441):
 Calls prog 98 #[.pointer (some ⟨b,0,none⟩),.int .i64 z] w λe w'=>e=.returned (.tuple #[.int .i64 (X.shadow z).1.1,.int .i64 (X.shadow z).1.2])/\∃B col',Vx w' b (X.shadow z).2 fl D B col'/\Vf w col w' col':=by
 obtain⟨c0,c1⟩:=h.c01;have j:=iJ (vz w b X fl D pc col h (by omega))
 have HZ:=iJ (h.on_z z);have HV:=iJ h;have PZ:=iJ λ(W:World)(col':Nat->Nat)(hf:Vf w col W col')=>h.pz hf (h.on_z z)
 have af:=qX X.P;have d:=iJ λ(W:World)(B col':Nat->Nat)(hv:Vx W b ⟨X.P.alloc.2,X.f,X.ch⟩ fl D B col')=>t8 W b ⟨X.P.alloc.2,X.f,X.ch⟩ fl D B col' z hv (by show X.P.alloc.2.ac.length+(X.on z).pg.kids.length+1<=_;omega) (by show X.ch.length+1<=_;omega)
 have A:((⟨X.P.alloc.2,X.f,X.ch⟩:Vm).leave z).2.ch.length<=X.ch.length+1:=Vm.left_ch _ z
 have f:((⟨X.P.alloc.2,X.f,X.ch⟩:Vm).leave z).1.2=0->((⟨X.P.alloc.2,X.f,X.ch⟩:Vm).leave z).1.1=X.on z:=λe=>by
  have e:((⟨X.P.alloc.2,X.f,X.ch⟩:Vm).left z).1=0:=e;unfold Vm.leave;rw[if_pos e];rfl
 unfold Vm.shadow;obtain⟨r,hr⟩:∃r,X.P.alloc=r:=⟨_,rfl⟩;rw[hr] at j d A f ⊢;obtain⟨⟨ae,e⟩,P1⟩:=r;simp only at j d A f ⊢;obtain⟨aa,hq⟩:∃aa,X.on z=aa:=⟨_,rfl⟩;rw[hq] at PZ f ⊢;obtain⟨l,hl⟩:∃l,(⟨P1,X.f,X.ch⟩:Vm).leave z=l:=⟨_,rfl⟩;rw[hl] at d A f ⊢;obtain⟨⟨p,e2⟩,X2⟩:=l;simp only at d A f ⊢;clear h hr hl hq af hm HZ;by_cases Z:e=0
 . subst Z;rw[if_pos rfl];by_cases q:e2=0
   . subst q;rw[if_pos rfl];obtain rfl:=f rfl;have Y:=iJ λ(W:World)(B col':Nat->Nat)(hv:Vx W b X2 fl D B col')(hp:Pz (λk=>col' k=6) W p)=>ww W b X2 fl D B col' hv ae p hp (by omega)
     clear f A s;obtain⟨I,J,O,R,T,N,P,S,U⟩:=p;unfold Pv.vl at d Y;simp only[Pv.cs] at d Y;go_enter func98,ntmps98;go_wp2_with fail
     refine j.o.mono ?_;rintro _ w1 ⟨rfl,ac,ad,n,m⟩;have v:=iJ n;have t:=iJ m;clear n m j c0 c1;go_wp2_with fail
     refine(d.o _ _ _ v.o).mono ?_;rintro _ K ⟨rfl,ag,ah,E,C⟩;have H:=iJ E;have G:=iJ (t.o.trans C);clear E C d v t;have y:=al K (.cells (Pv.cs ⟨I,J,O,R,T,N,P,S,U⟩) 31);obtain⟨x0,x1,x2,x3,x4⟩:=iS (aF K (.cells (Pv.cs ⟨I,J,O,R,T,N,P,S,U⟩) 31));have V:=iJ (G.o.trans (Vf.keep y));have ab:=iJ (Y.o _ _ _ (H.o.keep y) (PZ.o _ _ V.o));clear y;simp only[Pv.cs] at x0 x1 x2 x3 x4 ab V;go_wp2_with fail
     refine ab.o.mono ?_;rintro _ w3 ⟨rfl,aj,ak,v3,f3⟩;have V4:=iJ v3;have F4:=iJ (V.o.trans f3);clear v3 f3 x0 x1 x2 x3 x4;go_wp2;go_ret2
     exact⟨rfl,_,_,V4.o,F4.o⟩
   . rw[if_neg q];have ai:(e2==0)=false:=by simp[q]
     obtain⟨I,J,O,R,T,N,P,S,U⟩:=p;unfold Pv.vl at d;simp only[Pv.cs] at d;clear f A s;go_enter func98,ntmps98;go_wp2_with fail
     refine j.o.mono ?_;rintro _ w1 ⟨rfl,ac,ad,n,m⟩;have v:=iJ n;have t:=iJ m;clear n m j c0 c1;go_wp2_with fail
     refine(d.o _ _ _ v.o).mono ?_;rintro _ K ⟨rfl,ag,ah,E,C⟩;have y:=al K (.cells (Pv.cs ⟨I,J,O,R,T,N,P,S,U⟩) 31);have H:=iJ (E.keep y);have G:=iJ ((t.o.trans C).trans (Vf.keep y));simp only[Pv.cs] at H G;clear E C d v t y;go_wp2;go_ret2
     exact⟨rfl,_,_,H.o,G.o⟩
 . rw[if_neg Z];have e0:(e==0)=false:=by simp[Z]
   clear f A s d;go_enter func98,ntmps98;go_wp2_with fail
   refine j.o.mono ?_;rintro _ w1 ⟨rfl,ac,ad,n,m⟩;have v:=iJ n;have t:=iJ m;clear n m j c0 c1;go_wp2;go_ret2
   exact⟨rfl,_,_,v.o,t.o⟩
structure Vs where
 X:Vm
 al:List (Nat×Nat)
 fl:Nat
def Vw(w:World)(b:Nat)(S:Vs)(pb mb:Nat)(pc col:Nat->Nat):Prop:=∃ac cc aa ca,Vq w b S.X.P S.fl ⟨pb,mb,S.X.f,ac,cc,S.X.ch,aa,ca,S.al⟩ pc col
theorem Vw.keep{b:Nat}{S:Vs}(h:Vw w b S pb mb pc col)(hb:Below w.heap.size w w'):Vw w' b S pb mb pc col:=by
 obtain⟨e,j,d,f,h⟩:=h;exact⟨e,j,d,f,h.keep hb⟩
def vd0(pb mb:Nat)(aa:Option Addr)(ca:Nat)(al:List (Nat×Nat)):Vd:=⟨pb,mb,λ_=>none,none,0,[],aa,ca,al⟩
theorem Vw.vx{b:Nat}{S:Vs}(h:Vw w b S pb mb pc col):∃aa ca,Vx w b S.X S.fl (vd0 pb mb aa ca S.al) pc col:=by
 obtain⟨d,e,aa,ca,h⟩:=h;exact⟨aa,ca,d,e,h⟩
theorem Vw.c0{b:Nat}{S:Vs}(h:Vw w b S pb mb pc col):w.cell? ⟨b,0,none⟩=some (.pointer (some ⟨pb,0,none⟩)):=by
 obtain⟨e,j,d,f,h⟩:=h;exact h.cells.1
theorem Vw.z{b:Nat}{S:Vs}(h:Vw w b S pb mb pc col)(d:w.heap.size<=k):col k=0:=by
 obtain⟨e,f,h⟩:=h.vx;exact h.z d
def Vm.back(X:Vm)(k m:Nat):Vm:=⟨X.P.undo ((k:Nat):Int),unl X.f (X.ch.drop m),X.ch.take m⟩
def Vs.done(S:Vs)(e:Int)(X:Vm):Vs:=if e=0 then ⟨X,S.al++[(S.X.P.mark,S.X.ch.length)],S.fl⟩ else ⟨X.back S.X.P.mark S.X.ch.length,S.al,S.fl⟩
theorem mu(w:World)(b:Nat)(S:Vs)(pb mb:Nat)(pc col:Nat->Nat)(h:Vw w b S pb mb pc col)(d:S.X.P.mark<=9223372036854775807):
 Calls prog 97 #[.pointer (some ⟨b,0,none⟩)] w λe w'=>e=.returned (.agg #[.int .i64 ((S.X.P.mark:Nat):Int),.int .i64 ((S.X.ch.length:Nat):Int)])/\Below w.heap.size w w':=by
 obtain⟨j,m,f,l,h⟩:=h;exact BG w b S.X.P S.fl _ pc col h d
theorem mF(w:World)(b:Nat)(S:Vs)(X:Vm)(pb mb:Nat)(aa:Option Addr)(ca:Nat)(pc col:Nat->Nat)(h:Vx w b X S.fl (vd0 pb mb aa ca S.al) pc col)(e:Int)(p:S.X.ch.length<=X.ch.length)(r:X.P.mark<=9223372036854775807)(q:S.al.length+1<=8796093022208):
 Calls prog 99 #[.pointer (some ⟨b,0,none⟩),.agg #[.int .i64 ((S.X.P.mark:Nat):Int),.int .i64 ((S.X.ch.length:Nat):Int)],.int .i64 e] w λx w'=>x=.returned (.int .i64 e)/\∃l col',Vw w' b (S.done e X) pb mb l col'/\Vf w col w' col':=by
 obtain⟨m,n,h⟩:=h;unfold Vs.done;by_cases d:e=0
 . subst d;rw[if_pos rfl];refine(Hd w b X.P S.fl _ pc col h (S.X.P.mark,S.X.ch.length) q).mono ?_;rintro _ w' ⟨rfl,s,t,col',j,f⟩;exact⟨rfl,pc,col',⟨m,n,s,t,j⟩,f⟩
 . rw[if_neg d];refine(Gi w b X.P S.fl _ pc col h S.X.P.mark S.X.ch.length p r e d).mono ?_;rintro _ w' ⟨rfl,l,col',j,f⟩;exact⟨rfl,l,col',⟨m,n,aa,ca,j⟩,f⟩
theorem rC(P:Q.Po)(z:Int):(P.inc z).2.mark<=P.mark+1:=by
 unfold Q.Po.inc;split
 . exact eJ _
 . split
   . exact eJ _
   . simp[Q.Po.act,Q.Po.mark];omega
def za(w w':World)(b:Nat)(S:Vs):Prop:=∃pb mb pc col,Vw w' b S pb mb pc col/\Below w.heap.size w w'/\∀k,col k≠0->w.heap.size<=k
def Vs.start(P:Q.Po):Vs:=⟨⟨P,λ_=>none,[]⟩,[],0⟩
theorem r8{b:World}{P:Q.Po}(h:Q.uE w b pb P):
 za w ((b.alloc (.map #[] 0)).alloc (.cells #[.pointer (some ⟨pb,0,none⟩),.map (some b.heap.size),.slice none 0 0,.slice none 0 0,.int .i64 0] 85)) (b.heap.size+1) (Vs.start P):=by
 obtain⟨pc,q,hb,v⟩:=h;have r:=al b (.map #[] 0);have l:=al (b.alloc (.map #[] 0)) (.cells #[.pointer (some ⟨pb,0,none⟩),.map (some b.heap.size),.slice none 0 0,.slice none 0 0,.int .i64 0] 85);have s:(b.alloc (.map #[] 0)).heap.size=b.heap.size+1:=size_alloc _ _;have y:((b.alloc (.map #[] 0)).alloc (.cells #[.pointer (some ⟨pb,0,none⟩),.map (some b.heap.size),.slice none 0 0,.slice none 0 0,.int .i64 0] 85)).heap.size=b.heap.size+2:=by rw[size_alloc,s]
 have t:=aF (b.alloc (.map #[] 0)) (.cells #[.pointer (some ⟨pb,0,none⟩),.map (some b.heap.size),.slice none 0 0,.slice none 0 0,.int .i64 0] 85);rw[s] at t;have A:=hb.size;refine⟨pb,b.heap.size,pc,λk=>if k=b.heap.size+1 then 1 else if k=b.heap.size then 2 else if pc k≠0 then 5 else 0,⟨none,0,none,0,⟨t,((Mp.made b).keep l).congr (λ_=>rfl),Q.Gw.nil _ _ _,Q.Gw.nil _ _ _,q.keep (bt r l),λk p e=>(by cases e),λx j=>absurd j (bm),if_pos rfl,?_,λx j=>(by cases j),λx j=>(by cases j),λk d=>?_,λk d=>?_⟩⟩,bt hb (bt r l),λk d=>?_⟩
 . show(if b.heap.size=b.heap.size+1 then 1 else if b.heap.size=b.heap.size then 2 else _)=2
   rw[if_neg (by omega),if_pos rfl]
 . have:=q.lt k d;show(if k=b.heap.size+1 then 1 else if k=b.heap.size then 2 else if pc k≠0 then 5 else 0)=5
   rw[if_neg (by omega),if_neg (by omega),if_pos d]
 . rw[y];by_cases m:k=b.heap.size+1
   . omega
   . by_cases n:k=b.heap.size
     . omega
     . by_cases f:pc k≠0
       . have:=q.lt k f;omega
       . exact absurd (show(if k=b.heap.size+1 then 1 else if k=b.heap.size then 2 else if pc k≠0 then 5 else 0)=0 by rw[if_neg m,if_neg n,if_neg f]) d
 . by_cases m:k=b.heap.size+1
   . omega
   . by_cases n:k=b.heap.size
     . omega
     . by_cases f:pc k≠0
       . exact v k f
       . exact absurd (show(if k=b.heap.size+1 then 1 else if k=b.heap.size then 2 else if pc k≠0 then 5 else 0)=0 by rw[if_neg m,if_neg n,if_neg f]) d
theorem Ev(w:World)(n r:Int)(h:Q.js n r=false):Calls prog 19 #[.int .i64 n,.int .i64 r] w λe w'=>e=.returned (.tuple #[.pointer none,.int .i64 1])/\w'=w:=by
 have C:=iJ (Q.Hw w n r h);clear h;go_enter func19,ntmps19;go_wp2_with fail
 refine C.o.mono ?_;rintro _ d ⟨rfl,b⟩;obtain rfl:=b.symm;go_wp2;go_ret2
 exact⟨rfl,rfl⟩
theorem Cj(w:World)(n r:Int)(h:Q.js n r=true):Calls prog 19 #[.int .i64 n,.int .i64 r] w λe w'=>∃b,e=.returned (.tuple #[.pointer (some ⟨b,0,none⟩),.int .i64 0])/\za w w' b (Vs.start (Q.Po.start r (List.replicate n.toNat 0))):=by
 have C:=iJ (Q.E9 w n r h);clear h;go_enter func19,ntmps19;go_wp2_with fail
 refine C.o.mono ?_;rintro _ j ⟨pb,rfl,d⟩;have f:=iJ (r8 d);have l:= @run_makeMap prog;clear d C;go_wp2;go_ret2
 exact⟨_,rfl,f.o⟩
theorem Gk(L:List Iv):∀u∈Jc L,u.oneCell'=true:=by
 intro u b;unfold Jc at b;obtain⟨l,d,b⟩:=gJ.1 b;obtain⟨v,e,rfl⟩:=bH.1 d;exact(Array.all_eq_true_iff_forall_mem.1 (Au v)) u (by simpa using b)
theorem Js.all{a:Option Addr}(h:Js w a L)(l:0<L.length):∃d,a=some d/\∀j u,(Jc L)[j]?=some u->w.cell? (d.add j)=some u:=by
 obtain⟨b,off,rfl,_⟩:=h.at l;refine⟨_,rfl,λj u f=>?_⟩
 have p:j<L.length*4:=by
  rw[<-kC];exact(bz.1 f).1
 obtain⟨n,q,e,m⟩:=h.at (r:=j/4) (by omega)
 cases e;have k:=mH L (j/4) (j%4) (by omega) (by omega)
 rw[show j/4*4+j%4=j by omega,f] at k
 have:=m (j%4) u k.symm;rw[Addr.add_mid,show off+j=off+j/4*4+j%4 by omega]
 exact this
theorem Bz(w:World)(h:TypeId)(d:Addr)(c:Nat)(L:List Iv)(n:∀j u,(Jc L)[j]?=some u->w.cell? (d.add j)=some u)(l:0<L.length)(B:L.length<=2199023255489):
 ∃g b w',(Builtin.append_ #[28,28] h #[.slice none 0 0,.slice (some d) L.length c]).run prog w=.ok (.slice (some ⟨g,0,none⟩) L.length b) w'/\
  Jw w' (some ⟨g,0,none⟩) b L/\w.heap.size<=g/\Below w.heap.size w w':=by
 obtain⟨r,p,s,t,v⟩:=dr mD
 obtain⟨g,b,w',f,e,m,h3,y⟩:=dW (P:=prog) w 28 h 0 51 r (.agg Iv.zero.cs) 4 64 underlying28 p s t v rfl (by decide) (.slice none 0 0) 0 [] (fB w 0 51 4) d L.length c (Jc L) (kC L)
  n (Gk L) l (by unfold maxLen;omega) (by omega) (az _) w.heap.size rfl
 rw[bN] at f e;rw[cY] at e
 have A:g=w.heap.size:=by
  rcases h3 with h3|h3
  . cases h3
  . exact h3
 exact⟨g,b,w',f,e,by omega,(But.inA (a:=none) m).below (λk _ ⟨x,q,_⟩=>by cases q)⟩
theorem x9:∀(L:List Iv)(k:Nat),k<L.length->∀(aK:Option Addr)(cK:Nat)(aV:Option Addr)(cV:Nat),((Jc L).set (k*4) (.slice aK (L.getD k Iv.zero).key.length cK)).set (k*4+1) (.slice aV (L.getD k Iv.zero).val.length cV)=Jc (L.set k {L.getD k Iv.zero with aK:=aK,cK:=cK,aV:=aV,cV:=cV})
 | [],k,h,_,_,_,_=>absurd h (by simp)
 |x::L,0,h,aK,cK,aV,cV=>by simp[Jc,Iv.cs]
 |x::L,k+1,h,aK,cK,aV,cV=>by
  have ih:=x9 L k (by simpa using h) aK cK aV cV
  have e:∀(y:Iv)(M:List Iv),Jc (y::M)=y.cs.toList++Jc M:=λy M=>by simp[Jc]
  have b:x.cs.toList.length=4:=rfl;rw[e,List.getD_cons_succ,g7,e,<-ih,show(k+1)*4=k*4+4 by omega,ed _ _ (by omega),ed _ _ (by omega),b,show k*4+4-4=k*4 by omega,show k*4+4+1-4=k*4+1 by omega]
theorem Jw.set2(h:Jw w (some ⟨g,0,none⟩) cap L)(b:k<L.length)(aK:Option Addr)(cK:Nat)(aV:Option Addr)(cV:Nat):
 Jw ((w.setCell ⟨g,k*4,none⟩ (.slice aK (L.getD k Iv.zero).key.length cK)).setCell ⟨g,k*4+1,none⟩ (.slice aV (L.getD k Iv.zero).val.length cV)) (some ⟨g,0,none⟩) cap (L.set k {L.getD k Iv.zero with aK:=aK,cK:=cK,aV:=aV,cV:=cV}):=by
 rcases h.cases with⟨h0,_⟩|⟨g',cur,ha,hg,h1,h2,h3,h4⟩
 . cases h0
 . cases ha;refine Jw.mk (aY _ _ _ _ _ _ (aY _ _ _ _ _ _ hg)) (by rw[aM];exact h1) h2 (by simpa using h3) ?_
   rw[ew,ew,aM,fY,fY,h4];exact x9 L k b aK cK aV cV
structure Co(w W:World)(g cap i:Nat)(M L:List Iv):Prop where
 j:Jw W (some ⟨g,0,none⟩) cap (M++L.drop i)
 len:M.length=i
 e:M.map Iv.it=(L.take i).map Iv.it
 f:Fam w W (i7 M)
 n:∀r∈M,N64 r.child/\N64 r.size
 b:Below w.heap.size w W
 gn:w.heap.size<=g
theorem Co.keep{b:World}(h:Co w W g cap i M L)(hb:Below W.heap.size W b):Co w b g cap i M L:=⟨h.j.keep hb,h.len,h.e,h.f.keep hb,h.n,bt h.b hb,h.gn⟩
theorem EM(W:World)(g d e:Nat)(a b:Value):But (λk=>k=g) W ((W.setCell ⟨g,d,none⟩ a).setCell ⟨g,e,none⟩ b):=((But.refl (λk=>k=g) W).setCell (p:=⟨g,d,none⟩) (λ_=>rfl) a).setCell (p:=⟨g,e,none⟩) (λ_=>rfl) b
theorem Co.round{w W m b:World}{g cap i:Nat}{M L:List Iv}(h:Co w W g cap i M L)(hi:i<L.length)(G:N64 (L.getD i Iv.zero).child/\N64 (L.getD i Iv.zero).size)(B:B8 (L.getD i Iv.zero).key)(C:B8 (L.getD i Iv.zero).val)
 {aK aV:Option Addr} {cK cV:Nat} (l:Own W m aK cK (L.getD i Iv.zero).key) (f:Own m b aV cV (L.getD i Iv.zero).val):
 Co w ((b.setCell ⟨g,i*4,none⟩ (.slice aK (L.getD i Iv.zero).key.length cK)).setCell ⟨g,i*4+1,none⟩ (.slice aV (L.getD i Iv.zero).val.length cV)) g cap (i+1) (M++[{L.getD i Iv.zero with aK:=aK,cK:=cK,aV:=aV,cV:=cV}]) L:=by
 have j:Below W.heap.size W b:=bt l.b f.b;have s:=EM b g (i*4) (i*4+1) (.slice aK (L.getD i Iv.zero).key.length cK) (.slice aV (L.getD i Iv.zero).val.length cV);have v:=h.j.keep j
 have E:(M++L.drop i).getD i Iv.zero=L.getD i Iv.zero:=by
  rw[aq,bg (by rw[h.len];exact ai _),h.len,df,List.getElem?_drop,bY,<-aq]
 have p:=v.set2 (k:=i) (by rw[ae,h.len,dv];omega) aK cK aV cV
 rw[E] at p
 have I:(M++L.drop i).set i {L.getD i Iv.zero with aK:=aK,cK:=cK,aV:=aV,cV:=cV}=(M++[{L.getD i Iv.zero with aK:=aK,cK:=cK,aV:=aV,cV:=cV}])++L.drop (i+1):=by
  rw[ed _ _ (by rw[h.len];exact ai _),h.len,df,cF hi,eZ,aU]
  rfl
 rw[I] at p
 have io:Io W b {L.getD i Iv.zero with aK:=aK,cK:=cK,aV:=aV,cV:=cV}:=⟨l.keep f.b,⟨f.r,λx d=>(by
  rcases f.n x d with⟨y,n,_⟩|h2
  . cases n
  . exact .inr (aO l.b.size h2)),j⟩,λx y d n e=>(by
  have J:=l.r.lt d;rcases f.n y n with⟨z,hz,_⟩|h2
  . cases hz
  . have h2:m.heap.size<=y.block:=h2;omega),B,C⟩
 have q:Fam w b (i7 M++Iv.rows {L.getD i Iv.zero with aK:=aK,cK:=cK,aV:=aV,cV:=cV}):=h.f.add io.fam j h.b;have A:Below w.heap.size w ((b.setCell ⟨g,i*4,none⟩ (.slice aK (L.getD i Iv.zero).key.length cK)).setCell ⟨g,i*4+1,none⟩ (.slice aV (L.getD i Iv.zero).val.length cV)):=((But.ofBelow (S:=λ_=>False) (bt h.b j)).trans s (λk K e=>by have:=h.gn;omega)).below (λ_ _ h=>h)
 refine⟨p,by rw[ae,h.len];rfl,?_,?_,λr hr=>?_,A,h.gn⟩
 . rw[bP,h.e,Q.jO L Iv.zero hi,bP];rfl
 . rw[jA,mf];exact q.but s A (λt H x d e=>v.ne (q.own t H).1.r rfl d e.symm)
 . rcases bq.1 hr with hr|hr
   . exact h.n r hr
   . rw[aQ.1 hr];exact G
theorem yW(w:World)(aa:Option Addr)(n s:Nat)(p:List Nat)(f:Bs w aa p)(A:n=p.length)(H:p.length<=140737488355328):
 Calls prog 132 #[.slice aa n s] w λx w'=>∃d j,x=.returned (.slice d n j)/\Rw w' d j p/\New w none d/\Below w.heap.size w w':=by
 subst A;cases aa with
 |none=>
  obtain rfl:p=[]:=by
   rcases f.2.2 with h|⟨b,off,h,_⟩
   . exact h
   . cases h
  clear f;have B:=run_eql_slice_nil none;go_enter func132,ntmps132;go_wp2;go_ret;exact⟨none,0,rfl,Rw.nil _,New.none _ _,Below.refl _ _⟩
 |some x=>
  have t:=iJ f;clear f;have B:=run_eql_slice_nil (some x);go_enter func132,ntmps132;go_wp2_with (at_builtin;refine yw rfl _ _ rfl (some ⟨w.heap.size,0,none⟩) 0 0 [] rfl rfl (Rw.mk (cur:=#[]) (aH _ _) (ai _) (az _) rfl rfl) (some x) p.length s p rfl rfl (t.o.keep ((Below.refl _ _).alloc (ai _) _)) (by simpa using H) ?_)
  intro d j E m l q _;have hb:Below w.heap.size w E:=(But.grown (S:=λk=>k=w.heap.size) ((But.refl _ w).alloc _) q (by intro k r _;simpa using r.symm)).below (by intro k r e;omega)
  have G:New w none d:=by
   intro y C;rcases l y C with⟨z,hz,e⟩|h
   . simp only[aE] at hz;subst hz;exact .inr (by show _<=y.block;rw[<-e];exact ai _)
   . rw[size_alloc] at h;exact .inr (by omega)
  have v:=iJ m;clear m l q;go_wp2;go_ret;exact⟨d,j,by simp,v.o,G,hb⟩
theorem mK(w:World)(aa:Option Addr)(e:Nat)(p:List Nat)(n:Bs w aa p)(q:p.length<=140737488355328):
 Calls prog 132 #[.slice aa p.length e] w λx w'=>∃b d,x=.returned (.slice b p.length d)/\Own w w' b d p:=
 (yW w aa p.length e p n rfl q).mono λ_ _ ⟨b,f,h,j,l,m⟩=>⟨b,f,h,j,l,m⟩
def pgC(kind level:Int)(aI:Option Addr)(n cI:Nat)(aD:Option Addr)(m cD:Nat)(next:Int):Array Value:=#[.int .i64 kind,.int .i64 level,.slice aI n cI,.slice aD m cD,.int .i64 next]
theorem Co.item(h:Co w W g cap i M L)(hi:i<L.length):(W.cell? ⟨g,i*4,none⟩=some (.slice (L.getD i Iv.zero).aK (L.getD i Iv.zero).key.length (L.getD i Iv.zero).cK)/\W.cell? ⟨g,i*4+1,none⟩=some (.slice (L.getD i Iv.zero).aV (L.getD i Iv.zero).val.length (L.getD i Iv.zero).cV)/\W.cell? ⟨g,i*4+2,none⟩=some (.int .i64 (L.getD i Iv.zero).child)/\W.cell? ⟨g,i*4+3,none⟩=some (.int .i64 (L.getD i Iv.zero).size))/\(∀o,W.frozen? ⟨g,o,none⟩=false):=by
 have b:(M++L.drop i).getD i Iv.zero=L.getD i Iv.zero:=by
  rw[aq,bg (by rw[h.len];exact ai _),h.len,df,List.getElem?_drop,bY,<-aq]
 have f:i<(M++L.drop i).length:=by rw[ae,h.len,dv];omega
 rcases h.j.cases with⟨h0,_⟩|⟨g',cur,ha,hg2,h1,h2,h3,h4⟩
 . cases h0
 . cases ha
   have k:∀{j:Nat}{u:Value},j<4->(L.getD i Iv.zero).cs.toList[j]?=some u->W.cell? ⟨g,i*4+j,none⟩=some u:=λ{j u} d l=>by
    have:=mH (M++L.drop i) i j f d;rw[b,l] at this;have e:=h.j.cells (i*4+j) u this;rwa [Addr.add_mid,bN] at e
   exact⟨⟨k (j:=0) (by decide) rfl,k (by decide) rfl,k (by decide) rfl,k (by decide) rfl⟩,λo=>by simp[World.frozen?,hg2]⟩
theorem Dh{w w':World}{o:Oper}{a:Act}{K:Act->World->Prop}{Q:Exit->Act->World->Prop}(s x:Operand)
 (e:o.op=.call {callee:=.builtin .append,args:=#[s,x],argTypes:=#[28,28]}) (b d v:Value) (j:a.eval s=b) (l:a.eval x=d) (f:(Builtin.append_ #[28,28] o.type #[b,d]).run prog w=.ok v w')
 (h:K (a.put o.dst v) w'):o.wp prog a w K Q:=by
 unfold Oper.wp execOp;simp only[e,resolve,invoke,builtin,dE,dF,bT,cR,bL,dM,j,l,f];exact h
theorem pZ{w w':World}{e:Array Oper}{f:List Oper}{o:Oper}{a:Act}{Q:Exit->Act->World->Prop}(q:o.guard=none)(s x:Operand)
 (l:o.op=.call {callee:=.builtin .append,args:=#[s,x],argTypes:=#[28,28]}) (b d v:Value) (n:a.eval s=b) (p:a.eval x=d) (m:(Builtin.append_ #[28,28] o.type #[b,d]).run prog w=.ok v w')
 (h:wpList prog e Q f (a.put o.dst v) w'):wpList prog e Q (o::f) a w:=
 e7 q λ_ j=>Dh s x l b d v n p m (j _ _ h)
theorem wU(w:World)(p:Pv)(N:Pi w p)(h0:0<p.items.length)(hd:p.data.length<=140737488355264)(hs:∀x∈p.items,x.key.length<=140737488355264/\x.val.length<=140737488355264):
 Calls prog 107 #[p.vl] w λe w'=>∃q:Pv,e=.returned q.vl/\Pn w w' q/\q.pg=p.pg/\Below w.heap.size w w':=by
 obtain⟨d,f,aI,A,L,m,r,b,next⟩:=p
 unfold Pv.vl;simp only[Pv.cs] at *;have hL:=N.it.2.1;obtain⟨s,hA,ab⟩:=N.it.all h0;simp only at hL hA ab;subst hA;have aB:=al w (.cells (pgC d f (some s) L.length A m b.length r next) 31)
 have aC:=bt aB (al (w.alloc (.cells (pgC d f (some s) L.length A m b.length r next) 31)) (.cells (pgC 0 0 none 0 0 none 0 0 0) 31))
 obtain⟨g,cap,E,aj,hJ,hg,u⟩:=Bz ((w.alloc (.cells (pgC d f (some s) L.length A m b.length r next) 31)).alloc (.cells (pgC 0 0 none 0 0 none 0 0 0) 31)) 28 s A L (λag ao hj=>(aC.cell (p:=s.add ag) (block_lt_of_cell (ab ag ao hj))).trans (ab ag ao hj)) h0 hL
 have SZ:((w.alloc (.cells (pgC d f (some s) L.length A m b.length r next) 31)).alloc (.cells (pgC 0 0 none 0 0 none 0 0 0) 31)).heap.size=w.heap.size+2:=by rw[size_alloc,size_alloc]
 have aA:((w.alloc (.cells (pgC d f (some s) L.length A m b.length r next) 31)).alloc (.cells (pgC 0 0 none 0 0 none 0 0 0) 31)).heap[w.heap.size]?=some (.cells (pgC d f (some s) L.length A m b.length r next) 31 (0,0)):=((al (w.alloc (.cells (pgC d f (some s) L.length A m b.length r next) 31)) (.cells (pgC 0 0 none 0 0 none 0 0 0) 31)).block w.heap.size (by rw[size_alloc];omega)).trans (aF w _)
 have aG:((w.alloc (.cells (pgC d f (some s) L.length A m b.length r next) 31)).alloc (.cells (pgC 0 0 none 0 0 none 0 0 0) 31)).heap[w.heap.size+1]?=some (.cells (pgC 0 0 none 0 0 none 0 0 0) 31 (0,0)):=by
  have k:=aF (w.alloc (.cells (pgC d f (some s) L.length A m b.length r next) 31)) (.cells (pgC 0 0 none 0 0 none 0 0 0) 31)
  rwa [size_alloc] at k
 have ac:=(u.block w.heap.size (by omega)).trans aA
 have aH:=(u.block (w.heap.size+1) (by omega)).trans aG
 rw[SZ] at hg u;have cS:E.cell? ⟨w.heap.size,2,none⟩=some (.slice (some s) L.length A):=by rw[ay _ _ _ _ _ _ ac];rfl
 have fS:E.frozen? ⟨w.heap.size,2,none⟩=false:=by simp[World.frozen?,ac]
 have aE:=aY E w.heap.size 2 _ 31 (.slice (some ⟨g,0,none⟩) L.length cap) ac;have aJ:(E.setCell ⟨w.heap.size,2,none⟩ (.slice (some ⟨g,0,none⟩) L.length cap)).heap[w.heap.size+1]?=_:=(Below.heap_setCell _ _ _ _ (show w.heap.size+1≠w.heap.size by omega)).trans aH
 have bS:But (λk=>k=w.heap.size) E (E.setCell ⟨w.heap.size,2,none⟩ (.slice (some ⟨g,0,none⟩) L.length cap)):=(But.refl (λk=>k=w.heap.size) E).setCell (p:=⟨w.heap.size,2,none⟩) (λ_=>rfl) _
 have ar:Below w.heap.size w E:=bt aC (by rw[SZ];exact u)
 have au:Below w.heap.size w (E.setCell ⟨w.heap.size,2,none⟩ (.slice (some ⟨g,0,none⟩) L.length cap)):=((But.ofBelow (S:=λk=>k=w.heap.size) ar).trans bS (λ_ _ e=>e)).below (λk hk e=>by omega)
 have C3:Hid (Co w (E.setCell ⟨w.heap.size,2,none⟩ (.slice (some ⟨g,0,none⟩) L.length cap)) g cap 0 [] L):=⟨hJ.but bS (λx H e=>by cases H;have e:g=w.heap.size:=e;omega),rfl,rfl,Fam.nil _ _,(λ_ aM=>by cases aM),au,by omega⟩
 have X3:Hid ((E.setCell ⟨w.heap.size,2,none⟩ (.slice (some ⟨g,0,none⟩) L.length cap)).heap[w.heap.size]?=some (.cells (pgC d f (some ⟨g,0,none⟩) L.length cap m b.length r next) 31 (0,0))):=aE
 have Y3:=iJ aJ;have HG:=iJ hg;have IT:=iJ λ(W:World)(hb:Below w.heap.size w W)(i:Nat)(hi:i<L.length)=>(N.it.1 _ (ja hi)).keep hb
 have HS:=iJ λ(i:Nat)(hi:i<L.length)=>hs _ (ja hi)
 have CD:=iJ λ(W:World)(hb:Below w.heap.size w W)=>mK W m r b (N.bd.keep hb) (aO hd (by decide))
 have D8:=iJ N.bd.1;have NK:=iJ (And.intro N.nk (And.intro N.nl N.nn));simp only at hd D8 NK;obtain⟨n,hn⟩:∃n,L.length=n:=⟨_,rfl⟩;have HN:=iJ hn;have a7:n<=2199023255489:=by omega
 rw[hn] at aj cS X3 C3 Y3;unfold pgC at *;have aq:=iJ aj;clear aj;clear N h0 hd hs hL ab aB aC hJ hg u SZ aA aG ac aH aE aJ bS ar au;rw[hn];clear hn;go_enter func107,ntmps107;go_wp2_with (at_builtin;refine pZ rfl _ _ rfl (.slice none 0 0) (.slice (some s) n A) _ rfl rfl aq.o ?_)
 clear aq cS fS;generalize E.setCell ⟨w.heap.size,2,none⟩ (.slice (some ⟨g,0,none⟩) n cap)=w3 at *;go_loopw [12] (λi wr=>∃(k:Nat)(M:List Iv),k<=n/\i=.int .i64 (k:Int)/\Co w wr g cap k M L/\wr.heap[w.heap.size]?=some (.cells #[.int .i64 d,.int .i64 f,.slice (some ⟨g,0,none⟩) n cap,.slice m b.length r,.int .i64 next] 31 (0,0))/\wr.heap[w.heap.size+1]?=some (.cells #[.int .i64 0,.int .i64 0,.slice none 0 0,.slice none 0 0,.int .i64 0] 31 (0,0))) (λi _=>n-(intOf i).toNat)
 case atStart=>exact⟨0,[],az _,rfl,C3.o,X3.o,Y3.o⟩
 case round=>
  obtain⟨i,M,hi,rfl,U,l,K⟩:=hrel;have CO:=iJ U;have XR:=iJ l;have YR:=iJ K;by_cases aR:i<n
  . have Z:i<L.length:=by rw[HN.o];exact aR
    have a6:(i:Int)<(n:Int):=by omega
    obtain⟨⟨k0,k1,k2,k3⟩,fz⟩:=U.item Z;have A0:=iJ (bt (al wr (.cells (L.getD i Iv.zero).cs 51)) (Q.drw _));have C0:=iJ (U.keep A0.o);have T0:=iJ (aF wr (.cells (L.getD i Iv.zero).cs 51));have a8:w.heap.size+1<wr.heap.size:=(af.1 K).1;have a0:g<wr.heap.size:=U.j.lt rfl;have a3:=HG.o;have P:=IT.o _ C0.o.b i Z;have K1:=iJ (mK _ _ (L.getD i Iv.zero).cK _ P.bk (aO (HS.o i Z).1 (by decide)))
    have K2:=iJ λ(W:World)(hb:Below (wr.alloc (.cells (L.getD i Iv.zero).cs 51)).drew.heap.size (wr.alloc (.cells (L.getD i Iv.zero).cs 51)).drew W)=>mK W _ (L.getD i Iv.zero).cV _ (P.bv.keep hb) (aO (HS.o i Z).2 (by decide))
    have IM:=iJ λ(W:World)(hb:Below (wr.alloc (.cells (L.getD i Iv.zero).cs 51)).drew.heap.size (wr.alloc (.cells (L.getD i Iv.zero).cs 51)).drew W)=>(C0.o.keep hb).item Z
    have G1:=iJ λ(W1 W2:World)(J X:Option Addr)(c1 c2:Nat)(o1:Own (wr.alloc (.cells (L.getD i Iv.zero).cs 51)).drew W1 J c1 (L.getD i Iv.zero).key)(y:Own W1 W2 X c2 (L.getD i Iv.zero).val)=>C0.o.round Z ⟨P.nc,P.ns⟩ P.bk.1 P.bv.1 o1 y
    have V:=iJ λ(W:World)(hb:Below (wr.alloc (.cells (L.getD i Iv.zero).cs 51)).drew.heap.size (wr.alloc (.cells (L.getD i Iv.zero).cs 51)).drew W)=>(show(W.heap[w.heap.size]?=_/\W.heap[w.heap.size+1]?=_)/\W.heap[wr.heap.size]?=_ from⟨⟨((bt A0.o hb).block w.heap.size (by omega)).trans l,((bt A0.o hb).block (w.heap.size+1) (by omega)).trans K⟩,(hb.block wr.heap.size (af.1 (show(wr.alloc _).drew.heap[wr.heap.size]?=_ from T0.o)).1).trans T0.o⟩)
    have RF:=iJ (Below.refl (wr.alloc (.cells (L.getD i Iv.zero).cs 51)).drew.heap.size (wr.alloc (.cells (L.getD i Iv.zero).cs 51)).drew);clear U l K P C0 T0 A0 CO XR YR;generalize L.getD i Iv.zero=v at *;obtain⟨aK,cK,I,aV,cV,val,aU,aT⟩:=v;simp only[Iv.cs] at k0 k1 k2 k3 K1 K2 IM G1 V RF;have j:=iJ λ(W:World)(h1:W.heap[w.heap.size]?=some (.cells #[.int .i64 d,.int .i64 f,.slice (some ⟨g,0,none⟩) n cap,.slice m b.length r,.int .i64 next] 31 (0,0)))(h2:W.heap[wr.heap.size]?=some (.cells #[.slice aK I.length cK,.slice aV val.length cV,.int .i64 aU,.int .i64 aT] 51 (0,0)))=>(show W.cell? ⟨w.heap.size,2,none⟩=some (.slice (some ⟨g,0,none⟩) n cap)/\W.cell? ⟨wr.heap.size,0,none⟩=some (.slice aK I.length cK)/\W.cell? ⟨wr.heap.size,1,none⟩=some (.slice aV val.length cV) from⟨(iS h1).2.2.1,by rw[ay _ _ _ _ _ _ h2];rfl,by rw[ay _ _ _ _ _ _ h2];rfl⟩)
    have a5:(0:Int)<=(i:Int):=by omega
    go_wp2_with fail
    refine bC (S:=λW=>W.cell? ⟨w.heap.size,2,none⟩=some (.slice (some ⟨g,0,none⟩) n cap)/\W.cell? ⟨wr.heap.size,0,none⟩=some (.slice aK I.length cK)/\W.cell? ⟨wr.heap.size,1,none⟩=some (.slice aV val.length cV)) (by kernel_rfl) (j.o _ (V.o _ RF.o).1.1 (V.o _ RF.o).2) (λhHeld=>?_)
    refine tkd 0 1 2 3 ?_;refine tkd 4 5 6 7 ?_;refine tkb 9 10 ?_;refine tw 8 λae R=>?_
    go_simp;refine K1.o.mono ?_;rintro _ w5 ⟨J,c1,rfl,o1⟩;have h:=iJ o1;clear o1;go_wp2_with fail
    refine R.o _ _ (j.o _ (V.o _ h.o.b).1.1 (V.o _ h.o.b).2) (λhHeld=>?_)
    refine tw 11 λae R=>?_
    go_simp;refine(K2.o _ h.o.b).mono ?_;rintro _ T ⟨X,c2,rfl,y⟩;have B6:=iJ (bt h.o.b y.b);have CN:=iJ (G1.o _ _ _ _ _ _ h.o y);obtain⟨⟨i0,i1,-,-⟩,ah⟩:=IM.o _ B6.o;have aX:=ah (i*4);have aZ:=ah (i*4+1);obtain⟨⟨am,aL⟩,ak⟩:=V.o _ B6.o;have X7:=iJ ((Below.heap_setCell T ⟨g,i*4,none⟩ (.slice J I.length c1) w.heap.size (show w.heap.size≠g by omega)).trans am)
    have T7:=iJ ((Below.heap_setCell T ⟨g,i*4,none⟩ (.slice J I.length c1) wr.heap.size (show wr.heap.size≠g by omega)).trans ak)
    have Y7:=iJ ((Below.heap_setCell T ⟨g,i*4,none⟩ (.slice J I.length c1) (w.heap.size+1) (show w.heap.size+1≠g by omega)).trans aL)
    have XN:=iJ ((Below.heap_setCell (T.setCell ⟨g,i*4,none⟩ (.slice J I.length c1)) ⟨g,i*4+1,none⟩ (.slice X val.length c2) w.heap.size (show w.heap.size≠g by omega)).trans X7.o)
    have TN:=iJ ((Below.heap_setCell (T.setCell ⟨g,i*4,none⟩ (.slice J I.length c1)) ⟨g,i*4+1,none⟩ (.slice X val.length c2) wr.heap.size (show wr.heap.size≠g by omega)).trans T7.o)
    have YN:=iJ ((Below.heap_setCell (T.setCell ⟨g,i*4,none⟩ (.slice J I.length c1)) ⟨g,i*4+1,none⟩ (.slice X val.length c2) (w.heap.size+1) (show w.heap.size+1≠g by omega)).trans Y7.o)
    have X6:=iJ am;have T6:=iJ ak;clear y ah am aL ak;go_wp2_with fail
    refine R.o _ _ (j.o _ X6.o T6.o) (λhHeld=>?_)
    refine tkb 12 13 ?_;refine tw 14 λae R=>?_
    go_simp;refine R.o _ _ (j.o _ X7.o T7.o) (λhHeld=>?_)
    refine tkb 15 16 ?_;refine tw 17 λae R=>?_
    go_simp;refine R.o _ _ (j.o _ XN.o TN.o) (λhHeld=>?_)
    refine td ?_;clear hHeld;generalize ((T.setCell ⟨g,i*4,none⟩ (.slice J I.length c1)).setCell ⟨g,i*4+1,none⟩ (.slice X val.length c2))=w7 at *;go_wp2;go_roundw
    case rel=>exact⟨i+1,_,by omega,by go_num,CN.o,XN.o,YN.o⟩
    case measure=>simp[intOf];omega
  . obtain rfl:i=n:=by omega
    have hb:=U.b;have aP:=iJ (CD.o wr hb);obtain⟨x0,x1,x2,x3,x4⟩:=iS l;clear U l K hb;go_wp2_with fail
    refine aP.o.mono ?_;rintro _ B ⟨G,c4,rfl,O⟩;have C:=CO.o.keep O.b;have bx:w.heap.size<wr.heap.size:=(af.1 XR.o).1;have av:w.heap.size+1<wr.heap.size:=(af.1 YR.o).1;have aa:=(O.b.block w.heap.size bx).trans XR.o;have an:=(O.b.block (w.heap.size+1) av).trans YR.o;have cS:B.cell? ⟨w.heap.size,3,none⟩=some (.slice m b.length r):=(iS aa).2.2.2.1;have fS:B.frozen? ⟨w.heap.size,3,none⟩=false:=by simp[World.frozen?,aa]
    have x5:=aY B w.heap.size 3 _ 31 (.slice G b.length c4) aa;have Y5:Hid ((B.setCell ⟨w.heap.size,3,none⟩ (.slice G b.length c4)).heap[w.heap.size+1]?=some (.cells #[.int .i64 0,.int .i64 0,.slice none 0 0,.slice none 0 0,.int .i64 0] 31 (0,0))):=(Below.heap_setCell _ _ _ _ (show w.heap.size+1≠w.heap.size by omega)).trans an
    obtain⟨q0,q1,q2,q3,q4⟩:=iS (show(B.setCell ⟨w.heap.size,3,none⟩ (.slice G b.length c4)).heap[w.heap.size]?=some (.cells #[.int .i64 d,.int .i64 f,.slice (some ⟨g,0,none⟩) i cap,.slice G b.length c4,.int .i64 next] 31 (0,0)) from x5)
    have aw:M.length=i:=C.len;have ax:L.drop i=[]:=du (by rw[HN.o];exact ai _)
    have ap:=iJ λ(cs:Array Value)=>(show Pn w ((B.setCell ⟨w.heap.size,3,none⟩ (.slice G b.length c4)).setRow (w.heap.size+1) cs) ⟨d,f,some ⟨g,0,none⟩,cap,M,G,c4,b,next⟩/\Below w.heap.size w ((B.setCell ⟨w.heap.size,3,none⟩ (.slice G b.length c4)).setRow (w.heap.size+1) cs) from by
     have hB:But (λk=>k=w.heap.size\/k=w.heap.size+1) B ((B.setCell ⟨w.heap.size,3,none⟩ (.slice G b.length c4)).setRow (w.heap.size+1) cs):=((But.refl (λk=>k=w.heap.size\/k=w.heap.size+1) B).setCell (p:=⟨w.heap.size,3,none⟩) (λ_=>.inl rfl) _).trans (Q.jg _ _ _) (λk _ e=>.inr e)
     have nt:∀{a:Option Addr}{c:Nat}{aN:List Nat},Rw B a c aN->∀x,a=some x->¬(x.block=w.heap.size\/x.block=w.heap.size+1):=λhr x H e=>by
      rcases e with e|e
      . exact hr.nty (show Bx B 31 w.heap.size _ from aa) (by decide) H e
      . exact hr.nty (show Bx B 31 (w.heap.size+1) _ from an) (by decide) H e
     have j4:=C.j;rw[ax,cU] at j4;have aS:=CO.o.b.size;refine⟨⟨j4.but hB (λx H e=>?_),λx H=>.inr (by cases H;exact C.gn),O.r.but hB (nt O.r),O.n.mono aS,λt Y=>⟨(C.f.own t Y).1.r.but hB (nt (C.f.own t Y).1.r),(C.f.own t Y).1.n,(C.f.own t Y).2⟩,cQ.2 ⟨λt Y x aW H hy e=>?_,C.f.dist⟩,D8.o,C.n,NK.o.1,NK.o.2.1,NK.o.2.2⟩,?_⟩
     . cases H;have:=HG.o;simp only at e;omega
     . have l1:=(CO.o.f.own t Y).1.r.lt hy;rcases O.n x H with⟨z,hz,_⟩|h2
       . cases hz
       . have h2:wr.heap.size<=x.block:=h2;omega
     . exact((But.ofBelow (S:=λk=>k=w.heap.size\/k=w.heap.size+1) C.b).trans hB (λ_ _ e=>e)).below (λk hk e=>by omega))
    have PG:Hid ((⟨d,f,some ⟨g,0,none⟩,cap,M,G,c4,b,next⟩:Pv).pg=(⟨d,f,some s,A,L,m,r,b,next⟩:Pv).pg):=by
     show _=_;unfold Pv.pg;simp only;have e:=C.e;rw[db (by rw[HN.o];exact ai _)] at e
     rw[e]
    have aQ:=iJ aw;clear C aa an x5 aw ax O bx av x0 x1 x2 x3 x4;go_wp2_with (first|(refine cE rfl 31 _ _ rfl (w.heap.size+1) _ rfl rfl 31 _ Y5.o iP rfl (by simp[Value.oneCell']) ?_)|fail)
    refine bZ (v:=.agg _) (fH results107 _ _ (w.heap.size+1) 31 _ (0,0) _ rfl (dc _ _ _ _ _ _ Y5.o) underlying31 rfl iP) rfl ?_;refine⟨⟨d,f,some ⟨g,0,none⟩,cap,M,G,c4,b,next⟩,?_,(ap.o _).1,PG.o,(ap.o _).2⟩
    simp only[aQ.o]
end Go.Proofs.YtbdkogimlbnlmaaGreat
