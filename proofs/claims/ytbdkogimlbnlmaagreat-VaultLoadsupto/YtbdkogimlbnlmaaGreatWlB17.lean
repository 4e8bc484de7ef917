import Derived.Test.YtbdkogimlbnlmaaGreatWlB16
set_option linter.all false
set_option maxHeartbeats 32000000
set_option maxRecDepth 10000
namespace Go.Proofs.YtbdkogimlbnlmaaGreat.Q
open Go.Proofs.Tryz
open Go.RowKit Go.Shelf
attribute [local go_sem] Oper.semAt_some
theorem yt(w:World)(u v:Value)(T:TypeId):(w.alloc (.cells #[u,v] T)).cell? ⟨w.heap.size,0,none⟩=some u/\(w.alloc (.cells #[u,v] T)).cell? ⟨w.heap.size,1,none⟩=some v:=by
 rw[ay _ _ _ _ _ _ (aF w _),ay _ _ _ _ _ _ (aF w _)];exact⟨rfl,rfl⟩
theorem E7(L:List Pg)(i:Nat)(h:i<L.length):pgc (L.set i (las (L.getD i Pg.zero)))=(pgc L).set (i*2+1) (.bool (decide (0<(L.getD i Pg.zero).1))):=by
 rw[sR];congr 1
 refine dX λj=>?_
 by_cases e:i*2=j
 . subst e;rw[eb (by rw[nR];omega),(nQ L i h).1]
   rfl
 . rw[bQ e]
theorem Po.Ok.setl{P:Po}(h:P.Ok)(f:Nat):(P.setl f).Ok:=by
 have d:(P.setl f).pg.length=P.pg.length:=jn _ _;refine⟨by rw[d];exact h.l1,by rw[d];exact h.l2,h.r1,h.r2,λx g=>?_,λa b=>⟨⟨(h.acs a b).1.1,by rw[d];exact(h.acs a b).1.2⟩,(h.acs a b).2⟩⟩
 obtain⟨i,e,rfl⟩:=bH.1 g;have j:=cw.1 e;have:=h.cs _ (kB j);split
 all_goals
  exact this
theorem Bb{P:Program}{o:Oper}{a:Act}{w:World}{K:Act->World->Prop}{Q:Exit->Act->World->Prop}{l:Nat}(b:∀c,o.op≠ .defer c)(h:o.wp P a w K Q):o.wpIn (Fence.wide.inRound l) 0 P a w K Q:=by
 refine⟨λf _=>trivial,?_⟩
 rw[Oper.semAt_plain _ _ _ b];unfold Oper.wp at h;revert h;generalize (execOp a.eval o).run P w=r;intro h;match r,h with
 | .ok (.value v) w',h=>exact h
 | .ok .skip w',h=>exact h
 | .ok (.defer d) w',h=>exact h
 | .ok (.enter f args) w',h=>exact⟨λz=>absurd (show(false:Bool)=true from z) (by decide),CallsIn.inRound l (fj.2 h)⟩
 | .ok (.row row args) w',h=>exact⟨λz=>absurd (show(false:Bool)=true from z) (by decide),λc cs _=>let ⟨v,w',r,s⟩:=h c cs;⟨v,w',r,stepsIn_wide.2 s⟩⟩
 | .halt (.panic v) w',h=>exact h
theorem kZ{P:Program}{g:Region.Mode}{e:Array Oper}{Q:Exit->Act->World->Prop}{l:Nat}(d:∀(i:Nat)(o:Oper),e[i]?=some o->∀c,o.op≠ .defer c)(b:¬LetsOut Q):∀(fuel:Nat)(listed:Array Bool)(a:Act)(w:World),wpAny P g e Q fuel listed a w->wpAnyIn (Fence.wide.inRound l) 0 P g e Q fuel listed a w
 |0,_,_,_,h=>h
 |fuel+1,listed,a,w,h=>⟨h.1,λi hi=>by
   have t:=h.2 i hi;unfold wpOp at t;unfold wpOpIn;cases ho:e[i]? with
   |none=>rw[ho] at t;exact kZ d b fuel _ _ _ t
   |some o=>
    rw[ho] at t;simp only at t ⊢;split
    . rename_i hw;rw[if_pos hw] at t;rcases t with t|⟨_,t⟩
      . exact Oper.wpIn_mono (λa w h=>kZ d b fuel _ a w h) (Bb (d i o ho) t)
      . exact absurd t b
    . rename_i hw;rw[if_neg hw] at t;exact⟨λf _=>trivial,kZ d b fuel _ _ _ t⟩⟩
def xY(ops:Array Oper):Bool:=ops.toList.all λo=>match o.op with
 | .defer _=>false
 |_=>true
theorem mG{b:Array Oper}(h:xY b=true)(i:Nat)(o:Oper)(d:b[i]?=some o)(c:_):o.op≠ .defer c:=λe=>by
 unfold xY at h
 have f:o∈b.toList:=by
  rw[<-fk] at d;exact bB d
 have:=List.all_eq_true.1 h o f;rw[e] at this;cases this
theorem rP(w:World)(b:Nat)(P:Po)(D:Pd)(col:Nat->Nat)(h:Pm w b P col D)(f t:Nat)(C:f<5)(ht:t<5)(aF:f≠t)(B:∀x∈P.pg,stt x=f->stt (las x)=t):
 Calls prog 153 #[.pointer (some ⟨b,0,none⟩),.int .i64 (f:Int),.int .i64 (t:Int)] w λe H=>e=.returned (.tuple #[])/\∃col',Pl H b (P.setl f) col'/\Fr w col H col':=by
 have aw:=al w (.cells #[.pointer (some ⟨b,0,none⟩)] 80);have p0:=jd w (.pointer (some ⟨b,0,none⟩)) 80;have q0:=h.q.keep aw;have ci:=q0.cin C;have AL:=iJ (xM _ (D.s f) (D.a f) (D.c f) (D.L f) (q0.set f C));have q:=iJ h;have HS:=iJ B;have AW:=iJ aw;have aP:=iJ (size_alloc w (.cells #[.pointer (some ⟨b,0,none⟩)] 80));clear h B aw q0;refine(fj (n:=0)).1 ?_;refine fF func153 rfl trivial ?_ rfl;simp only[ntmps153,dm,bf,bj,Nat.reduceAdd,Nat.reduceSub,dG,dH,dY,dO,cY,dw];refine gH.2 ?_;go_wp2_with fail
 refine AL.o.mono ?_;rintro _ r ⟨aq,g,rfl,hE,hg,am,hV,bc,hb⟩;have X:=(hb.cell (p:=⟨w.heap.size,0,none⟩) (block_lt_of_cell p0)).trans p0;have Z:=iJ (bt AW.o hb);have q1:=q.o.q.keep Z.o;have bn:w.heap.size<aq:=by have:=aP.o;omega
 have bs:w.heap.size<g:=by have:=aP.o;omega
 have lg:=q.o.q.lt D.g (by rw[q.o.q.cg];decide)
 have lE:=block_lt_of_cell am;have sq:=vZ r aq (some ⟨g,0,none⟩) (D.L f).length (D.L f) am hV (by have:=q.o.few C;omega) (q.o.rn C)
 have np:=mo (q.o.q.set f C).can (q.o.mem f C);rw[np] at sq;have HC:=iJ am;clear p0 ci AL hE hg hV hb am;go_wp2_with fail
 refine(gH (n:=0)).1 ?_
 refine wp_rangeF (gf:=170) (lb:=#[.pointer (some ⟨aq,0,none⟩)]) rfl (enters_of func170 (by kernel_rfl) rfl) sq (But.refl _ _)
  (λk A=>by
    rcases A with rfl|⟨x,L,rfl⟩
    . exact lE
    . cases L;exact bc) (λ_=>rfl) (λk=>k=D.g)
  (λk A L=>by
    have A:k=D.g:=A;rcases L with rfl|⟨x,L,e⟩
    . omega
    . cases L;have e:g=k:=e;omega)
  (λF pre W=>(∀k,F k↔k=D.g)/\But (λk=>k=D.g) r W/\W.heap[D.g]?=some (.cells (pgc (sel P.pg (λz=>pre.contains z))).toArray 133 (0,0)))
  (λ_ _ _ _=>False)
  (λF s X1 X2 B hb=>⟨B.1,B.2.1.trans hb (λk A h=>by have:=h.2;omega),hb.same B.2.2 (λh=>h.1 ((B.1 _).2 rfl))⟩)
  (λF s X1 B k A=>by rw[(B.1 k).1 A];exact(af.1 B.2.2).1)
  (λc F s X1 X2 B hb=>B) (λc F s X1 B=>B.elim)
  ⟨λk=>gF,But.refl _ _,by
    rw[show sel P.pg (λz=>([]:List Int).contains z)=P.pg from(pO (λi _=>by simp)).trans (B9 P.pg)]
    exact q1.pgs⟩ ?round ?done (λD' c F pre bk W _ _ _ L=>L.elim)
 case round=>
  rintro ar F pre x bk W aJ ⟨hF,I,V⟩ bx aB bp bv bw aA;have bd:=kd.1 ((jF P.pg f x).1 (by rw[aJ];simp))
  obtain⟨i,rfl⟩:∃i:Nat,x=(i:Int)+1:=⟨(x-1).toNat,by omega⟩
  have hi:i<P.pg.length:=by omega
  have aL:pre.contains ((i:Int)+1)=false:=by
   have hr:=pK P.pg f;rw[aJ] at hr;have:=(de.1 hr).2.2;by_cases hc:pre.contains ((i:Int)+1)=true
   . have hm:((i:Int)+1)∈pre:=by simpa using hc
     have:=this _ hm _ (da ..);omega
   . simpa using hc
  have bD:=q.o.ok.l2;unfold enI;gi_wp2
  refine⟨Below.refl _ _,λm U=>?_⟩
  have sB:=I.size;have ai:But (λk=>k=D.g\/k=ar) r m:=(I.mono (λk _ A=>.inl A)).trans U (λk _ A=>.inr A)
  have p3:=(ai.cell (p:=⟨w.heap.size,0,none⟩) (block_lt_of_cell X) (λe=>by have e:w.heap.size=D.g\/w.heap.size=ar:=e;have:=block_lt_of_cell X;have:w.heap.size<r.heap.size:=this;omega)).trans X
  have lb:=q.o.q.lb
  have c3:=(ai.cell (p:=⟨b,1,none⟩) (block_lt_of_cell q1.c1) (λe=>by
   have e:b=D.g\/b=ar:=e;rcases e with e|e
   . have:=q.o.q.cg;rw[<-e,q.o.q.cb] at this;cases this
   . have:=Z.o.size;omega)).trans q1.c1
  have aa:=U.same V (λe=>by have:=Z.o.size;omega)
  have aG:i<(sel P.pg (λz=>pre.contains z)).length:=by rw[jn];exact hi
  have gx:(sel P.pg (λz=>pre.contains z)).getD i Pg.zero=P.pg.getD i Pg.zero:=by
   rw[kJ P.pg _ hi,aL];rfl
  obtain⟨e1,l⟩:=nQ _ i aG;rw[gx] at e1 l;have d1:m.cell? ⟨D.g,i*2,none⟩=some (.int .i64 (P.pg.getD i Pg.zero).1):=by rw[ay _ _ _ _ _ _ aa,fo];exact e1
  have d2:m.cell? ⟨D.g,i*2+1,none⟩=some (.bool (P.pg.getD i Pg.zero).2):=by rw[ay _ _ _ _ _ _ aa,fo];exact l
  have f2:m.frozen? ⟨D.g,i*2+1,none⟩=false:=by simp[World.frozen?,aa]
  have ak:m.drew.cell? ⟨D.g,i*2,none⟩=_:=d1;have aQ:m.drew.cell? ⟨D.g,i*2+1,none⟩=_:=d2;have bl:m.drew.frozen? ⟨D.g,i*2+1,none⟩=false:=f2;have aK:m.drew.cell? ⟨w.heap.size,0,none⟩=_:=p3;have az:m.drew.cell? ⟨b,1,none⟩=_:=c3;have s1:IntKind.i64.wrap (i:Int)=(i:Int):=iT (by omega) (by omega)
  have s2:wrap64 (i:Int)=(i:Int):=by unfold wrap64;omega
  have bu:(i:Int)<(P.pg.length:Int):=Int.ofNat_lt.2 hi;have SS:=iJ (show(sel P.pg (λz=>pre.contains z)).set i (las (P.pg.getD i Pg.zero))=sel P.pg (λz=>(pre++[(i:Int)+1]).contains z) from(Fp hi aL).trans (pO λab _=>by simp))
  have E:=iJ (E7 (sel P.pg (λz=>pre.contains z)) i aG)
  rw[gx] at E;have au:=iJ aa;have a4:=iJ U;have aN:=iJ I;have HF:=iJ hF;have aO:=iJ ai;clear V aa aG gx e1 l sq np aJ U I hF ai aB aA bd aL;obtain⟨xp,aZ⟩:∃xp,P.pg.getD i Pg.zero=xp:=⟨_,rfl⟩;rw[aZ] at d1 d2 ak aQ SS E;obtain⟨G,x1⟩:=xp;simp only at d1 d2 ak aQ E;clear aZ;gi_wp2
  refine iI (by kernel_rfl) (kZ (mG (by kernel_rfl)) (λ⟨_,_,h⟩=>h) _ _ _ _ (wpAny_of_held (S:=λH=>H.cell? ⟨w.heap.size,0,none⟩=some (.pointer (some ⟨b,0,none⟩))/\H.cell? ⟨b,1,none⟩=some (.slice (some ⟨D.g,0,none⟩) P.pg.length P.pg.length)/\H.cell? ⟨D.g,i*2,none⟩=some (.int .i64 G)) _ _ _ _ ?_))
  have hHeld:m.drew.cell? ⟨w.heap.size,0,none⟩=some (.pointer (some ⟨b,0,none⟩))/\m.drew.cell? ⟨b,1,none⟩=some (.slice (some ⟨D.g,0,none⟩) P.pg.length P.pg.length)/\m.drew.cell? ⟨D.g,i*2,none⟩=some (.int .i64 G):=⟨aK,az,ak⟩;change wpAnyH _ _ _ _ _ _ _ _ m.drew;refine tkd 0 1 2 3 ?_;refine tkd 4 5 6 7 ?_;refine tkd 8 9 10 11 ?_;refine tkd 12 13 14 15 ?_;refine tkb 16 17 ?_;refine tw 18 λK d=>?_
  have SW:=iJ (show(m.drew.setCell ⟨D.g,i*2+1,none⟩ (.bool (decide (0<G)))).cell? ⟨w.heap.size,0,none⟩=some (.pointer (some ⟨b,0,none⟩))/\(m.drew.setCell ⟨D.g,i*2+1,none⟩ (.bool (decide (0<G)))).cell? ⟨b,1,none⟩=some (.slice (some ⟨D.g,0,none⟩) P.pg.length P.pg.length)/\(m.drew.setCell ⟨D.g,i*2+1,none⟩ (.bool (decide (0<G)))).cell? ⟨D.g,i*2,none⟩=some (.int .i64 G) from by
   have j:But (λk=>k=D.g) m.drew (m.drew.setCell ⟨D.g,i*2+1,none⟩ (.bool (decide (0<G)))):=(But.refl (λk=>k=D.g) _).setCell (p:=⟨D.g,i*2+1,none⟩) (λ_=>rfl) _
   refine⟨(j.cell (p:=⟨w.heap.size,0,none⟩) (block_lt_of_cell aK) (λe=>by have e:w.heap.size=D.g:=e;omega)).trans aK,(j.cell (p:=⟨b,1,none⟩) (block_lt_of_cell az) (λe=>by have e:b=D.g:=e;have:=q.o.q.cg;rw[<-e,q.o.q.cb] at this;cases this)).trans az,?_⟩
   have ap:m.drew.heap[D.g]?=_:=au.o;have h5:=aY _ _ (i*2+1) _ _ (.bool (decide (0<G))) ap;rw[ay _ _ _ _ _ _ h5];have d5:=ak;rw[ay _ _ _ _ _ _ ap] at d5;rw[<-d5];simp)
  have a0:=iJ (show ∃F':Nat->Prop,But F m (m.drew.setCell ⟨D.g,i*2+1,none⟩ (.bool (decide (0<G))))/\(∀k,F' k->F k\/m.heap.size<=k)/\((∀k,F' k↔k=D.g)/\But (λk=>k=D.g) r (m.drew.setCell ⟨D.g,i*2+1,none⟩ (.bool (decide (0<G))))/\(m.drew.setCell ⟨D.g,i*2+1,none⟩ (.bool (decide (0<G)))).heap[D.g]?=some (.cells (pgc (sel P.pg (λz=>(pre++[(i:Int)+1]).contains z))).toArray 133 (0,0))) from by
   have j:But (λk=>k=D.g) m (m.drew.setCell ⟨D.g,i*2+1,none⟩ (.bool (decide (0<G)))):=((But.refl (λk=>k=D.g) m).drew).setCell (p:=⟨D.g,i*2+1,none⟩) (λ_=>rfl) _
   refine⟨F,j.mono (λk _ A=>(HF.o k).2 A),λk A=>.inl A,HF.o,(aO.o.mono ?_).trans j (λ_ _ h=>h),?_⟩
   . intro k A h;rcases h with h|h
     . exact h
     . omega
   . have ap:m.drew.heap[D.g]?=_:=au.o;rw[aY _ _ _ _ _ _ ap];have e:=E.o;rw[SS.o] at e;rw[e];simp)
  clear SS E au a4 aN HF aO;go_simp;refine d.o _ _ SW.o (λhHeld=>?_)
  clear d K;exact wpAnyH_done (by kernel_rfl) a0.o _
 case done=>
  rintro N F y bm bo ⟨hF,I,V⟩ aA aB d
  have eS:sel P.pg (λz=>(iZ P.pg f).contains z)=sel P.pg (inS P.pg f):=pO λab _=>by
   by_cases e:inS P.pg f ((ab:Int)+1)=true
   . rw[e];simpa using(jF P.pg f _).2 e
   . have l:inS P.pg f ((ab:Int)+1)=false:=by simpa using e
     rw[l];have:¬((ab:Int)+1)∈iZ P.pg f:=λh=>e ((jF P.pg f _).1 h)
     simpa using this
  rw[eS] at V;have qx:Pq y b (P.setl f) D col:=q1.repage _ (jn _ _) V I;have bA:=Z.o.size;have bB:=I.size;have px:y.cell? ⟨w.heap.size,0,none⟩=some (.pointer (some ⟨b,0,none⟩)):=(I.cell (p:=⟨w.heap.size,0,none⟩) (block_lt_of_cell X) (λe=>by have e:w.heap.size=D.g:=e;omega)).trans X
  have FX:=iJ (show Fr w col y col from⟨(But.ofBelow Z.o).trans I (λk A e=>by rw[e,q.o.q.cg];decide),λ_ _=>rfl⟩)
  have DZ:=iJ (show col N=0 from by
   by_cases e:col N=0
   . exact e
   . have:=q.o.q.lt N e;omega)
  have R:=iJ qx;have be:=(af.1 d).1;have HK:=iJ d;have LT:=iJ (q.o.few ht);have LF:=iJ (q.o.few C);have RT:=iJ λ(W:World)(hb:Below y.heap.size y W)=>ry W (D.s t) (D.a t) (D.c t) (D.L t) ((R.o.keep hb).set t ht)
  have RF:=iJ λ(W:World)(hb:Below y.heap.size y W)=>ry W (D.s f) (D.a f) (D.c f) (D.L f) ((R.o.keep hb).set f C)
  have CT:=iJ λ(W:World)(hb:Below y.heap.size y W)=>(R.o.keep hb).cin ht
  have M:=iJ λ(W:World)(hb:Below y.heap.size y W)=>(R.o.keep hb).cin C
  have J:=iJ (show ∀(W:World),Below y.heap.size y W->W.cell? ⟨w.heap.size,0,none⟩=some (.pointer (some ⟨b,0,none⟩)) from λW hb=>(hb.cell (p:=⟨w.heap.size,0,none⟩) (block_lt_of_cell px)).trans px)
  have FB:=iJ λ(W:World)(hb:Below y.heap.size y W)=>(R.o.keep hb).free (2+t)
  have BT:=iJ (q.o.q.set t ht).bnd;have BF:=iJ (q.o.q.set f C).bnd;clear hF I V aA aB d eS qx sq np HC q1 X;have an:=J.o _ (drw _);have aW:=CT.o _ (drw _);have ao:=M.o _ (drw _);have bg:y.cell? ⟨w.heap.size,0,none⟩=_:=an;have bh:y.cell? ⟨b,2+t,none⟩=_:=aW;have bi:y.cell? ⟨b,2+f,none⟩=_:=ao;have v:=iJ (drw y);obtain⟨nT,aI⟩:∃n,(D.L t).length=n:=⟨_,rfl⟩;obtain⟨nF,aH⟩:∃n,(D.L f).length=n:=⟨_,rfl⟩;have NT:=iJ aI;have NF:=iJ aH;rw[aI] at RT LT;rw[aH] at RF LF;clear aI aH
  have av:=iJ λ(W:World)(aC:Option Addr)(cC:Nat)(hV:Vw W aC cC (D.L t++D.L f))=>zQ W aC cC (D.L t++D.L f) hV.vs (by rw[ae,NT.o,NF.o];have:=LT.o;have:=LF.o;omega) (λe=>by
   rcases hV.cases with⟨_,h2,U⟩|⟨g,Y,h1,_⟩
   . exact⟨h2,U⟩
   . rw[e] at h1;cases h1) (λaM hr=>by
   rcases bq.1 hr with h|h
   . exact BT.o aM h
   . exact BF.o aM h)
  have ad:=iJ λ(W:World)(g:Nat)(a1 a2:Option Addr)(c1 c2:Nat)(h1:W.cell? ⟨g,0,none⟩=some (.slice a1 (D.L t).length c1))(h2:W.cell? ⟨g,1,none⟩=some (.slice a2 (D.L f).length c2))(T:Vs W a1 (D.L t))(V2:Vs W a2 (D.L f))=>zj W g a1 a2 c1 c2 (D.L t) (D.L f) h1 h2 T V2 (by rw[NT.o];exact LT.o) (by rw[NF.o];exact LF.o)
  obtain⟨nC,aV⟩:∃n,(D.L t++D.L f).length=n:=⟨_,rfl⟩;rw[aV] at ad av;rw[NT.o,NF.o] at ad;have a3:=iJ (show ∀z,has (D.L t++D.L f) z=(has (D.L t) z||has (D.L f) z) from jk _ _)
  clear aV;generalize D.L t++D.L f=LL at *;have bz:(t:Int)<5:=by omega
  have br:(f:Int)<5:=by omega
  go_wp2_with fail
  refine wp_region_noPanic (bC (S:=λH=>H.cell? ⟨w.heap.size,0,none⟩=some (.pointer (some ⟨b,0,none⟩))/\H.cell? ⟨b,2+f,none⟩=some (.pointer (some ⟨D.s f,0,none⟩))) (by kernel_rfl) ⟨an,ao⟩ (λhHeld=>?_))
  refine tkd 0 1 2 3 ?_;refine tkd 4 5 6 9 ?_;refine tkd 10 11 12 13 ?_;refine tkb 14 19 ?_;refine tk 20 ?_;refine tw 7 λK d=>?_
  go_simp;refine d.o _ _ (⟨an,ao⟩) (λhHeld=>?_)
  clear d K;try simp only[pt]
  refine tw 8 λK d=>?_
  go_simp;refine(RT.o _ v.o).mono ?_;rintro _ w2 ⟨rfl,hv,hb⟩;have T:=iJ hv;have v:=iJ (bt v.o hb);clear hv hb;go_wp2_with fail
  refine d.o _ _ (⟨J.o _ v.o,M.o _ v.o⟩) (λhHeld=>?_)
  clear d K;try simp only[pt]
  refine tw 15 λK d=>?_
  go_simp;refine(RF.o _ v.o).mono ?_;rintro _ w3 ⟨rfl,hv,hb⟩;have V2:=iJ hv;have T:=iJ (T.o.keep hb);have v:=iJ (bt v.o hb);clear hv hb;go_wp2_with fail
  refine d.o _ _ (⟨J.o _ v.o,M.o _ v.o⟩) (λhHeld=>?_)
  clear d K;try simp only[pt]
  refine tw 16 λK d=>?_
  go_simp;have ac:=iJ (al w3 (.cells #[.slice (some ⟨y.drew.heap.size,0,none⟩) nT nT,.slice (some ⟨w2.heap.size,0,none⟩) nF nF] 169));have ax:=iJ (yt w3 (.slice (some ⟨y.drew.heap.size,0,none⟩) nT nT) (.slice (some ⟨w2.heap.size,0,none⟩) nF nF) 169);have aN:=v;have v:=iJ (bt v.o ac.o);refine d.o _ _ (⟨J.o _ v.o,M.o _ v.o⟩) (λhHeld=>?_)
  clear d K;try simp only[pt]
  refine tw 17 λK d=>?_
  go_simp;refine(ad.o _ _ (some ⟨y.drew.heap.size,0,none⟩) (some ⟨w2.heap.size,0,none⟩) nT nF ax.o.1 ax.o.2 (T.o.keep ac.o).vs (V2.o.keep ac.o).vs).mono ?_;rintro _ w5 ⟨aC,cC,rfl,aT,bb,aU⟩;have VC:=iJ aT;have v:=iJ (bt v.o aU);clear aT bb aU ax ac;go_wp2_with fail
  refine d.o _ _ (⟨J.o _ v.o,M.o _ v.o⟩) (λhHeld=>?_)
  clear d K;try simp only[pt]
  refine tw 18 λK d=>?_
  go_simp;refine(av.o _ aC cC VC.o).mono ?_;rintro _ w6 ⟨b6,a6,c6,R6,rfl,aD,aR,-⟩;have N6:=iJ (R.o.newSet ht v.o aD);have O:=iJ (bt v.o aD.w);have H6:=iJ aR;have a5:=CT.o _ O.o;have a9:=FB.o _ O.o;clear aD aR;go_wp2_with fail
  refine d.o _ _ (⟨J.o _ O.o,M.o _ O.o⟩) (λhHeld=>?_)
  clear d K;try simp only[pt]
  refine tk 21 ?_;refine tw 22 λK d=>?_
  go_simp;refine d.o _ _ (⟨(((But.refl (λk=>k=b) w6).setCell (p:=⟨b,2+t,none⟩) (λ_=>rfl) _).cell (p:=⟨w.heap.size,0,none⟩) (block_lt_of_cell (J.o _ O.o)) (λe=>by have e:w.heap.size=b:=e;have:=q.o.q.lb;omega)).trans (J.o _ O.o),by have c:(w6.setCell ⟨b,2+t,none⟩ (.pointer (some ⟨b6,0,none⟩))).cell? ⟨b,2+f,none⟩=some (.pointer (some ⟨upd D.s t b6 f,0,none⟩)):=N6.o.1.cin C;rw[jt _ _ aF] at c;exact c⟩) (λhHeld=>?_)
  clear d K;try simp only[pt]
  refine wpAnyH_done (by kernel_rfl) (NoPanic.normal ?_) _
  obtain⟨q7,f7⟩:=N6.o;have p7:=hHeld.1;have Q7:=iJ q7;have F7:=iJ f7;generalize w6.setCell ⟨b,2+t,none⟩ (.pointer (some ⟨b6,0,none⟩))=W7 at *;have aX:W7.drew.cell? ⟨w.heap.size,0,none⟩=some (.pointer (some ⟨b,0,none⟩)):=p7;clear hHeld q7 f7 N6 an aW ao bg bh bi RT RF CT M J FB v VC T V2 a5 a9;go_wp2_with fail
  refine wp_region_noPanic (bC (S:=λH=>H.cell? ⟨w.heap.size,0,none⟩=some (.pointer (some ⟨b,0,none⟩))) (by kernel_rfl) aX (λhHeld=>?_))
  refine tkd 0 1 3 4 ?_;refine tw 2 λK d=>?_
  go_simp;refine(uM _).mono ?_;rintro _ w8 ⟨b8,a8,c8,R8,rfl,aE,aS,-⟩;have N8:=iJ (Q7.o.newSet C (drw W7) aE);have ah:=iJ (bt (drw W7) aE.w);have H8:=iJ aS;have a7:=(Q7.o.keep ah.o).cin C;have ba:=(Q7.o.keep ah.o).free (2+f);have aj:w8.cell? ⟨w.heap.size,0,none⟩=some (.pointer (some ⟨b,0,none⟩)):=(ah.o.cell (p:=⟨w.heap.size,0,none⟩) (block_lt_of_cell p7)).trans p7;clear aE aS;go_wp2_with fail
  refine d.o _ _ (aj) (λhHeld=>?_)
  clear d K;try simp only[pt]
  refine tk 5 ?_;refine tw 6 λK d=>?_
  go_simp;refine d.o _ _ ((((But.refl (λk=>k=b) w8).setCell (p:=⟨b,2+f,none⟩) (λ_=>rfl) _).cell (p:=⟨w.heap.size,0,none⟩) (block_lt_of_cell aj) (λe=>by have e:w.heap.size=b:=e;have:=q.o.q.lb;omega)).trans aj) (λhHeld=>?_)
  clear d K;try simp only[pt]
  refine wpAnyH_done (by kernel_rfl) (NoPanic.normal ?_) _
  obtain⟨q9,f9⟩:=N8.o;generalize w8.setCell ⟨b,2+f,none⟩ (.pointer (some ⟨b8,0,none⟩))=W9 at *;have ag:=iJ (F7.o.trans f9);have Q9:=iJ q9;clear q9 f9 N8 hHeld a7 ba aj Q7 F7 p7 aX av ad ah O;go_wp2;refine⟨by simp,.inl ⟨_,_,rfl,eO (ag.o.b.same HK.o (λh=>h DZ.o)),?_⟩⟩
  have cD:∀(o:Obj),But (λk=>k=N) W9 (W9.putObj N o):=λo=>(But.refl (λk=>k=N) W9).putObj (λ_=>rfl) o
  have zD:=(ag.o.c N be).trans DZ.o;refine⟨_,eQ rfl _ _ _,rfl,_,⟨_,Q9.o.but (cD _) (λk A e=>A (by rw[e];exact zD)),q.o.ok.setl f,λs B z=>?_⟩,⟨((FX.o.trans ag.o).b).trans (cD _) (λx L e=>by omega),(FX.o.trans ag.o).c⟩⟩
  show has (upd (upd D.L t R6) f R8 s) z=inS (sel P.pg (inS P.pg f)) s z;rw[D9 aF HS.o];by_cases sf:s=f
  . subst sf;rw[ji,H8.o,if_neg aF,if_pos rfl]
  . rw[jt _ _ sf];by_cases st:s=t
    . subst st;rw[ji,if_pos rfl,H6.o,a3.o,q.o.mem s B,q.o.mem f C]
    . rw[jt _ _ st,if_neg st,if_neg sf];exact q.o.mem s B z
end Go.Proofs.YtbdkogimlbnlmaaGreat.Q
namespace Go.Proofs.YtbdkogimlbnlmaaGreat.Q
open Go.Proofs.Tryz
open Go.RowKit
variable {x:Pg}
theorem Dg(b:0<=x.1)(h:stt x=3):stt (las x)=4:=by
 obtain⟨c,l⟩:=x;unfold stt at h;unfold las stt;simp only at h b ⊢;by_cases e:c=0
 . rw[if_pos e] at h;split at h<;>omega
 . rw[if_neg e,ax (show 0<c by omega)];rfl
theorem Dt(h:stt x=2):stt (las x)=1:=by
 obtain⟨c,l⟩:=x;unfold stt at h;unfold las stt;simp only at h ⊢;by_cases e:c=0
 . subst e;rfl
 . rw[if_neg e] at h;split at h<;>omega
theorem zB{P:Po}(h:P.Ok):((P.setl 3).setl 2).pg=P.pg.map λx=>(x.1,decide (0<x.1)):=by
 have j:((P.setl 3).setl 2).pg.length=P.pg.length:=(jn _ _).trans (jn _ _);refine oB (by rw[j,aZ]) λi b=>?_
 rw[j] at b;have g:i<(P.setl 3).pg.length:=by show i<(sel _ _).length;rw[jn];exact b
 have k:(P.setl 3).pg.getD i Pg.zero=if inS P.pg 3 ((i:Int)+1) then las (P.pg.getD i Pg.zero) else P.pg.getD i Pg.zero:=kJ _ _ b
 have m:((P.setl 3).setl 2).pg.getD i Pg.zero=if inS (P.setl 3).pg 2 ((i:Int)+1) then las ((P.setl 3).pg.getD i Pg.zero) else (P.setl 3).pg.getD i Pg.zero:=kJ _ _ g
 have n:(P.pg.map λx=>(x.1,decide (0<x.1))).getD i Pg.zero=las (P.pg.getD i Pg.zero):=by simp[b,las]
 rw[m,n,ms g,k,ms b];have f:=(h.cs _ (kB b)).1;generalize P.pg.getD i Pg.zero=y at *;obtain⟨c,l⟩:=y;have f:0<=c:=f;unfold las stt;by_cases e:c=0
 . subst e;cases l<;>rfl
 . have d:decide (0<c)=true:=ax (by omega)
   cases l<;>simp[e,d]
theorem zd(w:World)(b:Nat)(P:Po)(col:Nat->Nat)(h:Pl w b P col)(U:P.mark<=9223372036854775807):
 Calls prog 119 #[.pointer (some ⟨b,0,none⟩)] w λe R=>e=.returned (.tuple #[])/\∃col',Pl R b P.settle col'/\Fr w col R col':=by
 have ok:=h.ok;obtain⟨D,h⟩:=h;have J:=iJ (rP w b P D col h 3 4 (by decide) (by decide) (by decide) (λx l=>Dg (ok.cs x l).1))
 have K:=iJ λ(W:World)(A:Pd)(L:Nat->Nat)(T:Pm W b (P.setl 3) L A)=>rP W b (P.setl 3) A L T 2 1 (by decide) (by decide) (by decide) (λx l=>Dt)
 have S:=iJ U;have I:=iJ ok;clear h ok;go_enter func119,ntmps119;go_wp2_with fail
 refine J.o.mono ?_;rintro _ w1 ⟨rfl,c1,⟨D1,j⟩,M⟩;have C:=iJ M;have H:=iJ j;clear j M J;go_wp2_with fail
 refine(K.o _ _ _ H.o).mono ?_;rintro _ Z ⟨rfl,c2,⟨g,r⟩,N⟩;have E:=iJ (C.o.trans N);have n:=iJ (qT Z b ((P.setl 3).setl 2) g c2 r.q S.o);have m:=iJ r;clear r N K H C;rw[show((P.setl 3).setl 2).mark=P.mark from rfl] at n
 go_wp2_with fail
 refine n.o.mono ?_;rintro _ w3 ⟨rfl,hb⟩;have d:=m.o.q.keep hb;have G:=iJ (E.o.below hb);have c7:=d.c7;have c8:=d.c8;have f7:=d.free 7;have f8:=d.free 8
 have ad:(w3.setCell ⟨b,8,none⟩ (.int .i64 ((P.mark:Nat):Int))).cell? ⟨b,7,none⟩=some (.slice g.aa ((P.setl 3).setl 2).ac.length g.ac):=by
  rw[ay _ _ _ _ _ _ (aY w3 b 8 _ _ (.int .i64 ((P.mark:Nat):Int)) d.box)];rfl
 have ae:(w3.setCell ⟨b,8,none⟩ (.int .i64 ((P.mark:Nat):Int))).frozen? ⟨b,7,none⟩=false:=by simp[World.frozen?,aY w3 b 8 _ _ (.int .i64 ((P.mark:Nat):Int)) d.box]
 have t:=iJ (show ∃col',Pl ((w3.setCell ⟨b,8,none⟩ (.int .i64 ((P.mark:Nat):Int))).setCell ⟨b,7,none⟩ (.slice none 0 0)) b P.settle col'/\Fr w col ((w3.setCell ⟨b,8,none⟩ (.int .i64 ((P.mark:Nat):Int))).setCell ⟨b,7,none⟩ (.slice none 0 0)) col' from by
  have i:But (λk=>k=b) w3 ((w3.setCell ⟨b,8,none⟩ (.int .i64 ((P.mark:Nat):Int))).setCell ⟨b,7,none⟩ (.slice none 0 0)):=((But.refl (λk=>k=b) w3).setCell (p:=⟨b,8,none⟩) (λ_=>rfl) _).setCell (p:=⟨b,7,none⟩) (λ_=>rfl) _
  have ne:∀{k:Nat},c2 k≠1->¬(k=b):=λj e=>j (by rw[e];exact d.cb)
  have O:P.settle=⟨P.rf,((P.setl 3).setl 2).pg,[],P.mark⟩:=by unfold Po.settle;rw[zB I.o]
  refine⟨c2,⟨{g with aa:=none,ac:=0,B:=[]},?_,I.o.settle,?_⟩,G.o.trans ⟨i.mono λk _ v=>by rw[v,d.cb];decide,λ_ _=>rfl⟩⟩
  . rw[O];refine⟨?_,i.same d.pgs (ne (by rw[d.cg];decide)),λs f=>(d.set s f).but i (ne (by rw[d.cs s f];omega)) (λy Y=>ne (by rw[d.ca s f y Y];omega)),Gw.nil _ _ _,rfl,λq V=>(by cases V),d.cb,d.cg,d.cs,d.ca,λx l=>(by cases l),λab X=>(by cases X),λk v=>be (d.lt k v) i.size⟩
    rw[aY _ _ _ _ _ _ (aY w3 b 8 _ _ (.int .i64 ((P.mark:Nat):Int)) d.box)];rfl
  . intro s f z;rw[O];exact m.o.mem s f z)
 clear d G E m n;go_wp2;go_end0
 exact⟨rfl,t.o⟩
end Go.Proofs.YtbdkogimlbnlmaaGreat.Q
namespace Go.Proofs.YtbdkogimlbnlmaaGreat
open Go.Proofs.Tryz
open Go.RowKit Go.Shelf
attribute [local go_sem] Oper.semAt_some
variable {fl hb:Nat}{col pc:Nat->Nat}{P:Q.Po}{D:Vd}{W1:World}
def kz(f:Int->Option Pv)(L:List Int):Int->Option Pv:=λz=>if z∈L then none else f z
theorem Di(f:Int->Option Pv):kz f []=f:=by funext z;simp[kz]
theorem AA(f:Int->Option Pv)(L:List Int)(x:Int):(λk=>(kz f (L++[x]) k).map Pv.vl)=oO (λk=>(kz f L k).map Pv.vl) x:=by
 funext k
 unfold kz oO;by_cases e:k=x
 . subst e;simp
 . simp[e]
def Vs.settle(S:Vs):Vs:=⟨⟨S.X.P.settle,kz S.X.f (S.X.P.pages 2),[]⟩,[],S.fl+S.al.length⟩
structure Sx(hb:Nat)(W1:World)(b:Nat)(P:Q.Po)(fl:Nat)(D:Vd)(pc col:Nat->Nat)(F:Nat->Prop)(pre:List Int)(W:World):Prop where
 i:∀k,F k↔k=D.mb
 v:Vq W b P fl {D with f:=kz D.f pre} pc col
 x:W.cell? ⟨hb,0,none⟩=some (.pointer (some ⟨b,0,none⟩))
 b:But (λk=>k=D.mb) W1 W
theorem Sx.abid{b:Nat}(i:hb<W1.heap.size)(h:∀k,col k≠0->k<W1.heap.size):Q.mq W1.heap.size (Sx hb W1 b P fl D pc col):=λF s A B d f=>
 ⟨d.i,d.v.but f (λk g e=>by have:=h k g;omega),(f.cell (p:=⟨hb,0,none⟩) (block_lt_of_cell d.x) (λe=>by have e:W1.heap.size<=hb:=e.2;omega)).trans d.x,d.b.trans f (λk g e=>by omega)⟩
theorem Sx.siz{b:Nat}:Q.oj (Sx hb W1 b P fl D pc col):=λF s A d k e=>by
 rw[(d.i k).1 e];exact d.v.mp.lt
theorem Vq.fresh{w:World}{b:Nat}(h:Vq w b P fl D pc col)(m:Nat):
 Vq (((w.setCell ⟨b,4,none⟩ (.int .i64 (m:Int))).setCell ⟨b,3,none⟩ (.slice none 0 0)).setCell ⟨b,2,none⟩ (.slice none 0 0)) b P m {D with ac:=none,cc:=0,ch:=[],aa:=none,ca:=0,al:=[]} pc col/\But (λk=>k=b) w (((w.setCell ⟨b,4,none⟩ (.int .i64 (m:Int))).setCell ⟨b,3,none⟩ (.slice none 0 0)).setCell ⟨b,2,none⟩ (.slice none 0 0)):=by
 have bs:But (λk=>k=b) w (((w.setCell ⟨b,4,none⟩ (.int .i64 (m:Int))).setCell ⟨b,3,none⟩ (.slice none 0 0)).setCell ⟨b,2,none⟩ (.slice none 0 0)):=(((But.refl (λk=>k=b) w).setCell (p:=⟨b,4,none⟩) (λ_=>rfl) _).setCell (p:=⟨b,3,none⟩) (λ_=>rfl) _).setCell (p:=⟨b,2,none⟩) (λ_=>rfl) _
 have ne:∀{k:Nat},col k≠1->¬(k=b):=λl e=>l (by rw[e];exact h.cb)
 refine⟨⟨?_,h.mp.but bs (ne (by rw[h.cm];decide)),Q.Gw.nil _ _ _,Q.Gw.nil _ _ _,h.pool.but bs (λk f=>ne (by rw[h.cp k f];decide)),λk p n=>(h.fz k p n).but bs (λk _ e=>ne (by omega)),λx d=>absurd d (bm),h.cb,h.cm,λx d=>(by cases d),λx d=>(by cases d),h.cp,λk f=>be (h.lt k f) bs.size⟩,bs⟩
 have g:=aY w b 4 _ _ (.int .i64 (m:Int)) h.box;have i:=aY _ b 3 _ _ (.slice none 0 0) g;have j:=aY _ b 2 _ _ (.slice none 0 0) i;rw[j];rfl
theorem wZ(w:World)(b:Nat)(S:Vs)(C g:Nat)(pc col:Nat->Nat)(ay:Vw w b S C g pc col)(hm:S.X.P.mark<=9223372036854775807)(aq:S.fl+S.al.length<=9223372036854775807):
 Calls prog 57 #[.pointer (some ⟨b,0,none⟩)] w λe w'=>e=.returned (.tuple #[])/\∃ag col',Vw w' b S.settle C g ag col'/\Vf w col w' col':=by
 obtain⟨ac,cc,aa,ca,hq⟩:=ay;refine(fj (n:=0)).1 ?_;refine fF func57 rfl trivial ?_ rfl;simp only[ntmps57,dm,bf,bj,Nat.reduceAdd,Nat.reduceSub,dG,dH,dY,dO,cY,dw];refine gH.2 ?_;have A0:=iJ (al w (.cells #[.pointer (some ⟨b,0,none⟩)] 41));have X0:=iJ (Q.jd w (.pointer (some ⟨b,0,none⟩)) 41);have q:=iJ (hq.keep A0.o);have L:=iJ hq.lt;have PG:=iJ (Q.t6 _ C S.X.P pc q.o.pool 2);obtain⟨c0,c1,c2,c3,c4⟩:=q.o.cells;have x0:=X0.o;dsimp only at c0 c1;clear hq c2 c3 c4;go_wp2_with fail
 generalize w.alloc (.cells #[.pointer (some ⟨b,0,none⟩)] 41)=W0 at *;refine PG.o.mono ?_;rintro _ W1 ⟨gf,lb,aM,rfl,E⟩;have HW:=iJ E;have B1:=iJ (bt A0.o E.bl);have aI:w.heap.size<W0.heap.size:=block_lt_of_cell x0;have aQ:W0.heap.size<=W1.heap.size:=E.bl.size;have A:Hid (∀k,col k≠0->k<W1.heap.size):=λk f=>by have:=L.o k f;omega
 have Z1:Hid (Sx w.heap.size W1 b S.X.P S.fl ⟨C,g,S.X.f,ac,cc,S.X.ch,aa,ca,S.al⟩ pc col (λk=>k=g) [] W1):=⟨λk=>gF,by
  rw[Di];exact q.o.keep E.bl,(E.bl.cell (p:=⟨w.heap.size,0,none⟩) aI).trans x0,But.refl _ _⟩
 have sX:=E.nw;have aw:Hid (g<w.heap.size):=L.o g (by rw[q.o.cm];decide)
 clear E PG c0 c1 x0;go_wp2_with fail
 refine(gH (n:=0)).1 ?_
 refine Q.wp_rangeF (gf:=gf) (lb:=lb) rfl HW.o.en HW.o.seq (But.refl _ _) (λk f=>(sX k f).2) (λ_=>rfl)
  (λk=>k=g)
  (λk f hx=>by
    have y:=(sX k hx).1;have I:=aw.o;omega)
  (Sx w.heap.size W1 b S.X.P S.fl ⟨C,g,S.X.f,ac,cc,S.X.ch,aa,ca,S.al⟩ pc col)
  (λc F pre W=>False)
  (Sx.abid (by omega) A.o)
  Sx.siz
  (λc F az ax aL hs hb=>hs)
  (λc F az ax hs=>hs.elim)
  Z1.o ?round ?done ?stop
 case round=>
  rintro aN F pre x aK W au m aJ ab O X aH N;have r:=iJ m;have ai:=iJ O;have aj:=iJ X;clear au m ab O X aH N sX aJ hm aq;unfold Q.enI;gi_wp2
  refine⟨Below.refl _ _,λW3 h3=>?_⟩
  have m:=r.o;have O:=ai.o;have X:=aj.o;have t:=Sx.abid (hb:=w.heap.size) (by omega) A.o F pre W W3 m (h3.mono λk _ f=>⟨λhf=>O (by rw[f] at hf;exact hf),by omega⟩)
  obtain⟨c0,c1,c2,c3,c4⟩:=t.v.cells;dsimp only at c1;have J:=t.x;obtain⟨W4,aS,m4,M,s4⟩:=t.v.mp.drop (P:=prog) (T:=81) underlying81 underlying3 x 3
  have aA:Hid (Sx w.heap.size W1 b S.X.P S.fl ⟨C,g,S.X.f,ac,cc,S.X.ch,aa,ca,S.al⟩ pc col F (pre++[x]) W4):=by
   have aP:∀{k:Nat},k=g->k=g:=λe=>e
   refine⟨t.i,?_,?_,t.b.trans M (λk f e=>e)⟩
   . have hv:=t.v.mapped (f':=kz S.X.f (pre++[x])) (by rw[AA];exact m4) M (λk p Z=>t.v.fz k p (by
      show kz S.X.f pre k=some p;unfold kz at Z ⊢;split at Z
      . cases Z
      . rename_i hn;rw[if_neg (λe=>hn (gN _ e))]
        exact Z))
     exact hv
   . refine(M.cell (p:=⟨w.heap.size,0,none⟩) (block_lt_of_cell J) (λe=>?_)).trans J
     have e:w.heap.size=g:=e;have:=aw.o;omega
  have FB:Hid (But F W3 W4):=M.mono (λk _ e=>(t.i k).2 e)
  clear m4 M s4 t m h3 c0 c2 c3 c4 r ai aj O X;gi_wp2
  exact⟨F,FB.o,λk f=>.inl f,aA.o⟩
 case done=>
  rintro D F v hD aG m N ab j;have r:=iJ m;have l:=iJ j;have aR:W1.heap.size<=v.heap.size:=N.size;have VX:Hid (Vf w col v col):=(Vf.keep B1.o).trans ⟨N.mono (λk _ e=>by rw[e,q.o.cm];omega),λ_ _=>rfl⟩
  have ST:=iJ (Q.zd v C S.X.P pc r.o.v.pool hm);obtain⟨c0,c1,c2,c3,c4⟩:=r.o.v.cells;dsimp only at c0;have J:=r.o.x;clear m j N ab c1 c2 c3 c4 Z1 HW;go_wp2_with fail
  refine ST.o.mono ?_;rintro _ i ⟨rfl,av,an,B⟩;obtain⟨ar,ap⟩:=r.o.v.pooled an B;have ak:=iJ ar;have aB:=iJ (VX.o.trans ap)
  have D0:Hid (∀k,W1.heap.size<=k->pc k=0):=λk f=>by
   by_cases e:pc k=0
   . exact e
   . have y:=r.o.v.cp k e;have I:=A.o k (by rw[y];decide)
     omega
  have K5:Hid (i.heap[D]?=some (.deferred (some []))):=(B.b.block D (af.1 l.o).1 (λe=>e (D0.o D hD))).trans l.o
  have x5:i.cell? ⟨w.heap.size,0,none⟩=some (.pointer (some ⟨b,0,none⟩)):=(B.b.cell (p:=⟨w.heap.size,0,none⟩) (block_lt_of_cell J) (λe=>e (by
   by_cases e2:pc w.heap.size=0
   . exact e2
   . have y:=r.o.v.cp _ e2;have I:=L.o w.heap.size (by rw[y];decide)
     omega))).trans J
  have X5:=iJ x5;have MK:=iJ λ(W:World)(hb:Below i.heap.size i W)=>lU W b S.X.P.settle S.fl _ av _ (ak.o.keep hb) aq
  dsimp only at MK;obtain⟨mk,ae⟩:∃mk,S.fl+S.al.length=mk:=⟨_,rfl⟩;rw[ae] at MK;have aC:=iJ ae;clear ae;have R:Hid (W1.heap.size<=D):=hD;clear ar ap an B c0 ST J x5;go_upto_region 5 with fail
  have h:=iJ (dr2 i);have Y:Hid (∀W:World,Below i.heap.size i W->W.cell? ⟨w.heap.size,0,none⟩=some (.pointer (some ⟨b,0,none⟩))):=λW hb=>(hb.cell (p:=⟨w.heap.size,0,none⟩) (block_lt_of_cell X5.o)).trans X5.o
  refine wp_region_noPanic ?_;refine wrd Y h.o λhHeld=>?_
  refine tkd 0 1 2 3 ?_;refine tw 4 λK j=>?_
  go_simp;refine(MK.o _ h.o).mono ?_;rintro _ d ⟨rfl,ao⟩;have G:=iJ (bt h.o ao);clear ao;go_wp2_with fail
  refine j.o _ _ (Y.o _ G.o) (λhHeld=>?_)
  try simp only[pt]
  have H:=iJ (ak.o.keep G.o);obtain⟨am,ah⟩:=H.o.fresh mk;have V7:=iJ am;have s:=iJ ah;clear am ah
  have ad:Hid (w.heap.size≠b):=λe=>by
   have y:=L.o b (by rw[q.o.cb];decide)
   omega
  obtain⟨d0,d1,d2,d3,d4⟩:=H.o.cells;have f4:d.frozen? ⟨b,4,none⟩=false:=H.o.free 4;have f3:d.frozen? ⟨b,3,none⟩=false:=H.o.free 3;have f2:d.frozen? ⟨b,2,none⟩=false:=H.o.free 2;refine tkb 5 6 ?_;have U:Hid ((d.setCell ⟨b,4,none⟩ (.int .i64 ((mk:Nat):Int))).cell? ⟨w.heap.size,0,none⟩=some (.pointer (some ⟨b,0,none⟩))):=((But.refl (λk=>k=b) d).setCell (p:=⟨b,4,none⟩) (λ_=>rfl) (.int .i64 ((mk:Nat):Int))).cell (p:=⟨w.heap.size,0,none⟩) (block_lt_of_cell (Y.o _ G.o)) ad.o |>.trans (Y.o _ G.o)
  have V:Hid (((d.setCell ⟨b,4,none⟩ (.int .i64 ((mk:Nat):Int))).setCell ⟨b,3,none⟩ (.slice none 0 0)).cell? ⟨w.heap.size,0,none⟩=some (.pointer (some ⟨b,0,none⟩))):=((But.refl (λk=>k=b) _).setCell (p:=⟨b,3,none⟩) (λ_=>rfl) (.slice none 0 0)).cell (p:=⟨w.heap.size,0,none⟩) (block_lt_of_cell U.o) ad.o |>.trans U.o
  have S9:Hid ((((d.setCell ⟨b,4,none⟩ (.int .i64 ((mk:Nat):Int))).setCell ⟨b,3,none⟩ (.slice none 0 0)).setCell ⟨b,2,none⟩ (.slice none 0 0)).cell? ⟨w.heap.size,0,none⟩=some (.pointer (some ⟨b,0,none⟩))):=((But.refl (λk=>k=b) _).setCell (p:=⟨b,2,none⟩) (λ_=>rfl) (.slice none 0 0)).cell (p:=⟨w.heap.size,0,none⟩) (block_lt_of_cell V.o) ad.o |>.trans V.o
  refine tw 7 λK j=>?_
  go_simp;refine j.o _ _ (U.o) (λhHeld=>?_)
  refine tkb 8 9 ?_;refine tw 10 λK j=>?_
  go_simp;refine j.o _ _ (V.o) (λhHeld=>?_)
  refine tkb 11 12 ?_;refine tw 13 λK j=>?_
  go_simp;refine j.o _ _ (S9.o) (λhHeld=>?_)
  refine td ?_;refine NoPanic.normal ?_
  have aD:Hid (∀o,∃ag col',Vw ((((d.setCell ⟨b,4,none⟩ (.int .i64 ((mk:Nat):Int))).setCell ⟨b,3,none⟩ (.slice none 0 0)).setCell ⟨b,2,none⟩ (.slice none 0 0)).putObj D o) b S.settle C g ag col'/\Vf w col ((((d.setCell ⟨b,4,none⟩ (.int .i64 ((mk:Nat):Int))).setCell ⟨b,3,none⟩ (.slice none 0 0)).setCell ⟨b,2,none⟩ (.slice none 0 0)).putObj D o) col'):=λo=>by
   have aF:D<v.heap.size:=(af.1 l.o).1
   have aE:iO col v i 5 D=0:=by
    rw[jq aF];by_cases e:col D=0
    . exact e
    . have y:=A.o D e;have I:=R.o;omega
   have aO:D≠b:=λe=>by
    have y:=L.o b (by rw[q.o.cb];decide)
    have I:=R.o;omega
   have bD:=(But.refl (λk=>k=D) (((d.setCell ⟨b,4,none⟩ (.int .i64 ((mk:Nat):Int))).setCell ⟨b,3,none⟩ (.slice none 0 0)).setCell ⟨b,2,none⟩ (.slice none 0 0))).putObj (λ_=>rfl) o
   refine⟨av,iO col v i 5,⟨none,0,none,0,by show Vq _ b _ (S.fl+S.al.length) _ _ _;rw[aC.o];exact V7.o.but bD (λk f e=>f (by rw[e];exact aE))⟩,?_⟩
   have v6:Vf w col d (iO col v i 5):=aB.o.trans (Vf.keep G.o);refine⟨(v6.b.trans s.o (λk f e=>by rw[e,q.o.cb];omega)).trans bD (λk f e=>?_),v6.c⟩
   have I:=R.o;omega
  have K7:Hid ((((d.setCell ⟨b,4,none⟩ (.int .i64 ((mk:Nat):Int))).setCell ⟨b,3,none⟩ (.slice none 0 0)).setCell ⟨b,2,none⟩ (.slice none 0 0)).heap[D]?=some (.deferred (some []))):=by
   have k6:d.heap[D]?=some (.deferred (some [])):=(G.o.block D (af.1 K5.o).1).trans K5.o;refine(s.o.block D (af.1 k6).1 (λe=>?_)).trans k6
   have y:=L.o b (by rw[q.o.cb];decide)
   have I:=R.o;omega
  clear hHeld d0 d1 d2 d3 d4 f4 f3 f2 U V S9 V7 s H;generalize (((d.setCell ⟨b,4,none⟩ (.int .i64 ((mk:Nat):Int))).setCell ⟨b,3,none⟩ (.slice none 0 0)).setCell ⟨b,2,none⟩ (.slice none 0 0))=W9 at *;go_wp2;refine⟨by simp,.inl ⟨_,_,rfl,eO K7.o,?_⟩⟩
  obtain⟨p9,q9,h9,v9⟩:=aD.o (.deferred none);exact⟨.tuple #[],by kernel_rfl,rfl,p9,q9,h9,v9⟩
 case stop=>exact λD c F pre aK v hD aG au m=>m.elim
end Go.Proofs.YtbdkogimlbnlmaaGreat
namespace Go.Proofs.YtbdkogimlbnlmaaGreat
open Go.Proofs.Tryz
open Go.RowKit
variable {r z:Int}{g:Int->Option Pg}{D:Rd}{X:Vm}{S:Vs}
structure Rel(X:Vm)(D:Rd):Prop where
 pg:X.P.pg=D.pg
 rf:X.P.rf=D.R
 on:∀z,X.P.count z≠0->(X.on z).pg=(D.on z).pg
 nL:D.L.length=D.C.length
 nP:D.P.length=D.C.length
 ok:X.P.Ok
theorem Rel.len(h:Rel X D):X.P.pg.length=D.C.length:=by rw[h.pg];exact Rd.pg_len h.nL
theorem Rel.count(h:Rel X D)(z:Int):X.P.count z=D.count z:=by
 unfold Q.Po.count Rd.count
 have e:X.P.has z=D.has z:=by
  unfold Q.Po.has Rd.has;rw[h.len]
 rw[e];split
 . rename_i b;obtain⟨d,f⟩:=Rd.has_iff.1 b;rw[h.pg,Rd.pg_get h.nL (by omega)]
 . rfl
theorem Rel.counts(h:Rel X D):X.P.pg.map (·.1)=D.C:=by
 rw[h.pg];unfold Rd.pg;rw[List.map_fst_zip (by rw[h.nL];exact ai _)]
theorem Rel.low{X:Vm}{D:Rd}(h:Rel X D):X.P.alloc.1=if iW D.pg=0 then (0,12) else (iW D.pg,0):=by
 unfold Q.Po.alloc iW;rw[h.pg];cases e:Q.iZ D.pg 1 with
 |nil=>rfl
 |cons n T=>
  have b:n∈Q.iZ D.pg 1:=by rw[e];exact da
  have d:=(Q.kd.1 ((Q.jF D.pg 1 n).1 b)).1;show(n,(0:Int))=if n=0 then _ else (n,0)
  rw[if_neg (by omega)]
theorem xy{C:List Int}{L:List Bool}{i:Nat}(h:L.length=C.length)(hi:i<C.length)(c:Int):(C.set i c).zip L=(C.zip L).set i (c,((C.zip L).getD i Q.Pg.zero).2):=by
 have b:i<L.length:=by omega
 apply dX;intro j;simp only[List.getElem?_zip_eq_some,List.getElem?_set,iG];by_cases e:i=j
 . subst e;rw[if_pos rfl,if_pos (by omega)]
   simp[List.zip,List.getElem?_zipWith,hi,b]
 . rw[if_neg e];simp[List.zip,List.getElem?_zipWith,List.getElem?_set,e]
theorem Rel.makeR(h:Rel S.X D)(p:Pg):S.makeR p=D.makeR p:=by
 unfold Vs.makeR Rd.makeR;rw[h.low]
theorem Rel.make(h:Rel S.X D){p:Pg}{q q':Pv}(m:q.pg=p)(K:q'.pg=p)(B:p.kind≠0)(j:(S.makeR p).2=0)(k:p.check=0):Rel (S.makeS p q).X (D.makeD p q'):=by
 have d:S.X.P.alloc.1.2=0:=by
  unfold Vs.makeR at j;rw[if_pos k] at j;exact j
 have s:iW D.pg≠0:=λe=>by
  rw[h.low,if_pos e] at d;exact absurd d (by decide)
 have v:S.X.P.alloc.1.1=iW D.pg:=by rw[h.low,if_neg s]
 obtain⟨i,G,O,l,H,I⟩:=pU d;obtain⟨M,t⟩:=wJ d
 have x:S.makeS p q=⟨S.X.allocd.lay S.X.P.alloc.1.1 q,S.al++[(S.X.P.mark,S.X.ch.length)],S.fl⟩:=by
  unfold Vs.makeS;rw[if_pos k,d,if_pos rfl];unfold Vs.done;rw[if_pos rfl]
 have A:(iW D.pg-1).toNat=i:=by rw[<-v,l];omega
 have n:i<D.C.length:=by rw[<-h.len];exact G
 have y:D.makeD p q'={D with C:=D.C.set i 1,P:=D.P.set i q'}:=by
  unfold Rd.makeD;rw[if_pos ⟨k,s⟩,A]
 rw[x,y];have J:q.kind≠0:=λe=>B (by rw[<-m];exact e)
 have L:∀z,(S.X.allocd.lay S.X.P.alloc.1.1 q).on z=if z=S.X.P.alloc.1.1 then q else S.X.on z:=λz=>by
  unfold Vm.lay Vm.on;show((jp S.X.f S.X.P.alloc.1.1 q z).getD Pv.zero)=_;by_cases b:z=S.X.P.alloc.1.1
  . simp[jp,b,J]
  . simp only[jp,if_neg b];try rfl
 refine⟨?_,?_,λz E=>?_,?_,?_,?_⟩
 . show S.X.P.alloc.2.pg=(D.C.set i 1).zip D.L;rw[H,xy h.nL n,h.pg];rfl
 . show S.X.P.alloc.2.rf=D.R;rw[I];exact h.rf
 . have f:S.X.P.alloc.2.count z≠0:=E;rw[L z];show _=(((D.P.set i q').getD (z-1).toNat Pv.zero)).pg;rw[t z] at f;by_cases b:z=S.X.P.alloc.1.1
   . rw[if_pos b,kG,if_pos ⟨by rw[b,l];omega,by rw[h.nP];exact n⟩,m,K]
   . rw[if_neg b] at f ⊢;have N:=Q.Po.count_has f;rw[kG,if_neg (λe=>b (by rw[l];omega))]
     exact h.on z f
 . show D.L.length=(D.C.set i 1).length;rw[aM];exact h.nL
 . show(D.P.set i q').length=(D.C.set i 1).length;rw[aM,aM];exact h.nP
 . exact vM h.ok d
theorem Rel.put(h:Rel X D)(b:X.P.count z≠0){X':Vm}{c:Int}(i:X'.P.pg=X.P.pg.set (z.toNat-1) (c,(X.P.pg.getD (z.toNat-1) Q.Pg.zero).2))(j:X'.P.rf=X.P.rf)(f:∀y,X'.P.count y≠0->X.P.count y≠0/\X'.on y=X.on y)(n:X'.P.Ok):Rel X' (D.put z c):=by
 obtain⟨p,q⟩:=Q.Po.count_has b;have d:z.toNat-1<D.C.length:=by rw[<-h.len];omega
 have e:(z-1).toNat=z.toNat-1:=by omega
 refine⟨?_,by rw[j];exact h.rf,λy k=>?_,?_,?_,n⟩
 . rw[i,h.pg];show _=(D.C.set (z-1).toNat c).zip D.L;rw[e,xy h.nL d];rfl
 . obtain⟨l,m⟩:=f y k;rw[m];exact h.on y l
 . show D.L.length=(D.C.set _ c).length;rw[aM];exact h.nL
 . show D.P.length=(D.C.set _ c).length;rw[aM];exact h.nP
theorem jJ{P:Q.Po}(h:P.Ok)(z:Int):0<=P.count z/\P.count z<=P.rf:=by
 unfold Q.Po.count;split
 . rename_i b;have d:=Q.Po.has_iff.1 b;exact h.cs _ (Q.kB (by omega))
 . have:=h.r1;exact⟨fd _,by omega⟩
theorem Rel.less(h:Rel X D)(b:X.P.count z≠0):Rel (X.less z) (D.put z (D.count z-1)):=by
 have e:=jJ h.ok z;refine h.put b ?_ ?_ (λy d=>Vm.less_on d) ?_
 . rw[Vm.less_P,vh,if_neg b,h.count]
 . rw[Vm.less_P,Hf]
 . rw[Vm.less_P];obtain⟨f,i⟩:=Q.Po.count_has b;unfold Q.Po.dec;rw[if_neg b];exact h.ok.act (n:=z.toNat) (by omega) (by omega) ⟨by omega,by omega⟩
structure Dp(X X':Vm):Prop where
 t:tot X'.P<=tot X.P
 m:X'.P.mark+tot X'.P<=X.P.mark+tot X.P
 c:X'.ch.length+tot X'.P<=X.ch.length+tot X.P
theorem Dp.refl(X:Vm):Dp X X:=⟨ai _,ai _,ai _⟩
theorem Dp.trans{Y Z:Vm}(h:Dp X Y)(k:Dp Y Z):Dp X Z:=⟨aO k.t h.t,aO k.m h.m,aO k.c h.c⟩
theorem Dp.less(h:X.P.Ok)(b:X.P.count z≠0):Dp X (X.less z)/\tot (X.less z).P+1=tot X.P:=by
 have d:=(sU h z).1 (by rw[kY,if_neg b])
 have f:=Bv X.P z;rw[if_neg b] at f;have i:=X.less_ch z;have e:tot (X.less z).P+1=tot X.P:=by rw[Vm.less_P];exact d.1
 exact⟨⟨by omega,by rw[Vm.less_P] at e ⊢;omega,by omega⟩,e⟩
theorem Rel.inc(h:Rel S.X D)(z:Int):(S.X.P.inc z).1=(D.inc z).1/\((S.X.P.inc z).1=0->Rel ⟨(S.X.P.inc z).2,S.X.f,S.X.ch⟩ (D.inc z).2)/\((S.X.P.inc z).1≠0->(D.inc z).2=D):=by
 have l:=jJ h.ok z;unfold Q.Po.inc Rd.inc;rw[<-h.count,<-h.rf];by_cases b:S.X.P.count z=0
 . rw[if_pos b,if_neg (by rw[b];decide)]
   exact⟨rfl,λe=>absurd (show(15:Int)=0 from e) (by decide),λ_=>rfl⟩
 . by_cases f:S.X.P.count z=S.X.P.rf
   . rw[if_neg b,if_pos f,if_pos (show 0<S.X.P.count z by omega),if_pos (show S.X.P.rf<=S.X.P.count z by omega)]
     exact⟨rfl,λe=>absurd (show(13:Int)=0 from e) (by decide),λ_=>rfl⟩
   . rw[if_neg b,if_neg f,if_pos (show 0<S.X.P.count z by omega),if_neg (show ¬S.X.P.rf<=S.X.P.count z by omega)]
     refine⟨rfl,λ_=>?_,λe=>absurd rfl e⟩
     obtain⟨m,p⟩:=Q.Po.count_has b;refine h.put b (X':=⟨S.X.P.act z.toNat (S.X.P.count z+1),S.X.f,S.X.ch⟩) rfl rfl (λy j=>⟨?_,rfl⟩) (h.ok.act (n:=z.toNat) (by omega) (by omega) ⟨by omega,by omega⟩)
     obtain⟨q,s⟩:=Q.Po.count_has b;have k:(S.X.P.act z.toNat (S.X.P.count z+1)).count y=_:=pJ (P:=S.X.P) (i:=z.toNat-1) (by omega) rfl y
     have d:(S.X.P.act z.toNat (S.X.P.count z+1)).count y≠0:=j;rw[k] at d;split at d
     . rename_i e;rw[show y=z by omega];exact b
     . exact d
theorem Rel.settle{D':Rd}(h:Rel S.X D)(d:D.Set D' D.C.length):Rel S.settle.X D':=by
 have f:D'.C=D.C:=by rw[d.e]
 have A:D'.R=D.R:=by rw[d.e]
 have m:D'.L.length=D'.C.length:=by rw[d.nl,f];exact h.nL
 refine⟨?_,?_,λz K=>?_,m,by rw[d.np,f];exact h.nP,?_⟩
 . show S.X.P.pg.map (λx=>(x.1,decide (0<x.1)))=D'.pg
   have s:D'.pg.length=D.C.length:=by rw[Rd.pg_len m,f]
   apply List.ext_getElem (by rw[aZ,h.len,s])
   intro i N p;have b:i<D.C.length:=by rw[<-s];exact p
   have k:D'.pg[i]=D'.pg.getD i Q.Pg.zero:=by simp[p]
   have v:S.X.P.pg[i]'(by rw[h.len];exact b)=D.pg.getD i Q.Pg.zero:=by
    have B:i<D.pg.length:=by rw[Rd.pg_len h.nL];exact b
    simp[B,h.pg]
   rw[k,Rd.pg_get m (by rw[f];exact b),List.getElem_map,v,Rd.pg_get h.nL b,d.l i,if_pos ⟨b,by rw[h.nL];exact b⟩,f]
 . show S.X.P.rf=D'.R;rw[A];exact h.rf
 . have M:S.X.P.settle.count z=S.X.P.count z:=by
    unfold Q.Po.count Q.Po.has Q.Po.settle;dsimp only;rw[aZ];split
    . rename_i q;rw[aq,aq,c9];cases S.X.P.pg[(z-1).toNat]?<;>rfl
    . rfl
   have t:S.X.P.count z≠0:=by rw[<-M];exact K
   have H:¬z∈S.X.P.pages 2:=λl=>by
    unfold Q.Po.pages at l;rw[if_pos (by decide)] at l
    have n:=Q.kd.1 ((Q.jF _ _ _).1 l);have q:S.X.P.has z=true:=Q.Po.has_iff.2 ⟨n.1,n.2.1⟩;apply t;unfold Q.Po.count;rw[if_pos q];have j:=n.2.2;unfold Q.stt at j;split at j
    . assumption
    . split at j<;>exact absurd j (by decide)
   have k:S.settle.X.on z=S.X.on z:=by
    show(kz S.X.f (S.X.P.pages 2) z).getD Pv.zero=_;unfold kz;rw[if_neg H];rfl
   rw[k,h.on z t];unfold Rd.on;have G:0<D.count z:=by rw[<-h.count];have:=jJ h.ok z;omega
   obtain⟨_,_,O⟩:=Rd.count_at G;rw[d.p,if_neg (λe=>by omega)]
 . refine⟨by show 1<=(S.X.P.pg.map _).length;rw[aZ];exact h.ok.l1,by show(S.X.P.pg.map _).length<=_;rw[aZ];exact h.ok.l2,h.ok.r1,h.ok.r2,λx I=>?_,λa E=>absurd (show a∈([]:List (Nat×Q.Pg)) from E) (bm)⟩
   obtain⟨y,J,rfl⟩:=bH.1 (show x∈S.X.P.pg.map _ from I)
   exact h.ok.cs y J
theorem uo{q:Pv}(h:q.pg.check=0):q.kind≠0:=λe=>by
 have b:q.pg.kind=0:=e;have k:q.pg.kindOk=false:=by unfold Pg.kindOk;rw[b];rfl
 unfold Pg.check at h;rw[if_pos k] at h;exact absurd h (by decide)
theorem AI{C:List Int}(b:PV r C g S):mA S.X.f:=by
 obtain⟨f,rfl,_,d⟩:=b;exact λk q e=>uo (d k q e)
theorem wi{α β:Type}(f:α->β):∀C:List α,C.zip (C.map f)=C.map λc=>(c,f c)
 | []=>rfl
 |c::C=>by simp[wi f C]
theorem De{C:List Int}(j:PV r C g S)(d:PR C g D)(q:D.R=r)(l:(Q.Po.start r C).Ok):Rel S.X D:=by
 have s:=zE j d;have m:=d.count;obtain⟨f,rfl,x,v⟩:=j;obtain⟨b,i,p,y⟩:=d;refine⟨?_,q.symm,λz k=>?_,by rw[i,b];exact aZ _,by rw[p,b],l⟩
 . show(C.map λc=>(c,decide (0<c)))=D.C.zip D.L
   rw[i,b];exact(wi (λc=>decide (0<c)) C).symm
 . have t:=(jJ l z).1;have k:(Q.Po.start r C).count z≠0:=k;have h:0<(ldS r C f).X.P.count z:=by show 0<(Q.Po.start r C).count z;omega
   have n:0<D.count z:=by rw[m,<-kr r C z];exact h
   have e:=congrFun s z;unfold rdV rdR at e;rw[if_pos h,if_pos n] at e;exact Option.some.inj e
theorem Ih{C:List Int}{l:List (Int×Pg)}(h:(jm r C l).1=0):(Q.Po.start r C).Ok:=by
 by_cases b:Q.js C.length r=false
 . rw[me b] at h;exact absurd h (by decide)
 . have b:Q.js C.length r=true:=by simpa using b
   by_cases hb:jL r C=true
   . rw[lY b hb] at h;exact absurd h (by decide)
   . obtain⟨⟨n,p⟩,f,i⟩:=Q.lF.1 b;have d:(Q.Po.start r C).pg.length=C.length:=aZ _;refine⟨by rw[d];omega,by rw[d];omega,f,i,λx m=>?_,λa j=>absurd j (bm)⟩
     obtain⟨c,k,rfl⟩:=bH.1 m;show 0<=c/\c<=r
     have q:¬(c<0\/r<c):=λe=>hb (by
      unfold jL;rw[fT];exact⟨c,k,by simpa using e⟩)
     omega
theorem yb:(prog.info? 163).map (λi=>(i.zero,i.size,i.bytes))=some (some (.agg #[.slice none 0 0,.slice none 0 0]),2,48):=by kernel_rfl
structure Sn where
 aC:Option Addr
 cC:Nat
 C:List Int
 aP:Option Addr
 cP:Nat
 P:List Pv
def Sn.cs(s:Sn):Array Value:=#[.slice s.aC s.C.length s.cC,.slice s.aP s.P.length s.cP]
def jQ(H:List Sn):List Value:=(H.map λs=>s.cs.toList).flatten
theorem m6(A B:List Sn):jQ (A++B)=jQ A++jQ B:=by simp[jQ]
theorem uC(s:Sn):jQ [s]=s.cs.toList:=by simp[jQ]
theorem lO:∀(L:List Sn),(jQ L).length=L.length*2
 | []=>rfl
 |x::L=>by
  have:=lO L;simp only[jQ,bL,dZ,ae,bf,Sn.cs] at this ⊢;simp only[bj] at this ⊢;omega
theorem qS:∀(L:List Sn)(i k:Nat)(h:i<L.length),k<2->(jQ L)[i*2+k]?=L[i].cs.toList[k]?
 | [],i,k,h,_=>absurd h (dQ _)
 |x::L,0,k,h,hk=>by
  have b:x.cs.toList.length=2:=rfl;simp only[jQ,bL,dZ,eE,bN,List.getElem_cons_zero];rw[br (by omega)]
 |x::L,i+1,k,h,hk=>by
  have b:x.cs.toList.length=2:=rfl;have d:=qS L i k (by simpa using h) hk
  simp only[jQ,bL,dZ,List.getElem_cons_succ] at d ⊢;rw[bg (by omega),b,show(i+1)*2+k-2=i*2+k by omega,d]
structure Sv(w:World)(col:Nat->Nat)(n:Nat)(s:Sn):Prop where
 cr:Q.Ig w s.aC s.cC s.C
 pr:Q.Gw 31 5 w s.aP s.cP s.P.length (vpg s.P)
 pz:∀p∈s.P,Pz (λk=>col k=6) w p
 ps:∀p∈s.P,p.pg.check=0\/p=Pv.zero
 nC:s.C.length=n
 nP:s.P.length=n
 cc:∀x,s.aC=some x->col x.block=7
 cp:∀x,s.aP=some x->col x.block=7
section
variable {S:Nat->Prop} {w w' W w5:World} {col col':Nat->Nat} {n rb:Nat} {s:Sn} {D:Rd} {H:List Sn}
theorem Sv.but(h:Sv w col n s)(hb:But S w w')(d:∀k,k<w.heap.size->col k=6\/col k=7->¬S k):Sv w' col n s:=
 ⟨h.cr.but hb (λx b=>d _ (h.cr.lt b) (.inr (h.cc x b))),h.pr.but hb (λx b=>d _ (h.pr.lt b) (.inr (h.cp x b))),λp i=>(h.pz p i).but hb (λk f e=>d k f (.inl e)),h.ps,h.nC,h.nP,h.cc,h.cp⟩
theorem Sv.recol(h:Sv w col n s)(d:∀k,k<w.heap.size->col k=6\/col k=7->col' k=col k):Sv w col' n s:=
 ⟨h.cr,h.pr,λp i=>(h.pz p i).mono (λk f e=>(d k f (.inl e)).trans e),h.ps,h.nC,h.nP,λx b=>(d _ (h.cr.lt b) (.inr (h.cc x b))).trans (h.cc x b),λx b=>(d _ (h.pr.lt b) (.inr (h.cp x b))).trans (h.cp x b)⟩
theorem Sv.vf(h:Sv w col n s)(f:Vf w col w' col'):Sv w' col' n s:=
 (h.recol (λk b _=>f.c k b)).but f.b (λk b e d=>by rw[f.c k b] at e;omega)
theorem Sv.keep(h:Sv w col n s)(hb:Below w.heap.size w w'):Sv w' col n s:=h.but (S:=λ_=>False) (But.ofBelow hb) (λ_ _ _ e=>e)
structure Ah(w:World)(D:Rd)(H:List Sn)(col:Nat->Nat):Prop where
 ar:Q.Gw 163 2 w D.aA D.cA H.length (jQ H)
 na:D.nA=H.length
 ca:∀x,D.aA=some x->col x.block=5
 sv:∀s∈H,Sv w col D.C.length s
structure Ra(w:World)(rb:Nat)(D:Rd)(H:List Sn)(col:Nat->Nat):Prop where
 q:Rq w rb D col
 a:Ah w D H col
theorem Ah.keep(h:Ah w D H col)(hb:Below w.heap.size w w'):Ah w' D H col:=⟨h.ar.keep hb,h.na,h.ca,λs b=>(h.sv s b).keep hb⟩
theorem Ra.keep(h:Ra w rb D H col)(hb:Below w.heap.size w w'):Ra w' rb D H col:=⟨h.q.keep hb,h.a.keep hb⟩
theorem Ra.c4(h:Ra w rb D H col):w.cell? ⟨rb,4,none⟩=some (.slice D.aA H.length D.cA):=by
 rw[ay _ _ _ _ _ _ h.q.box,<-h.a.na];rfl
theorem Ra.c5(h:Ra w rb D H col):w.cell? ⟨rb,5,none⟩=some (.int .i64 D.fl):=by
 rw[ay _ _ _ _ _ _ h.q.box];rfl
theorem Ra.did(h:Ra w rb D H col)(B:Below w.heap.size w W){g l:Nat}(N:Sv w col D.C.length s)
 (A:Q.Gw 163 2 w5 (some ⟨g,0,none⟩) l (H.length+1) (jQ (H++[s]))) (L:New W D.aA (some ⟨g,0,none⟩)) (K:But (Q.InA D.aA) W w5):
 Ra (w5.setCell ⟨rb,4,none⟩ (.slice (some ⟨g,0,none⟩) (H.length+1) l)) rb {D with aA:=some ⟨g,0,none⟩,nA:=H.length+1,cA:=l} (H++[s]) (iO col w w5 5)/\Vf w col (w5.setCell ⟨rb,4,none⟩ (.slice (some ⟨g,0,none⟩) (H.length+1) l)) (iO col w w5 5):=by
 have q:=h.q;have m:But (Q.InA D.aA) w w5:=(But.ofBelow (S:=Q.InA D.aA) B).trans K (λ_ _ e=>e)
 have j:But (λk=>k=rb\/Q.InA D.aA k) w (w5.setCell ⟨rb,4,none⟩ (.slice (some ⟨g,0,none⟩) (H.length+1) l)):=(m.mono (T:=λk=>k=rb\/Q.InA D.aA k) λ_ _ e=>.inr e).setCell (p:=⟨rb,4,none⟩) (λ_=>.inl rfl) _
 have bs:But (λk=>k=rb) w5 (w5.setCell ⟨rb,4,none⟩ (.slice (some ⟨g,0,none⟩) (H.length+1) l)):=(But.refl (λk=>k=rb) w5).setCell (p:=⟨rb,4,none⟩) (λ_=>rfl) _
 have ne:∀{k:Nat},col k≠1->col k≠5->¬(k=rb\/Q.InA D.aA k):=λI J e=>by
  rcases e with rfl|⟨y,b,rfl⟩
  . exact I q.cb
  . exact J (h.a.ca y b)
 have i:∀{k:Nat},col k≠0->iO col w w5 5 k=col k:=λd=>jq (q.lt _ d)
 have P:=m.size
 have v:iO col w w5 5 g=5:=by
  rcases L ⟨g,0,none⟩ rfl with⟨y,b,e⟩|h2
  . have e:y.block=g:=e;rw[<-e,i (by rw[h.a.ca y b];decide)];exact h.a.ca y b
  . have h2:W.heap.size<=g:=h2;exact ke (aO B.size h2) (A.lt rfl)
 have C:iO col w w5 5 rb=1:=(i (by rw[q.cb];decide)).trans q.cb
 have G:g≠rb:=λe=>by rw[e,C] at v;cases v
 have E:w5.heap[rb]?=_:=m.same q.box (λ⟨y,b,e⟩=>by have:=h.a.ca y b;rw[e,q.cb] at this;cases this)
 have R:∀{p:Pv},Pz (λk=>col k=6) w p->Pz (λk=>iO col w w5 5 k=6) (w5.setCell ⟨rb,4,none⟩ (.slice (some ⟨g,0,none⟩) (H.length+1) l)) p:=λO=>(O.but j (λk _ e=>ne (by omega) (by omega))).mono (λk d e=>by rw[i (by omega)];exact e)
 refine⟨⟨⟨?_,q.cr.but j (λx f=>ne (by rw[q.cc x f];decide) (by rw[q.cc x f];decide)),q.lr.but j (λx f=>ne (by rw[q.cl x f];decide) (by rw[q.cl x f];decide)),q.pr.but j (λx f=>ne (by rw[q.cp x f];decide) (by rw[q.cp x f];decide)),λp M=>R (q.pz p M),q.ps,C,λy b=>(i (by rw[q.cc y b];decide)).trans (q.cc y b),λy b=>(i (by rw[q.cl y b];decide)).trans (q.cl y b),λy b=>(i (by rw[q.cp y b];decide)).trans (q.cp y b),λk d=>be (kU P d) bs.size,q.nL,q.nP,q.n6⟩,⟨?_,?_,λy b=>?_,λt ht=>?_⟩⟩,⟨j.mono (λk _ e=>?_),λk d=>jq d⟩⟩
 . rw[aY _ _ _ _ _ _ E];rfl
 . show Q.Gw _ _ _ _ _ (H++[s]).length _;rw[ae];exact A.but bs (λy b=>by cases b;exact G)
 . show H.length+1=(H++[s]).length;rw[ae];rfl
 . cases b;exact v
 . rcases bq.1 ht with ht|ht
   . exact((h.a.sv t ht).but j (λk _ e=>ne (by omega) (by omega))).recol (λk d e=>i (by omega))
   . rw[aQ.1 ht];exact(N.but j (λk _ e=>ne (by omega) (by omega))).recol (λk d e=>i (by omega))
 . rcases e with rfl|⟨y,b,rfl⟩
   . rw[q.cb];decide
   . rw[h.a.ca y b];decide
theorem Ra.seven(h:Ra w rb D H col)(hb:Below w.heap.size w w'):Ra w' rb D H (iO col w w' 7)/\Vf w col w' (iO col w w' 7):=by
 have k:=h.q.keep hb;have lt:=h.q.lt;have po:∀{j c:Nat},col j=c->c≠0->iO col w w' 7 j=c:=λ{j c} e f=>by rw[jq (lt j (by rw[e];exact f)),e]
 refine⟨⟨⟨k.box,k.cr,k.lr,k.pr,λp i=>(k.pz p i).mono (λj d e=>po e (by decide)),k.ps,po h.q.cb (by decide),λx b=>po (h.q.cc x b) (by decide),λx b=>po (h.q.cl x b) (by decide),λx b=>po (h.q.cp x b) (by decide),λj d=>kU hb.size d,k.nL,k.nP,k.n6⟩,⟨h.a.ar.keep hb,h.a.na,λx b=>po (h.a.ca x b) (by decide),λs l=>((h.a.sv s l).keep hb).recol (λj d e=>po rfl (by omega))⟩⟩,But.ofBelow hb,λj d=>jq d⟩
end
theorem xt{W:World}{g:Nat}{s:Sn}{t:TypeId}(h:W.heap[g]?=some (.cells #[.slice s.aC s.C.length s.cC,.slice s.aP s.P.length s.cP] t (0,0))):∀j u,s.cs.toList[j]?=some u->W.cell? ((⟨g,0,none⟩:Addr).add j)=some u:=by
 intro j u b;match j,b with
 |0,b=>simp only[Sn.cs] at b;simp at b;subst b;rw[show((⟨g,0,none⟩:Addr).add 0)=⟨g,0,none⟩ from rfl,ay _ _ _ _ _ _ h];rfl
 |1,b=>simp only[Sn.cs] at b;simp at b;subst b;rw[show((⟨g,0,none⟩:Addr).add 1)=⟨g,1,none⟩ from rfl,ay _ _ _ _ _ _ h];rfl
 |j+2,b=>simp[Sn.cs] at b
theorem ya{s:Sn}:∀u∈s.cs.toList,u.oneCell'=true:=by
 intro u b;simp only[Sn.cs,cO,bm,gO] at b;rcases b with rfl|rfl<;>rfl
theorem oN(w:World)(rb:Nat)(D:Rd)(H:List Sn)(col:Nat->Nat)(h:Ra w rb D H col)(B:D.hush=false)(s:Sn)(v:Sv w col D.C.length s)(G:H.length<=1000000000000):
 Calls prog 105 #[.pointer (some ⟨rb,0,none⟩),.slice s.aC s.C.length s.cC,.slice s.aP s.P.length s.cP] w λe w'=>∃x A col',e=.returned (.tuple #[])/\Ra w' rb {D with aA:=x,nA:=H.length+1,cA:=A} (H++[s]) col'/\Vf w col w' col':=by
 have b:=iJ h;have m:=iJ v;obtain⟨c0,c1,c2,c3,q⟩:=h.q.cells;have c4:=h.c4;rw[B] at q;have d:=iJ (al w (.cells #[.slice s.aC s.C.length s.cC,.slice s.aP s.P.length s.cP] 163));have p:=iJ (aH w (.cells #[.slice s.aC s.C.length s.cC,.slice s.aP s.P.length s.cP] 163));have l:=iJ (h.a.ar.keep d.o);have E:H.length+1<=maxLen:=by unfold maxLen;omega
 have L:=h.q.lb;clear h v;go_enter func105,ntmps105;go_wp2_with (at_builtin;refine jM underlying97 yb rfl (by decide) rfl _ _ rfl D.aA H.length D.cA (jQ H) rfl l.o ⟨w.heap.size,0,none⟩ 1 s.cs.toList rfl rfl (xt p.o) ya E (by omega) ?_)
 intro g M w5 j t i;rw[<-uC,<-m6] at j;have k:But (Q.InA D.aA) w w5:=(But.ofBelow (S:=Q.InA D.aA) d.o).trans i (λ_ _ e=>e)
 have f:w5.heap[rb]?=some (.cells D.box 99 (0,0)):=k.same b.o.q.box (λ⟨y,C,e⟩=>by have:=b.o.a.ca y C;rw[e,b.o.q.cb] at this;cases this)
 have K:=iJ (b.o.did d.o m.o j t i);have I:w5.cell? ⟨rb,4,none⟩=some (.slice D.aA D.nA D.cA):=by rw[ay _ _ _ _ _ _ f];rfl
 have J:w5.frozen? ⟨rb,4,none⟩=false:=by simp[World.frozen?,f]
 clear j t i f c0 c1 c2 c3 c4 q p d l m b k;go_wp2_with fail
 go_end0
 exact⟨_,_,_,rfl,K.o.1,K.o.2⟩
end Go.Proofs.YtbdkogimlbnlmaaGreat
