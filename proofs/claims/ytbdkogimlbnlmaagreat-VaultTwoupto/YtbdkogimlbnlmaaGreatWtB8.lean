import Derived.Test.YtbdkogimlbnlmaaGreatWtB1
import Derived.Test.YtbdkogimlbnlmaaGreatWtB7
set_option linter.unusedVariables false
set_option linter.unusedSimpArgs false
set_option maxHeartbeats 8000000
set_option maxRecDepth 8000
namespace Go.Proofs.YtbdkogimlbnlmaaGreat
open Go.RowKit
variable {fl m:Nat}{col pc:Nat->Nat}{C S:Nat->Prop}{p:Pv}{P:Q.Po}{w w':World}
def Pz(C:Nat->Prop)(w:World)(p:Pv):Prop:=∀w',But (λk=>¬C k) w w'->Pi w' p
theorem Pz.pi(h:Pz C w p):Pi w p:=h w (But.refl _ _)
theorem Pz.but(h:Pz C w p)(hb:But S w w')(hn:∀k,k<w.heap.size->C k->¬S k):Pz C w' p:=λv hv=>
 h v ((hb.mono (T:=λk=>¬C k) λk hk hs hc=>hn k hk hc hs).trans hv λ_ _ e=>e)
theorem Pz.keep(h:Pz C w p)(hb:Below w.heap.size w w'):Pz C w' p:=h.but (S:=λ_=>False) (But.ofBelow hb) (λ_ _ _ h=>h)
theorem Pz.mono{C':Nat->Prop}(h:Pz C w p)(hc:∀k,k<w.heap.size->C k->C' k):Pz C' w p:=λv hv=>h v (hv.mono λk hk hn e=>hn (hc k hk e))
theorem Pz.zero(C:Nat->Prop)(w:World):Pz C w Pv.zero:=λv _=>Pi.zero v
structure Vd where
 pb:Nat
 mb:Nat
 f:Int->Option Pv
 ac:Option Addr
 cc:Nat
 ch:List (Int×Pv)
 aa:Option Addr
 ca:Nat
 al:List (Nat×Nat)
def kL(fl:Nat)(D:Vd):Array Value:=#[.pointer (some ⟨D.pb,0,none⟩),.map (some D.mb),.slice D.ac D.ch.length D.cc,.slice D.aa D.al.length D.ca,.int .i64 ((fl:Nat):Int)]
def chc(L:List (Int×Pv)):List Value:=(L.map λx=>Value.int .i64 x.1::x.2.cs.toList).flatten
def plc(L:List (Nat×Nat)):List Value:=(L.map λx=>[Value.int .i64 ((x.1:Nat):Int),Value.int .i64 ((x.2:Nat):Int)]).flatten
theorem nh(A B:List (Int×Pv)):chc (A++B)=chc A++chc B:=by simp[chc]
theorem qI(A B:List (Nat×Nat)):plc (A++B)=plc A++plc B:=by simp[plc]
theorem jj:∀(L:List (Int×Pv)),(chc L).length=L.length*6
 | []=>rfl
 |x::L=>by
  have:=jj L;simp only[chc,bC,dH,ae,bg,Pv.cs] at this ⊢;simp only[bh] at this ⊢;omega
theorem kV:∀(L:List (Nat×Nat)),(plc L).length=L.length*2
 | []=>rfl
 |x::L=>by
  have:=kV L;simp only[plc,bC,dH,ae,bg,bh] at this ⊢;omega
structure Vq(w:World)(b:Nat)(P:Q.Po)(fl:Nat)(D:Vd)(pc col:Nat->Nat):Prop where
 box:w.heap[b]?=some (.cells (kL fl D) 85 (0,0))
 mp:Mp w D.mb (λk=>(D.f k).map Pv.vl)
 chr:Q.Gw 187 6 w D.ac D.cc D.ch.length (chc D.ch)
 acr:Q.Gw 137 2 w D.aa D.ca D.al.length (plc D.al)
 pool:Q.Pl w D.pb P pc
 fz:∀k p,D.f k=some p->Pz (λk=>col k=6) w p
 cz:∀x∈D.ch,Pz (λk=>col k=6) w x.2
 cb:col b=1
 cm:col D.mb=2
 cc:∀x,D.ac=some x->col x.block=3
 ca:∀x,D.aa=some x->col x.block=4
 cp:∀k,pc k≠0->col k=5
 lt:∀k,col k≠0->k<w.heap.size
theorem Vq.but{b:Nat}{D:Vd}(h:Vq w b P fl D pc col)(hb:But S w w')(hn:∀k,col k≠0->¬S k):Vq w' b P fl D pc col:=by
 have nz:∀{k c:Nat},col k=c+1->¬S k:=λe=>hn _ (by omega)
 exact⟨hb.same h.box (nz (c:=0) h.cb),h.mp.but hb (nz (c:=1) h.cm),h.chr.but hb (λx hx=>nz (c:=2) (h.cc x hx)),h.acr.but hb (λx hx=>nz (c:=3) (h.ca x hx)),h.pool.but hb (λk hk=>nz (c:=4) (h.cp k hk)),λk p hp=>(h.fz k p hp).but hb (λk _ e=>nz (c:=5) e),λx hx=>(h.cz x hx).but hb (λk _ e=>nz (c:=5) e),h.cb,h.cm,h.cc,h.ca,h.cp,λk hk=>aZ (h.lt k hk) hb.size⟩
theorem Vq.keep{b:Nat}{D:Vd}(h:Vq w b P fl D pc col)(hb:Below w.heap.size w w'):Vq w' b P fl D pc col:=h.but (S:=λ_=>False) (But.ofBelow hb) (λ_ _ h=>h)
theorem Vq.lb{b:Nat}{D:Vd}(h:Vq w b P fl D pc col):b<w.heap.size:=(af.1 h.box).1
theorem Vq.cells{w:World}{b:Nat}{P:Q.Po}{fl:Nat}{D:Vd}{pc col:Nat->Nat}(h:Vq w b P fl D pc col):w.cell? ⟨b,0,none⟩=some (.pointer (some ⟨D.pb,0,none⟩))/\w.cell? ⟨b,1,none⟩=some (.map (some D.mb))/\w.cell? ⟨b,2,none⟩=some (.slice D.ac D.ch.length D.cc)/\w.cell? ⟨b,3,none⟩=some (.slice D.aa D.al.length D.ca)/\w.cell? ⟨b,4,none⟩=some (.int .i64 ((fl:Nat):Int)):=by
 rw[au _ _ _ _ _ _ h.box,au _ _ _ _ _ _ h.box,au _ _ _ _ _ _ h.box,au _ _ _ _ _ _ h.box,au _ _ _ _ _ _ h.box];exact⟨rfl,rfl,rfl,rfl,rfl⟩
theorem Vq.free{b:Nat}{D:Vd}(h:Vq w b P fl D pc col)(i:Nat):w.frozen? ⟨b,i,none⟩=false:=by simp[World.frozen?,h.box]
structure Vf(w:World)(col:Nat->Nat)(w':World)(col':Nat->Nat):Prop where
 b:But (λk=>1<=col k/\col k<=5) w w'
 c:∀k,k<w.heap.size->col' k=col k
theorem Vf.refl(w:World)(col:Nat->Nat):Vf w col w col:=⟨But.refl _ _,λ_ _=>rfl⟩
theorem Vf.trans{w1 w2:World}{c c1 c2:Nat->Nat}(h:Vf w c w1 c1)(k:Vf w1 c1 w2 c2):Vf w c w2 c2:=
 ⟨h.b.trans k.b (λx hx hn=>by rw[h.c x hx] at hn;exact hn),λx hx=>(k.c x (aZ hx h.b.size)).trans (h.c x hx)⟩
theorem Vf.keep{c:Nat->Nat}(h:Below w.heap.size w w'):Vf w c w' c:=⟨But.ofBelow h,λ_ _=>rfl⟩
def ip(col:Nat->Nat)(w w':World)(c k:Nat):Nat:=if k<w.heap.size then col k else if k<w'.heap.size then c else 0
theorem iR{c k:Nat}(h:k<w.heap.size):ip col w w' c k=col k:=if_pos h
theorem jF{c k:Nat}(h:w.heap.size<=k)(h2:k<w'.heap.size):ip col w w' c k=c:=by unfold ip;rw[if_neg (by omega),if_pos h2]
theorem ke{c k:Nat}(hs:w.heap.size<=w'.heap.size)(h:ip col w w' c k≠0):k<w'.heap.size:=by
 unfold ip at h;split at h
 . omega
 . split at h
   . assumption
   . exact absurd rfl h
theorem Vq.pooled{b:Nat}{P':Q.Po}{D:Vd}{pc':Nat->Nat}(h:Vq w b P fl D pc col)(hp:Q.Pl w' D.pb P' pc')(hf:Q.Fr w pc w' pc'):
 Vq w' b P' fl D pc' (ip col w w' 5)/\Vf w col w' (ip col w w' 5):=by
 have old:∀{k:Nat},col k≠0->ip col w w' 5 k=col k:=λhk=>iR (h.lt _ hk)
 have nz:∀{k c:Nat},col k=c->c≠5->¬(pc k≠0):=λe h5 hk=>h5 (by rw[<-e];exact h.cp _ hk)
 have sz:=hf.b.size;have cont:∀{p:Pv},Pz (λk=>col k=6) w p->Pz (λk=>ip col w w' 5 k=6) w' p:=λhz=>(hz.but hf.b (λk _ e=>nz e (by decide))).mono (λk hk e=>by rw[old (by omega)];exact e)
 refine⟨⟨hf.b.same h.box (nz h.cb (by decide)),h.mp.but hf.b (nz h.cm (by decide)),h.chr.but hf.b (λx hx=>nz (h.cc x hx) (by decide)),h.acr.but hf.b (λx hx=>nz (h.ca x hx) (by decide)),hp,λk p hp=>cont (h.fz k p hp),λx hx=>cont (h.cz x hx),(old (by rw[h.cb];decide)).trans h.cb,(old (by rw[h.cm];decide)).trans h.cm,λx hx=>(old (by rw[h.cc x hx];decide)).trans (h.cc x hx),λx hx=>(old (by rw[h.ca x hx];decide)).trans (h.ca x hx),λk hk=>?_,λk hk=>ke sz hk⟩,hf.b.mono (λk _ hk=>by rw[h.cp k hk];decide),λk hk=>iR hk⟩
 by_cases hk2:k<w.heap.size
 . rw[iR hk2];exact h.cp k (by rw[<-hf.c k hk2];exact hk)
 . exact jF (by omega) (hp.lt k hk)
theorem uO(w:World)(b:Nat)(P:Q.Po)(fl:Nat)(D:Vd)(pc col:Nat->Nat)(h:Vq w b P fl D pc col)(n:Int):
 Calls Tryz.prog 95 #[.pointer (some ⟨b,0,none⟩),.int .i64 n] w λe w'=>e=.returned (.bool (decide (0<P.count n)))/\w'=w:=by
 obtain⟨c0,-,-,-,-⟩:=h.cells;have CO:=ig (Q.lz w D.pb P pc h.pool n);clear h;generalize P.count n=c at *;go_enter Tryz.func95,Tryz.ntmps95;go_wp2_with fail
 refine CO.o.mono ?_;rintro _ wq ⟨rfl,hwq⟩;obtain rfl:=hwq.symm;go_wp2;go_ret;exact⟨rfl,rfl⟩
theorem yo(w:World)(b:Nat)(P:Q.Po)(fl:Nat)(D:Vd)(pc col:Nat->Nat)(h:Vq w b P fl D pc col)(n:Int):
 Calls Tryz.prog 96 #[.pointer (some ⟨b,0,none⟩),.int .i64 n] w λe w'=>e=.returned (.bool (decide (P.state n=3)&&decide (P.count n=1)))/\Below w.heap.size w w':=by
 obtain⟨c0,-,-,-,-⟩:=h.cells;have ST:=ig (Q.mG w D.pb P pc h.pool n);have CO:=ig λ(W:World)(hb:Below w.heap.size w W)=>Q.lz W D.pb P pc (h.pool.keep hb) n
 have C0:=ig λ(W:World)(hb:Below w.heap.size w W)=>(hb.cell (p:=⟨b,0,none⟩) (block_lt_of_cell c0)).trans c0
 clear h;generalize P.count n=c at *;generalize P.state n=s at *;by_cases hs:s=3
 . subst hs;rw[ay rfl,fI];by_cases hc:c=1
   . subst hc;rw[ay rfl];go_enter Tryz.func96,Tryz.ntmps96;go_wp2_with fail
     refine ST.o.mono ?_;rintro _ w1 ⟨rfl,hb⟩;have HB:=ig hb;have c1:=C0.o _ hb;clear hb;go_wp2_with fail
     refine(CO.o _ HB.o).mono ?_;rintro _ wq ⟨rfl,hwq⟩;obtain rfl:=hwq.symm;go_wp2;go_ret;exact⟨rfl,HB.o⟩
   . have e:(c==1)=false:=by simp[hc]
     rw[ax hc];go_enter Tryz.func96,Tryz.ntmps96;go_wp2_with fail
     refine ST.o.mono ?_;rintro _ w1 ⟨rfl,hb⟩;have HB:=ig hb;have c1:=C0.o _ hb;clear hb;go_wp2_with fail
     refine(CO.o _ HB.o).mono ?_;rintro _ wq ⟨rfl,hwq⟩;obtain rfl:=hwq.symm;go_wp2;go_ret;exact⟨rfl,HB.o⟩
 . have e:((s:Int)==3)=false:=by simp;omega
   rw[ax hs,ew];clear hs;go_enter Tryz.func96,Tryz.ntmps96;go_wp2_with fail
   refine ST.o.mono ?_;rintro _ w1 ⟨rfl,hb⟩;have HB:=ig hb;clear hb;go_wp2;go_ret;exact⟨rfl,HB.o⟩
def iQ(f:Int->Option Pv)(n:Int)(p:Pv):Int->Option Pv:=λk=>if k=n then (if p.kind=0 then none else some p) else f k
theorem Vq.mapped{b:Nat}{D:Vd}(h:Vq w b P fl D pc col){f':Int->Option Pv}(hm:Mp w' D.mb (λk=>(f' k).map Pv.vl))(hb:But (λk=>k=D.mb) w w')(hz:∀k p,f' k=some p->Pz (λk=>col k=6) w p):Vq w' b P fl {D with f:=f'} pc col:=by
 have ne:∀{k:Nat},col k≠2->¬(k=D.mb):=λh1 e=>h1 (by rw[e];exact h.cm)
 exact⟨hb.same h.box (ne (by rw[h.cb];decide)),hm,h.chr.but hb (λx hx=>ne (by rw[h.cc x hx];decide)),h.acr.but hb (λx hx=>ne (by rw[h.ca x hx];decide)),h.pool.but hb (λk hk=>ne (by rw[h.cp k hk];decide)),λk p hp=>(hz k p hp).but hb (λk _ e=>ne (by omega)),λx hx=>(h.cz x hx).but hb (λk _ e=>ne (by omega)),h.cb,h.cm,h.cc,h.ca,h.cp,λk hk=>aZ (h.lt k hk) hb.size⟩
theorem Dr(f:Int->Option Pv)(n:Int)(p:Pv)(hp:p.kind≠0):(λk=>(iQ f n p k).map Pv.vl)=lw (λk=>(f k).map Pv.vl) n p.vl:=by
 funext k
 unfold iQ lw;split
 . simp
 . rfl
theorem D9(f:Int->Option Pv)(n:Int)(p:Pv)(hp:p.kind=0):(λk=>(iQ f n p k).map Pv.vl)=nf (λk=>(f k).map Pv.vl) n:=by
 funext k
 unfold iQ nf;split
 . simp
 . rfl
theorem yw{f:Int->Option Pv}{n:Int}(hf:∀k p,f k=some p->Pz C w p)(hp:Pz C w p):∀k q,iQ f n p k=some q->Pz C w q:=λk q e=>by
 unfold iQ at e;split at e
 . split at e
   . cases e
   . cases e;exact hp
 . exact hf k q e
theorem rH:Tryz.prog.underlying 81=some (.map 3 31):=Tryz.underlying81
theorem ui:Tryz.prog.underlying 3=some (.int .i64):=Tryz.underlying3
theorem uB(w:World)(b:Nat)(P:Q.Po)(fl:Nat)(D:Vd)(pc col:Nat->Nat)(h:Vq w b P fl D pc col)(n:Int)(p:Pv)(hp:Pz (λk=>col k=6) w p):
 Calls Tryz.prog 161 #[.pointer (some ⟨b,0,none⟩),.int .i64 n,p.vl] w λe w'=>e=.returned (.tuple #[])/\Vq w' b P fl {D with f:=iQ D.f n p} pc col/\Vf w col w' col:=by
 have aB:=al w (.cells p.cs 31);have hk:=h.keep aB;obtain⟨c0,c1,-,-,-⟩:=hk.cells;by_cases h0:p.kind=0
 . obtain⟨w2,hr,hm,hb,hs⟩:=hk.mp.drop rH ui n 3
   have FIN:Hid (Vq w2 b P fl {D with f:=iQ D.f n p} pc col/\Vf w col w2 col):=by
    rw[<-D9 D.f n p h0] at hm;refine⟨hk.mapped hm hb (yw hk.fz (hp.keep aB)),((But.ofBelow (S:=λk=>1<=col k/\col k<=5) aB).trans hb (λk _ e=>?_)),λ_ _=>rfl⟩
    rw[show k=D.mb from e,h.cm];decide
   have hx:=az w (.cells p.cs 31);obtain⟨kind,level,aI,cI,items,aD,cD,data,next⟩:=p
   simp only at h0;subst h0;unfold Pv.vl;simp only[Pv.cs] at *;clear h hk hp hm hb hs aB;go_enter Tryz.func161,Tryz.ntmps161;go_wp2;go_end0
   exact⟨rfl,FIN.o⟩
 . have aD:=bt aB (Q.drw _);have hkd:=h.keep aD;obtain⟨d0,d1,-,-,-⟩:=hkd.cells;obtain⟨w2,hr,hm,hb,hs⟩:=hkd.mp.store rH ui n p.vl
   have FIN:Hid (Vq w2 b P fl {D with f:=iQ D.f n p} pc col/\Vf w col w2 col):=by
    rw[<-Dr D.f n p h0] at hm;refine⟨hkd.mapped hm hb (yw hkd.fz (hp.keep aD)),((But.ofBelow (S:=λk=>1<=col k/\col k<=5) aD).trans hb (λk _ e=>?_)),λ_ _=>rfl⟩
    rw[show k=D.mb from e,h.cm];decide
   have hx:=az w (.cells p.cs 31);obtain⟨kind,level,aI,cI,items,aD',cD,data,next⟩:=p
   simp only at h0;have e0:(kind==0)=false:=by simp[h0]
   unfold Pv.vl at *;simp only[Pv.cs] at *;clear h hk hkd hp hm hb hs aB aD;go_enter Tryz.func161,Tryz.ntmps161;go_wp2_with fail
   go_region
   all_goals
    go_wp2;go_end0
    exact⟨rfl,FIN.o⟩
theorem Cr:(Tryz.prog.info? 187).map (λi=>(i.zero,i.size,i.bytes))=some (some (.agg #[.int .i64 0,.int .i64 0,.int .i64 0,.slice none 0 0,.slice none 0 0,.int .i64 0]),6,80):=by kernel_rfl
def chv(x:Int×Pv):List Value:=.int .i64 x.1::x.2.cs.toList
theorem Bn(L:List (Int×Pv))(x:Int×Pv):chc (L++[x])=chc L++chv x:=by rw[nh];simp[chc,chv]
theorem C9(w:World)(ty:TypeId)(a:Option Addr)(n cap:Nat)(L:List (Int×Pv))(hR:Q.Gw 187 6 w a cap n (chc L))(ad:Addr)(c:Nat)(x:Int×Pv)(hc:∀j u,(chv x)[j]?=some u->w.cell? (ad.add j)=some u)(hlen:n+1<=1759218604441):
 ∃g cap' w',(Builtin.append_ #[82,82] ty #[.slice a n cap,.slice (some ad) 1 c]).run Tryz.prog w=.ok (.slice (some ⟨g,0,none⟩) (n+1) cap') w'/\
  Q.Gw 187 6 w' (some ⟨g,0,none⟩) cap' (n+1) (chc (L++[x]))/\New w a (some ⟨g,0,none⟩)/\But (Q.InA a) w w':=by
 obtain⟨i0,hi,hz0,hz1,hz2⟩:=dc Cr;have hb:(n+1)*80<=140737488355328:=by omega
 obtain⟨g,cap',w',hr,k1,k2,k3,k4⟩:=dE (P:=Tryz.prog) w 82 ty 0 187 i0 (.agg #[.int .i64 0,.int .i64 0,.int .i64 0,.slice none 0 0,.slice none 0 0,.int .i64 0]) 6 80 Tryz.underlying82 hi hz0 hz1 hz2 rfl (by decide) (.slice a n cap) n (chc L) hR ad 1 c (chv x) rfl hc (by intro u hu;simp[chv,Pv.cs] at hu;rcases hu with rfl|rfl|rfl|rfl|rfl|rfl<;>rfl) (by decide) (by unfold maxLen;omega) hb (aF _) w.heap.size rfl
 rw[jN] at k2 k3;refine⟨g,cap',w',hr,by rw[Bn];exact k1,?_,But.inA k2⟩
 intro y hy;simp only[aE] at hy;subst hy;rcases k3 with k3|k3
 . obtain⟨z,hz,e⟩:=map_some k3;exact .inl ⟨z,hz,e⟩
 . exact .inr (by show _<=g;omega)
theorem zG{w:World}{ops:Array Oper}{o:Oper}{a:Act}{K:Act->World->Prop}{Q':Exit->Act->World->Prop}{E:Prop}(hgd:o.guard=none)(s x:Operand)
 (ho:o.op=.call {callee:=.builtin .append,args:=#[s,x],argTypes:=#[82,82]}) (ao:Option Addr) (n cap:Nat) (L:List (Int×Pv)) (hs:a.eval s=.slice ao n cap) (hR:Q.Gw 187 6 w ao cap n (chc L))
 (ad:Addr) (c:Nat) (t:Int×Pv) (hx:a.eval x=.slice (some ad) 1 c) (hc:∀j u,(chv t)[j]?=some u->w.cell? (ad.add j)=some u) (hlen:n+1<=1759218604441)
 (h:∀g cap' w',Q.Gw 187 6 w' (some ⟨g,0,none⟩) cap' (n+1) (chc (L++[t]))->New w ao (some ⟨g,0,none⟩)->But (Q.InA ao) w w'->K (a.put o.dst (.slice (some ⟨g,0,none⟩) (n+1) cap')) w'):
 if Region.wanted o (yielded ops a.tmps)=true then Oper.wp Tryz.prog o a w K Q' else E:=by
 have hw:Region.wanted o (yielded ops a.tmps)=true:=by simp[Region.wanted,hgd]
 rw[if_pos hw];obtain⟨g,cap',w',hr,h1,h2,h3⟩:=C9 w o.type ao n cap L hR ad c t hc hlen;unfold Oper.wp execOp;simp only[ho,resolve,invoke,builtin,dt,du,bO,cJ,bC,cZ,hs,hx,hr];exact h g cap' w' h1 h2 h3
theorem Vq.grew{w W w5:World}{b:Nat}{P:Q.Po}{fl:Nat}{D:Vd}{pc col:Nat->Nat}(h:Vq w b P fl D pc col)(hW:Below w.heap.size w W){g cap':Nat}{x:Int×Pv}(hx:Pz (λk=>col k=6) w x.2)
 (hR:Q.Gw 187 6 w5 (some ⟨g,0,none⟩) cap' (D.ch.length+1) (chc (D.ch++[x]))) (hN:New W D.ac (some ⟨g,0,none⟩)) (hB:But (Q.InA D.ac) W w5):
 Vq (w5.setCell ⟨b,2,none⟩ (.slice (some ⟨g,0,none⟩) (D.ch.length+1) cap')) b P fl {D with ac:=some ⟨g,0,none⟩,cc:=cap',ch:=D.ch++[x]} pc (ip col w w5 3)/\Vf w col (w5.setCell ⟨b,2,none⟩ (.slice (some ⟨g,0,none⟩) (D.ch.length+1) cap')) (ip col w w5 3):=by
 have B5:But (Q.InA D.ac) w w5:=(But.ofBelow (S:=Q.InA D.ac) hW).trans hB (λ_ _ e=>e)
 have bw:But (λk=>k=b\/Q.InA D.ac k) w (w5.setCell ⟨b,2,none⟩ (.slice (some ⟨g,0,none⟩) (D.ch.length+1) cap')):=(B5.mono (T:=λk=>k=b\/Q.InA D.ac k) λ_ _ e=>.inr e).setCell (p:=⟨b,2,none⟩) (λ_=>.inl rfl) _
 have bs:But (λk=>k=b) w5 (w5.setCell ⟨b,2,none⟩ (.slice (some ⟨g,0,none⟩) (D.ch.length+1) cap')):=(But.refl (λk=>k=b) w5).setCell (p:=⟨b,2,none⟩) (λ_=>rfl) _
 have ne:∀{k:Nat},col k≠1->col k≠3->¬(k=b\/Q.InA D.ac k):=λh1 h3 e=>by
  rcases e with rfl|⟨y,hy,rfl⟩
  . exact h1 h.cb
  . exact h3 (h.cc y hy)
 have old:∀{k:Nat},col k≠0->ip col w w5 3 k=col k:=λhk=>iR (h.lt _ hk)
 have s5:=B5.size
 have gc:ip col w w5 3 g=3:=by
  rcases hN ⟨g,0,none⟩ rfl with⟨y,hy,e⟩|h2
  . have e:y.block=g:=e;rw[<-e,old (by rw[h.cc y hy];decide)];exact h.cc y hy
  . have h2:W.heap.size<=g:=h2;exact jF (aO hW.size h2) (hR.lt rfl)
 have gb:g≠b:=λe=>by rw[e,old (by rw[h.cb];decide),h.cb] at gc;cases gc
 have b5:w5.heap[b]?=_:=B5.same h.box (λ⟨y,hy,e⟩=>by have:=h.cc y hy;rw[e,h.cb] at this;cases this)
 have cont:∀{p:Pv},Pz (λk=>col k=6) w p->Pz (λk=>ip col w w5 3 k=6) (w5.setCell ⟨b,2,none⟩ (.slice (some ⟨g,0,none⟩) (D.ch.length+1) cap')) p:=λhz=>(hz.but bw (λk _ e=>ne (by omega) (by omega))).mono (λk hk e=>by rw[old (by omega)];exact e)
 refine⟨⟨?_,h.mp.but bw (ne (by rw[h.cm];decide) (by rw[h.cm];decide)),?_,h.acr.but bw (λx hx=>ne (by rw[h.ca x hx];decide) (by rw[h.ca x hx];decide)),h.pool.but bw (λk hk=>ne (by rw[h.cp k hk];decide) (by rw[h.cp k hk];decide)),λk p hp=>cont (h.fz k p hp),λy hy=>?_,(old (by rw[h.cb];decide)).trans h.cb,(old (by rw[h.cm];decide)).trans h.cm,λy hy=>?_,λy hy=>(old (by rw[h.ca y hy];decide)).trans (h.ca y hy),λk hk=>(old (by rw[h.cp k hk];decide)).trans (h.cp k hk),λk hk=>aZ (ke s5 hk) bs.size⟩,bw.mono (λk _ e=>?_),λk hk=>iR hk⟩
 . rw[aM _ _ _ _ _ _ b5];show some (Obj.cells _ _ _)=some (Obj.cells (kL fl _) _ _);unfold kL;rw[ae];rfl
 . show Q.Gw _ _ _ _ _ (D.ch++[x]).length _;rw[ae];exact hR.but bs (λy hy=>by cases hy;exact gb)
 . rcases bm.1 hy with hy|hy
   . exact cont (h.cz y hy)
   . rw[aQ] at hy;subst hy;exact cont hx
 . cases hy;exact gc
 . rcases e with rfl|⟨y,hy,rfl⟩
   . rw[h.cb];decide
   . rw[h.cc y hy];decide
def lN(D:Vd)(n:Int):Pv:=(D.f n).getD Pv.zero
theorem vX{w:World}{b:Nat}{P:Q.Po}{fl:Nat}{D:Vd}{pc col:Nat->Nat}(h:Vq w b P fl D pc col)(n:Int):Pz (λk=>col k=6) w (lN D n):=by
 unfold lN;cases e:D.f n with
 |none=>exact Pz.zero _ _
 |some p=>exact h.fz n p e
theorem rB{w:World}{b:Nat}{P:Q.Po}{fl:Nat}{D:Vd}{pc col:Nat->Nat}(h:Vq w b P fl D pc col)(n:Int):(Instr.lookup 81 (.map (some D.mb)) (.int .i64 n) false).run Tryz.prog w=.ok (lN D n).vl w:=by
 have k:=h.mp.look (P:=Tryz.prog) rH ui (Pv.zero).vl (Tryz.zeroValue31 w) n false;rw[k];unfold lN;cases e:D.f n with
 |none=>simp
 |some p=>simp
theorem iv{W:World}{g:Nat}{v0 v1 v2 v3 v4:Value}{t:TypeId}(h:W.heap[g]?=some (.cells #[v0,v1,v2,v3,v4] t (0,0))):W.cell? ⟨g,0,none⟩=some v0/\W.cell? ⟨g,1,none⟩=some v1/\W.cell? ⟨g,2,none⟩=some v2/\W.cell? ⟨g,3,none⟩=some v3/\W.cell? ⟨g,4,none⟩=some v4:=by
 rw[au _ _ _ _ _ _ h,au _ _ _ _ _ _ h,au _ _ _ _ _ _ h,au _ _ _ _ _ _ h,au _ _ _ _ _ _ h];exact⟨rfl,rfl,rfl,rfl,rfl⟩
theorem vz(w:World)(b:Nat)(P:Q.Po)(fl:Nat)(D:Vd)(pc col:Nat->Nat)(h:Vq w b P fl D pc col)(n:Int)(p:Pv)(hp:Pz (λk=>col k=6) w p)(hlen:D.ch.length+1<=1759218604441):
 Calls Tryz.prog 131 #[.pointer (some ⟨b,0,none⟩),.int .i64 n,p.vl] w λe w'=>e=.returned (.tuple #[])/\∃ac' cc' col',Vq w' b P fl {D with f:=iQ D.f n p,ch:=D.ch++[(n,lN D n)],ac:=ac',cc:=cc'} pc col'/\Vf w col w' col':=by
 have aB:=al w (.cells p.cs 31);have aD:=bt aB (Q.drw _);have hkd:=h.keep aD;obtain⟨-,d1,d2,-,-⟩:=hkd.cells;obtain⟨-,e1,e2,-,-⟩:=h.cells;have hl:=rB hkd n;have hx:=az w (.cells p.cs 31);have hbl:=h.lb;obtain⟨q,hq⟩:∃q,lN D n=q:=⟨_,rfl⟩;have QZ:Hid (Pz (λk=>col k=6) w q):=by show Pz _ _ _;rw[<-hq];exact vX h n
 rw[hq] at hl;obtain⟨nn,hnn⟩:∃nn,D.ch.length=nn:=⟨_,rfl⟩;have SZ:Hid (((w.alloc (.cells p.cs 31)).drew).heap.size=w.heap.size+1):=size_alloc w _;have aC:=bt (bt aB (al (w.alloc (.cells p.cs 31)) (.cells (chv (n,q)).toArray 187))) (Q.drw _);have G5:=ig (h.keep aC).chr
 have NW:Hid (∀j u,(chv (n,q))[j]?=some u->((w.alloc (.cells p.cs 31)).alloc (.cells (chv (n,q)).toArray 187)).drew.cell? ((⟨w.heap.size+1,0,none⟩:Addr).add j)=some u):=λj u hj=>by
  have hc:=az (w.alloc (.cells p.cs 31)) (.cells (chv (n,q)).toArray 187);rw[size_alloc] at hc;have hc:((w.alloc (.cells p.cs 31)).alloc (.cells (chv (n,q)).toArray 187)).drew.heap[w.heap.size+1]?=_:=hc;rw[show((⟨w.heap.size+1,0,none⟩:Addr).add j)=⟨w.heap.size+1,j,none⟩ by simp[Addr.add];omega,au _ _ _ _ _ _ hc,eW]
  exact hj
 have FIN:Hid (∀(g cap':Nat)(w5:World),Q.Gw 187 6 w5 (some ⟨g,0,none⟩) cap' (nn+1) (chc (D.ch++[(n,q)]))->New ((w.alloc (.cells p.cs 31)).alloc (.cells (chv (n,q)).toArray 187)).drew D.ac (some ⟨g,0,none⟩)->But (Q.InA D.ac) ((w.alloc (.cells p.cs 31)).alloc (.cells (chv (n,q)).toArray 187)).drew w5->
  (w5.cell? ⟨b,2,none⟩=some (.slice D.ac nn D.cc)/\w5.frozen? ⟨b,2,none⟩=false)/\w5.heap[w.heap.size]?=some (.cells p.cs 31 (0,0))/\Vq (w5.setCell ⟨b,2,none⟩ (.slice (some ⟨g,0,none⟩) (nn+1) cap')) b P fl {D with ac:=some ⟨g,0,none⟩,cc:=cap',ch:=D.ch++[(n,q)]} pc (ip col w w5 3)/\Vf w col (w5.setCell ⟨b,2,none⟩ (.slice (some ⟨g,0,none⟩) (nn+1) cap')) (ip col w w5 3)):=by
  intro g cap' w5 hR hN hB;rw[<-hnn] at hR ⊢;obtain⟨v1,v2⟩:=h.grew aC QZ.o hR hN hB;have hcb:=(h.keep aC).box;have ni:¬Q.InA D.ac b:=λ⟨y,hy,e⟩=>by have:=h.cc y hy;rw[e,h.cb] at this;cases this
  have b5:=hB.same hcb ni;refine⟨⟨by rw[au _ _ _ _ _ _ b5];rfl,by simp[World.frozen?,b5]⟩,?_,v1,v2⟩
  have hx2:((w.alloc (.cells p.cs 31)).alloc (.cells (chv (n,q)).toArray 187)).drew.heap[w.heap.size]?=some (.cells p.cs 31 (0,0)):=((al (w.alloc (.cells p.cs 31)) (.cells (chv (n,q)).toArray 187)).block w.heap.size (by rw[size_alloc];omega)).trans hx
  refine hB.same hx2 (λ⟨y,hy,e⟩=>?_)
  have:=h.lt y.block (by rw[h.cc y hy];decide)
  omega
 have PZ:Hid (∀(w5 W:World),Vf w col W (ip col w w5 3)->Pz (λk=>ip col w w5 3 k=6) W p):=λw5 W hf=>(hp.but hf.b (λk _ e hk=>by omega)).mono (λk hk e=>by rw[iR (h.lt k (by omega))];exact e)
 rw[hnn] at d2 e2 G5 hlen;have HLEN:=ig hlen;have HQ:=ig hq;clear h hkd hp aB aD aC hnn hq hx hlen;obtain⟨k2,l2,aI2,cI2,it2,aD2,cD2,da2,nx2⟩:=q;unfold chv at NW FIN;unfold Pv.vl at hl;simp only[Pv.cs] at hl NW FIN;have VS:=ig λ(W:World)(D':Vd)(c':Nat->Nat)(hV:Vq W b P fl D' pc c')(hz:Pz (λk=>c' k=6) W p)=>uB W b P fl D' pc c' hV n p hz
 obtain⟨kp,lp,aIp,cIp,itp,aDp,cDp,dap,nxp⟩:=p;unfold Pv.vl at *;simp only[Pv.cs] at *;go_enter Tryz.func131,Tryz.ntmps131;go_wp2_with fail
 go_region_law
  (refine zG rfl _ _ rfl D.ac nn D.cc D.ch (by first|(simp[Act.eval];done)|simp[Act.eval,Act.put]) G5.o ⟨w.heap.size+1,0,none⟩ 1 (n,⟨k2,l2,aI2,cI2,it2,aD2,cD2,da2,nx2⟩) (by first|(simp[Act.eval];done)|simp[Act.eval,Act.put]) NW.o HLEN.o ?_
   intro g cap' w5 hR hN hB;obtain⟨⟨cS,fS⟩,hbx,v1,v2⟩:=FIN.o g cap' w5 hR hN hB;have V1:=ig v1;have V2:=ig v2;have HBX:=ig hbx;clear hR hN hB v1 v2 hbx)
 all_goals
  have hb6:=(Below.heap_setCell w5 ⟨b,2,none⟩ (.slice (some ⟨g,0,none⟩) (nn+1) cap') w.heap.size (show w.heap.size≠b by omega)).trans HBX.o
  obtain⟨x0,x1,x2,x3,x4⟩:=iv hb6;have ZP:=ig (PZ.o w5 _ V2.o);clear hb6 cS fS e1 e2 HBX FIN PZ;generalize w5.setCell ⟨b,2,none⟩ (.slice (some ⟨g,0,none⟩) (nn+1) cap')=w6 at *;go_wp2_with fail
  refine(VS.o _ _ _ V1.o ZP.o).mono ?_;rintro _ w7 ⟨rfl,hv,hf⟩;have HV:=ig hv;have HF:=ig (V2.o.trans hf);clear hv hf x0 x1 x2 x3 x4;go_wp2;go_end0
  exact⟨rfl,_,_,_,by rw[HQ.o];exact HV.o,HF.o⟩
theorem wi:(Tryz.prog.info? 137).map (·.size)=some 2:=by kernel_rfl
theorem iZ(w:World)(g:Nat)(cs:Array Value):But (λk=>k=g) w (w.setRow g cs):=Q.iK w g cs
theorem kQ(w:World)(b:Nat)(P:Q.Po)(fl:Nat)(D:Vd)(pc col:Nat->Nat)(h:Vq w b P fl D pc col)(hm:fl+D.al.length<=9223372036854775807):
 Calls Tryz.prog 54 #[.pointer (some ⟨b,0,none⟩)] w λe w'=>e=.returned (.int .i64 ((fl+D.al.length:Nat):Int))/\Below w.heap.size w w':=by
 obtain⟨-,-,-,c3,c4⟩:=h.cells;clear h;generalize D.al.length=n at *;have e:IntKind.i64.wrap ((fl:Int)+(n:Int))=((fl+n:Nat):Int):=by rw[iw (by omega) (by omega)];omega
 go_enter Tryz.func54,Tryz.ntmps54;go_wp2;go_quiet (fail)
 go_wp2;go_ret;exact⟨rfl,drN _ _⟩
theorem zt(w:World)(b:Nat)(P:Q.Po)(fl:Nat)(D:Vd)(pc col:Nat->Nat)(h:Vq w b P fl D pc col)(hm:P.mark<=9223372036854775807):
 Calls Tryz.prog 97 #[.pointer (some ⟨b,0,none⟩)] w λe w'=>e=.returned (.agg #[.int .i64 ((P.mark:Nat):Int),.int .i64 ((D.ch.length:Nat):Int)])/\Below w.heap.size w w':=by
 obtain⟨c0,-,c2,-,-⟩:=h.cells;have MK:=ig λ(W:World)(hb:Below w.heap.size w W)=>Q.DJ W D.pb P pc (h.pool.keep hb) hm
 have SK:Hid (∀W:World,Below w.heap.size w W->W.cell? ⟨b,0,none⟩=some (.pointer (some ⟨D.pb,0,none⟩))/\W.cell? ⟨b,2,none⟩=some (.slice D.ac D.ch.length D.cc)):=λW hb=>⟨(hb.cell (p:=⟨b,0,none⟩) (block_lt_of_cell c0)).trans c0,(hb.cell (p:=⟨b,2,none⟩) (block_lt_of_cell c2)).trans c2⟩
 have M1:=ig (az w (.cells #[.int .i64 0,.int .i64 0] 137));have A1:=ig (al w (.cells #[.int .i64 0,.int .i64 0] 137));clear h c0 c2;generalize D.ch.length=n at *;generalize P.mark=mk at *;go_enter Tryz.func97,Tryz.ntmps97;go_wp2_with fail
 refine bu (S:=λW=>W.cell? ⟨b,0,none⟩=some (.pointer (some ⟨D.pb,0,none⟩))/\W.cell? ⟨b,2,none⟩=some (.slice D.ac n D.cc)) (by kernel_rfl) (SK.o _ (bt A1.o (Q.drw _))) (λhHeld=>?_)
 refine tkd 0 1 2 3 ?_;refine tkd 5 6 7 8 ?_;refine tk 9 ?_;refine tw 4 λK hK=>?_
 go_simp;refine(MK.o _ (bt A1.o (Q.drw _))).mono ?_;rintro _ w2 ⟨rfl,hb⟩;have B1:=ig (bt (bt A1.o (Q.drw _)) hb);have M2:Hid (w2.heap[w.heap.size]?=some (.cells #[.int .i64 0,.int .i64 0] 137 (0,0))):=(hb.block w.heap.size (af.1 M1.o).1).trans M1.o;clear hb;go_wp2_with fail
 refine hK.o _ _ (SK.o _ B1.o) (λhHeld=>?_)
 clear hK K;try simp only[pt]
 refine tk 10 ?_;have B2:Hid (Below w.heap.size w (w2.setRow w.heap.size #[.int .i64 ((mk:Nat):Int),.int .i64 ((n:Nat):Int)])):=((But.ofBelow (S:=λ_=>False) B1.o).trans (iZ w2 w.heap.size _) (λk hk e=>by omega)).below (λ_ _ h=>h)
 refine tw 11 λK hK=>?_
 rw[if_pos (by rfl)]
 refine ia 137 _ _ rfl w.heap.size _ rfl rfl 137 _ M2.o wi rfl (by simp[Value.oneCell']) ?_
 refine hK.o _ _ (SK.o _ B2.o) (λhHeld=>?_)
 clear hK K;try simp only[pt]
 refine td ?_;go_wp2_with fail
 refine bU (v:=.agg _) (fh Tryz.results97 _ _ w.heap.size 137 _ (0,0) _ rfl (cY _ _ _ _ _ _ M2.o) Tryz.underlying137 rfl wi) rfl ?_;exact⟨rfl,B2.o⟩
theorem Cq:(Tryz.prog.info? 137).map (λi=>(i.zero,i.size,i.bytes))=some (some (.agg #[.int .i64 0,.int .i64 0]),2,16):=by kernel_rfl
theorem Ea(w:World)(ty:TypeId)(a:Option Addr)(n cap:Nat)(L:List (Nat×Nat))(hR:Q.Gw 137 2 w a cap n (plc L))(ad:Addr)(c:Nat)(x:Nat×Nat)(h0:w.cell? ad=some (.int .i64 ((x.1:Nat):Int)))(h1:w.cell? (ad.add 1)=some (.int .i64 ((x.2:Nat):Int)))(hlen:n+1<=8796093022208):
 ∃g cap' w',(Builtin.append_ #[83,83] ty #[.slice a n cap,.slice (some ad) 1 c]).run Tryz.prog w=.ok (.slice (some ⟨g,0,none⟩) (n+1) cap') w'/\
  Q.Gw 137 2 w' (some ⟨g,0,none⟩) cap' (n+1) (plc (L++[x]))/\New w a (some ⟨g,0,none⟩)/\But (Q.InA a) w w':=by
 obtain⟨i0,hi,hz0,hz1,hz2⟩:=dc Cq;have hb:(n+1)*16<=140737488355328:=by omega
 obtain⟨g,cap',w',hr,k1,k2,k3,k4⟩:=dE (P:=Tryz.prog) w 83 ty 0 137 i0 (.agg #[.int .i64 0,.int .i64 0]) 2 16 Tryz.underlying83 hi hz0 hz1 hz2 rfl (by decide) (.slice a n cap) n (plc L) hR ad 1 c [.int .i64 ((x.1:Nat):Int),.int .i64 ((x.2:Nat):Int)] rfl
  (by intro j u hj
      match j,hj with
      |0,hj=>simp at hj;subst hj;simpa[Addr.add] using h0
      |1,hj=>simp at hj;subst hj;exact h1
      |j+2,hj=>simp at hj) (by intro u hu;simp at hu;rcases hu with rfl|rfl<;>rfl) (by decide) (by unfold maxLen;omega) hb (aF _) w.heap.size rfl
 rw[jN] at k2 k3;refine⟨g,cap',w',hr,by rw[qI];exact k1,?_,But.inA k2⟩
 intro y hy;simp only[aE] at hy;subst hy;rcases k3 with k3|k3
 . obtain⟨z,hz,e⟩:=map_some k3;exact .inl ⟨z,hz,e⟩
 . exact .inr (by show _<=g;omega)
theorem Bg{w:World}{ops:Array Oper}{o:Oper}{a:Act}{K:Act->World->Prop}{Q':Exit->Act->World->Prop}{E:Prop}(hgd:o.guard=none)(s x:Operand)
 (ho:o.op=.call {callee:=.builtin .append,args:=#[s,x],argTypes:=#[83,83]}) (ao:Option Addr) (n cap:Nat) (L:List (Nat×Nat)) (hs:a.eval s=.slice ao n cap) (hR:Q.Gw 137 2 w ao cap n (plc L))
 (ad:Addr) (c:Nat) (t:Nat×Nat) (hx:a.eval x=.slice (some ad) 1 c) (h0:w.cell? ad=some (.int .i64 ((t.1:Nat):Int))) (h1:w.cell? (ad.add 1)=some (.int .i64 ((t.2:Nat):Int))) (hlen:n+1<=8796093022208)
 (h:∀g cap' w',Q.Gw 137 2 w' (some ⟨g,0,none⟩) cap' (n+1) (plc (L++[t]))->New w ao (some ⟨g,0,none⟩)->But (Q.InA ao) w w'->K (a.put o.dst (.slice (some ⟨g,0,none⟩) (n+1) cap')) w'):
 if Region.wanted o (yielded ops a.tmps)=true then Oper.wp Tryz.prog o a w K Q' else E:=by
 have hw:Region.wanted o (yielded ops a.tmps)=true:=by simp[Region.wanted,hgd]
 rw[if_pos hw];obtain⟨g,cap',w',hr,k1,k2,k3⟩:=Ea w o.type ao n cap L hR ad c t h0 h1 hlen;unfold Oper.wp execOp;simp only[ho,resolve,invoke,builtin,dt,du,bO,cJ,bC,cZ,hs,hx,hr];exact h g cap' w' k1 k2 k3
theorem Vq.acted{w W w5:World}{b:Nat}{P:Q.Po}{fl:Nat}{D:Vd}{pc col:Nat->Nat}(h:Vq w b P fl D pc col)(hW:Below w.heap.size w W){g cap':Nat}{x:Nat×Nat}
 (hR:Q.Gw 137 2 w5 (some ⟨g,0,none⟩) cap' (D.al.length+1) (plc (D.al++[x]))) (hN:New W D.aa (some ⟨g,0,none⟩)) (hB:But (Q.InA D.aa) W w5):
 Vq (w5.setCell ⟨b,3,none⟩ (.slice (some ⟨g,0,none⟩) (D.al.length+1) cap')) b P fl {D with aa:=some ⟨g,0,none⟩,ca:=cap',al:=D.al++[x]} pc (ip col w w5 4)/\Vf w col (w5.setCell ⟨b,3,none⟩ (.slice (some ⟨g,0,none⟩) (D.al.length+1) cap')) (ip col w w5 4):=by
 have B5:But (Q.InA D.aa) w w5:=(But.ofBelow (S:=Q.InA D.aa) hW).trans hB (λ_ _ e=>e)
 have bw:But (λk=>k=b\/Q.InA D.aa k) w (w5.setCell ⟨b,3,none⟩ (.slice (some ⟨g,0,none⟩) (D.al.length+1) cap')):=(B5.mono (T:=λk=>k=b\/Q.InA D.aa k) λ_ _ e=>.inr e).setCell (p:=⟨b,3,none⟩) (λ_=>.inl rfl) _
 have bs:But (λk=>k=b) w5 (w5.setCell ⟨b,3,none⟩ (.slice (some ⟨g,0,none⟩) (D.al.length+1) cap')):=(But.refl (λk=>k=b) w5).setCell (p:=⟨b,3,none⟩) (λ_=>rfl) _
 have ne:∀{k:Nat},col k≠1->col k≠4->¬(k=b\/Q.InA D.aa k):=λh1 h3 e=>by
  rcases e with rfl|⟨y,hy,rfl⟩
  . exact h1 h.cb
  . exact h3 (h.ca y hy)
 have old:∀{k:Nat},col k≠0->ip col w w5 4 k=col k:=λhk=>iR (h.lt _ hk)
 have s5:=B5.size
 have gc:ip col w w5 4 g=4:=by
  rcases hN ⟨g,0,none⟩ rfl with⟨y,hy,e⟩|h2
  . have e:y.block=g:=e;rw[<-e,old (by rw[h.ca y hy];decide)];exact h.ca y hy
  . have h2:W.heap.size<=g:=h2;exact jF (aO hW.size h2) (hR.lt rfl)
 have gb:g≠b:=λe=>by rw[e,old (by rw[h.cb];decide),h.cb] at gc;cases gc
 have b5:w5.heap[b]?=_:=B5.same h.box (λ⟨y,hy,e⟩=>by have:=h.ca y hy;rw[e,h.cb] at this;cases this)
 have cont:∀{p:Pv},Pz (λk=>col k=6) w p->Pz (λk=>ip col w w5 4 k=6) (w5.setCell ⟨b,3,none⟩ (.slice (some ⟨g,0,none⟩) (D.al.length+1) cap')) p:=λhz=>(hz.but bw (λk _ e=>ne (by omega) (by omega))).mono (λk hk e=>by rw[old (by omega)];exact e)
 refine⟨⟨?_,h.mp.but bw (ne (by rw[h.cm];decide) (by rw[h.cm];decide)),h.chr.but bw (λx hx=>ne (by rw[h.cc x hx];decide) (by rw[h.cc x hx];decide)),?_,h.pool.but bw (λk hk=>ne (by rw[h.cp k hk];decide) (by rw[h.cp k hk];decide)),λk p hp=>cont (h.fz k p hp),λy hy=>cont (h.cz y hy),(old (by rw[h.cb];decide)).trans h.cb,(old (by rw[h.cm];decide)).trans h.cm,λy hy=>(old (by rw[h.cc y hy];decide)).trans (h.cc y hy),λy hy=>?_,λk hk=>(old (by rw[h.cp k hk];decide)).trans (h.cp k hk),λk hk=>aZ (ke s5 hk) bs.size⟩,bw.mono (λk _ e=>?_),λk hk=>iR hk⟩
 . rw[aM _ _ _ _ _ _ b5];show some (Obj.cells _ _ _)=some (Obj.cells (kL fl _) _ _);unfold kL;rw[ae];rfl
 . show Q.Gw _ _ _ _ _ (D.al++[x]).length _;rw[ae];exact hR.but bs (λy hy=>by cases hy;exact gb)
 . cases hy;exact gc
 . rcases e with rfl|⟨y,hy,rfl⟩
   . rw[h.cb];decide
   . rw[h.ca y hy];decide
theorem Fe(w:World)(b:Nat)(P:Q.Po)(fl:Nat)(D:Vd)(pc col:Nat->Nat)(h:Vq w b P fl D pc col)(x:Nat×Nat)(hlen:D.al.length+1<=8796093022208):
 Calls Tryz.prog 99 #[.pointer (some ⟨b,0,none⟩),.agg #[.int .i64 ((x.1:Nat):Int),.int .i64 ((x.2:Nat):Int)],.int .i64 0] w λe w'=>e=.returned (.int .i64 0)/\∃aa' ca' col',Vq w' b P fl {D with al:=D.al++[x],aa:=aa',ca:=ca'} pc col'/\Vf w col w' col':=by
 obtain⟨u,v⟩:=x;simp only;have aB:=al w (.cells #[.int .i64 ((u:Nat):Int),.int .i64 ((v:Nat):Int)] 137);obtain⟨-,-,-,e3,-⟩:=h.cells;have hbl:=h.lb;have aC:=bt (bt aB (al (w.alloc (.cells #[.int .i64 ((u:Nat):Int),.int .i64 ((v:Nat):Int)] 137)) (.cells #[.int .i64 ((u:Nat):Int),.int .i64 ((v:Nat):Int)] 137))) (Q.drw _);have G5:=ig (h.keep aC).acr;have hc:=az (w.alloc (.cells #[.int .i64 ((u:Nat):Int),.int .i64 ((v:Nat):Int)] 137)) (.cells #[.int .i64 ((u:Nat):Int),.int .i64 ((v:Nat):Int)] 137);rw[size_alloc] at hc;have N0:Hid (((w.alloc (.cells #[.int .i64 ((u:Nat):Int),.int .i64 ((v:Nat):Int)] 137)).alloc (.cells #[.int .i64 ((u:Nat):Int),.int .i64 ((v:Nat):Int)] 137)).drew.cell? ⟨w.heap.size+1,0,none⟩=some (.int .i64 ((u:Nat):Int))):=au _ _ 0 _ _ _ hc;have N1:Hid (((w.alloc (.cells #[.int .i64 ((u:Nat):Int),.int .i64 ((v:Nat):Int)] 137)).alloc (.cells #[.int .i64 ((u:Nat):Int),.int .i64 ((v:Nat):Int)] 137)).drew.cell? ((⟨w.heap.size+1,0,none⟩:Addr).add 1)=some (.int .i64 ((v:Nat):Int))):=au _ _ 1 _ _ _ hc;obtain⟨nn,hnn⟩:∃nn,D.al.length=nn:=⟨_,rfl⟩
 have FIN:Hid (∀(g cap':Nat)(w5:World),Q.Gw 137 2 w5 (some ⟨g,0,none⟩) cap' (nn+1) (plc (D.al++[(u,v)]))->New ((w.alloc (.cells #[.int .i64 ((u:Nat):Int),.int .i64 ((v:Nat):Int)] 137)).alloc (.cells #[.int .i64 ((u:Nat):Int),.int .i64 ((v:Nat):Int)] 137)).drew D.aa (some ⟨g,0,none⟩)->But (Q.InA D.aa) ((w.alloc (.cells #[.int .i64 ((u:Nat):Int),.int .i64 ((v:Nat):Int)] 137)).alloc (.cells #[.int .i64 ((u:Nat):Int),.int .i64 ((v:Nat):Int)] 137)).drew w5->
  (w5.cell? ⟨b,3,none⟩=some (.slice D.aa nn D.ca)/\w5.frozen? ⟨b,3,none⟩=false)/\Vq (w5.setCell ⟨b,3,none⟩ (.slice (some ⟨g,0,none⟩) (nn+1) cap')) b P fl {D with aa:=some ⟨g,0,none⟩,ca:=cap',al:=D.al++[(u,v)]} pc (ip col w w5 4)/\Vf w col (w5.setCell ⟨b,3,none⟩ (.slice (some ⟨g,0,none⟩) (nn+1) cap')) (ip col w w5 4)):=by
  intro g cap' w5 hR hN hB;rw[<-hnn] at hR ⊢;obtain⟨v1,v2⟩:=h.acted aC hR hN hB;have hcb:=(h.keep aC).box;have ni:¬Q.InA D.aa b:=λ⟨y,hy,e⟩=>by have:=h.ca y hy;rw[e,h.cb] at this;cases this
  have b5:=hB.same hcb ni;exact⟨⟨by rw[au _ _ _ _ _ _ b5];rfl,by simp[World.frozen?,b5]⟩,v1,v2⟩
 rw[hnn] at e3 G5 hlen;have HLEN:=ig hlen;clear h aB aC hnn hc hlen;go_enter Tryz.func99,Tryz.ntmps99;go_wp2_with fail
 go_region_law
  (refine Bg rfl _ _ rfl D.aa nn D.ca D.al (by first|(simp[Act.eval];done)|simp[Act.eval,Act.put]) G5.o ⟨w.heap.size+1,0,none⟩ 1 (u,v) (by first|(simp[Act.eval];done)|simp[Act.eval,Act.put]) N0.o N1.o HLEN.o ?_
   intro g cap' w5 hR hN hB;obtain⟨⟨cS,fS⟩,v1,v2⟩:=FIN.o g cap' w5 hR hN hB;have V1:=ig v1;have V2:=ig v2;clear hR hN hB v1 v2)
 all_goals
  clear cS fS e3 FIN;generalize w5.setCell ⟨b,3,none⟩ (.slice (some ⟨g,0,none⟩) (nn+1) cap')=w6 at *;go_wp2;go_ret;exact⟨rfl,_,_,_,V1.o,V2.o⟩
def unl(f:Int->Option Pv)(L:List (Int×Pv)):Int->Option Pv:=L.foldr (λx g=>iQ g x.1 x.2) f
theorem Be(f:Int->Option Pv)(L:List (Int×Pv))(x:Int×Pv):unl f (L++[x])=unl (iQ f x.1 x.2) L:=by simp[unl]
def iA:Int×Pv:=(0,Pv.zero)
theorem mO(x:Int×Pv):(chv x).length=6:=by simp[chv,Pv.cs]
theorem tA(x:Int×Pv)(L:List (Int×Pv)):chc (x::L)=chv x++chc L:=by simp[chc,chv]
theorem rg:∀(L:List (Int×Pv))(i j:Nat),i<L.length->j<6->(chc L)[i*6+j]?=(chv (L.getD i iA))[j]?
 | [],i,j,h,_=>absurd h (by simp)
 |x::L,0,j,h,hj=>by
  rw[tA,dX,bH,br (by rw[mO];exact hj)]
  rfl
 |x::L,i+1,j,h,hj=>by
  rw[tA,bj (by rw[mO];omega),mO,show(i+1)*6+j-6=i*6+j by omega]
  exact rg L i j (by simpa using h) hj
theorem tM(L:List (Int×Pv))(m:Nat)(h:m<=L.length):(chc L).take (m*6)=chc (L.take m):=by
 have e:chc L=chc (L.take m)++chc (L.drop m):=by rw[<-nh,cR]
 rw[e,dJ (by rw[jj,bi];omega),df (by rw[jj,bi];omega)]
theorem DE(L:List (Int×Pv)):∀v∈chc L,v.oneCell'=true:=by
 intro v hv;unfold chc at hv;obtain⟨l,hl,hv⟩:=fW.1 hv;obtain⟨x,hx,rfl⟩:=bG.1 hl;simp[Pv.cs] at hv;rcases hv with rfl|rfl|rfl|rfl|rfl|rfl<;>rfl
theorem sF(n:Nat):(Builtin.zeroCells (chv iA).toArray n).toList=chc (List.replicate n iA):=by
 apply dS;intro i;have hs:(chv iA).toArray.size=6:=rfl;simp only[Builtin.zeroCells,Array.toList_map,Array.toList_range,hs,dm];by_cases hi:i<n*6
 . rw[List.getElem?_range hi];have hr:=rg (List.replicate n iA) (i/6) (i%6) (by simp;omega) (by omega)
   rw[show i/6*6+i%6=i by omega] at hr
   have e:(List.replicate n iA).getD (i/6) iA=iA:=by
    rw[aq,gA];split<;>rfl
   rw[hr,e];show some ((chv iA).toArray[i%6]!)=_;have hj:i%6<6:=by omega
   generalize i%6=j at *;rcases (by omega:j=0\/j=1\/j=2\/j=3\/j=4\/j=5) with rfl|rfl|rfl|rfl|rfl|rfl<;>rfl
 . rw[dz (by simp;omega),dz (by rw[jj];simp;omega)]
   rfl
theorem xu(w:World)(ty:TypeId)(g n cap m c:Nat)(L:List (Int×Pv))(hR:Q.Gw 187 6 w (some ⟨g,0,none⟩) cap n (chc L))(hn:n=L.length)(hm:m<n):
 ∃w',(Builtin.clear_ #[82] ty #[.slice (some ⟨g,m*6,none⟩) (n-m) c]).run Tryz.prog w=.ok (.tuple #[]) w'/\Q.Gw 187 6 w' (some ⟨g,0,none⟩) cap n (chc (L.take m++List.replicate (n-m) iA))/\But (λk=>k=g) w w':=by
 rcases hR.cases with⟨h0,_⟩|⟨g',cur,ha,hg,h1,h2,h3,h4⟩
 . cases h0
 . cases ha;have hl:(chc (List.replicate (n-m) iA)).length=(n-m)*6:=by rw[jj,be]
   have hst:=gH Tryz.prog g (m*6) 187 (chc (List.replicate (n-m) iA)) 0 cur w hg (by rw[hl];omega) (DE _)
   refine⟨w.setRow g (cur.toList.take (m*6+0)++chc (List.replicate (n-m) iA)++cur.toList.drop (m*6+0+(chc (List.replicate (n-m) iA)).length)).toArray,?_,?_,Q.iK w g _⟩
   . obtain⟨d,hd⟩:∃d,n-m=d+1:=⟨n-m-1,by omega⟩
     rw[hd] at hst ⊢;have hz:(Builtin.zeroCells (Value.agg #[.int .i64 0,.int .i64 0,.int .i64 0,.slice none 0 0,.slice none 0 0,.int .i64 0]).cells (d+1)).toList=chc (List.replicate (d+1) iA):=sF (d+1);have hz0:=Tryz.zeroValue187 w;simp[Builtin.clear_,de Tryz.underlying82,hz0,hz,hst]
   . refine Q.Gw.mk (by rw[jj];simp;omega) (cY w g _ _ _ _ hg) h1 h2 ?_ ?_
     . have:=cur.size_eq_length_toList;simp only[da,ae,bi,di,hl];omega
     . have e:cur.toList.take (m*6)=chc (L.take m):=by
        rw[<-tM L m (by omega),<-h4,fd,db (by omega)]
       rw[fF,cE,e,nh,dJ (by rw[ae,hl,jj,bi];omega),df (by rw[ae,hl,jj,bi];omega)]
theorem E8{a:Option Addr}{cap n:Nat}{L:List (Int×Pv)}(h:Q.Gw 187 6 w a cap n (chc L))(hn:n=L.length)(hm:m<=n):Q.Gw 187 6 w a cap m (chc (L.take m)):=by
 rcases h.cases with⟨rfl,rfl,rfl,h4⟩|⟨g,cur,rfl,hg,h1,h2,h3,h4⟩
 . obtain rfl:m=0:=by omega
   exact Q.Gw.nil _ _ _
 . refine Q.Gw.mk (by rw[jj,bi];omega) hg (by omega) h2 h3 ?_
   rw[<-tM L m (by omega),<-h4,fd,db (by omega)]
theorem Vq.cleared{b:Nat}{D:Vd}(h:Vq w b P fl D pc col)(hm:m<D.ch.length):
 ∃g,D.ac=some ⟨g,0,none⟩/\g≠b/\col g=3/\∃w',(Builtin.clear_ #[82] 0 #[.slice (some ⟨g,m*6,none⟩) (D.ch.length-m) (D.cc-m)]).run Tryz.prog w=.ok (.tuple #[]) w'/\Vq w' b P fl {D with ch:=D.ch.take m++List.replicate (D.ch.length-m) iA} pc col/\But (λk=>k=g) w w':=by
 obtain⟨g,ha⟩:=h.chr.addr (by omega)
 have hR:=h.chr;rw[ha] at hR;have c3:col g=3:=h.cc _ ha;have gb:g≠b:=λe=>by rw[e,h.cb] at c3;cases c3
 obtain⟨w',hr,hG,hb⟩:=xu w 0 g D.ch.length D.cc m (D.cc-m) D.ch hR rfl hm;have ne:∀{k:Nat},col k≠3->¬(k=g):=λh1 e=>h1 (by rw[e];exact c3)
 have hl:(D.ch.take m++List.replicate (D.ch.length-m) iA).length=D.ch.length:=by simp;omega
 refine⟨g,ha,gb,c3,w',hr,⟨?_,h.mp.but hb (ne (by rw[h.cm];decide)),?_,h.acr.but hb (λx hx=>ne (by rw[h.ca x hx];decide)),h.pool.but hb (λk hk=>ne (by rw[h.cp k hk];decide)),λk p hp=>(h.fz k p hp).but hb (λk _ e=>ne (by omega)),λx hx=>?_,h.cb,h.cm,h.cc,h.ca,h.cp,λk hk=>aZ (h.lt k hk) hb.size⟩,hb⟩
 . have:=hb.same h.box (ne (by rw[h.cb];decide))
   rw[this];unfold kL;rw[hl]
 . show Q.Gw _ _ _ D.ac D.cc (D.ch.take m++List.replicate (D.ch.length-m) iA).length _;rw[hl,ha];exact hG
 . rcases bm.1 hx with hx|hx
   . exact(h.cz x (fC hx)).but hb (λk _ e=>ne (by omega))
   . rw[(List.mem_replicate.1 hx).2];exact Pz.zero _ _
theorem Vq.cut{b:Nat}{D:Vd}(h:Vq w b P fl D pc col)(hm:m<=D.ch.length):
 Vq (w.setCell ⟨b,2,none⟩ (.slice D.ac m D.cc)) b P fl {D with ch:=D.ch.take m} pc col/\Vf w col (w.setCell ⟨b,2,none⟩ (.slice D.ac m D.cc)) col:=by
 have hb:But (λk=>k=b) w (w.setCell ⟨b,2,none⟩ (.slice D.ac m D.cc)):=(But.refl (λk=>k=b) w).setCell (p:=⟨b,2,none⟩) (λ_=>rfl) _
 have ne:∀{k:Nat},col k≠1->¬(k=b):=λh1 e=>h1 (by rw[e];exact h.cb)
 have hl:(D.ch.take m).length=m:=by rw[bi];omega
 refine⟨⟨?_,h.mp.but hb (ne (by rw[h.cm];decide)),?_,h.acr.but hb (λx hx=>ne (by rw[h.ca x hx];decide)),h.pool.but hb (λk hk=>ne (by rw[h.cp k hk];decide)),λk p hp=>(h.fz k p hp).but hb (λk _ e=>ne (by omega)),λx hx=>(h.cz x (fC hx)).but hb (λk _ e=>ne (by omega)),h.cb,h.cm,h.cc,h.ca,h.cp,λk hk=>aZ (h.lt k hk) hb.size⟩,hb.mono (λk _ e=>by rw[e,h.cb];decide),λ_ _=>rfl⟩
 . rw[aM _ _ _ _ _ _ h.box];show some (Obj.cells _ _ _)=some (Obj.cells (kL fl _) _ _);unfold kL;rw[hl];rfl
 . show Q.Gw _ _ _ D.ac D.cc (D.ch.take m).length _;rw[hl];exact(E8 h.chr rfl hm).but hb (λx hx=>ne (by rw[h.cc x hx];decide))
theorem Vq.change{b:Nat}{D:Vd}(h:Vq w b P fl D pc col){i:Nat}(hi:i<D.ch.length):
 ∃g,D.ac=some ⟨g,0,none⟩/\w.cell? ⟨g,i*6,none⟩=some (.int .i64 (D.ch.getD i iA).1)/\w.cell? ⟨g,i*6+1,none⟩=some (.int .i64 (D.ch.getD i iA).2.kind)/\w.cell? ⟨g,i*6+2,none⟩=some (.int .i64 (D.ch.getD i iA).2.level)/\
  w.cell? ⟨g,i*6+3,none⟩=some (.slice (D.ch.getD i iA).2.aI (D.ch.getD i iA).2.items.length (D.ch.getD i iA).2.cI)/\w.cell? ⟨g,i*6+4,none⟩=some (.slice (D.ch.getD i iA).2.aD (D.ch.getD i iA).2.data.length (D.ch.getD i iA).2.cD)/\w.cell? ⟨g,i*6+5,none⟩=some (.int .i64 (D.ch.getD i iA).2.next):=by
 obtain⟨g,ha⟩:=h.chr.addr (by omega)
 have hR:=h.chr;rw[ha] at hR;have k:∀{j:Nat}{u:Value},j<6->(chv (D.ch.getD i iA))[j]?=some u->w.cell? ⟨g,i*6+j,none⟩=some u:=λhj hu=>hR.cell (by rw[rg _ _ _ hi hj];exact hu)
 exact⟨g,ha,k (j:=0) (by decide) rfl,k (by decide) rfl,k (by decide) rfl,k (by decide) rfl,k (by decide) rfl,k (by decide) rfl⟩
end Go.Proofs.YtbdkogimlbnlmaaGreat
