import Derived.Test.YtbdkogimlbnlmaaGreatWlB1
import Derived.Test.YtbdkogimlbnlmaaGreatWlB6
set_option linter.all false
set_option maxHeartbeats 8000000
set_option maxRecDepth 8000
namespace Go.Proofs.YtbdkogimlbnlmaaGreat
open Tryz
open Go.RowKit
variable {fl g i m:Nat}{col pc:Nat->Nat}{C S:Nat->Prop}{p:Pv}{P:Q.Po}{t:TypeId}{v0 v1:Value}{W w w' w1:World}
def Pz(C:Nat->Prop)(w:World)(p:Pv):Prop:=∀w',But (λk=>¬C k) w w'->Pi w' p
theorem Pz.pi(h:Pz C w p):Pi w p:=h w (But.refl _ _)
theorem Pz.but(h:Pz C w p)(hb:But S w w')(f:∀k,k<w.heap.size->C k->¬S k):Pz C w' p:=λv l=>
 h v ((hb.mono (T:=λk=>¬C k) λk d j b=>f k d b j).trans l λ_ _ e=>e)
theorem Pz.keep(h:Pz C w p)(hb:Below w.heap.size w w'):Pz C w' p:=h.but (S:=λ_=>False) (But.ofBelow hb) (λ_ _ _ h=>h)
theorem Pz.mono{C':Nat->Prop}(h:Pz C w p)(b:∀k,k<w.heap.size->C k->C' k):Pz C' w p:=λv j=>h v (j.mono λk d f e=>f (b k d e))
theorem Pz.zero(C:Nat->Prop)(w:World):Pz C w Pv.zero:=λv _=>Pi.zero v
structure Vd where
 pb:Nat
 mb:Nat
 f:Int->Option Pv
 ac:Option Addr
 cc:Nat
 ch:List (Int×Pv)
 aa:Option Addr
 ca:Nat
 al:List (Nat×Nat)
def lJ(fl:Nat)(D:Vd):Array Value:=#[.pointer (some ⟨D.pb,0,none⟩),.map (some D.mb),.slice D.ac D.ch.length D.cc,.slice D.aa D.al.length D.ca,.int .i64 ((fl:Nat):Int)]
def chc(L:List (Int×Pv)):List Value:=(L.map λx=>Value.int .i64 x.1::x.2.cs.toList).flatten
def plc(L:List (Nat×Nat)):List Value:=(L.map λx=>[Value.int .i64 ((x.1:Nat):Int),Value.int .i64 ((x.2:Nat):Int)]).flatten
theorem oE(A B:List (Int×Pv)):chc (A++B)=chc A++chc B:=by simp[chc]
theorem se(A B:List (Nat×Nat)):plc (A++B)=plc A++plc B:=by simp[plc]
theorem jK:∀(L:List (Int×Pv)),(chc L).length=L.length*6
 | []=>rfl
 |x::L=>by
  have:=jK L;simp only[chc,bL,dZ,ae,bf,Pv.cs] at this ⊢;simp only[bj] at this ⊢;omega
theorem mg:∀(L:List (Nat×Nat)),(plc L).length=L.length*2
 | []=>rfl
 |x::L=>by
  have:=mg L;simp only[plc,bL,dZ,ae,bf,bj] at this ⊢;omega
structure Vq(w:World)(b:Nat)(P:Q.Po)(fl:Nat)(D:Vd)(pc col:Nat->Nat):Prop where
 box:w.heap[b]?=some (.cells (lJ fl D) 85 (0,0))
 mp:Mp w D.mb (λk=>(D.f k).map Pv.vl)
 chr:Q.Gw 187 6 w D.ac D.cc D.ch.length (chc D.ch)
 acr:Q.Gw 137 2 w D.aa D.ca D.al.length (plc D.al)
 pool:Q.Pl w D.pb P pc
 fz:∀k p,D.f k=some p->Pz (λk=>col k=6) w p
 cz:∀x∈D.ch,Pz (λk=>col k=6) w x.2
 cb:col b=1
 cm:col D.mb=2
 cc:∀x,D.ac=some x->col x.block=3
 ca:∀x,D.aa=some x->col x.block=4
 cp:∀k,pc k≠0->col k=5
 lt:∀k,col k≠0->k<w.heap.size
theorem Vq.but{b:Nat}{D:Vd}(h:Vq w b P fl D pc col)(hb:But S w w')(l:∀k,col k≠0->¬S k):Vq w' b P fl D pc col:=by
 have d:∀{k c:Nat},col k=c+1->¬S k:=λe=>l _ (by omega)
 exact⟨hb.same h.box (d (c:=0) h.cb),h.mp.but hb (d (c:=1) h.cm),h.chr.but hb (λx f=>d (c:=2) (h.cc x f)),h.acr.but hb (λx f=>d (c:=3) (h.ca x f)),h.pool.but hb (λk j=>d (c:=4) (h.cp k j)),λk p n=>(h.fz k p n).but hb (λk _ e=>d (c:=5) e),λx f=>(h.cz x f).but hb (λk _ e=>d (c:=5) e),h.cb,h.cm,h.cc,h.ca,h.cp,λk j=>be (h.lt k j) hb.size⟩
theorem Vq.keep{b:Nat}{D:Vd}(h:Vq w b P fl D pc col)(hb:Below w.heap.size w w'):Vq w' b P fl D pc col:=h.but (S:=λ_=>False) (But.ofBelow hb) (λ_ _ h=>h)
theorem Vq.lb{b:Nat}{D:Vd}(h:Vq w b P fl D pc col):b<w.heap.size:=(af.1 h.box).1
theorem Vq.cells{b:Nat}{D:Vd}(h:Vq w b P fl D pc col):w.cell? ⟨b,0,none⟩=some (.pointer (some ⟨D.pb,0,none⟩))/\w.cell? ⟨b,1,none⟩=some (.map (some D.mb))/\w.cell? ⟨b,2,none⟩=some (.slice D.ac D.ch.length D.cc)/\w.cell? ⟨b,3,none⟩=some (.slice D.aa D.al.length D.ca)/\w.cell? ⟨b,4,none⟩=some (.int .i64 ((fl:Nat):Int)):=by
 rw[ay _ _ _ _ _ _ h.box,ay _ _ _ _ _ _ h.box,ay _ _ _ _ _ _ h.box,ay _ _ _ _ _ _ h.box,ay _ _ _ _ _ _ h.box];exact⟨rfl,rfl,rfl,rfl,rfl⟩
theorem Vq.free{b:Nat}{D:Vd}(h:Vq w b P fl D pc col)(i:Nat):w.frozen? ⟨b,i,none⟩=false:=by simp[World.frozen?,h.box]
structure Vf(w:World)(col:Nat->Nat)(w':World)(col':Nat->Nat):Prop where
 b:But (λk=>1<=col k/\col k<=5) w w'
 c:∀k,k<w.heap.size->col' k=col k
theorem Vf.refl(w:World)(col:Nat->Nat):Vf w col w col:=⟨But.refl _ _,λ_ _=>rfl⟩
theorem Vf.trans{e:World}{c c1 c2:Nat->Nat}(h:Vf w c w1 c1)(k:Vf w1 c1 e c2):Vf w c e c2:=
 ⟨h.b.trans k.b (λx b d=>by rw[h.c x b] at d;exact d),λx b=>(k.c x (be b h.b.size)).trans (h.c x b)⟩
theorem Vf.keep{c:Nat->Nat}(h:Below w.heap.size w w'):Vf w c w' c:=⟨But.ofBelow h,λ_ _=>rfl⟩
def iO(col:Nat->Nat)(w w':World)(c k:Nat):Nat:=if k<w.heap.size then col k else if k<w'.heap.size then c else 0
theorem jq{c k:Nat}(h:k<w.heap.size):iO col w w' c k=col k:=if_pos h
theorem ke{c k:Nat}(h:w.heap.size<=k)(b:k<w'.heap.size):iO col w w' c k=c:=by unfold iO;rw[if_neg (by omega),if_pos b]
theorem kU{c k:Nat}(b:w.heap.size<=w'.heap.size)(h:iO col w w' c k≠0):k<w'.heap.size:=by
 unfold iO at h;split at h
 . omega
 . split at h
   . assumption
   . exact absurd rfl h
theorem Vq.pooled{b:Nat}{s:Q.Po}{D:Vd}{r:Nat->Nat}(h:Vq w b P fl D pc col)(q:Q.Pl w' D.pb s r)(j:Q.Fr w pc w' r):
 Vq w' b s fl D r (iO col w w' 5)/\Vf w col w' (iO col w w' 5):=by
 have n:∀{k:Nat},col k≠0->iO col w w' 5 k=col k:=λd=>jq (h.lt _ d)
 have l:∀{k c:Nat},col k=c->c≠5->¬(pc k≠0):=λe A d=>A (by rw[<-e];exact h.cp _ d)
 have sz:=j.b.size;have y:∀{p:Pv},Pz (λk=>col k=6) w p->Pz (λk=>iO col w w' 5 k=6) w' p:=λB=>(B.but j.b (λk _ e=>l e (by decide))).mono (λk d e=>by rw[n (by omega)];exact e)
 refine⟨⟨j.b.same h.box (l h.cb (by decide)),h.mp.but j.b (l h.cm (by decide)),h.chr.but j.b (λx f=>l (h.cc x f) (by decide)),h.acr.but j.b (λx f=>l (h.ca x f) (by decide)),q,λk p q=>y (h.fz k p q),λx f=>y (h.cz x f),(n (by rw[h.cb];decide)).trans h.cb,(n (by rw[h.cm];decide)).trans h.cm,λx f=>(n (by rw[h.cc x f];decide)).trans (h.cc x f),λx f=>(n (by rw[h.ca x f];decide)).trans (h.ca x f),λk d=>?_,λk d=>kU sz d⟩,j.b.mono (λk _ d=>by rw[h.cp k d];decide),λk d=>jq d⟩
 by_cases v:k<w.heap.size
 . rw[jq v];exact h.cp k (by rw[<-j.c k v];exact d)
 . exact ke (by omega) (q.lt k d)
theorem wY(w:World)(b:Nat)(P:Q.Po)(fl:Nat)(D:Vd)(pc col:Nat->Nat)(h:Vq w b P fl D pc col)(n:Int):
 Calls prog 95 #[.pointer (some ⟨b,0,none⟩),.int .i64 n] w λe w'=>e=.returned (.bool (decide (0<P.count n)))/\w'=w:=by
 obtain⟨c0,-,-,-,-⟩:=h.cells;have d:=iJ (Q.mE w D.pb P pc h.pool n);clear h;generalize P.count n=c at *;go_enter func95,ntmps95;go_wp2_with fail
 refine d.o.mono ?_;rintro _ j ⟨rfl,f⟩;obtain rfl:=f.symm;go_wp2;go_ret;exact⟨rfl,rfl⟩
theorem AO(w:World)(b:Nat)(P:Q.Po)(fl:Nat)(D:Vd)(pc col:Nat->Nat)(h:Vq w b P fl D pc col)(n:Int):
 Calls prog 96 #[.pointer (some ⟨b,0,none⟩),.int .i64 n] w λe w'=>e=.returned (.bool (decide (P.state n=3)&&decide (P.count n=1)))/\Below w.heap.size w w':=by
 obtain⟨c0,-,-,-,-⟩:=h.cells;have f:=iJ (Q.oM w D.pb P pc h.pool n);have r:=iJ λ(W:World)(hb:Below w.heap.size w W)=>Q.mE W D.pb P pc (h.pool.keep hb) n
 have q:=iJ λ(W:World)(hb:Below w.heap.size w W)=>(hb.cell (p:=⟨b,0,none⟩) (block_lt_of_cell c0)).trans c0
 clear h;generalize P.count n=c at *;generalize P.state n=s at *;by_cases k:s=3
 . subst k;rw[ax rfl,fZ];by_cases j:c=1
   . subst j;rw[ax rfl];go_enter func96,ntmps96;go_wp2_with fail
     refine f.o.mono ?_;rintro _ w1 ⟨rfl,hb⟩;have d:=iJ hb;have c1:=q.o _ hb;clear hb;go_wp2_with fail
     refine(r.o _ d.o).mono ?_;rintro _ v ⟨rfl,l⟩;obtain rfl:=l.symm;go_wp2;go_ret;exact⟨rfl,d.o⟩
   . have e:(c==1)=false:=by simp[j]
     rw[au j];go_enter func96,ntmps96;go_wp2_with fail
     refine f.o.mono ?_;rintro _ w1 ⟨rfl,hb⟩;have d:=iJ hb;have c1:=q.o _ hb;clear hb;go_wp2_with fail
     refine(r.o _ d.o).mono ?_;rintro _ v ⟨rfl,l⟩;obtain rfl:=l.symm;go_wp2;go_ret;exact⟨rfl,d.o⟩
 . have e:((s:Int)==3)=false:=by simp;omega
   rw[au k,eU];clear k;go_enter func96,ntmps96;go_wp2_with fail
   refine f.o.mono ?_;rintro _ w1 ⟨rfl,hb⟩;have d:=iJ hb;clear hb;go_wp2;go_ret;exact⟨rfl,d.o⟩
def jp(f:Int->Option Pv)(n:Int)(p:Pv):Int->Option Pv:=λk=>if k=n then (if p.kind=0 then none else some p) else f k
theorem Vq.mapped{b:Nat}{D:Vd}(h:Vq w b P fl D pc col){f':Int->Option Pv}(n:Mp w' D.mb (λk=>(f' k).map Pv.vl))(hb:But (λk=>k=D.mb) w w')(r:∀k p,f' k=some p->Pz (λk=>col k=6) w p):Vq w' b P fl {D with f:=f'} pc col:=by
 have ne:∀{k:Nat},col k≠2->¬(k=D.mb):=λl e=>l (by rw[e];exact h.cm)
 exact⟨hb.same h.box (ne (by rw[h.cb];decide)),n,h.chr.but hb (λx d=>ne (by rw[h.cc x d];decide)),h.acr.but hb (λx d=>ne (by rw[h.ca x d];decide)),h.pool.but hb (λk j=>ne (by rw[h.cp k j];decide)),λk p q=>(r k p q).but hb (λk _ e=>ne (by omega)),λx d=>(h.cz x d).but hb (λk _ e=>ne (by omega)),h.cb,h.cm,h.cc,h.ca,h.cp,λk j=>be (h.lt k j) hb.size⟩
theorem EH(f:Int->Option Pv)(n:Int)(p:Pv)(b:p.kind≠0):(λk=>(jp f n p k).map Pv.vl)=lC (λk=>(f k).map Pv.vl) n p.vl:=by
 funext k
 unfold jp lC;split
 . simp
 . rfl
theorem Fs(f:Int->Option Pv)(n:Int)(p:Pv)(b:p.kind=0):(λk=>(jp f n p k).map Pv.vl)=oO (λk=>(f k).map Pv.vl) n:=by
 funext k
 unfold jp oO;split
 . simp
 . rfl
theorem AS{f:Int->Option Pv}{n:Int}(b:∀k p,f k=some p->Pz C w p)(d:Pz C w p):∀k q,jp f n p k=some q->Pz C w q:=λk q e=>by
 unfold jp at e;split at e
 . split at e
   . cases e
   . cases e;exact d
 . exact b k q e
theorem nu:prog.underlying 81=some (.map 3 31):=underlying81
theorem qj:prog.underlying 3=some (.int .i64):=underlying3
theorem uP(w:World)(b:Nat)(P:Q.Po)(fl:Nat)(D:Vd)(pc col:Nat->Nat)(h:Vq w b P fl D pc col)(n:Int)(p:Pv)(x:Pz (λk=>col k=6) w p):
 Calls prog 161 #[.pointer (some ⟨b,0,none⟩),.int .i64 n,p.vl] w λe w'=>e=.returned (.tuple #[])/\Vq w' b P fl {D with f:=jp D.f n p} pc col/\Vf w col w' col:=by
 have j:=al w (.cells p.cs 31);have q:=h.keep j;obtain⟨c0,c1,-,-,-⟩:=q.cells;by_cases l:p.kind=0
 . obtain⟨s,I,d,hb,y⟩:=q.mp.drop nu qj n 3
   have A:Hid (Vq s b P fl {D with f:=jp D.f n p} pc col/\Vf w col s col):=by
    rw[<-Fs D.f n p l] at d;refine⟨q.mapped d hb (AS q.fz (x.keep j)),((But.ofBelow (S:=λk=>1<=col k/\col k<=5) j).trans hb (λk _ e=>?_)),λ_ _=>rfl⟩
    rw[show k=D.mb from e,h.cm];decide
   have J:=aF w (.cells p.cs 31);obtain⟨B,L,E,H,items,r,G,K,next⟩:=p
   simp only at l;subst l;unfold Pv.vl;simp only[Pv.cs] at *;clear h q x d hb y j;go_enter func161,ntmps161;go_wp2;go_end0
   exact⟨rfl,A.o⟩
 . have r:=bt j (Q.drw _);have v:=h.keep r;obtain⟨M,N,-,-,-⟩:=v.cells;obtain⟨s,I,d,hb,y⟩:=v.mp.store nu qj n p.vl
   have A:Hid (Vq s b P fl {D with f:=jp D.f n p} pc col/\Vf w col s col):=by
    rw[<-EH D.f n p l] at d;refine⟨v.mapped d hb (AS v.fz (x.keep r)),((But.ofBelow (S:=λk=>1<=col k/\col k<=5) r).trans hb (λk _ e=>?_)),λ_ _=>rfl⟩
    rw[show k=D.mb from e,h.cm];decide
   have J:=aF w (.cells p.cs 31);obtain⟨B,L,E,H,items,R,G,K,next⟩:=p
   simp only at l;have O:(B==0)=false:=by simp[l]
   unfold Pv.vl at *;simp only[Pv.cs] at *;clear h q v x d hb y j r;go_enter func161,ntmps161;go_wp2_with fail
   go_region
   all_goals
    go_wp2;go_end0
    exact⟨rfl,A.o⟩
theorem Fh:(prog.info? 187).map (λi=>(i.zero,i.size,i.bytes))=some (some (.agg #[.int .i64 0,.int .i64 0,.int .i64 0,.slice none 0 0,.slice none 0 0,.int .i64 0]),6,80):=by kernel_rfl
def chv(x:Int×Pv):List Value:=.int .i64 x.1::x.2.cs.toList
theorem Ec(L:List (Int×Pv))(x:Int×Pv):chc (L++[x])=chc L++chv x:=by rw[oE];simp[chc,chv]
theorem Ff(w:World)(l:TypeId)(a:Option Addr)(n cap:Nat)(L:List (Int×Pv))(q:Q.Gw 187 6 w a cap n (chc L))(d:Addr)(c:Nat)(x:Int×Pv)(r:∀j u,(chv x)[j]?=some u->w.cell? (d.add j)=some u)(J:n+1<=1759218604441):
 ∃g b w',(Builtin.append_ #[82,82] l #[.slice a n cap,.slice (some d) 1 c]).run prog w=.ok (.slice (some ⟨g,0,none⟩) (n+1) b) w'/\
  Q.Gw 187 6 w' (some ⟨g,0,none⟩) b (n+1) (chc (L++[x]))/\New w a (some ⟨g,0,none⟩)/\But (Q.InA a) w w':=by
 obtain⟨B,s,E,G,H⟩:=dr Fh;have hb:(n+1)*80<=140737488355328:=by omega
 obtain⟨g,b,w',v,D,k,k3,I⟩:=dW (P:=prog) w 82 l 0 187 B (.agg #[.int .i64 0,.int .i64 0,.int .i64 0,.slice none 0 0,.slice none 0 0,.int .i64 0]) 6 80 underlying82 s E G H rfl (by decide) (.slice a n cap) n (chc L) q d 1 c (chv x) rfl r (by intro u f;simp[chv,Pv.cs] at f;rcases f with rfl|rfl|rfl|rfl|rfl|rfl<;>rfl) (by decide) (by unfold maxLen;omega) hb (az _) w.heap.size rfl
 rw[kA] at k k3;refine⟨g,b,w',v,by rw[Ec];exact D,?_,But.inA k⟩
 intro y h;simp only[aE] at h;subst h;rcases k3 with k3|k3
 . obtain⟨z,A,e⟩:=map_some k3;exact .inl ⟨z,A,e⟩
 . exact .inr (by show _<=g;omega)
theorem Du{w:World}{f:Array Oper}{o:Oper}{a:Act}{K:Act->World->Prop}{k:Exit->Act->World->Prop}{E:Prop}(I:o.guard=none)(s x:Operand)
 (A:o.op=.call {callee:=.builtin .append,args:=#[s,x],argTypes:=#[82,82]}) (b:Option Addr) (n cap:Nat) (L:List (Int×Pv)) (D:a.eval s=.slice b n cap) (v:Q.Gw 187 6 w b cap n (chc L))
 (e:Addr) (c:Nat) (t:Int×Pv) (H:a.eval x=.slice (some e) 1 c) (y:∀j u,(chv t)[j]?=some u->w.cell? (e.add j)=some u) (J:n+1<=1759218604441)
 (h:∀g d w',Q.Gw 187 6 w' (some ⟨g,0,none⟩) d (n+1) (chc (L++[t]))->New w b (some ⟨g,0,none⟩)->But (Q.InA b) w w'->K (a.put o.dst (.slice (some ⟨g,0,none⟩) (n+1) d)) w'):
 if Region.wanted o (yielded f a.tmps)=true then Oper.wp prog o a w K k else E:=by
 have G:Region.wanted o (yielded f a.tmps)=true:=by simp[Region.wanted,I]
 rw[if_pos G];obtain⟨g,d,w',B,l,q,r⟩:=Ff w o.type b n cap L v e c t y J;unfold Oper.wp execOp;simp only[A,resolve,invoke,builtin,dE,dF,bT,cR,bL,dM,D,H,B];exact h g d w' l q r
theorem Vq.grew{w W w5:World}{b:Nat}{P:Q.Po}{fl:Nat}{D:Vd}{pc col:Nat->Nat}(h:Vq w b P fl D pc col)(A:Below w.heap.size w W){g j:Nat}{x:Int×Pv}(n:Pz (λk=>col k=6) w x.2)
 (v:Q.Gw 187 6 w5 (some ⟨g,0,none⟩) j (D.ch.length+1) (chc (D.ch++[x]))) (J:New W D.ac (some ⟨g,0,none⟩)) (I:But (Q.InA D.ac) W w5):
 Vq (w5.setCell ⟨b,2,none⟩ (.slice (some ⟨g,0,none⟩) (D.ch.length+1) j)) b P fl {D with ac:=some ⟨g,0,none⟩,cc:=j,ch:=D.ch++[x]} pc (iO col w w5 3)/\Vf w col (w5.setCell ⟨b,2,none⟩ (.slice (some ⟨g,0,none⟩) (D.ch.length+1) j)) (iO col w w5 3):=by
 have q:But (Q.InA D.ac) w w5:=(But.ofBelow (S:=Q.InA D.ac) A).trans I (λ_ _ e=>e)
 have l:But (λk=>k=b\/Q.InA D.ac k) w (w5.setCell ⟨b,2,none⟩ (.slice (some ⟨g,0,none⟩) (D.ch.length+1) j)):=(q.mono (T:=λk=>k=b\/Q.InA D.ac k) λ_ _ e=>.inr e).setCell (p:=⟨b,2,none⟩) (λ_=>.inl rfl) _
 have bs:But (λk=>k=b) w5 (w5.setCell ⟨b,2,none⟩ (.slice (some ⟨g,0,none⟩) (D.ch.length+1) j)):=(But.refl (λk=>k=b) w5).setCell (p:=⟨b,2,none⟩) (λ_=>rfl) _
 have ne:∀{k:Nat},col k≠1->col k≠3->¬(k=b\/Q.InA D.ac k):=λG H e=>by
  rcases e with rfl|⟨y,hy,rfl⟩
  . exact G h.cb
  . exact H (h.cc y hy)
 have f:∀{k:Nat},col k≠0->iO col w w5 3 k=col k:=λd=>jq (h.lt _ d)
 have M:=q.size
 have r:iO col w w5 3 g=3:=by
  rcases J ⟨g,0,none⟩ rfl with⟨y,hy,e⟩|h2
  . have e:y.block=g:=e;rw[<-e,f (by rw[h.cc y hy];decide)];exact h.cc y hy
  . have h2:W.heap.size<=g:=h2;exact ke (aO A.size h2) (v.lt rfl)
 have E:g≠b:=λe=>by rw[e,f (by rw[h.cb];decide),h.cb] at r;cases r
 have B:w5.heap[b]?=_:=q.same h.box (λ⟨y,hy,e⟩=>by have:=h.cc y hy;rw[e,h.cb] at this;cases this)
 have s:∀{p:Pv},Pz (λk=>col k=6) w p->Pz (λk=>iO col w w5 3 k=6) (w5.setCell ⟨b,2,none⟩ (.slice (some ⟨g,0,none⟩) (D.ch.length+1) j)) p:=λL=>(L.but l (λk _ e=>ne (by omega) (by omega))).mono (λk d e=>by rw[f (by omega)];exact e)
 refine⟨⟨?_,h.mp.but l (ne (by rw[h.cm];decide) (by rw[h.cm];decide)),?_,h.acr.but l (λx n=>ne (by rw[h.ca x n];decide) (by rw[h.ca x n];decide)),h.pool.but l (λk d=>ne (by rw[h.cp k d];decide) (by rw[h.cp k d];decide)),λk p K=>s (h.fz k p K),λy hy=>?_,(f (by rw[h.cb];decide)).trans h.cb,(f (by rw[h.cm];decide)).trans h.cm,λy hy=>?_,λy hy=>(f (by rw[h.ca y hy];decide)).trans (h.ca y hy),λk d=>(f (by rw[h.cp k d];decide)).trans (h.cp k d),λk d=>be (kU M d) bs.size⟩,l.mono (λk _ e=>?_),λk d=>jq d⟩
 . rw[aY _ _ _ _ _ _ B];show some (Obj.cells _ _ _)=some (Obj.cells (lJ fl _) _ _);unfold lJ;rw[ae];rfl
 . show Q.Gw _ _ _ _ _ (D.ch++[x]).length _;rw[ae];exact v.but bs (λy hy=>by cases hy;exact E)
 . rcases bq.1 hy with hy|hy
   . exact s (h.cz y hy)
   . rw[aQ] at hy;subst hy;exact s n
 . cases hy;exact r
 . rcases e with rfl|⟨y,hy,rfl⟩
   . rw[h.cb];decide
   . rw[h.cc y hy];decide
def mO(D:Vd)(n:Int):Pv:=(D.f n).getD Pv.zero
theorem xu{w:World}{b:Nat}{P:Q.Po}{fl:Nat}{D:Vd}{pc col:Nat->Nat}(h:Vq w b P fl D pc col)(n:Int):Pz (λk=>col k=6) w (mO D n):=by
 unfold mO;cases e:D.f n with
 |none=>exact Pz.zero _ _
 |some p=>exact h.fz n p e
theorem sG{w:World}{b:Nat}{P:Q.Po}{fl:Nat}{D:Vd}{pc col:Nat->Nat}(h:Vq w b P fl D pc col)(n:Int):(Instr.lookup 81 (.map (some D.mb)) (.int .i64 n) false).run prog w=.ok (mO D n).vl w:=by
 have k:=h.mp.look (P:=prog) nu qj (Pv.zero).vl (zeroValue31 w) n false;rw[k];unfold mO;cases e:D.f n with
 |none=>simp
 |some p=>simp
theorem iS{b v3 v4:Value}(h:W.heap[g]?=some (.cells #[v0,v1,b,v3,v4] t (0,0))):W.cell? ⟨g,0,none⟩=some v0/\W.cell? ⟨g,1,none⟩=some v1/\W.cell? ⟨g,2,none⟩=some b/\W.cell? ⟨g,3,none⟩=some v3/\W.cell? ⟨g,4,none⟩=some v4:=by
 rw[ay _ _ _ _ _ _ h,ay _ _ _ _ _ _ h,ay _ _ _ _ _ _ h,ay _ _ _ _ _ _ h,ay _ _ _ _ _ _ h];exact⟨rfl,rfl,rfl,rfl,rfl⟩
theorem xN(w:World)(b:Nat)(P:Q.Po)(fl:Nat)(D:Vd)(pc col:Nat->Nat)(h:Vq w b P fl D pc col)(n:Int)(p:Pv)(hp:Pz (λk=>col k=6) w p)(T:D.ch.length+1<=1759218604441):
 Calls prog 131 #[.pointer (some ⟨b,0,none⟩),.int .i64 n,p.vl] w λe w'=>e=.returned (.tuple #[])/\∃ag aj col',Vq w' b P fl {D with f:=jp D.f n p,ch:=D.ch++[(n,mO D n)],ac:=ag,cc:=aj} pc col'/\Vf w col w' col':=by
 have K:=al w (.cells p.cs 31);have Z:=bt K (Q.drw _);have O:=h.keep Z;obtain⟨-,d1,d2,-,-⟩:=O.cells;obtain⟨-,e1,e2,-,-⟩:=h.cells;have M:=sG O n;have hx:=aF w (.cells p.cs 31);have az:=h.lb;obtain⟨q,G⟩:∃q,mO D n=q:=⟨_,rfl⟩;have QZ:Hid (Pz (λk=>col k=6) w q):=by show Pz _ _ _;rw[<-G];exact xu h n
 rw[G] at M;obtain⟨l,R⟩:∃l,D.ch.length=l:=⟨_,rfl⟩;have SZ:Hid (((w.alloc (.cells p.cs 31)).drew).heap.size=w.heap.size+1):=size_alloc w _;have x:=bt (bt K (al (w.alloc (.cells p.cs 31)) (.cells (chv (n,q)).toArray 187))) (Q.drw _);have V:=iJ (h.keep x).chr
 have J:Hid (∀j u,(chv (n,q))[j]?=some u->((w.alloc (.cells p.cs 31)).alloc (.cells (chv (n,q)).toArray 187)).drew.cell? ((⟨w.heap.size+1,0,none⟩:Addr).add j)=some u):=λj u hj=>by
  have B:=aF (w.alloc (.cells p.cs 31)) (.cells (chv (n,q)).toArray 187);rw[size_alloc] at B;have B:((w.alloc (.cells p.cs 31)).alloc (.cells (chv (n,q)).toArray 187)).drew.heap[w.heap.size+1]?=_:=B;rw[show((⟨w.heap.size+1,0,none⟩:Addr).add j)=⟨w.heap.size+1,j,none⟩ by simp[Addr.add];omega,ay _ _ _ _ _ _ B,fo]
  exact hj
 have I:Hid (∀(g r:Nat)(d:World),Q.Gw 187 6 d (some ⟨g,0,none⟩) r (l+1) (chc (D.ch++[(n,q)]))->New ((w.alloc (.cells p.cs 31)).alloc (.cells (chv (n,q)).toArray 187)).drew D.ac (some ⟨g,0,none⟩)->But (Q.InA D.ac) ((w.alloc (.cells p.cs 31)).alloc (.cells (chv (n,q)).toArray 187)).drew d->
  (d.cell? ⟨b,2,none⟩=some (.slice D.ac l D.cc)/\d.frozen? ⟨b,2,none⟩=false)/\d.heap[w.heap.size]?=some (.cells p.cs 31 (0,0))/\Vq (d.setCell ⟨b,2,none⟩ (.slice (some ⟨g,0,none⟩) (l+1) r)) b P fl {D with ac:=some ⟨g,0,none⟩,cc:=r,ch:=D.ch++[(n,q)]} pc (iO col w d 3)/\Vf w col (d.setCell ⟨b,2,none⟩ (.slice (some ⟨g,0,none⟩) (l+1) r)) (iO col w d 3)):=by
  intro g r d v A s;rw[<-R] at v ⊢;obtain⟨v1,H⟩:=h.grew x QZ.o v A s;have am:=(h.keep x).box;have ni:¬Q.InA D.ac b:=λ⟨y,N,e⟩=>by have:=h.cc y N;rw[e,h.cb] at this;cases this
  have b5:=s.same am ni;refine⟨⟨by rw[ay _ _ _ _ _ _ b5];rfl,by simp[World.frozen?,b5]⟩,?_,v1,H⟩
  have an:((w.alloc (.cells p.cs 31)).alloc (.cells (chv (n,q)).toArray 187)).drew.heap[w.heap.size]?=some (.cells p.cs 31 (0,0)):=((al (w.alloc (.cells p.cs 31)) (.cells (chv (n,q)).toArray 187)).block w.heap.size (by rw[size_alloc];omega)).trans hx
  refine s.same an (λ⟨y,N,e⟩=>?_)
  have:=h.lt y.block (by rw[h.cc y N];decide)
  omega
 have X:Hid (∀(d W:World),Vf w col W (iO col w d 3)->Pz (λk=>iO col w d 3 k=6) W p):=λd W E=>(hp.but E.b (λk _ e hk=>by omega)).mono (λk hk e=>by rw[jq (h.lt k (by omega))];exact e)
 rw[R] at d2 e2 V T;have aq:=iJ T;have HQ:=iJ G;clear h O hp K Z x R G hx T;obtain⟨k2,l2,af,ai,ao,ae,ah,ak,ap⟩:=q;unfold chv at J I;unfold Pv.vl at M;simp only[Pv.cs] at M J I;have VS:=iJ λ(W:World)(U:Vd)(L:Nat->Nat)(hV:Vq W b P fl U pc L)(hz:Pz (λk=>L k=6) W p)=>uP W b P fl U pc L hV n p hz
 obtain⟨kp,lp,au,aw,aA,ar,av,ax,aE⟩:=p;unfold Pv.vl at *;simp only[Pv.cs] at *;go_enter func131,ntmps131;go_wp2_with fail
 go_region_law
  (refine Du rfl _ _ rfl D.ac l D.cc D.ch (by first|(simp[Act.eval];done)|simp[Act.eval,Act.put]) V.o ⟨w.heap.size+1,0,none⟩ 1 (n,⟨k2,l2,af,ai,ao,ae,ah,ak,ap⟩) (by first|(simp[Act.eval];done)|simp[Act.eval,Act.put]) J.o aq.o ?_
   intro g r d v A s;obtain⟨⟨cS,fS⟩,ad,v1,H⟩:=I.o g r d v A s;have V1:=iJ v1;have Y:=iJ H;have aa:=iJ ad;clear v A s v1 H ad)
 all_goals
  have ab:=(Below.heap_setCell d ⟨b,2,none⟩ (.slice (some ⟨g,0,none⟩) (l+1) r) w.heap.size (show w.heap.size≠b by omega)).trans aa.o
  obtain⟨x0,x1,x2,x3,x4⟩:=iS ab;have ZP:=iJ (X.o d _ Y.o);clear ab cS fS e1 e2 aa I X;generalize d.setCell ⟨b,2,none⟩ (.slice (some ⟨g,0,none⟩) (l+1) r)=w6 at *;go_wp2_with fail
  refine(VS.o _ _ _ V1.o ZP.o).mono ?_;rintro _ w7 ⟨rfl,hv,E⟩;have HV:=iJ hv;have HF:=iJ (Y.o.trans E);clear hv E x0 x1 x2 x3 x4;go_wp2;go_end0
  exact⟨rfl,_,_,_,by rw[HQ.o];exact HV.o,HF.o⟩
theorem xW:(prog.info? 137).map (·.size)=some 2:=by kernel_rfl
theorem jz(w:World)(g:Nat)(cs:Array Value):But (λk=>k=g) w (w.setRow g cs):=Q.jg w g cs
theorem lU(w:World)(b:Nat)(P:Q.Po)(fl:Nat)(D:Vd)(pc col:Nat->Nat)(h:Vq w b P fl D pc col)(d:fl+D.al.length<=9223372036854775807):
 Calls prog 54 #[.pointer (some ⟨b,0,none⟩)] w λe w'=>e=.returned (.int .i64 ((fl+D.al.length:Nat):Int))/\Below w.heap.size w w':=by
 obtain⟨-,-,-,c3,c4⟩:=h.cells;clear h;generalize D.al.length=n at *;have e:IntKind.i64.wrap ((fl:Int)+(n:Int))=((fl+n:Nat):Int):=by rw[iT (by omega) (by omega)];omega
 go_enter func54,ntmps54;go_wp2;go_quiet (fail)
 go_wp2;go_ret;exact⟨rfl,drN _ _⟩
theorem BG(w:World)(b:Nat)(P:Q.Po)(fl:Nat)(D:Vd)(pc col:Nat->Nat)(h:Vq w b P fl D pc col)(A:P.mark<=9223372036854775807):
 Calls prog 97 #[.pointer (some ⟨b,0,none⟩)] w λe w'=>e=.returned (.agg #[.int .i64 ((P.mark:Nat):Int),.int .i64 ((D.ch.length:Nat):Int)])/\Below w.heap.size w w':=by
 obtain⟨c0,-,c2,-,-⟩:=h.cells;have y:=iJ λ(W:World)(hb:Below w.heap.size w W)=>Q.Ez W D.pb P pc (h.pool.keep hb) A
 have f:Hid (∀W:World,Below w.heap.size w W->W.cell? ⟨b,0,none⟩=some (.pointer (some ⟨D.pb,0,none⟩))/\W.cell? ⟨b,2,none⟩=some (.slice D.ac D.ch.length D.cc)):=λW hb=>⟨(hb.cell (p:=⟨b,0,none⟩) (block_lt_of_cell c0)).trans c0,(hb.cell (p:=⟨b,2,none⟩) (block_lt_of_cell c2)).trans c2⟩
 have s:=iJ (aF w (.cells #[.int .i64 0,.int .i64 0] 137));have d:=iJ (al w (.cells #[.int .i64 0,.int .i64 0] 137));clear h c0 c2;generalize D.ch.length=n at *;generalize P.mark=mk at *;go_enter func97,ntmps97;go_wp2_with fail
 refine bC (S:=λW=>W.cell? ⟨b,0,none⟩=some (.pointer (some ⟨D.pb,0,none⟩))/\W.cell? ⟨b,2,none⟩=some (.slice D.ac n D.cc)) (by kernel_rfl) (f.o _ (bt d.o (Q.drw _))) (λhHeld=>?_)
 refine tkd 0 1 2 3 ?_;refine tkd 5 6 7 8 ?_;refine tk 9 ?_;refine tw 4 λK j=>?_
 go_simp;refine(y.o _ (bt d.o (Q.drw _))).mono ?_;rintro _ l ⟨rfl,hb⟩;have q:=iJ (bt (bt d.o (Q.drw _)) hb);have x:Hid (l.heap[w.heap.size]?=some (.cells #[.int .i64 0,.int .i64 0] 137 (0,0))):=(hb.block w.heap.size (af.1 s.o).1).trans s.o;clear hb;go_wp2_with fail
 refine j.o _ _ (f.o _ q.o) (λhHeld=>?_)
 refine tk 10 ?_;have r:Hid (Below w.heap.size w (l.setRow w.heap.size #[.int .i64 ((mk:Nat):Int),.int .i64 ((n:Nat):Int)])):=((But.ofBelow (S:=λ_=>False) q.o).trans (jz l w.heap.size _) (λk B e=>by omega)).below (λ_ _ h=>h)
 refine tw 11 λK j=>?_
 rw[if_pos (by rfl)]
 refine g9 137 _ _ rfl w.heap.size _ rfl rfl 137 _ x.o xW rfl (by simp[Value.oneCell']) ?_
 refine j.o _ _ (f.o _ r.o) (λhHeld=>?_)
 refine td ?_;go_wp2_with fail
 refine bZ (v:=.agg _) (fH results97 _ _ w.heap.size 137 _ (0,0) _ rfl (dc _ _ _ _ _ _ x.o) underlying137 rfl xW) rfl ?_;exact⟨rfl,r.o⟩
theorem Fn:(prog.info? 137).map (λi=>(i.zero,i.size,i.bytes))=some (some (.agg #[.int .i64 0,.int .i64 0]),2,16):=by kernel_rfl
theorem Gb(w:World)(q:TypeId)(a:Option Addr)(n cap:Nat)(L:List (Nat×Nat))(v:Q.Gw 137 2 w a cap n (plc L))(d:Addr)(c:Nat)(x:Nat×Nat)(r:w.cell? d=some (.int .i64 ((x.1:Nat):Int)))(s:w.cell? (d.add 1)=some (.int .i64 ((x.2:Nat):Int)))(M:n+1<=8796093022208):
 ∃g f w',(Builtin.append_ #[83,83] q #[.slice a n cap,.slice (some d) 1 c]).run prog w=.ok (.slice (some ⟨g,0,none⟩) (n+1) f) w'/\
  Q.Gw 137 2 w' (some ⟨g,0,none⟩) f (n+1) (plc (L++[x]))/\New w a (some ⟨g,0,none⟩)/\But (Q.InA a) w w':=by
 obtain⟨E,A,H,I,J⟩:=dr Fn;have hb:(n+1)*16<=140737488355328:=by omega
 obtain⟨g,f,w',B,G,l,k3,K⟩:=dW (P:=prog) w 83 q 0 137 E (.agg #[.int .i64 0,.int .i64 0]) 2 16 underlying83 A H I J rfl (by decide) (.slice a n cap) n (plc L) v d 1 c [.int .i64 ((x.1:Nat):Int),.int .i64 ((x.2:Nat):Int)] rfl
  (by intro j u b
      match j,b with
      |0,b=>simp at b;subst b;simpa[Addr.add] using r
      |1,b=>simp at b;subst b;exact s
      |j+2,b=>simp at b) (by intro u h;simp at h;rcases h with rfl|rfl<;>rfl) (by decide) (by unfold maxLen;omega) hb (az _) w.heap.size rfl
 rw[kA] at l k3;refine⟨g,f,w',B,by rw[se];exact G,?_,But.inA l⟩
 intro y k;simp only[aE] at k;subst k;rcases k3 with k3|k3
 . obtain⟨z,D,e⟩:=map_some k3;exact .inl ⟨z,D,e⟩
 . exact .inr (by show _<=g;omega)
theorem Dz{w:World}{f:Array Oper}{o:Oper}{a:Act}{K:Act->World->Prop}{j:Exit->Act->World->Prop}{E:Prop}(I:o.guard=none)(s x:Operand)
 (r:o.op=.call {callee:=.builtin .append,args:=#[s,x],argTypes:=#[83,83]}) (b:Option Addr) (n cap:Nat) (L:List (Nat×Nat)) (y:a.eval s=.slice b n cap) (q:Q.Gw 137 2 w b cap n (plc L))
 (d:Addr) (c:Nat) (t:Nat×Nat) (B:a.eval x=.slice (some d) 1 c) (k:w.cell? d=some (.int .i64 ((t.1:Nat):Int))) (l:w.cell? (d.add 1)=some (.int .i64 ((t.2:Nat):Int))) (J:n+1<=8796093022208)
 (h:∀g e w',Q.Gw 137 2 w' (some ⟨g,0,none⟩) e (n+1) (plc (L++[t]))->New w b (some ⟨g,0,none⟩)->But (Q.InA b) w w'->K (a.put o.dst (.slice (some ⟨g,0,none⟩) (n+1) e)) w'):
 if Region.wanted o (yielded f a.tmps)=true then Oper.wp prog o a w K j else E:=by
 have A:Region.wanted o (yielded f a.tmps)=true:=by simp[Region.wanted,I]
 rw[if_pos A];obtain⟨g,e,w',v,D,G,H⟩:=Gb w o.type b n cap L q d c t k l J;unfold Oper.wp execOp;simp only[r,resolve,invoke,builtin,dE,dF,bT,cR,bL,dM,y,B,v];exact h g e w' D G H
theorem Vq.acted{w W w5:World}{b:Nat}{P:Q.Po}{fl:Nat}{D:Vd}{pc col:Nat->Nat}(h:Vq w b P fl D pc col)(v:Below w.heap.size w W){g l:Nat}{x:Nat×Nat}
 (s:Q.Gw 137 2 w5 (some ⟨g,0,none⟩) l (D.al.length+1) (plc (D.al++[x]))) (K:New W D.aa (some ⟨g,0,none⟩)) (J:But (Q.InA D.aa) W w5):
 Vq (w5.setCell ⟨b,3,none⟩ (.slice (some ⟨g,0,none⟩) (D.al.length+1) l)) b P fl {D with aa:=some ⟨g,0,none⟩,ca:=l,al:=D.al++[x]} pc (iO col w w5 4)/\Vf w col (w5.setCell ⟨b,3,none⟩ (.slice (some ⟨g,0,none⟩) (D.al.length+1) l)) (iO col w w5 4):=by
 have q:But (Q.InA D.aa) w w5:=(But.ofBelow (S:=Q.InA D.aa) v).trans J (λ_ _ e=>e)
 have n:But (λk=>k=b\/Q.InA D.aa k) w (w5.setCell ⟨b,3,none⟩ (.slice (some ⟨g,0,none⟩) (D.al.length+1) l)):=(q.mono (T:=λk=>k=b\/Q.InA D.aa k) λ_ _ e=>.inr e).setCell (p:=⟨b,3,none⟩) (λ_=>.inl rfl) _
 have bs:But (λk=>k=b) w5 (w5.setCell ⟨b,3,none⟩ (.slice (some ⟨g,0,none⟩) (D.al.length+1) l)):=(But.refl (λk=>k=b) w5).setCell (p:=⟨b,3,none⟩) (λ_=>rfl) _
 have ne:∀{k:Nat},col k≠1->col k≠4->¬(k=b\/Q.InA D.aa k):=λH I e=>by
  rcases e with rfl|⟨y,d,rfl⟩
  . exact H h.cb
  . exact I (h.ca y d)
 have j:∀{k:Nat},col k≠0->iO col w w5 4 k=col k:=λf=>jq (h.lt _ f)
 have N:=q.size
 have r:iO col w w5 4 g=4:=by
  rcases K ⟨g,0,none⟩ rfl with⟨y,d,e⟩|h2
  . have e:y.block=g:=e;rw[<-e,j (by rw[h.ca y d];decide)];exact h.ca y d
  . have h2:W.heap.size<=g:=h2;exact ke (aO v.size h2) (s.lt rfl)
 have G:g≠b:=λe=>by rw[e,j (by rw[h.cb];decide),h.cb] at r;cases r
 have E:w5.heap[b]?=_:=q.same h.box (λ⟨y,d,e⟩=>by have:=h.ca y d;rw[e,h.cb] at this;cases this)
 have B:∀{p:Pv},Pz (λk=>col k=6) w p->Pz (λk=>iO col w w5 4 k=6) (w5.setCell ⟨b,3,none⟩ (.slice (some ⟨g,0,none⟩) (D.al.length+1) l)) p:=λM=>(M.but n (λk _ e=>ne (by omega) (by omega))).mono (λk f e=>by rw[j (by omega)];exact e)
 refine⟨⟨?_,h.mp.but n (ne (by rw[h.cm];decide) (by rw[h.cm];decide)),h.chr.but n (λx A=>ne (by rw[h.cc x A];decide) (by rw[h.cc x A];decide)),?_,h.pool.but n (λk f=>ne (by rw[h.cp k f];decide) (by rw[h.cp k f];decide)),λk p L=>B (h.fz k p L),λy d=>B (h.cz y d),(j (by rw[h.cb];decide)).trans h.cb,(j (by rw[h.cm];decide)).trans h.cm,λy d=>(j (by rw[h.cc y d];decide)).trans (h.cc y d),λy d=>?_,λk f=>(j (by rw[h.cp k f];decide)).trans (h.cp k f),λk f=>be (kU N f) bs.size⟩,n.mono (λk _ e=>?_),λk f=>jq f⟩
 . rw[aY _ _ _ _ _ _ E];show some (Obj.cells _ _ _)=some (Obj.cells (lJ fl _) _ _);unfold lJ;rw[ae];rfl
 . show Q.Gw _ _ _ _ _ (D.al++[x]).length _;rw[ae];exact s.but bs (λy d=>by cases d;exact G)
 . cases d;exact r
 . rcases e with rfl|⟨y,d,rfl⟩
   . rw[h.cb];decide
   . rw[h.ca y d];decide
theorem Hd(w:World)(b:Nat)(P:Q.Po)(fl:Nat)(D:Vd)(pc col:Nat->Nat)(h:Vq w b P fl D pc col)(x:Nat×Nat)(B:D.al.length+1<=8796093022208):
 Calls prog 99 #[.pointer (some ⟨b,0,none⟩),.agg #[.int .i64 ((x.1:Nat):Int),.int .i64 ((x.2:Nat):Int)],.int .i64 0] w λe w'=>e=.returned (.int .i64 0)/\∃V X col',Vq w' b P fl {D with al:=D.al++[x],aa:=V,ca:=X} pc col'/\Vf w col w' col':=by
 obtain⟨u,v⟩:=x;simp only;have G:=al w (.cells #[.int .i64 ((u:Nat):Int),.int .i64 ((v:Nat):Int)] 137);obtain⟨-,-,-,I,-⟩:=h.cells;have ab:=h.lb;have n:=bt (bt G (al (w.alloc (.cells #[.int .i64 ((u:Nat):Int),.int .i64 ((v:Nat):Int)] 137)) (.cells #[.int .i64 ((u:Nat):Int),.int .i64 ((v:Nat):Int)] 137))) (Q.drw _);have E:=iJ (h.keep n).acr;have r:=aF (w.alloc (.cells #[.int .i64 ((u:Nat):Int),.int .i64 ((v:Nat):Int)] 137)) (.cells #[.int .i64 ((u:Nat):Int),.int .i64 ((v:Nat):Int)] 137);rw[size_alloc] at r;have K:Hid (((w.alloc (.cells #[.int .i64 ((u:Nat):Int),.int .i64 ((v:Nat):Int)] 137)).alloc (.cells #[.int .i64 ((u:Nat):Int),.int .i64 ((v:Nat):Int)] 137)).drew.cell? ⟨w.heap.size+1,0,none⟩=some (.int .i64 ((u:Nat):Int))):=ay _ _ 0 _ _ _ r;have L:Hid (((w.alloc (.cells #[.int .i64 ((u:Nat):Int),.int .i64 ((v:Nat):Int)] 137)).alloc (.cells #[.int .i64 ((u:Nat):Int),.int .i64 ((v:Nat):Int)] 137)).drew.cell? ((⟨w.heap.size+1,0,none⟩:Addr).add 1)=some (.int .i64 ((v:Nat):Int))):=ay _ _ 1 _ _ _ r;obtain⟨f,A⟩:∃f,D.al.length=f:=⟨_,rfl⟩
 have J:Hid (∀(g j:Nat)(d:World),Q.Gw 137 2 d (some ⟨g,0,none⟩) j (f+1) (plc (D.al++[(u,v)]))->New ((w.alloc (.cells #[.int .i64 ((u:Nat):Int),.int .i64 ((v:Nat):Int)] 137)).alloc (.cells #[.int .i64 ((u:Nat):Int),.int .i64 ((v:Nat):Int)] 137)).drew D.aa (some ⟨g,0,none⟩)->But (Q.InA D.aa) ((w.alloc (.cells #[.int .i64 ((u:Nat):Int),.int .i64 ((v:Nat):Int)] 137)).alloc (.cells #[.int .i64 ((u:Nat):Int),.int .i64 ((v:Nat):Int)] 137)).drew d->
  (d.cell? ⟨b,3,none⟩=some (.slice D.aa f D.ca)/\d.frozen? ⟨b,3,none⟩=false)/\Vq (d.setCell ⟨b,3,none⟩ (.slice (some ⟨g,0,none⟩) (f+1) j)) b P fl {D with aa:=some ⟨g,0,none⟩,ca:=j,al:=D.al++[(u,v)]} pc (iO col w d 4)/\Vf w col (d.setCell ⟨b,3,none⟩ (.slice (some ⟨g,0,none⟩) (f+1) j)) (iO col w d 4)):=by
  intro g j d l q k;rw[<-A] at l ⊢;obtain⟨v1,s⟩:=h.acted n l q k;have Y:=(h.keep n).box;have U:¬Q.InA D.aa b:=λ⟨y,T,e⟩=>by have:=h.ca y T;rw[e,h.cb] at this;cases this
  have H:=k.same Y U;exact⟨⟨by rw[ay _ _ _ _ _ _ H];rfl,by simp[World.frozen?,H]⟩,v1,s⟩
 rw[A] at I E B;have Z:=iJ B;clear h G n A r B;go_enter func99,ntmps99;go_wp2_with fail
 go_region_law
  (refine Dz rfl _ _ rfl D.aa f D.ca D.al (by first|(simp[Act.eval];done)|simp[Act.eval,Act.put]) E.o ⟨w.heap.size+1,0,none⟩ 1 (u,v) (by first|(simp[Act.eval];done)|simp[Act.eval,Act.put]) K.o L.o Z.o ?_
   intro g j d l q k;obtain⟨⟨O,R⟩,v1,s⟩:=J.o g j d l q k;have M:=iJ v1;have N:=iJ s;clear l q k v1 s)
 all_goals
  clear O R I J;generalize d.setCell ⟨b,3,none⟩ (.slice (some ⟨g,0,none⟩) (f+1) j)=w6 at *;go_wp2;go_ret;exact⟨rfl,_,_,_,M.o,N.o⟩
def unl(f:Int->Option Pv)(L:List (Int×Pv)):Int->Option Pv:=L.foldr (λx g=>jp g x.1 x.2) f
theorem Dk(f:Int->Option Pv)(L:List (Int×Pv))(x:Int×Pv):unl f (L++[x])=unl (jp f x.1 x.2) L:=by simp[unl]
def iY:Int×Pv:=(0,Pv.zero)
theorem n9(x:Int×Pv):(chv x).length=6:=by simp[chv,Pv.cs]
theorem wk(x:Int×Pv)(L:List (Int×Pv)):chc (x::L)=chv x++chc L:=by simp[chc,chv]
theorem tg:∀(L:List (Int×Pv))(i j:Nat),i<L.length->j<6->(chc L)[i*6+j]?=(chv (L.getD i iY))[j]?
 | [],i,j,h,_=>absurd h (by simp)
 |x::L,0,j,h,hj=>by
  rw[wk,eE,bN,br (by rw[n9];exact hj)]
  rfl
 |x::L,i+1,j,h,hj=>by
  rw[wk,bg (by rw[n9];omega),n9,show(i+1)*6+j-6=i*6+j by omega]
  exact tg L i j (by simpa using h) hj
theorem uZ(L:List (Int×Pv))(m:Nat)(h:m<=L.length):(chc L).take (m*6)=chc (L.take m):=by
 have e:chc L=chc (L.take m)++chc (L.drop m):=by rw[<-oE,cZ]
 rw[e,d9 (by rw[jK,bi];omega),db (by rw[jK,bi];omega)]
theorem Fd(L:List (Int×Pv)):∀v∈chc L,v.oneCell'=true:=by
 intro v b;unfold chc at b;obtain⟨l,d,b⟩:=gJ.1 b;obtain⟨x,e,rfl⟩:=bH.1 d;simp[Pv.cs] at b;rcases b with rfl|rfl|rfl|rfl|rfl|rfl<;>rfl
theorem ue(n:Nat):(Builtin.zeroCells (chv iY).toArray n).toList=chc (List.replicate n iY):=by
 apply dX;intro i;have f:(chv iY).toArray.size=6:=rfl;simp only[Builtin.zeroCells,Array.toList_map,Array.toList_range,f,c9];by_cases d:i<n*6
 . rw[List.getElem?_range d];have b:=tg (List.replicate n iY) (i/6) (i%6) (by simp;omega) (by omega)
   rw[show i/6*6+i%6=i by omega] at b
   have e:(List.replicate n iY).getD (i/6) iY=iY:=by
    rw[aq,ig];split<;>rfl
   rw[b,e];show some ((chv iY).toArray[i%6]!)=_;have h:i%6<6:=by omega
   generalize i%6=j at *;rcases (by omega:j=0\/j=1\/j=2\/j=3\/j=4\/j=5) with rfl|rfl|rfl|rfl|rfl|rfl<;>rfl
 . rw[cM (by simp;omega),cM (by rw[jK];simp;omega)]
   rfl
theorem yR(w:World)(q:TypeId)(g n cap m c:Nat)(L:List (Int×Pv))(h:Q.Gw 187 6 w (some ⟨g,0,none⟩) cap n (chc L))(v:n=L.length)(s:m<n):
 ∃w',(Builtin.clear_ #[82] q #[.slice (some ⟨g,m*6,none⟩) (n-m) c]).run prog w=.ok (.tuple #[]) w'/\Q.Gw 187 6 w' (some ⟨g,0,none⟩) cap n (chc (L.take m++List.replicate (n-m) iY))/\But (λk=>k=g) w w':=by
 rcases h.cases with⟨h0,_⟩|⟨g',cur,ha,hg,h1,h2,h3,h4⟩
 . cases h0
 . cases ha;have b:(chc (List.replicate (n-m) iY)).length=(n-m)*6:=by rw[jK,bh]
   have f:=il prog g (m*6) 187 (chc (List.replicate (n-m) iY)) 0 cur w hg (by rw[b];omega) (Fd _)
   refine⟨w.setRow g (cur.toList.take (m*6+0)++chc (List.replicate (n-m) iY)++cur.toList.drop (m*6+0+(chc (List.replicate (n-m) iY)).length)).toArray,?_,?_,Q.jg w g _⟩
   . obtain⟨d,j⟩:∃d,n-m=d+1:=⟨n-m-1,by omega⟩
     rw[j] at f ⊢;have l:(Builtin.zeroCells (Value.agg #[.int .i64 0,.int .i64 0,.int .i64 0,.slice none 0 0,.slice none 0 0,.int .i64 0]).cells (d+1)).toList=chc (List.replicate (d+1) iY):=ue (d+1);have r:=zeroValue187 w;simp[Builtin.clear_,dt underlying82,r,l,f]
   . refine Q.Gw.mk (by rw[jK];simp;omega) (dc w g _ _ _ _ hg) h1 h2 ?_ ?_
     . have:=cur.size_eq_length_toList;simp only[dm,ae,bi,dv,b];omega
     . have e:cur.toList.take (m*6)=chc (L.take m):=by
        rw[<-uZ L m (by omega),<-h4,fG,dq (by omega)]
       rw[fW,bY,e,oE,d9 (by rw[ae,b,jK,bi];omega),db (by rw[ae,b,jK,bi];omega)]
theorem Gy{a:Option Addr}{cap n:Nat}{L:List (Int×Pv)}(h:Q.Gw 187 6 w a cap n (chc L))(d:n=L.length)(b:m<=n):Q.Gw 187 6 w a cap m (chc (L.take m)):=by
 rcases h.cases with⟨rfl,rfl,rfl,h4⟩|⟨g,cur,rfl,hg,h1,h2,h3,h4⟩
 . obtain rfl:m=0:=by omega
   exact Q.Gw.nil _ _ _
 . refine Q.Gw.mk (by rw[jK,bi];omega) hg (by omega) h2 h3 ?_
   rw[<-uZ L m (by omega),<-h4,fG,dq (by omega)]
theorem Vq.cleared{b:Nat}{D:Vd}(h:Vq w b P fl D pc col)(s:m<D.ch.length):
 ∃g,D.ac=some ⟨g,0,none⟩/\g≠b/\col g=3/\∃w',(Builtin.clear_ #[82] 0 #[.slice (some ⟨g,m*6,none⟩) (D.ch.length-m) (D.cc-m)]).run prog w=.ok (.tuple #[]) w'/\Vq w' b P fl {D with ch:=D.ch.take m++List.replicate (D.ch.length-m) iY} pc col/\But (λk=>k=g) w w':=by
 obtain⟨g,d⟩:=h.chr.addr (by omega)
 have j:=h.chr;rw[d] at j;have c3:col g=3:=h.cc _ d;have n:g≠b:=λe=>by rw[e,h.cb] at c3;cases c3
 obtain⟨w',y,r,hb⟩:=yR w 0 g D.ch.length D.cc m (D.cc-m) D.ch j rfl s;have ne:∀{k:Nat},col k≠3->¬(k=g):=λq e=>q (by rw[e];exact c3)
 have l:(D.ch.take m++List.replicate (D.ch.length-m) iY).length=D.ch.length:=by simp;omega
 refine⟨g,d,n,c3,w',y,⟨?_,h.mp.but hb (ne (by rw[h.cm];decide)),?_,h.acr.but hb (λx hx=>ne (by rw[h.ca x hx];decide)),h.pool.but hb (λk f=>ne (by rw[h.cp k f];decide)),λk p v=>(h.fz k p v).but hb (λk _ e=>ne (by omega)),λx hx=>?_,h.cb,h.cm,h.cc,h.ca,h.cp,λk f=>be (h.lt k f) hb.size⟩,hb⟩
 . have:=hb.same h.box (ne (by rw[h.cb];decide))
   rw[this];unfold lJ;rw[l]
 . show Q.Gw _ _ _ D.ac D.cc (D.ch.take m++List.replicate (D.ch.length-m) iY).length _;rw[l,d];exact r
 . rcases bq.1 hx with hx|hx
   . exact(h.cz x (fQ hx)).but hb (λk _ e=>ne (by omega))
   . rw[(List.mem_replicate.1 hx).2];exact Pz.zero _ _
theorem Vq.cut{b:Nat}{D:Vd}(h:Vq w b P fl D pc col)(n:m<=D.ch.length):
 Vq (w.setCell ⟨b,2,none⟩ (.slice D.ac m D.cc)) b P fl {D with ch:=D.ch.take m} pc col/\Vf w col (w.setCell ⟨b,2,none⟩ (.slice D.ac m D.cc)) col:=by
 have hb:But (λk=>k=b) w (w.setCell ⟨b,2,none⟩ (.slice D.ac m D.cc)):=(But.refl (λk=>k=b) w).setCell (p:=⟨b,2,none⟩) (λ_=>rfl) _
 have ne:∀{k:Nat},col k≠1->¬(k=b):=λl e=>l (by rw[e];exact h.cb)
 have j:(D.ch.take m).length=m:=by rw[bi];omega
 refine⟨⟨?_,h.mp.but hb (ne (by rw[h.cm];decide)),?_,h.acr.but hb (λx d=>ne (by rw[h.ca x d];decide)),h.pool.but hb (λk f=>ne (by rw[h.cp k f];decide)),λk p q=>(h.fz k p q).but hb (λk _ e=>ne (by omega)),λx d=>(h.cz x (fQ d)).but hb (λk _ e=>ne (by omega)),h.cb,h.cm,h.cc,h.ca,h.cp,λk f=>be (h.lt k f) hb.size⟩,hb.mono (λk _ e=>by rw[e,h.cb];decide),λ_ _=>rfl⟩
 . rw[aY _ _ _ _ _ _ h.box];show some (Obj.cells _ _ _)=some (Obj.cells (lJ fl _) _ _);unfold lJ;rw[j];rfl
 . show Q.Gw _ _ _ D.ac D.cc (D.ch.take m).length _;rw[j];exact(Gy h.chr rfl n).but hb (λx d=>ne (by rw[h.cc x d];decide))
theorem Vq.change{b:Nat}{D:Vd}(h:Vq w b P fl D pc col)(hi:i<D.ch.length):
 ∃g,D.ac=some ⟨g,0,none⟩/\w.cell? ⟨g,i*6,none⟩=some (.int .i64 (D.ch.getD i iY).1)/\w.cell? ⟨g,i*6+1,none⟩=some (.int .i64 (D.ch.getD i iY).2.kind)/\w.cell? ⟨g,i*6+2,none⟩=some (.int .i64 (D.ch.getD i iY).2.level)/\
  w.cell? ⟨g,i*6+3,none⟩=some (.slice (D.ch.getD i iY).2.aI (D.ch.getD i iY).2.items.length (D.ch.getD i iY).2.cI)/\w.cell? ⟨g,i*6+4,none⟩=some (.slice (D.ch.getD i iY).2.aD (D.ch.getD i iY).2.data.length (D.ch.getD i iY).2.cD)/\w.cell? ⟨g,i*6+5,none⟩=some (.int .i64 (D.ch.getD i iY).2.next):=by
 obtain⟨g,e⟩:=h.chr.addr (by omega)
 have d:=h.chr;rw[e] at d;have k:∀{j:Nat}{u:Value},j<6->(chv (D.ch.getD i iY))[j]?=some u->w.cell? ⟨g,i*6+j,none⟩=some u:=λf l=>d.cell (by rw[tg _ _ _ hi f];exact l)
 exact⟨g,e,k (j:=0) (by decide) rfl,k (by decide) rfl,k (by decide) rfl,k (by decide) rfl,k (by decide) rfl,k (by decide) rfl⟩
theorem s9(L:List (Int×Pv))(d:m<=i)(b:i<L.length):(L.take (i+1)).drop m=(L.take i).drop m++[L.getD i iY]:=by
 rw[Q.jO L iY b,List.drop_append_of_le_length (by rw[bi];omega)]
theorem Vq.pooled_box{b:Nat}{j:Q.Po}{D:Vd}{d:Nat->Nat}(h:Vq w b P fl D pc col)(k:Below w.heap.size w W){x:Nat}{o:Obj}(B:w.heap.size<=x)(q:W.heap[x]?=some o)(y:Q.Pl w1 D.pb j d)(l:Q.Fr W pc w1 d):
 ∃f,Vq w1 b j fl D d f/\Vf w col w1 f/\f x=0/\w1.heap[x]?=some o:=by
 have r:col x=0:=by
  cases e:col x with
  |zero=>rfl
  |succ n=>have:=h.lt x (by omega);omega
 have A:x<W.heap.size:=(af.1 q).1;obtain⟨v1,s⟩:=(h.keep k).pooled y l;exact⟨_,v1,(Vf.keep k).trans s,(jq A).trans r,l.b.same q (λv=>by have:=h.cp x v;omega)⟩
theorem iX(h:W.heap[g]?=some (.cells #[v0,v1] t (0,0))):W.cell? ⟨g,0,none⟩=some v0/\W.cell? ⟨g,1,none⟩=some v1:=by
 rw[ay _ _ _ _ _ _ h,ay _ _ _ _ _ _ h];exact⟨rfl,rfl⟩
theorem uF(w:World)(b:Nat)(P:Q.Po)(fl:Nat)(D:Vd)(pc col:Nat->Nat)(h:Vq w b P fl D pc col)(k m:Nat)(hm:m<=D.ch.length)(hk:P.mark<=9223372036854775807):
 Calls prog 143 #[.pointer (some ⟨b,0,none⟩),.agg #[.int .i64 ((k:Nat):Int),.int .i64 ((m:Nat):Int)]] w λe w'=>e=.returned (.tuple #[])/\∃ah col',Vq w' b (P.undo ((k:Nat):Int)) fl {D with f:=unl D.f (D.ch.drop m),ch:=D.ch.take m} ah col'/\Vf w col w' col':=by
 have A1:=iJ (bt (al w (.cells #[.int .i64 ((k:Nat):Int),.int .i64 ((m:Nat):Int)] 137)) (Q.drw _));have HX:=iJ (aF w (.cells #[.int .i64 ((k:Nat):Int),.int .i64 ((m:Nat):Int)] 137));have UN:=iJ λ(W:World)(hb:Below w.heap.size w W)=>Q.Bu W D.pb P pc (h.pool.keep hb) ((k:Nat):Int) hk
 have HV:=iJ h;have O:=iJ hm;have H:=iJ (h.chr.capLe);have S1:=iJ (show(w.alloc (.cells #[.int .i64 ((k:Nat):Int),.int .i64 ((m:Nat):Int)] 137)).drew.cell? ⟨b,0,none⟩=some (.pointer (some ⟨D.pb,0,none⟩))/\(w.alloc (.cells #[.int .i64 ((k:Nat):Int),.int .i64 ((m:Nat):Int)] 137)).drew.cell? ⟨w.heap.size,0,none⟩=some (.int .i64 ((k:Nat):Int)) from⟨(h.keep A1.o).cells.1,(iX HX.o).1⟩)
 clear h hm;go_enter func143,ntmps143;go_wp2_with fail
 refine bC (S:=λW=>W.cell? ⟨b,0,none⟩=some (.pointer (some ⟨D.pb,0,none⟩))/\W.cell? ⟨w.heap.size,0,none⟩=some (.int .i64 ((k:Nat):Int))) (by kernel_rfl) (S1.o) (λhHeld=>?_)
 refine tkd 0 1 2 3 ?_;refine tkb 4 5 ?_;refine tw 6 λar hK=>?_
 go_simp;refine(UN.o _ A1.o).mono ?_;rintro _ w1 ⟨rfl,I,hp,A⟩;obtain⟨d,v1,f1,cx,ao⟩:=HV.o.pooled_box A1.o (ai _) HX.o hp A;have U:=iJ v1;have F1:=iJ f1;have CX:=iJ cx;have aj:=iJ ao;have n:=v1.cells.2.2.1;clear hp A v1 f1 cx ao;go_wp2_with fail
 refine hK.o _ _ (⟨U.o.cells.1,(iX aj.o).1⟩) (λhHeld=>?_)
 refine td ?_;clear hHeld S1 UN;obtain⟨l,ag⟩:∃l,D.ch.length=l:=⟨_,rfl⟩;have E:=iJ ag;rw[ag] at n O H;have aM:=O.o;have aN:l<=9223372036854775807:=by have:=H.o.1;have:=H.o.2;unfold maxLen at this;omega
 have s0:IntKind.i64.wrap ((l:Int)-1)=(l:Int)-1:=iT (by omega) (by omega)
 clear ag;go_wp2_with fail
 clear s0 n;obtain⟨y,ae⟩:∃y,P.undo ((k:Nat):Int)=y:=⟨_,rfl⟩;have ab:=iJ ae;rw[ae] at U;clear ae;go_loopw [4] (λi wr=>∃(j:Nat)(G:Int->Option Pv),m<=j/\j<=l/\i=.int .i64 ((j:Int)-1)/\Vq wr b y fl {D with f:=G} I d/\Vf w1 d wr d/\unl G ((D.ch.take j).drop m)=unl D.f (D.ch.drop m)) (λi _=>(intOf i+1).toNat)
 case atStart=>exact⟨l,D.f,O.o,ai _,rfl,U.o,Vf.refl _ _,by rw[<-E.o,cJ]⟩
 case round=>
  obtain⟨j,G,aK,aL,rfl,hV,hF,hU⟩:=hrel;have r:=iJ hV;have L:=iJ hF;have R:=iJ hU;have ak:=iJ (hF.b.same aj.o (λe=>by rw[CX.o] at e;omega))
  obtain⟨x0,x1⟩:=iX ak.o;clear hV hF hU;by_cases aD:j=m
  . subst aD;have d1:decide ((j:Int)<=(j:Int)-1)=false:=au (by omega)
    have aa:=iJ (show ∀W:World,Vq W b y fl {D with f:=G,ch:=D.ch.take j} I d->Vf w1 d W d->∃ah col',Vq W b y fl {D with f:=unl D.f (D.ch.drop j),ch:=D.ch.take j} ah col'/\Vf w col W col' from λW B A=>⟨I,d,by
     have e:G=unl D.f (D.ch.drop j):=by
      rw[<-R.o,du (by rw[bi];omega)];rfl
     rw[<-e];exact B,F1.o.trans A⟩)
    have an:(j:Int)<=(D.cc:Int):=by have:=H.o.1;omega
    by_cases aE:j=l
    . subst aE;have aH:∀(ad:Option Addr)(c:Nat),(Builtin.clear_ #[82] 0 #[.slice ad 0 c]).run prog wr.drew=.ok (.tuple #[]) wr.drew:=λad c=>by cases ad<;>simp[Builtin.clear_,dt underlying82]
      obtain⟨J,Z⟩:=r.o.cut (m:=j) (by show j<=D.ch.length;rw[E.o];exact ai _)
      have s:=iJ (aa.o _ (J.keep (bt (Q.drw _) (Q.drw _))) (L.o.trans (Z.trans (Vf.keep (bt (Q.drw _) (Q.drw _))))));have fS:=r.o.free 2;have n:=r.o.cells.2.2.1
      have am:D.ac=none\/∃g,D.ac=some ⟨g,0,none⟩:=by
       rcases r.o.chr.cases with⟨h0,_⟩|⟨g,_,h0,_⟩
       . exact .inl h0
       . exact .inr ⟨g,h0⟩
      simp only at n s;rw[E.o] at n;clear J Z r L R aa HV U F1 O H;obtain⟨a,q⟩:∃a,D.ac=a:=⟨_,rfl⟩;obtain⟨c,v⟩:∃c,D.cc=c:=⟨_,rfl⟩;have M:=iJ q;have N:=iJ v;rw[q] at n s am;rw[v] at n s an;clear q v;rcases am with rfl|⟨g,rfl⟩
      . go_wp2_with fail
        go_region
        all_goals
         go_wp2;go_region
         all_goals
          go_wp2;go_end0
          refine⟨rfl,?_⟩;rw[ab.o,M.o,N.o];exact s.o
      . by_cases af:c=j
        . subst af;go_wp2_with fail
          go_region
          all_goals
           go_wp2;go_region
           all_goals
            go_wp2;go_end0
            refine⟨rfl,?_⟩;rw[ab.o,M.o,N.o];exact s.o
        . go_wp2_with fail
          go_region
          all_goals
           go_wp2;go_region
           all_goals
            go_wp2;go_end0
            refine⟨rfl,?_⟩;rw[ab.o,M.o,N.o];exact s.o
    . have ap:j<D.ch.length:=by rw[E.o];omega
      obtain⟨g,q,gb,c3,w4,hr,v4,b4⟩:=(r.o.keep (Q.drw wr)).cleared ap;obtain⟨J,Z⟩:=v4.cut (m:=j) (by show j<=(D.ch.take j++List.replicate (D.ch.length-j) iY).length;simp;omega)
      have et:(D.ch.take j++List.replicate (D.ch.length-j) iY).take j=D.ch.take j:=by rw[d9 (by rw[bi];omega),db (by rw[bi];omega)]
      simp only[et] at J;have s:=iJ (aa.o _ (J.keep (Q.drw _)) (L.o.trans ((Vf.keep (Q.drw wr)).trans ((⟨b4.mono (λaG _ e=>by rw[e,c3];decide),λ_ _=>rfl⟩:Vf wr.drew d w4 d).trans (Z.trans (Vf.keep (Q.drw _)))))))
      have n:=r.o.cells.2.2.1;have x:=v4.cells.2.2.1;have fS:=v4.free 2;have x4:=b4.same (show wr.drew.heap[w.heap.size]?=_ from ak.o) (λe=>by rw[<-e,CX.o] at c3;cases c3)
      obtain⟨y0,y1⟩:=iX x4;simp only at n x q hr s;rw[show(D.ch.take j++List.replicate (D.ch.length-j) iY).length=l by have:=E.o;simp;omega] at x
      rw[E.o] at n hr;have af:¬(D.cc=j):=by have:=H.o.1;omega
      clear v4 J Z b4 x4 c3 r L R aa HV U F1 O H et ap;obtain⟨c,v⟩:∃c,D.cc=c:=⟨_,rfl⟩;have M:=iJ q;have N:=iJ v;rw[q] at n x s;rw[v] at n x s an af hr;clear q v;go_wp2_with fail
      go_region
      all_goals
       go_wp2;go_region
       all_goals
        go_wp2;go_end0
        refine⟨rfl,?_⟩;rw[ab.o,M.o,N.o];exact s.o
  . obtain⟨i,rfl⟩:∃i,j=i+1:=⟨j-1,by omega⟩
    have ei:((i+1:Nat):Int)-1=(i:Int):=by omega
    rw[ei];have d1:decide ((m:Int)<=(i:Int))=true:=ax (by omega)
    have X:i<D.ch.length:=by rw[E.o];omega
    have aJ:(i:Int)<(l:Int):=by omega
    obtain⟨g,q,k0,k1,k2,k3,k4,k5⟩:=r.o.change (D:={D with f:=G}) X;have CZ:=iJ (r.o.cz (D.ch.getD i iY) (by show _∈D.ch;rw[aq,aR X];exact eK X))
    have TL:=iJ (s9 D.ch (m:=m) (i:=i) (by omega) X)
    have T:=iJ λ(W:World)(Y:Int->Option Pv)(B:Vq W b y fl {D with f:=Y} I d)=>(show W.cell? ⟨b,2,none⟩=some (.slice (some ⟨g,0,none⟩) l D.cc)/\W.cell? ⟨g,i*6,none⟩=some (.int .i64 (D.ch.getD i iY).1)/\W.cell? ⟨g,i*6+1,none⟩=some (.int .i64 (D.ch.getD i iY).2.kind)/\W.cell? ⟨g,i*6+2,none⟩=some (.int .i64 (D.ch.getD i iY).2.level)/\
     W.cell? ⟨g,i*6+3,none⟩=some (.slice (D.ch.getD i iY).2.aI (D.ch.getD i iY).2.items.length (D.ch.getD i iY).2.cI)/\W.cell? ⟨g,i*6+4,none⟩=some (.slice (D.ch.getD i iY).2.aD (D.ch.getD i iY).2.data.length (D.ch.getD i iY).2.cD)/\W.cell? ⟨g,i*6+5,none⟩=some (.int .i64 (D.ch.getD i iY).2.next) from by
      obtain⟨g2,ac,y0,y1,y2,y3,y4,y5⟩:=B.change (D:={D with f:=Y}) X;have ac:D.ac=some ⟨g2,0,none⟩:=ac;rw[show D.ac=some ⟨g,0,none⟩ from q] at ac
      cases ac;have e:=B.cells.2.2.1;rw[show D.ac=some ⟨g,0,none⟩ from q,E.o] at e
      exact⟨e,y0,y1,y2,y3,y4,y5⟩)
    clear k0 k1 k2 k3 k4 k5 q;have K:=iJ (T.o _ _ (r.o.keep (Q.drw wr)));have V:=iJ (uP wr.drew b y fl {D with f:=G} I d (r.o.keep (Q.drw wr)) (D.ch.getD i iY).1 (D.ch.getD i iY).2 (CZ.o.keep (Q.drw wr)));have G1:=iJ (show ∀W:World,Vq W b y fl {D with f:=jp G (D.ch.getD i iY).1 (D.ch.getD i iY).2} I d->Vf wr.drew d W d->∃(j2:Nat)(Y:Int->Option Pv),m<=j2/\j2<=l/\Value.int .i64 ((i:Int)-1)=.int .i64 ((j2:Int)-1)/\Vq W b y fl {D with f:=Y} I d/\Vf w1 d W d/\unl Y ((D.ch.take j2).drop m)=unl D.f (D.ch.drop m) from λW B A=>⟨i,_,by omega,by omega,rfl,B,L.o.trans ((Vf.keep (Q.drw wr)).trans A),by rw[<-R.o,TL.o,Dk]⟩)
    have s1:IntKind.i64.wrap ((i:Int)-1)=(i:Int)-1:=iT (by omega) (by omega)
    have WN:=iJ s1;clear s1 R L TL CZ;obtain⟨c,v⟩:∃c,D.ch.getD i iY=c:=⟨_,rfl⟩;rw[v] at V G1 K;simp only[v] at T;clear v;obtain⟨cn,ck,cl,aw,az,aB,av,ay,aA,aC⟩:=c;unfold Pv.vl at V;simp only[Pv.cs] at V K T G1;have aI:(0:Int)<=(i:Int):=by omega
    go_wp2_with fail
    refine bC (S:=λW=>W.cell? ⟨b,2,none⟩=some (.slice (some ⟨g,0,none⟩) l D.cc)/\W.cell? ⟨g,i*6,none⟩=some (.int .i64 cn)/\W.cell? ⟨g,i*6+1,none⟩=some (.int .i64 ck)/\W.cell? ⟨g,i*6+2,none⟩=some (.int .i64 cl)/\W.cell? ⟨g,i*6+3,none⟩=some (.slice aw aB.length az)/\W.cell? ⟨g,i*6+4,none⟩=some (.slice av aA.length ay)/\W.cell? ⟨g,i*6+5,none⟩=some (.int .i64 aC)) (by kernel_rfl) (K.o) (λhHeld=>?_)
    refine tkd 0 1 2 3 ?_;refine tkd 4 5 6 7 ?_;refine tkd 8 9 10 11 ?_;refine tkd 12 13 14 15 ?_;refine tk 16 ?_;refine tw 17 λar hK=>?_
    go_simp;refine V.o.mono ?_;rintro _ w3 ⟨rfl,B,A⟩;have V3:=iJ B;have F3:=iJ A;clear B A;go_wp2_with fail
    refine hK.o _ _ (T.o _ _ V3.o) (λhHeld=>?_)
    refine td ?_;clear hHeld K T V;have s1:=WN.o;go_wp2;go_roundw
    case rel=>exact G1.o _ V3.o F3.o
    case measure=>simp[intOf]
end Go.Proofs.YtbdkogimlbnlmaaGreat
