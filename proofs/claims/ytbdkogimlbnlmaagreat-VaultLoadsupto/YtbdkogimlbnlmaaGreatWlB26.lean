import Derived.Test.YtbdkogimlbnlmaaGreatWlB25
set_option linter.all false
set_option maxHeartbeats 32000000
set_option maxRecDepth 8000
namespace Go.Proofs.YtbdkogimlbnlmaaGreat
open Go.Proofs.Tryz
open Go.RowKit
variable {T:List Pv}{c g i n sz:Nat}{p:Pv}{w:World}
theorem Fo{f b:TypeId}{bs:Nat}{z:Value}(H:prog.underlying f=some (.slice b))(R:(prog.info? b).map (λi=>(i.zero,i.size,i.bytes))=some (some z,sz,bs))(l:z.cells.size=sz)(t:0<sz)(w:World)(s:TypeId)(a:Option Addr)(n cap:Nat)(C:List Value)(x:Q.Gw b sz w a cap n C)(k:Addr)(m c:Nat)(xs:List Value)(D:xs.length=m*sz)(A:∀j u,xs[j]?=some u->w.cell? (k.add j)=some u)(v:∀u∈xs,u.oneCell'=true)(K:0<m)(E:n+m<=maxLen)(O:(n+m)*bs<=140737488355328):
 ∃g h d,(Builtin.append_ #[f,f] s #[.slice a n cap,.slice (some k) m c]).run prog w=.ok (.slice (some ⟨g,0,none⟩) (n+m) h) d/\
  Q.Gw b sz d (some ⟨g,0,none⟩) h (n+m) (C++xs)/\New w a (some ⟨g,0,none⟩)/\But (Q.InA a) w d:=by
 obtain⟨I,B,L,M,N⟩:=dr R;obtain⟨g,h,d,G,J,r,k3,S⟩:=dW (P:=prog) w f s 0 b I z sz bs H B L M N l t (.slice a n cap) n C x k m c xs D A v K E O (az _) w.heap.size rfl;rw[kA] at r k3;refine⟨g,h,d,G,J,?_,But.inA r⟩;intro y q;simp only[aE] at q;subst q;rcases k3 with k3|k3
 . obtain⟨z,l,e⟩:=map_some k3;exact .inl ⟨z,l,e⟩
 . exact .inr (by show _<=g;omega)
theorem Dw{l e:TypeId}{sz bs:Nat}{z:Value}(J:prog.underlying l=some (.slice e))(W:(prog.info? e).map (λi=>(i.zero,i.size,i.bytes))=some (some z,sz,bs))(N:z.cells.size=sz)(t:0<sz){w:World}{q:Array Oper}{o:Oper}{a:Act}{K:Act->World->Prop}{r:Exit->Act->World->Prop}{E:Prop}(S:o.guard=none)(s x:Operand)
 (G:o.op=.call {callee:=.builtin .append,args:=#[s,x],argTypes:=#[l,l]}) (b:Option Addr) (n cap:Nat) (C:List Value) (I:a.eval s=.slice b n cap) (y:Q.Gw e sz w b cap n C)
 (k:Addr) (m c:Nat) (xs:List Value) (M:a.eval x=.slice (some k) m c) (B:xs.length=m*sz) (A:∀j u,xs[j]?=some u->w.cell? (k.add j)=some u) (v:∀u∈xs,u.oneCell'=true) (U:0<m) (D:n+m<=maxLen) (V:(n+m)*bs<=140737488355328)
 (h:∀g f d,Q.Gw e sz d (some ⟨g,0,none⟩) f (n+m) (C++xs)->New w b (some ⟨g,0,none⟩)->But (Q.InA b) w d->K (a.put o.dst (.slice (some ⟨g,0,none⟩) (n+m) f)) d):
 if Region.wanted o (yielded q a.tmps)=true then Oper.wp prog o a w K r else E:=by
 have L:Region.wanted o (yielded q a.tmps)=true:=by simp[Region.wanted,S]
 rw[if_pos L];obtain⟨g,f,d,H,O,P,R⟩:=Fo J W N t w o.type b n cap C y k m c xs B A v U D V;unfold Oper.wp execOp;simp only[G,resolve,invoke,builtin,dE,dF,bT,cR,bL,dM,I,M,H];exact h g f d O P R
theorem Hn{e:TypeId}{cap:Nat}{C:List Value}(h:Q.Gw e sz w (some ⟨g,0,none⟩) cap n C)(k:Nat)(u:Value):Q.Gw e sz (w.setCell ⟨g,k,none⟩ u) (some ⟨g,0,none⟩) cap n (C.set k u):=by
 obtain⟨q,⟨b,_⟩|⟨s,t,r,b,hb,m,d,f,j,l⟩⟩:=h
 . cases b
 . cases b;refine⟨by rw[aM];exact q,.inr ⟨g,cap,r.setIfInBounds k u,rfl,az _,aY _ _ _ _ _ _ m,d,f,by simpa using j,?_⟩⟩
   rw[ew,fY,l]
theorem sE(p:Pv):p.cs.toList.length=5:=rfl
theorem lG(x:Pv)(R:List Pv):vpg (x::R)=x.cs.toList++vpg R:=by simp[vpg]
theorem xZ:∀(R:List Pv)(i k:Nat)(r:Pv),R[i]?=some r->k<5->(vpg R)[i*5+k]?=r.cs.toList[k]?
 | [],i,k,x,h,_=>by simp at h
 |y::R,0,k,x,h,hk=>by
  have b:=sE y;simp only[ij,aE] at h;subst h;rw[lG,eE,bN,br (by omega)]
 |y::R,i+1,k,x,h,hk=>by
  have b:=sE y;rw[eu] at h;have d:=xZ R i k x h hk;rw[lG,bg (by omega),b,show(i+1)*5+k-5=i*5+k by omega,d]
theorem xK:∀(R:List Pv)(i:Nat)(r b:Pv)(u:Value),R[i]?=some r->b.cs.toList=r.cs.toList.set 2 u->vpg (R.set i b)=(vpg R).set (i*5+2) u
 | [],i,r,b,u,h,_=>by simp at h
 |y::R,0,r,b,u,h,e=>by
  have d:=sE y;simp only[ij,aE] at h;subst h;rw[eZ,lG,lG,e,eE,bN,List.set_append_left _ _ (by omega)]
 |y::R,i+1,r,b,u,h,e=>by
  have d:=sE y;rw[eu] at h;have f:=xK R i r b u h e;rw[g7,lG,lG,f,ed _ _ (by omega),d,show(i+1)*5+2-5=i*5+2 by omega]
theorem lf{a:Option Addr}{R:List Pv}(h:Q.Gw 31 5 w a c n (vpg R))(l:n=R.length){r:Pv}(b:R[i]?=some r):∃g,a=some ⟨g,0,none⟩/\w.cell? ⟨g,i*5,none⟩=some (.int .i64 r.kind)/\w.cell? ⟨g,i*5+1,none⟩=some (.int .i64 r.level)/\w.cell? ⟨g,i*5+2,none⟩=some (.slice r.aI r.items.length r.cI)/\w.cell? ⟨g,i*5+3,none⟩=some (.slice r.aD r.data.length r.cD)/\w.cell? ⟨g,i*5+4,none⟩=some (.int .i64 r.next):=by
 have f:i<R.length:=(bz.1 b).1;obtain⟨g,e⟩:=h.addr (by omega)
 have q:=h;rw[e] at q;have k:=λ(j:Nat)(d:j<5)=>xZ R i j r b d
 exact⟨g,e,q.cell (by have:=k 0 (by decide);rw[bY] at this;rw[this];rfl),q.cell (by rw[k 1 (by decide)];rfl),q.cell (by rw[k 2 (by decide)];rfl),q.cell (by rw[k 3 (by decide)];rfl),q.cell (by rw[k 4 (by decide)];rfl)⟩
structure Bj(v w wx:World)(wb b rb:Nat)(col colR:Nat->Nat)(vw:Value)(K:Bkk)(i i':Nat)(R:List Pv)(a3:Option Addr)(c3:Nat)(m:List Br):Prop where
 box:wx.heap[wb]?=some (.cells (K.cs b rb vw) 55 (0,0))
 rl:R.length=K.T.length
 gt:Q.Gw 31 5 wx K.aT K.cT R.length (vpg R)
 gx:Q.Gw 31 5 wx K.aX K.cX K.X.length (vpg K.X)
 hi:∀j,i<=j->R[j]?=K.T[j]?
 lo:∀j r,j<i->R[j]?=some r->∃g,r.aI=some ⟨g,0,none⟩/\(w.heap.size<=g\/∃p,K.T[j]?=some p/\Blk p g)/\Jw wx r.aI r.cI r.items/\r.items.length<=1048579/\∀y∈r.items,y.child= -3-(j:Int)
 tp:∀j p,i'<=j->K.T[j]?=some p->Pw1 v wx col colR p
 tr:∀p∈K.T,∀t∈rp p,Rw wx t.a t.c t.l
 xp:∀p∈K.X,Pw1 v wx col colR p
 ar:Q.Gw 29 1 wx a3 c3 m.length (m.map bv)
 an:∀y,a3=some y->w.heap.size<=y.block
 bt:But (kN wb K) w wx
section
variable {T:Nat->Prop} {v w wx wy wA w5:World} {wb b rb:Nat} {col colR:Nat->Nat} {vw:Value} {K:Bkk} {i i':Nat} {R:List Pv} {a3:Option Addr} {c3:Nat} {m:List Br}
theorem Bj.start(h:Bo v w wb b rb col colR vw K):Bj v w w wb b rb col colR vw K 0 0 K.T none 0 []:=
 ⟨h.box,rfl,h.gt,h.gx,λ_ _=>rfl,λj r e=>absurd e (dQ _),λj p _ d=>h.tp p (bB d),λp d t f=>((h.tp p d).n.rws f).1,h.xp,Q.Gw.nil _ _ _,λy k=>(by cases k),But.refl _ _⟩
theorem Bj.but(h:Bj v w wx wb b rb col colR vw K i i' R a3 c3 m)(hb:But T wx wy)(C:¬T wb)(D:∀y,K.aT=some y->¬T y.block)(E:∀y,K.aX=some y->¬T y.block)(G:∀j r,j<i->R[j]?=some r->∀y,r.aI=some y->¬T y.block)(H:∀j p,i'<=j->K.T[j]?=some p->∀k,Blk p k->¬T k)
 (I:∀p∈K.T,∀t∈rp p,∀y,t.a=some y->¬T y.block) (J:∀p∈K.X,∀k,Blk p k->¬T k) (L:∀y,a3=some y->¬T y.block) (M:∀k,k<w.heap.size->T k->kN wb K k):Bj v w wy wb b rb col colR vw K i i' R a3 c3 m:=
 ⟨hb.same h.box C,h.rl,h.gt.but hb D,h.gx.but hb E,h.hi,λj r e f=>by
   obtain⟨g,q,s,x,A,B⟩:=h.lo j r e f;exact⟨g,q,s,x.but hb (G j r e f),A,B⟩,λj p e d=>(h.tp j p e d).but hb (H j p e d),λp d t l=>(h.tr p d t l).but hb (I p d t l),λp d=>(h.xp p d).but hb (J p d),h.ar.but hb L,h.an,h.bt.trans hb M⟩
theorem Bj.keep(h:Bj v w wx wb b rb col colR vw K i i' R a3 c3 m)(hb:Below wx.heap.size wx wy):Bj v w wy wb b rb col colR vw K i i' R a3 c3 m:=
 h.but (T:=λ_=>False) (But.ofBelow hb) (λe=>e) (λ_ _ e=>e) (λ_ _ e=>e) (λ_ _ _ _ _ _ e=>e) (λ_ _ _ _ _ _ e=>e) (λ_ _ _ _ _ _ e=>e) (λ_ _ _ _ e=>e) (λ_ _ e=>e) (λ_ _ e=>e.elim)
theorem Bj.less(h:Bj v w wx wb b rb col colR vw K i i' R a3 c3 m):Bj v w wx wb b rb col colR vw K i (i'+1) R a3 c3 m:=⟨h.box,h.rl,h.gt,h.gx,h.hi,h.lo,λj p e d=>h.tp j p (by omega) d,h.tr,h.xp,h.ar,h.an,h.bt⟩
theorem sD{a:Option Addr}{c:Nat}{L:List Iv}(h:Jw wx a c L):Q.Gw 51 4 wx a c L.length (Jc L):=h
theorem vN{a:Option Addr}{c:Nat}{l:List Nat}(h:Rw wx a c l){e:TypeId}{sz:Nat}{d:Option Addr}{c2 n:Nat}{C:List Value}(k:Q.Gw e sz wx d c2 n C)(f:e≠5):∀y,a=some y->¬Q.InA d y.block:=λy q ⟨z,r,e⟩=>by
 obtain⟨s,j⟩:=k.blk r;exact h.nty j f q e.symm
theorem Bj.row(h:Bj v w wx wb b rb col colR vw K i i' R a3 c3 m)(D:Below wx.heap.size wx wA)(L:But (Q.InA a3) wA w5){g B:Nat}{x:Br}(M:Q.Gw 29 1 w5 (some ⟨g,0,none⟩) B (m.length+1) (m.map bv++[bv x]))(N:New wA a3 (some ⟨g,0,none⟩)):Bj v w w5 wb b rb col colR vw K i i' R (some ⟨g,0,none⟩) B (m++[x]):=by
 have d:But (Q.InA a3) wx w5:=(But.ofBelow (S:=Q.InA a3) D).trans L (λ_ _ e=>e)
 have l:=h.ar;have P:∀{k:Nat},Q.InA a3 k->w.heap.size<=k:=λ⟨y,q,e⟩=>by have:=h.an y q;omega
 have sw:=h.bt.size;refine⟨d.same h.box (λ⟨y,q,e⟩=>jv l h.box (by decide) y q e),h.rl,h.gt.but d (kM h.gt l (by decide)),h.gx.but d (kM h.gx l (by decide)),h.hi,λj r s O=>?_,λj p s f=>(h.tp j p s f).but d (λk A=>(h.tp j p s f).n.ne_row A l (by decide) (by decide)),λp f t E=>(h.tr p f t E).but d (vN (h.tr p f t E) l (by decide)),λp f=>(h.xp p f).but d (λk A=>(h.xp p f).n.ne_row A l (by decide) (by decide)),?_,λy q=>?_,h.bt.trans d (λk A e=>by have:=P e;omega)⟩
 . obtain⟨g,G,H,C,I,J⟩:=h.lo j r s O;exact⟨g,G,H,C.but d (kM (sD C) l (by decide)),I,J⟩
 . rw[ae,bP];exact M
 . cases q;rcases N ⟨g,0,none⟩ rfl with⟨z,hz,e⟩|e
   . have:=h.an z hz;show w.heap.size<=g;have e:z.block=g:=e;omega
   . have:=D.size;have e:wA.heap.size<=g:=e;show w.heap.size<=g;omega
theorem Bj.items(h:Bj v w wx wb b rb col colR vw K i (i+1) R a3 c3 m)(C:Bo v w wb b rb col colR vw K){p:Pv}(I:K.T[i]?=some p){c:Nat}{L:List Iv}(P:Jw wx p.aI c L)(hb:But (Q.InA p.aI) wx wy):Bj v w wy wb b rb col colR vw K i (i+1) R a3 c3 m:=by
 have E:=bB I;have V:=C.tp p E;have s:∀{k:Nat},Q.InA p.aI k->Blk p k:=λ⟨y,d,e⟩=>.inl ⟨y,d,e⟩
 have J:=fq.1 C.tt;obtain⟨N,M⟩:=bz.1 I;have x:=sD P;refine h.but hb (λ⟨y,d,e⟩=>jv x h.box (by decide) y d e) (kM h.gt x (by decide)) (kM h.gx x (by decide)) (λj r D S y d e=>?_) (λj q D f k B e=>?_) (λq f t U y d e=>vN (h.tr q f t U) x (by decide) y d e) (λq f k B e=>C.tx p E q f k (s e) B) (kM h.ar x (by decide)) (λk B e=>.inr ⟨p,E,s e⟩)
 . obtain⟨g,O,A,_⟩:=h.lo j r D S;rw[O] at d;cases d;have l:=V.n.blk_lt (s e);rcases A with A|⟨q,f,A⟩
   . have l:g<w.heap.size:=l;omega
   . obtain⟨H,G⟩:=bz.1 f;have:=J j i H N D;rw[M,G] at this;exact this g A (s e)
 . obtain⟨H,G⟩:=bz.1 f;have:=J i j N H (by omega)
   rw[M,G] at this;exact this k (s e) B
theorem Bj.told(h:Bj v w wx wb b rb col colR vw K i (i+1) R a3 c3 m)(X:Bo v w wb b rb col colR vw K){p:Pv}(H:K.T[i]?=some p){c:Nat}{L:List Iv}(hJ:Jw wx p.aI c L)(Y:Below wx.heap.size wx wA)(hB:But (Q.InA p.aI) wA w5){d c5 f:Nat}{M:List Iv}(Z:Jw w5 (some ⟨d,0,none⟩) c5 M)(hN:New wA p.aI (some ⟨d,0,none⟩))(hl:M.length<=1048579)(hc:∀y∈M,y.child= -3-(i:Int))(E:K.aT=some ⟨f,0,none⟩):
 (∀s,w5.frozen? ⟨f,s,none⟩=false)/\w5.cell? ⟨f,i*5+2,none⟩=some (.slice p.aI p.items.length p.cI)/\Bj v w (w5.setCell ⟨f,i*5+2,none⟩ (.slice (some ⟨d,0,none⟩) M.length c5)) wb b rb col colR vw K (i+1) (i+1) (R.set i {p with aI:=some ⟨d,0,none⟩,cI:=c5,items:=M}) a3 c3 m:=by
 have B5:But (Q.InA p.aI) wx w5:=(But.ofBelow (S:=Q.InA p.aI) Y).trans hB (λ_ _ e=>e)
 have k:=h.items X H hJ B5;have U:R[i]?=some p:=(h.hi i (ai _)).trans H;obtain⟨ac,ae⟩:=bz.1 U;have hm:=bB H;have P:=k.gt;rw[E] at P;obtain⟨ab,V⟩:=P.blk rfl;have V:w5.heap[f]?=some (.cells ab 31 (0,0)):=V;have bs:But (λj=>j=f) w5 (w5.setCell ⟨f,i*5+2,none⟩ (.slice (some ⟨d,0,none⟩) M.length c5)):=(But.refl (λj=>j=f) w5).setCell (p:=⟨f,i*5+2,none⟩) (λ_=>rfl) _
 have l:But (Q.InA K.aT) w5 (w5.setCell ⟨f,i*5+2,none⟩ (.slice (some ⟨d,0,none⟩) M.length c5)):=bs.mono (λj _ e=>⟨_,E,e.symm⟩)
 have B:=k.gt;refine⟨λs=>by simp[World.frozen?,V],?_,⟨l.same k.box (λ⟨y,C,e⟩=>jv B k.box (by decide) y C e),by rw[aM];exact h.rl,?_,k.gx.but l (λy C ⟨z,O,e⟩=>X.nTX z y O C e),λj G=>?_,λj r G I=>?_,λj q G A=>(k.tp j q G A).but l (λaa N=>(k.tp j q G A).n.ne_row N B (by decide) (by decide)),λq A t x=>(k.tr q A t x).but l (vN (k.tr q A t x) B (by decide)),λq A=>(k.xp q A).but l (λaa N=>(k.xp q A).n.ne_row N B (by decide) (by decide)),k.ar.but l (kM k.ar B (by decide)),k.an,k.bt.trans l (λj _ ⟨y,C,e⟩=>.inl (.inr (.inl ⟨y,C,e⟩)))⟩⟩
 . have:=(lf k.gt rfl U);obtain⟨g',D,_,_,J,_⟩:=this;rw[E] at D;cases D;exact J
 . rw[aM,xK R i p _ (.slice (some ⟨d,0,none⟩) M.length c5) U rfl,E];exact Hn P _ _
 . rw[bQ (by omega)]
   exact h.hi j (by omega)
 . by_cases ad:j=i
   . subst ad;rw[eb ac] at I;cases I;refine⟨d,rfl,?_,Z.but l (kM (sD Z) B (by decide)),hl,hc⟩
     rcases hN ⟨d,0,none⟩ rfl with⟨z,O,e⟩|e
     . exact .inr ⟨p,H,.inl ⟨z,O,e⟩⟩
     . have e:wA.heap.size<=d:=e;have:=Y.size;have:=h.bt.size;exact .inl (by omega)
   . rw[bQ (by omega)] at I
     obtain⟨g,D,J,W,e4,e5⟩:=k.lo j r (by omega) I
     exact⟨g,D,J,W.but l (kM (sD W) B (by decide)),e4,e5⟩
end
def jc(T:List Pv):List Br:=(T.map rp).flatten
theorem xU(p:Pv):(rp p).length=1+2*p.items.length:=by unfold rp;rw[bf,ss];omega
theorem xg(p:Pv)(T:List Pv):jc (p::T)=rp p++jc T:=by simp[jc]
theorem ul(A B:List Pv):jc (A++B)=jc A++jc B:=by simp[jc]
theorem xa(h:T[i]?=some p):jc (T.take (i+1))=jc (T.take i)++rp p:=by
 rw[ik,h,ul];simp[jc]
theorem qf:∀(T:List Pv),(∀p∈T,p.items.length<=1048576)->(jc T).length<=T.length*2097153
 | [],_=>by simp[jc]
 |p::T,h=>by
  have h1:=qf T (λq d=>h q (dJ _ d))
  have e:=h p da;rw[xg,ae,xU,bf];omega
theorem oG{t:Br}(h:t∈jc T):∃p∈T,t∈rp p:=by
 unfold jc at h;obtain⟨l,d,f⟩:=gJ.1 h;obtain⟨p,e,rfl⟩:=bH.1 d;exact⟨p,e,f⟩
theorem wG{v:World}(d:∀p∈T,Pn v w p)(f:T.Pairwise Bdj):(jc T).Pairwise lD:=by
 unfold jc;refine List.pairwise_flatten.2 ⟨λl j=>?_,fO.2 (f.imp ?_)⟩
 . obtain⟨p,k,rfl⟩:=bH.1 j;exact(d p k).dist
 . intro p q h s r t A x y B C e;exact h x.block (.inr ⟨s,r,x,B,rfl⟩) (.inr ⟨t,A,y,C,e.symm⟩)
def Bro:Br:=⟨none,0,[]⟩
def oA(T:List Br)(i:Nat):Option Addr:=(T.getD i Bro).a
def oC(T:List Br)(i:Nat):Nat:=(T.getD i Bro).c
def oL(T:List Br)(i:Nat):List Nat:=(T.getD i Bro).l
theorem zz{T:List Br}(h:i<T.length):T.getD i Bro∈T:=by simp[h]
theorem FN(T:List Br)(hi:i<T.length):(T.map bv)[i]?=some (.slice (oA T i) (oL T i).length (oC T i)):=by
 simp[hi,bv,oA,oL,oC]
theorem Ag(T:List Br):T.map bv=(List.range T.length).map (λi=>Value.slice (oA T i) (oL T i).length (oC T i)):=by
 apply dX;intro i;by_cases d:i<T.length
 . rw[FN _ d];simp only[c9,List.getElem?_range d,gZ]
 . rw[cM (by rw[aZ];omega),cM (by rw[aZ,gA];omega)]
theorem wS(w:World)(a:Option Addr)(h n:Nat)(T:List Br)(I:n=T.length)(l:Q.Gw 29 1 w a h T.length (T.map bv))(H:∀t∈T,Rw w t.a t.c t.l)(q:T.Pairwise lD)(G:T.length<=2932031007410)(E:∀t∈T,t.l.length<=140737488355300):
 Calls prog 30 #[.slice a n h] w λx A=>x=.returned (.bool true)/\But (λk=>∃t∈T,Q.InA t.a k) w A:=by
 subst I
 have l:Ar w a h (T.map bv):=by
  have e:(T.map bv).length=T.length:=aZ _;show w.ownsRow 0 29 1 (.slice a (T.map bv).length h) (T.map bv).length (T.map bv);rw[e];exact l
 rw[Ag] at l
 have D:zt T.length (oA T):=by
  intro i j d s J x y r f;have q:=fq.1 q;have B:T.getD i Bro=T[i]:=by simp[d]
  have C:T.getD j Bro=T[j]:=by simp[s]
  unfold oA at r f;rw[B] at r;rw[C] at f;rcases Nat.lt_or_gt_of_ne J with h1|h1
  . exact q i j d s h1 x y r f
  . exact λe=>q j i s d h1 y x f r e.symm
 refine(yB w a h T.length (oA T) (oC T) (oL T) l (λi d=>H _ (zz d)) D G λi d=>?_).mono ?_
 . have:=E _ (zz d);unfold oL;omega
 . rintro x A ⟨rfl,hb⟩;exact⟨rfl,hb.mono (λk _ ⟨i,d,y,f,e⟩=>⟨_,zz d,y,f,e⟩)⟩
theorem DE(h:Smi p):∀t∈rp p,t.l.length<=140737488355300:=by
 intro t ht;rcases cO.1 ht with rfl|ht
 . have:=h.1.1;show p.data.length<=_;omega
 . unfold i7 at ht;obtain⟨l,d,ht⟩:=gJ.1 ht;obtain⟨x,e,rfl⟩:=bH.1 d;have:=h.1.2 x e;simp only[Iv.rows,cO,bm,gO] at ht;rcases ht with rfl|rfl
   . show x.key.length<=_;omega
   . show x.val.length<=_;omega
def jB(i:Nat):Iv:=⟨none,0,[],none,0,[],-3-(i:Int),0⟩
theorem Cy{W:World}{t:TypeId}(h:W.heap[g]?=some (.cells #[.slice none 0 0,.slice none 0 0,.int .i64 (-3-(i:Int)),.int .i64 0,.slice none 0 0,.slice none 0 0,.int .i64 (-3-(i:Int)),.int .i64 0,.slice none 0 0,.slice none 0 0,.int .i64 (-3-(i:Int)),.int .i64 0] t (0,0))):∀j u,(Jc [jB i,jB i,jB i])[j]?=some u->W.cell? ((⟨g,0,none⟩:Addr).add j)=some u:=by
 intro j u d;have e:Jc [jB i,jB i,jB i]=[.slice none 0 0,.slice none 0 0,.int .i64 (-3-(i:Int)),.int .i64 0,.slice none 0 0,.slice none 0 0,.int .i64 (-3-(i:Int)),.int .i64 0,.slice none 0 0,.slice none 0 0,.int .i64 (-3-(i:Int)),.int .i64 0]:=rfl;rw[e] at d;rw[Addr.add_mid,bN,ay _ _ _ _ _ _ h];simpa using d
theorem Bd(i:Nat):∀u∈Jc [jB i,jB i,jB i],u.oneCell'=true:=by
 intro u d;have e:Jc [jB i,jB i,jB i]=[.slice none 0 0,.slice none 0 0,.int .i64 (-3-(i:Int)),.int .i64 0,.slice none 0 0,.slice none 0 0,.int .i64 (-3-(i:Int)),.int .i64 0,.slice none 0 0,.slice none 0 0,.int .i64 (-3-(i:Int)),.int .i64 0]:=rfl;rw[e] at d;simp only[cO,bm,gO] at d;rcases d with rfl|rfl|rfl|rfl|rfl|rfl|rfl|rfl|rfl|rfl|rfl|rfl<;>rfl
theorem DQ{a:Option Addr}{L:List Iv}(h:Q.Gw 51 4 w a c n (Jc L))(d:n=L.length):Jw w a c L:=by subst d;exact h
theorem zV(v w:World)(wb b rb:Nat)(col colR:Nat->Nat)(vw:Value)(K:Bkk)(aC:Bo v w wb b rb col colR vw K)(he:K.T.map Pv.pg=K.X.map Pv.pg)(h4:K.T.length<=40)(hs:∀p∈K.T,Smi p):
 Calls prog 61 #[.pointer (some ⟨wb,0,none⟩)] w λe w'=>e=.returned (.bool true)/\But (kN wb K) w w':=by
 obtain⟨t,D⟩:∃t,K.T.length=t:=⟨_,rfl⟩;have P:=iJ D
 have HX:Hid (K.X.length=t):=by
  have e:=a7 List.length he;rw[aZ,aZ] at e;show _=t;omega
 have HE:=iJ he;have HS:=iJ hs;have HB:=iJ aC;rw[D] at h4;clear D he hs aC;have B0:=iJ (Bj.start HB.o);go_enter func61,ntmps61;go_wp2_with fail
 go_loopw [3,4] (λvl vi wx=>∃(i:Nat)(R:List Pv)(a3:Option Addr)(c3:Nat),i<=t/\vi=.int .i64 (i:Int)/\vl=.slice a3 (jc (K.T.take i)).length c3/\Bj v w wx wb b rb col colR vw K i i R a3 c3 (jc (K.T.take i))) (λ_ vi _=>t-(intOf vi).toNat)
 case atStart=>exact⟨0,K.T,none,0,az _,rfl,rfl,B0.o⟩
 case round=>
  obtain⟨i,R,a3,c3,hi,rfl,rfl,ad⟩:=hrel;have d:=iJ ad;clear ad B0;by_cases aV:i<t
  . have bf:(i:Int)<(t:Int):=by omega
    obtain⟨p,G⟩:∃p,K.T[i]?=some p:=⟨_,aR (by rw[P.o];exact aV)⟩
    obtain⟨x,hx⟩:∃x,K.X[i]?=some x:=⟨_,aR (by rw[HX.o];exact aV)⟩
    have r:=iJ G;have aF:=iJ hx
    have a1:Hid (p.pg=x.pg):=by
     have e:(K.T.map Pv.pg)[i]?=(K.X.map Pv.pg)[i]?:=by rw[HE.o]
     rw[c9,c9,G,hx] at e;have E:p.pg=x.pg:=by simpa using e
     exact E
    have aj:Hid (R[i]?=some p):=(d.o.hi i (ai _)).trans G;obtain⟨B,eT,_⟩:=lf d.o.gt rfl aj.o;obtain⟨gX,eX,_⟩:=lf d.o.gx rfl hx;have s:=iJ eT;have EX:=iJ eX
    have N:Hid (∀V:World,Below wr.heap.size wr V->V.cell? ⟨wb,3,none⟩=some (.slice (some ⟨B,0,none⟩) t K.cT)/\V.cell? ⟨wb,4,none⟩=some (.slice (some ⟨gX,0,none⟩) t K.cX)/\V.cell? ⟨B,i*5,none⟩=some (.int .i64 p.kind)/\V.cell? ⟨B,i*5+1,none⟩=some (.int .i64 p.level)/\V.cell? ⟨B,i*5+2,none⟩=some (.slice p.aI p.items.length p.cI)/\V.cell? ⟨B,i*5+3,none⟩=some (.slice p.aD p.data.length p.cD)/\V.cell? ⟨B,i*5+4,none⟩=some (.int .i64 p.next)/\V.cell? ⟨gX,i*5,none⟩=some (.int .i64 x.kind)/\V.cell? ⟨gX,i*5+1,none⟩=some (.int .i64 x.level)/\V.cell? ⟨gX,i*5+2,none⟩=some (.slice x.aI x.items.length x.cI)/\V.cell? ⟨gX,i*5+3,none⟩=some (.slice x.aD x.data.length x.cD)/\V.cell? ⟨gX,i*5+4,none⟩=some (.int .i64 x.next)):=λV hb=>by
     obtain⟨-,-,-,Z,ab⟩:=iR (d.o.keep hb).box;rw[P.o,s.o] at Z;rw[HX.o,EX.o] at ab;obtain⟨g',H,E⟩:=lf (d.o.keep hb).gt rfl aj.o;rw[s.o] at H;cases H;obtain⟨g',H,e3⟩:=lf (d.o.keep hb).gx rfl aF.o;rw[EX.o] at H;cases H;exact⟨Z,ab,E.1,E.2.1,E.2.2.1,E.2.2.2.1,E.2.2.2.2,e3⟩
    have EQ:=iJ λ(V:World)(hb:Below wr.heap.size wr V)=>mY V p x ((d.o.keep hb).tp i p (ai _) r.o).pi ((d.o.keep hb).xp x (bB aF.o)).pi a1.o
    unfold Pv.vl at EQ;simp only[Pv.cs] at EQ;have bk:IntKind.i64.wrap (-3-(i:Int))= -3-(i:Int):=iT (by omega) (by omega)
    obtain⟨Z,ab,_⟩:=N.o _ (Below.refl _ _);clear G hx eT eX;go_upto_region 5 with fail
    clear Z ab;have DR:=iJ (dr2 wr);refine wrd N DR.o λhHeld=>?_
    refine tkd 0 1 2 3 ?_;refine tkd 4 5 6 7 ?_;refine tkd 8 9 10 11 ?_;refine tkb 12 13 ?_;refine tw 14 λKx I=>?_
    go_simp;refine(EQ.o _ DR.o).mono ?_;rintro _ w5 ⟨rfl,aO⟩;have B5:=iJ (bt DR.o aO);have a0:Hid (∀y,a3=some y->y.block<w5.heap.size):=λy hy=>(d.o.keep B5.o).ar.lt hy
    clear aO;go_wp2_with fail
    refine I.o _ _ (N.o _ B5.o) (λhHeld=>?_)
    refine tk 15 ?_;refine td ?_;clear hHeld EQ;have d:Hid (Bj v w w5 wb b rb col colR vw K i i R a3 c3 (jc (K.T.take i))):=d.o.keep B5.o;obtain⟨n,U⟩:∃n,p.items.length=n:=⟨_,rfl⟩;have ah:=iJ U;have a8:n<=1048576:=by rw[<-U];exact(HS.o p (bB r.o)).2
    obtain⟨Z,ab,t0,t1,t2,t3,t4,_⟩:=N.o _ B5.o;have LP:=iJ (sc w5 p (d.o.tp i p (ai _) r.o).pi.it (by rw[U];exact a8))
    unfold Pv.vl at LP;simp only[Pv.cs] at LP;clear N;rw[U] at LP t2;go_wp2_with fail
    refine LP.o.mono ?_;rintro _ w6 ⟨M,c1,rfl,ak⟩;have d:=iJ (d.o.keep ak.b);obtain⟨rn,aw⟩:∃rn,1+2*n=rn:=⟨_,rfl⟩;have RN:Hid ((rp p).length=rn):=by show _=_;rw[xU,U,aw]
    have bh:rn<=2097153:=by omega
    have O1:Hid (Q.Gw 29 1 w6 (some ⟨M,0,none⟩) c1 rn ((rp p).map bv)):=by
     have e:=ak.r;have el:((rp p).map bv).length=rn:=by rw[aZ];exact RN.o
     have e:Q.Gw 29 1 w6 (some ⟨M,0,none⟩) c1 ((rp p).map bv).length ((rp p).map bv):=e;rw[el] at e;exact e
    have aJ:Hid (∀y,a3=some y->y.block≠M):=λy hy=>by
     have l:=a0.o y hy;rcases ak.n ⟨M,0,none⟩ rfl with⟨z,hz,_⟩|e
     . cases hz
     . have e:w5.heap.size<=M:=e;omega
    obtain⟨Y,an⟩:∃Y,(jc (K.T.take i)).length=Y:=⟨_,rfl⟩;have M0:=iJ an
    have bl:Y<=83886120:=by
     have e:=qf (K.T.take i) (λaY hq=>(HS.o aY (fQ hq)).2)
     rw[bi] at e;have:=P.o;have:min i K.T.length<=40:=by omega
     rw[an] at e;have:=dT 2097153 this;omega
    simp only[aw,an];clear ak LP t0 t1 t2 t3 t4 Z ab U aw an DR;go_wp2_with fail
    go_loopw [3,6] (λvl O wx=>∃(k:Nat)(a3:Option Addr)(c3:Nat),k<=rn/\O=.int .i64 (k:Int)/\vl=.slice a3 (Y+k) c3/\Bj v w wx wb b rb col colR vw K i i R a3 c3 (jc (K.T.take i)++(rp p).take k)/\Q.Gw 29 1 wx (some ⟨M,0,none⟩) c1 rn ((rp p).map bv)/\(∀y,a3=some y->y.block≠M)) (λ_ O _=>rn-(intOf O).toNat)
    case atStart=>exact⟨0,a3,c3,az _,rfl,rfl,by rw[fR,cU];exact d.o,O1.o,aJ.o⟩
    case round=>
     obtain⟨k,a3,c3,hk,rfl,rfl,ad,ho,aW⟩:=hrel;have BK:=iJ ad;have OK:=iJ ho;have NE:=iJ aW;clear ad ho aW d O1 aJ;by_cases ac:k<rn
     . have aS:(k:Int)<(rn:Int):=by omega
       obtain⟨f,ax⟩:∃f,(rp p)[k]?=some f:=⟨_,aR (by rw[RN.o];exact ac)⟩
       have ck:wr.cell? ⟨M,k,none⟩=some (.slice f.a f.l.length f.c):=OK.o.cell (by rw[c9,ax];rfl)
       have aG:Hid ((jc (K.T.take i)++(rp p).take k).length=Y+k):=by
        show _=_;rw[ae,M0.o,bi,RN.o,dq (by omega)]
       have TS:Hid ((rp p).take (k+1)=(rp p).take k++[f]):=by show _=_;rw[ik,ax];rfl
       have A2:=iJ (al wr (.cells #[.slice f.a f.l.length f.c] 29));have X2:=iJ (aH wr (.cells #[.slice f.a f.l.length f.c] 29))
       have G2:Hid (Q.Gw 29 1 (wr.alloc (.cells #[.slice f.a f.l.length f.c] 29)) a3 c3 (Y+k) ((jc (K.T.take i)++(rp p).take k).map bv)):=by
        have e:=BK.o.ar.keep A2.o;rw[aG.o] at e;exact e
       have a6:Y+k+1<=maxLen:=by unfold maxLen;omega
       obtain⟨vs,ay⟩:∃vs,(jc (K.T.take i)++(rp p).take k).map bv=vs:=⟨_,rfl⟩;have VS:=iJ ay;rw[ay] at G2;clear ax ay;go_wp2_with (at_builtin;refine jM underlying76 pF rfl (by decide) rfl _ _ rfl a3 (Y+k) c3 vs rfl G2.o ⟨wr.heap.size,0,none⟩ 1 [.slice f.a f.l.length f.c] rfl rfl (qy X2.o) (λbe hu=>by rw[aQ.1 hu];rfl) a6 (by omega) ?_)
       intro A c5 w5 hG h X
       have NB:Hid (Bj v w w5 wb b rb col colR vw K i i R (some ⟨A,0,none⟩) c5 (jc (K.T.take i)++(rp p).take (k+1))):=by
        have e:=BK.o.row A2.o X (x:=f) (by rw[aG.o,VS.o];exact hG) h
        rw[aU,<-TS.o] at e;exact e
       have bb:M<wr.heap.size:=OK.o.lt rfl;have NO:Hid (Q.Gw 29 1 w5 (some ⟨M,0,none⟩) c1 rn ((rp p).map bv)):=(OK.o.keep A2.o).but X (λy hy ⟨z,hz,e⟩=>by cases hy;exact NE.o z hz e)
       have NG:Hid (∀y,(some ⟨A,0,none⟩:Option Addr)=some y->y.block≠M):=λy hy=>by
        cases hy;rcases h ⟨A,0,none⟩ rfl with⟨z,hz,e⟩|e
        . intro E;exact NE.o z hz (e.trans E)
        . have e:(wr.alloc (.cells #[.slice f.a f.l.length f.c] 29)).heap.size<=A:=e;have:=A2.o.size;show A≠M;omega
       clear hG h X bb G2 X2 A2 ck;go_wp2_with fail
       go_roundw
       case rel=>exact⟨k+1,some ⟨A,0,none⟩,c5,by omega,by go_num,by rw[fC],NB.o,NO.o,NG.o⟩
       case measure=>simp[intOf];omega
     . obtain rfl:k=rn:=by omega
       have d:Hid (Bj v w wr wb b rb col colR vw K i i R a3 c3 (jc (K.T.take i)++rp p)):=by
        have e:=BK.o;rw[db (l:=rp p) (by rw[RN.o];exact ai _)] at e
        exact e
       have ML:Hid ((jc (K.T.take i)++rp p).length=Y+k):=by show _=_;rw[ae,M0.o,RN.o]
       have MS:Hid (jc (K.T.take (i+1))=jc (K.T.take i)++rp p):=xa r.o;clear BK OK NE;generalize wr=w7 at *;go_wp2_with fail
       go_loopw [7] (λO wx=>∃(k:Nat)(L:List Iv),k<=n/\O=.int .i64 (k:Int)/\L.length=n/\Jw wx p.aI p.cI L/\(∀j,j<k->(L.getD j Iv.zero).child= -3-(i:Int))/\Bj v w wx wb b rb col colR vw K i (i+1) R a3 c3 (jc (K.T.take i)++rp p)) (λO _=>n-(intOf O).toNat)
       case atStart=>exact⟨0,p.items,az _,rfl,ah.o,(d.o.tp i p (ai _) r.o).n.it,λj hj=>absurd hj (dQ _),d.o.less⟩
       case round=>
        obtain⟨k,L,hk,rfl,aT,am,ag,aP⟩:=hrel;have u:=iJ aT;have JL:=iJ am;have CH:=iJ ag;have q:=iJ aP;clear aT am ag aP d;have Z:=(iR q.o.box).2.2.2.1;rw[P.o,s.o] at Z
        have r2:wr.cell? ⟨B,i*5+2,none⟩=some (.slice p.aI n p.cI):=by
         obtain⟨g',H,_,_,E,_⟩:=lf q.o.gt rfl aj.o;rw[s.o] at H;cases H;rw[ah.o] at E;exact E
        by_cases ac:k<n
        . have aS:(k:Int)<(n:Int):=by omega
          obtain⟨C,ap⟩:∃C,p.aI=some ⟨C,0,none⟩:=by
           obtain⟨C,e,_⟩:=JL.o.addr (by rw[u.o];omega)
           exact⟨C,e⟩
          have JG:=iJ JL.o;rw[ap] at JG r2;obtain⟨⟨p0,p1,p2,p3⟩,f0,f1,f2,f3⟩:=JG.o.item4 (k:=k) (by rw[u.o];exact ac)
          have aK:=jr C (jB i).cs.toList wr (k*4)
          have NJ:Hid (Jw ((((wr.setCell ⟨C,k*4,none⟩ (.slice none 0 0)).setCell ⟨C,k*4+1,none⟩ (.slice none 0 0)).setCell ⟨C,k*4+2,none⟩ (.int .i64 (-3-(i:Int)))).setCell ⟨C,k*4+3,none⟩ (.int .i64 0)) p.aI p.cI (L.set k (jB i))):=by
           have e:=JG.o.setv k (jB i);rw[<-ap] at e;exact e
          have NB:Hid (Bj v w ((((wr.setCell ⟨C,k*4,none⟩ (.slice none 0 0)).setCell ⟨C,k*4+1,none⟩ (.slice none 0 0)).setCell ⟨C,k*4+2,none⟩ (.int .i64 (-3-(i:Int)))).setCell ⟨C,k*4+3,none⟩ (.int .i64 0)) wb b rb col colR vw K i (i+1) R a3 c3 (jc (K.T.take i)++rp p)):=q.o.items HB.o r.o JL.o (aK.mono (λj _ e=>⟨_,ap,e.symm⟩))
          clear aK;go_wp2_with fail
          generalize (((wr.setCell ⟨C,k*4,none⟩ (.slice none 0 0)).setCell ⟨C,k*4+1,none⟩ (.slice none 0 0)).setCell ⟨C,k*4+2,none⟩ (.int .i64 (-3-(i:Int)))).setCell ⟨C,k*4+3,none⟩ (.int .i64 0)=wn at *;go_roundw
          case rel=>exact⟨k+1,L.set k (jB i),by omega,by go_num,by rw[aM];exact u.o,NJ.o,λj hj=>by
           simp only[aq];by_cases e:k=j
           . subst e;rw[eb (by rw[u.o];exact ac)]
             rfl
           . rw[bQ e];have:=CH.o j (by omega)
             simp only[aq] at this;exact this,NB.o⟩
          case measure=>simp[intOf];omega
        . obtain rfl:k=n:=by omega
          go_upto_region 16 with fail
          clear Z r2;have bd:k+3<=maxLen:=by unfold maxLen;omega
          have A8:=iJ (dr2 wr)
          have N:Hid (∀V:World,Below wr.heap.size wr V->V.cell? ⟨wb,3,none⟩=some (.slice (some ⟨B,0,none⟩) t K.cT)):=λV hb=>by
           have c:=(iR (q.o.keep hb).box).2.2.2.1;rw[P.o,s.o] at c;exact c
          have RC:Hid (∀V:World,Below wr.heap.size wr V->V.cell? ⟨B,i*5+2,none⟩=some (.slice p.aI k p.cI)):=λV hb=>by
           obtain⟨g',H,_,_,E,_⟩:=lf (q.o.keep hb).gt rfl aj.o;rw[s.o] at H;cases H;rw[ah.o] at E;exact E
          generalize a9:wr=J at *;clear a9;refine wrd N A8.o λhHeld=>?_
          refine tkd 0 1 2 3 ?_;refine tkd 4 5 6 7 ?_;refine tkd 8 9 10 11 ?_;refine tkd 13 14 15 16 ?_;refine tkd 17 18 19 20 ?_;refine tk 21 ?_;refine fh (rs:=[12,22]) (by kernel_rfl) (by simp) ?_
          refine(AllReadyH.cons rfl (λKx I=>?_) (AllReadyH.cons rfl (λKx I=>?_) AllReadyH.nil))
          all_goals
           first
           |have aA:=RC.o _ A8.o
            go_simp;clear aA;refine I.o _ _ (N.o _ A8.o) (λhHeld=>?_)
            refine tw 22 λKx I=>?_
            go_simp;have W:=iJ (bt (al J (.cells #[.slice none 0 0,.slice none 0 0,.int .i64 (-3-(i:Int)),.int .i64 0,.slice none 0 0,.slice none 0 0,.int .i64 (-3-(i:Int)),.int .i64 0,.slice none 0 0,.slice none 0 0,.int .i64 (-3-(i:Int)),.int .i64 0] 51)) (dr2 (J.alloc (.cells #[.slice none 0 0,.slice none 0 0,.int .i64 (-3-(i:Int)),.int .i64 0,.slice none 0 0,.slice none 0 0,.int .i64 (-3-(i:Int)),.int .i64 0,.slice none 0 0,.slice none 0 0,.int .i64 (-3-(i:Int)),.int .i64 0] 51))));have X4:Hid ((J.alloc (.cells #[.slice none 0 0,.slice none 0 0,.int .i64 (-3-(i:Int)),.int .i64 0,.slice none 0 0,.slice none 0 0,.int .i64 (-3-(i:Int)),.int .i64 0,.slice none 0 0,.slice none 0 0,.int .i64 (-3-(i:Int)),.int .i64 0] 51)).drew.heap[J.heap.size]?=some (.cells #[.slice none 0 0,.slice none 0 0,.int .i64 (-3-(i:Int)),.int .i64 0,.slice none 0 0,.slice none 0 0,.int .i64 (-3-(i:Int)),.int .i64 0,.slice none 0 0,.slice none 0 0,.int .i64 (-3-(i:Int)),.int .i64 0] 51 (0,0))):=aH J (.cells #[.slice none 0 0,.slice none 0 0,.int .i64 (-3-(i:Int)),.int .i64 0,.slice none 0 0,.slice none 0 0,.int .i64 (-3-(i:Int)),.int .i64 0,.slice none 0 0,.slice none 0 0,.int .i64 (-3-(i:Int)),.int .i64 0] 51);refine I.o _ _ (N.o _ W.o) (λhHeld=>?_)
            try simp only[pt]
            generalize (J.alloc (.cells #[.slice none 0 0,.slice none 0 0,.int .i64 (-3-(i:Int)),.int .i64 0,.slice none 0 0,.slice none 0 0,.int .i64 (-3-(i:Int)),.int .i64 0,.slice none 0 0,.slice none 0 0,.int .i64 (-3-(i:Int)),.int .i64 0] 51)).drew=w9 at*
           |go_simp
            have W:=iJ (bt (al J (.cells #[.slice none 0 0,.slice none 0 0,.int .i64 (-3-(i:Int)),.int .i64 0,.slice none 0 0,.slice none 0 0,.int .i64 (-3-(i:Int)),.int .i64 0,.slice none 0 0,.slice none 0 0,.int .i64 (-3-(i:Int)),.int .i64 0] 51)) (dr2 (J.alloc (.cells #[.slice none 0 0,.slice none 0 0,.int .i64 (-3-(i:Int)),.int .i64 0,.slice none 0 0,.slice none 0 0,.int .i64 (-3-(i:Int)),.int .i64 0,.slice none 0 0,.slice none 0 0,.int .i64 (-3-(i:Int)),.int .i64 0] 51))));have X4:Hid ((J.alloc (.cells #[.slice none 0 0,.slice none 0 0,.int .i64 (-3-(i:Int)),.int .i64 0,.slice none 0 0,.slice none 0 0,.int .i64 (-3-(i:Int)),.int .i64 0,.slice none 0 0,.slice none 0 0,.int .i64 (-3-(i:Int)),.int .i64 0] 51)).drew.heap[J.heap.size]?=some (.cells #[.slice none 0 0,.slice none 0 0,.int .i64 (-3-(i:Int)),.int .i64 0,.slice none 0 0,.slice none 0 0,.int .i64 (-3-(i:Int)),.int .i64 0,.slice none 0 0,.slice none 0 0,.int .i64 (-3-(i:Int)),.int .i64 0] 51 (0,0))):=aH J (.cells #[.slice none 0 0,.slice none 0 0,.int .i64 (-3-(i:Int)),.int .i64 0,.slice none 0 0,.slice none 0 0,.int .i64 (-3-(i:Int)),.int .i64 0,.slice none 0 0,.slice none 0 0,.int .i64 (-3-(i:Int)),.int .i64 0] 51);refine I.o _ _ (N.o _ W.o) (λhHeld=>?_)
            try simp only[pt]
            generalize (J.alloc (.cells #[.slice none 0 0,.slice none 0 0,.int .i64 (-3-(i:Int)),.int .i64 0,.slice none 0 0,.slice none 0 0,.int .i64 (-3-(i:Int)),.int .i64 0,.slice none 0 0,.slice none 0 0,.int .i64 (-3-(i:Int)),.int .i64 0] 51)).drew=w9 at *;refine tw 12 λKx I=>?_
            have aA:=RC.o _ W.o;go_simp;clear aA;refine I.o _ _ (N.o _ W.o) (λhHeld=>?_)
            try simp only[pt]
           obtain⟨gs,au⟩:∃gs,J.heap.size=gs:=⟨_,rfl⟩;simp only[au] at X4;try simp only[au]
           clear au;have G4:Hid (Q.Gw 51 4 w9 p.aI p.cI k (Jc L)):=by have e:=sD (JL.o.keep W.o);rw[u.o] at e;exact e
           have aE:Hid (∀(A c5:Nat)(w5:World),Q.Gw 51 4 w5 (some ⟨A,0,none⟩) c5 (k+3) (Jc L++Jc [jB i,jB i,jB i])->New w9 p.aI (some ⟨A,0,none⟩)->But (Q.InA p.aI) w9 w5->(w5.cell? ⟨wb,3,none⟩=some (.slice (some ⟨B,0,none⟩) t K.cT)/\w5.frozen? ⟨B,i*5+2,none⟩=false/\w5.cell? ⟨B,i*5+2,none⟩=some (.slice p.aI k p.cI))/\(w5.setCell ⟨B,i*5+2,none⟩ (.slice (some ⟨A,0,none⟩) (k+3) c5)).cell? ⟨wb,3,none⟩=some (.slice (some ⟨B,0,none⟩) t K.cT)/\Bj v w (w5.setCell ⟨B,i*5+2,none⟩ (.slice (some ⟨A,0,none⟩) (k+3) c5)) wb b rb col colR vw K (i+1) (i+1) (R.set i {p with aI:=some ⟨A,0,none⟩,cI:=c5,items:=L++[jB i,jB i,jB i]}) a3 c3 (jc (K.T.take i)++rp p)):=λA c5 w5 hG h X=>by
            have ll:(L++[jB i,jB i,jB i]).length=k+3:=by rw[ae,u.o];rfl
            have ba:Jw w5 (some ⟨A,0,none⟩) c5 (L++[jB i,jB i,jB i]):=DQ (by rw[tQ];exact hG) ll.symm
            obtain⟨q1,q2,q3⟩:=q.o.told HB.o r.o JL.o W.o X ba h (by rw[ll];omega) (λy hy=>by
             rcases bq.1 hy with hy|hy
             . obtain⟨k,hk,rfl⟩:=List.getElem_of_mem hy;have:=CH.o k (by rw[<-u.o];exact hk)
               simp only[aq,aR hk,Option.getD_some] at this;exact this
             . simp only[cO,bm,gO] at hy;rcases hy with rfl|rfl|rfl<;>rfl) s.o
            rw[ll] at q3;rw[ah.o] at q2;have k5:=(q.o.items HB.o r.o JL.o ((But.ofBelow (S:=Q.InA p.aI) W.o).trans X (λ_ _ e=>e))).box
            have aL:=(iR k5).2.2.2.1;have aN:=(iR q3.box).2.2.2.1;rw[P.o,s.o] at aL aN;exact⟨⟨aL,q1 _,q2⟩,aN,q3⟩
           refine tw 23 λKx I=>?_
           refine Dw underlying28 mD rfl (by decide) rfl _ _ rfl p.aI k p.cI (Jc L) (by first|(simp[Act.eval];done)|simp[Act.eval,Act.put]) G4.o ⟨gs,0,none⟩ 3 3 (Jc [jB i,jB i,jB i]) (by first|(simp[Act.eval];done)|simp[Act.eval,Act.put]) rfl (Cy X4.o) (Bd i) (by decide) bd (by omega) ?_
           intro A c5 w5 hG h X;obtain⟨⟨h5,fS,cS⟩,h6,r6⟩:=aE.o A c5 w5 hG h X;have H6:=iJ h6;have R6:=iJ r6;clear hG h X h6 r6 aE;refine I.o _ _ h5 (λhHeld=>?_)
           clear h5;refine tkb 24 25 ?_;refine tw 26 λKx I=>?_
           go_simp;refine I.o _ _ H6.o (λhHeld=>?_)
           refine td ?_;clear hHeld fS cS;generalize w5.setCell ⟨B,i*5+2,none⟩ (.slice (some ⟨A,0,none⟩) (k+3) c5)=w6 at *;go_wp2_with fail
           go_roundw
           case rel=>exact⟨i+1,_,a3,c3,by omega,by go_num,by rw[MS.o,ML.o],by rw[MS.o];exact R6.o⟩
           case measure=>simp[intOf];omega
  . have LT:=iJ d.o.bt.size;have h0:(i:Int)<(t:Int)->False:=λe=>by omega
    obtain rfl:i=t:=by omega
    have aB:K.T.take i=K.T:=db (by rw[P.o];exact ai _)
    rw[aB] at d;rw[aB];clear aB;generalize wr=bc at *;obtain⟨-,-,-,q3,q4⟩:=iR d.o.box;rw[P.o] at q3;obtain⟨ml,av⟩:∃ml,(jc K.T).length=ml:=⟨_,rfl⟩;have a4:=iJ av;simp only[av];clear av;go_wp2_with fail
    go_loopw [8] (λvj wx=>∃j:Nat,j<=i/\vj=.int .i64 (j:Int)/\wx=bc) (λvj _=>i-(intOf vj).toNat)
    case atStart=>exact⟨0,az _,rfl,rfl⟩
    case round=>
     obtain⟨j,hj,rfl,rfl⟩:=hrel;by_cases am:j<i
     . have bg:(j:Int)<(i:Int):=by omega
       obtain⟨aa,hr⟩:∃aa,R[j]?=some aa:=⟨_,aR (by have:=d.o.rl;have:=P.o;omega)⟩
       obtain⟨g,H,_,jw,a5,ag⟩:=d.o.lo j aa am hr;obtain⟨B,eT,_,_,r2,_⟩:=lf d.o.gt rfl hr;rw[H] at r2 jw;have JW:=iJ jw;have HC:=iJ ag;obtain⟨n,U⟩:∃n,aa.items.length=n:=⟨_,rfl⟩;have HN:=iJ U;rw[U] at r2 a5;rw[eT] at q3;have wj:IntKind.i64.wrap (-3-(j:Int))= -3-(j:Int):=iT (by omega) (by omega)
       clear U jw ag H;go_wp2_with fail
       go_loopw [9] (λO wx=>∃k:Nat,k<=n/\O=.int .i64 (k:Int)/\wx=wr) (λO _=>n-(intOf O).toNat)
       case atStart=>exact⟨0,az _,rfl,rfl⟩
       case round=>
        obtain⟨k,hk,rfl,rfl⟩:=hrel;by_cases ac:k<n
        . have aS:(k:Int)<(n:Int):=by omega
          obtain⟨⟨_,_,p2,_⟩,_⟩:=JW.o.item4 (k:=k) (by rw[HN.o];exact ac)
          have hm:aa.items.getD k Iv.zero∈aa.items:=by
           have:=HN.o;simp only[aq];rw[aR (by omega)]
           exact eK _
          rw[HC.o _ hm] at p2;have bn:((-3-(j:Int)) != (-3-(j:Int)))=false:=by simp
          clear hm;go_wp2_with fail
          go_roundw
          case rel=>exact⟨k+1,by omega,by go_num,trivial⟩
          case measure=>simp[intOf];omega
        . obtain rfl:k=n:=by omega
          go_wp2_with fail
          go_roundw
          case rel=>exact⟨j+1,by omega,by go_num,trivial⟩
          case measure=>simp[intOf];omega
     . obtain rfl:j=i:=by omega
       have fz:∀aD,wr.frozen? ⟨wb,aD,none⟩=false:=λaD=>by simp[World.frozen?,d.o.box]
       have f3:=fz 3;have f4:=fz 4;have wl:=(af.1 d.o.box).1;have bs:But (λk=>k=wb) wr ((wr.setCell ⟨wb,3,none⟩ (.slice none 0 0)).setCell ⟨wb,4,none⟩ (.slice none 0 0)):=((But.refl (λk=>k=wb) wr).setCell (p:=⟨wb,3,none⟩) (λ_=>rfl) _).setCell (p:=⟨wb,4,none⟩) (λ_=>rfl) _
       have AP:=iJ (wS ((wr.setCell ⟨wb,3,none⟩ (.slice none 0 0)).setCell ⟨wb,4,none⟩ (.slice none 0 0)) a3 c3 ml (jc K.T) a4.o.symm (d.o.ar.but bs (λy hy e=>jv d.o.ar d.o.box (by decide) y hy e)) (λt D=>by
        obtain⟨p,G,D⟩:=oG D;exact(d.o.tr p G t D).but bs (λy hy e=>(d.o.tr p G t D).nty d.o.box (by decide) hy e)) (wG (λp G=>(HB.o.tp p G).n) HB.o.tt) (by
        have:=qf K.T (λp G=>(HS.o p G).2)
        have:=P.o;omega) (λt D=>by
        obtain⟨p,G,D⟩:=oG D;exact DE (HS.o p G) t D))
       have FB:Hid (∀ao:World,But (λk=>∃t∈jc K.T,Q.InA t.a k) ((wr.setCell ⟨wb,3,none⟩ (.slice none 0 0)).setCell ⟨wb,4,none⟩ (.slice none 0 0)) ao->But (kN wb K) w ao):=λao hb=>(d.o.bt.trans bs (λk _ e=>.inl (.inl e))).trans hb (λk _ ⟨t,D,y,hy,e⟩=>by
        obtain⟨p,G,D⟩:=oG D;exact .inr ⟨p,G,.inr ⟨t,D,y,hy,e⟩⟩)
       clear bs fz;go_wp2_with fail
       refine AP.o.mono ?_;rintro _ bj ⟨rfl,aX⟩;have a2:=iJ (FB.o _ aX);clear aX AP FB;go_wp2_with fail
       go_ret;exact⟨rfl,a2.o⟩
theorem Po2.zero(w:World)(col colR:Nat->Nat):Po2 w col colR Pv.zero:=⟨Pz.zero _ _,rF⟩
def arW(col colR:Nat->Nat)(wb:Nat)(aW:Option Addr)(W:List Wl)(K:Bkk)(k:Nat):Prop:=col k≠0\/colR k≠0\/qr wb aW W K k
structure Fa(w:World)(A:Nat->Prop)(w':World)(A':Nat->Prop):Prop where
 b:But A w w'
 a:∀k,k<w.heap.size->A' k->A k
section
variable {w w' w2:World} {A A' A2:Nat->Prop} {col colR col' colR':Nat->Nat} {wb:Nat} {aW aW':Option Addr} {W W':List Wl} {K K':Bkk}
theorem Fa.refl:Fa w A w A:=⟨But.refl _ _,λ_ _ e=>e⟩
theorem Fa.trans(h:Fa w A w' A')(k:Fa w' A' w2 A2):Fa w A w2 A2:=⟨h.b.trans k.b h.a,λj d e=>h.a j d (k.a j (be d h.b.size) e)⟩
theorem Fa.fx(h:Fx w col colR (ot wb aW K) w' col' colR')(f:Sb w.heap.size wb aW W K aW' W' K'):Fa w (arW col colR wb aW W K) w' (arW col' colR' wb aW' W' K'):=
 ⟨h.b.mono (λk _ e=>e.elim (λe=>.inl (by omega)) (λe=>.inr (e.elim (λe=>.inl (by omega)) (λe=>.inr (.inl e))))),λk d e=>by
   rcases e with e|e|e
   . rw[h.c k d] at e;exact .inl e
   . rw[h.r k d] at e;exact .inr (.inl e)
   . exact .inr (.inr (f k d e))⟩
theorem Bm{k:Nat}(e:kN wb K k):arW col colR wb aW W K k:=.inr (.inr (.inl (e.elim .inl (λe=>.inr (.inr e)))))
theorem Fa.pre{d:World}(h:Fa d A w' A')(hb:Below w.heap.size w d):Fa w A w' A':=⟨(But.ofBelow hb).trans h.b (λ_ _ e=>e),λk f e=>h.a k (be f hb.size) e⟩
theorem Fa.booked(hb:But (kN wb K) w w')(d:Sb w.heap.size wb aW W K aW W K'):Fa w (arW col colR wb aW W K) w' (arW col colR wb aW W K'):=Fa.fx (Fx.booked hb) d
end
theorem lH(v w:World)(wb b rb l j:Nat)(S:Vs)(D:Rd)(H:List Sn)(x col colR:Nat->Nat)(aW:Option Addr)(s:Nat)(W:List Wl)(K:Bkk)(M:Nat)(h:Wo v w wb b rb l j S D H x col colR aW s W K M)(y:M<=100000000000)(k n t:Int):
 Calls prog 10 #[.pointer (some ⟨wb,0,none⟩),.agg #[.int .i64 k,.int .i64 n,.int .i64 t,.int .i64 0,.int .i64 0,.slice none 0 0,.slice none 0 0,.int .i64 0]] w λe w'=>e=.returned (.bool true)/\∃(f:Vs)(D':Rd)(d:List Sn)(r col' colR':Nat->Nat)(aW':Option Addr)(q:Nat)(W':List Wl)(K':Bkk),Wo v w' wb b rb l j f D' d r col' colR' aW' q W' K' (M+20)/\Fa w (arW col colR wb aW W K) w' (arW col' colR' wb aW' W' K'):=by
 refine(xS v w wb b rb l j S D H x col colR aW s W K M h y ⟨k,n,t,Pv.zero⟩ (Po2.zero _ _ _)).mono ?_;rintro _ w' ⟨rfl,f,D',d,r,col',colR',aW',q,W',K',E,B,C⟩;exact⟨rfl,f,D',d,r,col',colR',aW',q,W',K',E,Fa.fx B C⟩
theorem wC(v w:World)(wb b rb E B:Nat)(S:Vs)(D:Rd)(H:List Sn)(t col colR:Nat->Nat)(aW:Option Addr)(r:Nat)(W:List Wl)(K:Bkk)(N:Nat)(ag:Wo v w wb b rb E B S D H t col colR aW r W K N)(hN:N<=90000000000):
 Calls prog 11 #[.pointer (some ⟨wb,0,none⟩)] w λe w'=>e=.returned (.bool true)/\Below v.heap.size v w'/\But (arW col colR wb aW W K) w w':=by
 have HW:=iJ ag;clear ag;obtain⟨A,hA⟩:∃A,arW col colR wb aW W K=A:=⟨_,rfl⟩;have f:Hid (Fa w A w (arW col colR wb aW W K)):=by rw[hA];exact Fa.refl
 rw[hA];clear hA;go_enter func11,ntmps11;go_wp2_with fail
 go_loopw [3] (λvi wx=>∃(j:Nat)(S:Vs)(D:Rd)(H:List Sn)(t col colR:Nat->Nat)(aW:Option Addr)(r:Nat)(W:List Wl)(K:Bkk)(M:Nat),j<=65540/\vi=.int .i64 ((j:Int)-1)/\M<=N+60*j/\Wo v wx wb b rb E B S D H t col colR aW r W K M/\Fa w A wx (arW col colR wb aW W K)) (λvi _=>65541-(intOf vi+1).toNat)
 case atStart=>exact⟨0,S,D,H,t,col,colR,aW,r,W,K,N,az _,rfl,ai _,HW.o,f.o⟩
 case round=>
  clear HW f;obtain⟨j,S,D,H,t,col,colR,aW,r,W,K,M,hj,rfl,hM,l,q⟩:=hrel;have d:=iJ l;have f:=iJ q;clear l q;obtain⟨n,hn⟩:∃n,D.C.length=n:=⟨_,rfl⟩;have ay:n<=65536:=by rw[<-hn];exact d.o.va.R.q.n6
  have c1:=d.o.ws.cells.2.1;have c2:wr.cell? ⟨rb,1,none⟩=some (.slice D.aC n D.cC):=by rw[<-hn];exact d.o.va.R.q.cells.2.1
  have w1:IntKind.i64.wrap ((n:Int)+1)=(n:Int)+1:=iT (by omega) (by omega)
  clear hn;by_cases ae:j<=n+2
  . have P:(j:Int)-1<=(n:Int)+1:=by omega
    have aa:decide ((j:Int)-1<=(n:Int)+1)=true:=ax P;obtain⟨z,hz⟩:∃z,(j:Int)-1=z:=⟨_,rfl⟩;have HZ:=iJ hz;have wz:IntKind.i64.wrap (z+1)=z+1:=iT (by omega) (by omega)
    simp only[hz] at aa P ⊢;clear hz;have G:=iJ (lH v wr wb b rb E B _ _ _ _ _ _ _ _ _ _ _ d.o (by omega) 6 z 0)
    go_wp2_with fail
    refine G.o.mono ?_;rintro _ w2 ⟨rfl,S,D,H,t,col,colR,aW,r,W,K,l,q⟩;have H2:=iJ l;have f:=iJ (f.o.trans q);clear l q G;have U:=iJ (lH v w2 wb b rb E B _ _ _ _ _ _ _ _ _ _ _ H2.o (by omega) 7 z 0)
    go_wp2_with fail
    refine U.o.mono ?_;rintro _ w3 ⟨rfl,S,D,H,t,col,colR,aW,r,W,K,l,q⟩;have H3:=iJ l;have f:=iJ (f.o.trans q);clear l q U;have C3:=iJ (lH v w3 wb b rb E B _ _ _ _ _ _ _ _ _ _ _ H3.o (by omega) 8 z 0)
    go_wp2_with fail
    refine C3.o.mono ?_;rintro _ L ⟨rfl,S,D,H,t,col,colR,aW,r,W,K,l,q⟩;have H4:=iJ l;have f:=iJ (f.o.trans q);clear l q C3;clear aa P w1;go_wp2_with fail
    go_roundw
    case rel=>exact⟨j+1,S,D,H,t,col,colR,aW,r,W,K,M+20+20+20,by omega,by rw[<-HZ.o];go_num,by omega,H4.o,f.o⟩
    case measure=>simp[intOf];have:=HZ.o;omega
  . have P:¬((j:Int)-1<=(n:Int)+1):=by omega
    have aa:decide ((j:Int)-1<=(n:Int)+1)=false:=au P;have av:M<=95000000000:=by omega
    generalize wr=w1 at *;obtain⟨C,af⟩:∃C,W.length=C:=⟨_,rfl⟩;have X:=iJ af;have ap:=pI d.o.gw;rw[af] at ap;clear af;go_wp2_with fail
    clear c1 c2 aa P;go_loopw [5] (λvi wx=>∃(i:Nat)(K:Bkk),i<=C/\vi=.int .i64 (i:Int)/\Wo v wx wb b rb E B S D H t col colR aW r W K M/\Fa w A wx (arW col colR wb aW W K)) (λvi _=>C-(intOf vi).toNat)
    case atStart=>exact⟨0,K,az _,rfl,d.o,f.o⟩
    case round=>
     clear d f;obtain⟨i,K,hi,rfl,l,q⟩:=hrel;have d:=iJ l;have f:=iJ q;clear l q;have c2:wr.cell? ⟨wb,2,none⟩=some (.slice aW C r):=by rw[<-X.o];exact d.o.ws.cells.2.2.1
     by_cases ae:i<C
     . have aw:(i:Int)<(C:Int):=by omega
       obtain⟨x,h⟩:∃x,W[i]?=some x:=⟨_,aR (by rw[X.o];exact ae)⟩
       obtain⟨g,Z⟩:∃g,aW=some ⟨g,0,none⟩:=⟨_,(no d.o.gw h).choose_spec.1⟩;have O:x∈W:=bB h
       have SS:Hid (∀V:World,Below wr.heap.size wr V->V.cell? ⟨wb,2,none⟩=some (.slice (some ⟨g,0,none⟩) C r)/\V.cell? ⟨g,i*2,none⟩=some (.func (.func 116) #[] #[.pointer (some ⟨x.tb,0,none⟩)])/\V.cell? ⟨g,i*2+1,none⟩=some (.slice x.aN x.N.length x.cN)):=λV hb=>by
        have c:=(d.o.ws.keep hb).cells;obtain⟨g',Y,e2,e3⟩:=no (d.o.keep hb).gw h;rw[Z] at Y;cases Y;exact⟨by rw[c.2.2.1,Z,X.o],e2,e3⟩
       have AG:=iJ Z;have ah:=iJ h;have LG:=iJ λ(V:World)(hb:Below wr.heap.size wr V)=>pR v V wb b rb col colR (.slice aW W.length r) K (d.o.keep hb).bo d.o.eq d.o.l4 (λk I=>(d.o.keep hb).va.z I) (λk I=>eW λe=>I ((d.o.keep hb).va.z (iu e)).1) (d.o.keep hb).va.bl.size x.tb x.a x.c x.L ((d.o.keep hb).wt x O) x.aN x.cN x.N ((d.o.keep hb).wn x O) (d.o.we x O) (λp hp ab hy=>d.o.tn p hp x O ab hy) (pI ((d.o.keep hb).wt x O).lr) 1048576
       rw[Z] at c2;clear h Z O;go_upto_region 10 with fail
       clear c2;have y:=iJ (dr2 wr);refine wrd SS y.o λhHeld=>?_
       refine tkd 0 1 2 3 ?_;refine tkd 4 5 6 7 ?_;refine tkd 8 9 10 11 ?_;refine tkd 12 13 14 15 ?_;refine tk 16 ?_;refine tw 17 λKx hK=>?_
       go_simp;refine(LG.o _ y.o).mono ?_;rintro e4 L ak;obtain⟨rfl,K4,am,aj,al⟩:=(d.o.keep y.o).gone ak;have ac:=iJ am;have an:=iJ (f.o.trans ((Fa.booked (col:=col) (colR:=colR) aj (al _ (ai _) (λab hy k I ao=>.inr (.inr ⟨x,bB ah.o,.inr (.inr (.inr ⟨ab,hy,ao⟩))⟩)))).pre y.o))
       clear ak aj am al LG
       obtain⟨x2,x3,x4⟩:L.cell? ⟨wb,2,none⟩=some (.slice (some ⟨g,0,none⟩) C r)/\L.cell? ⟨g,i*2,none⟩=some (.func (.func 116) #[] #[.pointer (some ⟨x.tb,0,none⟩)])/\L.cell? ⟨g,i*2+1,none⟩=some (.slice x.aN x.N.length x.cN):=by
        have c:=ac.o.ws.cells;obtain⟨g',Y,e2,e3⟩:=no ac.o.gw ah.o;rw[AG.o] at Y;cases Y;exact⟨by rw[c.2.2.1,AG.o,X.o],e2,e3⟩
       go_wp2_with fail
       refine hK.o _ _ (⟨x2,x3,x4⟩) (λhHeld=>?_)
       try simp only[pt]
       clear x2 x3 x4;refine tk 18 ?_;refine td ?_;clear hHeld SS;go_wp2_with fail
       go_roundw
       case rel=>exact⟨i+1,K4,by omega,by go_num,ac.o,an.o⟩
       case measure=>simp[intOf];omega
     . obtain rfl:i=C:=by omega
       generalize wr=w2 at *;go_wp2_with fail
       clear c2;go_loopw [7] (λvi wx=>∃(s:Nat)(S:Vs)(D:Rd)(H:List Sn)(t col colR:Nat->Nat)(aW:Option Addr)(r:Nat)(W:List Wl)(K:Bkk)(Q:Nat),s<=6/\vi=.int .i64 (s:Int)/\Q<=M+20*s/\Wo v wx wb b rb E B S D H t col colR aW r W K Q/\Fa w A wx (arW col colR wb aW W K)) (λvi _=>6-(intOf vi).toNat)
       case atStart=>exact⟨0,S,D,H,t,col,colR,aW,r,W,K,M,az _,rfl,ai _,d.o,f.o⟩
       case round=>
        clear d X f;obtain⟨s,S,D,H,t,col,colR,aW,r,W,K,Q,hs,rfl,hQ,l,q⟩:=hrel;have d:=iJ l;have f:=iJ q;clear l q;by_cases ae:s<6
        . have aq:(s:Int)<6:=by omega
          have ar:decide ((s:Int)<6)=true:=ax aq;have G:=iJ (lH v wr wb b rb E B _ _ _ _ _ _ _ _ _ _ _ d.o (by omega) 10 (s:Int) 1048576)
          go_wp2_with fail
          refine G.o.mono ?_;rintro _ w2 ⟨rfl,S,D,H,t,col,colR,aW,r,W,K,l,q⟩;have H2:=iJ l;have f:=iJ (f.o.trans q);clear l q G;go_wp2_with fail
          go_roundw
          case rel=>exact⟨s+1,S,D,H,t,col,colR,aW,r,W,K,Q+20,by omega,by go_num,by omega,H2.o,f.o⟩
          case measure=>simp[intOf];omega
        . obtain rfl:s=6:=by omega
          generalize wr=w3 at *;have G:=iJ (lH v w3 wb b rb E B _ _ _ _ _ _ _ _ _ _ _ d.o (by omega) 9 0 0)
          go_wp2_with fail
          refine G.o.mono ?_;rintro _ L ⟨rfl,S,D,H,t,col,colR,aW,r,W,K,l,q⟩;have H4:=iJ l;have f:=iJ (f.o.trans q);clear l q G;have U:=iJ (lH v L wb b rb E B _ _ _ _ _ _ _ _ _ _ _ H4.o (by omega) 99 0 0)
          go_wp2_with fail
          refine U.o.mono ?_;rintro _ w5 ⟨rfl,S,D,H,t,col,colR,aW,r,W,K,l,q⟩;have J:=iJ l;have f:=iJ (f.o.trans q);clear l q U;have BK:=iJ (zV v w5 wb b rb col colR (.slice aW W.length r) K J.o.bo J.o.eq J.o.l4 J.o.sm);go_wp2_with fail
          refine BK.o.mono ?_;rintro _ w6 ⟨rfl,ad⟩;have F6:Hid (Below v.heap.size v w6):=((But.ofBelow (S:=λ_=>False) J.o.va.bl).trans ad (λk I e=>by have:=(J.o.bo.col_off e).2.2;omega)).below (λ_ _ e=>e)
          have G6:Hid (But A w w6):=f.o.b.trans ad (λk I e=>f.o.a k I (Bm e))
          clear ad BK;go_wp2_with fail
          go_ret;exact⟨rfl,F6.o,G6.o⟩
def sL(x:Nat):Pg:=⟨1,0,[⟨[x],[],0,0⟩],[],0⟩
def yo:Pg:=⟨2,1,[⟨[],[],1,0⟩,⟨[109],[],2,0⟩],[],0⟩
def liv0:Vs:=Vs.start (Q.Po.start 3 (List.replicate 6 0))
theorem xq(h j e:Pv)(f:e.pg=yo):(((((liv0.makeS (sL 97) h).makeS (sL 112) j).makeS yo e).keepS 3).shadow 3).2.X.P.count 1=2/\(((((liv0.makeS (sL 97) h).makeS (sL 112) j).makeS yo e).keepS 3).shadow 3).2.X.P.count 4=1:=by
 obtain⟨x,X,D,I,items,C,H,V,next⟩:=e
 have k:x=2:=a7 Pg.kind f;have d:items.map Iv.it=[⟨[],[],1,0⟩,⟨[109],[],2,0⟩]:=a7 Pg.items f;subst k;match items,d with
 | [y1,y2],d=>
   obtain⟨y,c1,M,E,J,S,s,O⟩:=y1;obtain⟨B,c2,N,G,L,U,t,P⟩:=y2
   have q:s=1:=by
    have:=a7 (λl=>(l.map It.child).head?) d
    simpa[Iv.it] using this
   have r:t=2:=by
    have:=a7 (λl=>(l.map It.child)[1]?) d
    simpa[Iv.it] using this
   subst q r;exact⟨by kernel_rfl,by kernel_rfl⟩
 | [],d=>simp at d
 | [_],d=>simp at d
 |_::_::_::_,d=>simp at d
theorem Wo.first{j w2:World}{b rb B t:Nat}{r:Int}{C col:Nat->Nat}{D:Rd}(L:Q.js (n:Int) r=true)(J:Vw j b (Vs.start (Q.Po.start r (List.replicate n 0))) B t C col)(hb:Below w.heap.size w j)(Z:∀k,col k≠0->w.heap.size<=k)(I:Rn j w2 rb D)(H:D.Fresh r n):
 ∃colR,Wo w (w2.alloc (.cells #[.pointer (some ⟨b,0,none⟩),.pointer (some ⟨rb,0,none⟩),.slice none 0 0,.slice none 0 0,.slice none 0 0] 55)) w2.heap.size b rb B t (Vs.start (Q.Po.start r (List.replicate n 0))) D [] C col colR none 0 [] Bkk.nil 4294967296:=by
 have ab:=H;obtain⟨eR,l,U,Y,G,V,aa,eF,eh⟩:=ab;obtain⟨⟨h1,h2⟩,h3,h4⟩:=Q.lF.1 L;obtain⟨q,low⟩:=I.rq (by rw[U,l,bh,bh]) (by rw[Y,l,bh,bh]) (by rw[l,bh];omega)
 obtain⟨colR,ac⟩:∃c,kQ j w2 rb D=c:=⟨_,rfl⟩;rw[ac] at q low;have E:Below j.heap.size j w2:=I.b;have A:=al w2 (.cells #[.pointer (some ⟨b,0,none⟩),.pointer (some ⟨rb,0,none⟩),.slice none 0 0,.slice none 0 0,.slice none 0 0] 55);have X:=aH w2 (.cells #[.pointer (some ⟨b,0,none⟩),.pointer (some ⟨rb,0,none⟩),.slice none 0 0,.slice none 0 0,.slice none 0 0] 55);have O:=J.keep E;have s:=hb.size;have s2:=E.size;have P:Ah w2 D [] colR:=⟨by rw[G,aa];exact Q.Gw.nil _ _ _,V,λae M=>(by rw[G] at M;cases M),λad x=>absurd x (bm)⟩
 have N:Va w w2 b rb B t (Vs.start (Q.Po.start r (List.replicate n 0))) D [] C col colR:=⟨O,⟨q,P⟩,λk d=>by
  by_cases e:colR k=0
  . exact e
  . have S:=low k e;exact absurd (J.z S) d,Z,λk d=>aO s (low k d),bt hb E⟩
 obtain⟨z1,z2⟩:=N.z (ai w2.heap.size);refine⟨colR,N.keep A,⟨X,⟨z1,z2,by omega⟩,Q.Gw.nil _ _ _,Q.Gw.nil _ _ _,λy h=>(by cases h),λy h=>(by cases h),λy z h=>(by cases h),λp f=>absurd f (bm),λp f=>absurd f (bm),List.Pairwise.nil,λp f=>absurd f (bm)⟩,Q.Gw.nil _ _ _,λy h=>(by cases h),λk d=>absurd d (bm),λk d=>absurd d (bm),λk d=>absurd d (bm),λp f=>absurd f (bm),Tw.start L H,rfl,az _,az _,λp f=>absurd f (bm)⟩
def LBg(w:World)(n r:Int)(e:Ending)(w':World):Prop:=Below w.heap.size w w'/\
 ((Q.js n r=false/\e=.returned (.tuple #[.pointer none,.bool true]))\/
  (Q.js n r=true/\∃wb b rb pb mb D pc col colR,e=.returned (.tuple #[.pointer (some ⟨wb,0,none⟩),.bool true])/\Wo w w' wb b rb pb mb (Vs.start (Q.Po.start r (List.replicate n.toNat 0))) D [] pc col colR none 0 [] Bkk.nil 4294967296))
theorem yG(w:World)(n r:Int):Calls prog 9 #[.int .i64 n,.int .i64 r] w λe w'=>LBg w n r e w':=by
 by_cases d:Q.js n r=true
 . have J:∃m:Nat,n=(m:Int):=by
    obtain⟨⟨O,P⟩,_⟩:=Q.lF.1 d;exact⟨n.toNat,by omega⟩
   obtain⟨m,rfl⟩:=J;have f:=iJ (Cj w (m:Int) r d);have j:=iJ λ(W:World)=>vQ W m r d
   have h:=iJ d;rw[di] at f;clear d;go_enter func9,ntmps9;go_wp2_with fail
   refine f.o.mono ?_;rintro _ C ⟨b,rfl,M,L,N,col,x,hb,B⟩;have I:=iJ x;have E:=iJ hb;have G:=iJ B;clear x hb B f;go_wp2_with fail
   refine(j.o C).mono ?_;rintro _ w2 ⟨rb,D,rfl,t,s⟩;have R2:=iJ t;have H:=iJ s;clear t s j;go_wp2_with fail
   obtain⟨colR,y⟩:=Wo.first h.o I.o E.o G.o R2.o H.o;have q:=iJ y;clear y;go_ret2
   exact⟨q.o.va.bl,.inr ⟨h.o,_,b,rb,M,L,D,N,col,colR,rfl,by rw[di];exact q.o⟩⟩
 . have d:Q.js n r=false:=by simpa using d
   have f:=iJ (Ev w n r d);have j:=iJ (yh w n r d);have h:=iJ d;clear d;go_enter func9,ntmps9;go_wp2_with fail
   refine f.o.mono ?_;rintro _ C ⟨rfl,k⟩;have k:=k.symm;subst k;go_wp2_with fail
   refine j.o.mono ?_;rintro _ w2 ⟨rfl,l⟩;have l:=l.symm;subst l;go_wp2_with fail
   go_ret2
   exact⟨Below.refl _ _,.inl ⟨h.o,rfl⟩⟩
end Go.Proofs.YtbdkogimlbnlmaaGreat
