import Derived.Test.YteaogidofpfmmaaGreatWgB13
set_option linter.all false
set_option maxHeartbeats 8000000
set_option maxRecDepth 8000
namespace Go.Proofs.YteaogidofpfmmaaGreat
open Go.Proofs.Tryz
open Go.RowKit
variable {cs:Array Value}{r x:Int}{B:List Bool}{C:List Int}{P:List Pv}{cB cap g gB i iB iC iL k n rb w1s:Nat}{a aB:Option Addr}{D:Rd}{t:TypeId}{v:Value}{W W' w w5 wx wy:World}
theorem Q.Gw.blk{e:TypeId}{sz:Nat}{C:List Value}(h:Q.Gw e sz w a cap n C){x:Addr}(b:a=some x):∃cur,w.heap[x.block]?=some (.cells cur e (0,0)):=by
 rcases h.cases with⟨e1,_⟩|⟨g,cur,e1,hg,_⟩
 . rw[e1] at b;cases b
 . rw[e1] at b;cases b;exact⟨cur,hg⟩
theorem iP{b:Nat}{c f:Array Value}{d:TypeId}(h:w.heap[k]?=some (.cells c t (0,0)))(j:w.heap[b]?=some (.cells f d (0,0)))(l:t≠d):k≠b:=λe=>by
 rw[e,j] at h;simp only[ay,eE] at h;exact l h.2.1.symm
theorem r8{f b:TypeId}{sz bs:Nat}{z:Value}(L:prog.underlying f=some (.slice b))(U:(prog.info? b).map (λi=>(i.zero,i.size,i.bytes))=some (some z,sz,bs))(m:z.cells.size=sz)(A:0<sz)(w:World)(s:TypeId)(a:Option Addr)(n cap:Nat)(C:List Value)(F:Q.Gw b sz w a cap n C)(l:Addr)(c:Nat)(xs:List Value)(I:xs.length=1*sz)(G:∀j u,xs[j]?=some u->w.cell? (l.add j)=some u)(E:∀u∈xs,u.oneCell'=true)(J:n+1<=maxLen)(T:(n+1)*bs<=140737488355328):
 ∃g h d,(Builtin.append_ #[f,f] s #[.slice a n cap,.slice (some l) 1 c]).run prog w=.ok (.slice (some ⟨g,0,none⟩) (n+1) h) d/\
  Q.Gw b sz d (some ⟨g,0,none⟩) h (n+1) (C++xs)/\New w a (some ⟨g,0,none⟩)/\But (Q.InA a) w d:=by
 obtain⟨M,H,O,R,S⟩:=dN U;obtain⟨g,h,d,K,N,q,k3,V⟩:=eH (P:=prog) w f s 0 b M z sz bs L H O R S m A (.slice a n cap) n C F l 1 c xs I G E (by decide) J T (an _) w.heap.size rfl
 rw[mw] at q k3;refine⟨g,h,d,K,N,?_,But.inA q⟩;intro y p;simp only[ay] at p;subst p;rcases k3 with k3|k3
 . obtain⟨z,m,e⟩:=map_some k3;exact .inl ⟨z,m,e⟩
 . exact .inr (by show _<=g;omega)
theorem i5{m e:TypeId}{sz bs:Nat}{z:Value}(O:prog.underlying m=some (.slice e))(Z:(prog.info? e).map (λi=>(i.zero,i.size,i.bytes))=some (some z,sz,bs))(S:z.cells.size=sz)(A:0<sz){w:World}{q:Array Oper}{y:List Oper}{o:Oper}{a:Act}{p:Exit->Act->World->Prop}(X:o.guard=none)(s x:Operand)
 (L:o.op=.call {callee:=.builtin .append,args:=#[s,x],argTypes:=#[m,m]}) (b:Option Addr) (n cap:Nat) (C:List Value) (N:a.eval s=.slice b n cap) (G:Q.Gw e sz w b cap n C)
 (l:Addr) (c:Nat) (xs:List Value) (R:a.eval x=.slice (some l) 1 c) (I:xs.length=1*sz) (H:∀j u,xs[j]?=some u->w.cell? (l.add j)=some u) (E:∀u∈xs,u.oneCell'=true) (J:n+1<=maxLen) (Y:(n+1)*bs<=140737488355328)
 (h:∀g f d,Q.Gw e sz d (some ⟨g,0,none⟩) f (n+1) (C++xs)->New w b (some ⟨g,0,none⟩)->But (Q.InA b) w d->wpList prog q p y (a.put o.dst (.slice (some ⟨g,0,none⟩) (n+1) f)) d):wpList prog q p (o::y) a w:=
 eI X λK F=>by
  obtain⟨g,f,d,M,T,U,V⟩:=r8 O Z S A w o.type b n cap C G l c xs I H E J Y;unfold Oper.wp execOp;simp only[L,resolve,invoke,builtin,dS,dT,dy,dM,bO,dW,N,R,M];exact F _ _ (h g f d T U V)
theorem ui:(prog.info? 4).map (λi=>(i.zero,i.size,i.bytes))=some (some (.bool false),1,1):=by kernel_rfl
theorem zC:(prog.info? 77).map (λi=>(i.zero,i.size,i.bytes))=some (some (.agg Pv.zero.cs),5,72):=by kernel_rfl
theorem kG:(prog.info? 3).map (λi=>(i.zero,i.size,i.bytes))=some (some (.int .i64 0),1,8):=by kernel_rfl
theorem mL(l:List Int)(x:Int):Q.vi l++[.int .i64 x]=Q.vi (l++[x]):=by simp[Q.vi]
theorem ue(l:List Bool)(x:Bool):vbl l++[.bool x]=vbl (l++[x]):=by simp[vbl]
theorem Cu(l:List Pv)(x:Pv):vpg l++x.cs.toList=vpg (l++[x]):=by simp[vpg]
structure Rn(w wx:World)(rb:Nat)(D:Rd):Prop where
 box:wx.heap[rb]?=some (.cells D.box 109 (0,0))
 cr:Q.Gw 3 1 wx D.aC D.cC D.C.length (Q.vi D.C)
 lr:Q.Gw 4 1 wx D.aL D.cL D.L.length (vbl D.L)
 pr:Q.Gw 77 5 wx D.aP D.cP D.P.length (vpg D.P)
 pn:∀p∈D.P,Pn w wx p
 ps:∀p∈D.P,p.pg.check=0\/p=Pv.zero
 nb:w.heap.size<=rb
 nC:New w none D.aC
 nl:New w none D.aL
 np:New w none D.aP
 b:Below w.heap.size w wx
theorem Rn.keep(h:Rn w wx rb D)(hb:Below wx.heap.size wx wy):Rn w wy rb D:=
 ⟨iy h.box hb,h.cr.keep hb,h.lr.keep hb,h.pr.keep hb,λp b=>(h.pn p b).keep hb,h.ps,h.nb,h.nC,h.nl,h.np,bt h.b hb⟩
theorem Rn.lb(h:Rn w wx rb D):rb<wx.heap.size:=(ae.1 h.box).1
theorem Rn.cells(h:Rn w wx rb D):wx.cell? ⟨rb,0,none⟩=some (.int .i64 D.R)/\wx.cell? ⟨rb,1,none⟩=some (.slice D.aC D.C.length D.cC)/\wx.cell? ⟨rb,2,none⟩=some (.slice D.aL D.L.length D.cL)/\wx.cell? ⟨rb,3,none⟩=some (.slice D.aP D.P.length D.cP)/\wx.frozen? ⟨rb,1,none⟩=false/\wx.frozen? ⟨rb,2,none⟩=false/\wx.frozen? ⟨rb,3,none⟩=false:=by
 rw[am _ _ _ _ _ _ h.box,am _ _ _ _ _ _ h.box,am _ _ _ _ _ _ h.box,am _ _ _ _ _ _ h.box];exact⟨rfl,rfl,rfl,rfl,by simp[World.frozen?,h.box],by simp[World.frozen?,h.box],by simp[World.frozen?,h.box]⟩
theorem qh(h:New w none a)(b:New W a (some ⟨g,0,none⟩))(c:w.heap.size<=W.heap.size):New w none (some ⟨g,0,none⟩):=λy d=>by
 cases d;refine .inr ?_;rcases b ⟨g,0,none⟩ rfl with⟨z,hz,e⟩|e
 . have e:z.block=g:=e;show _<=g;rw[<-e];exact jt h hz
 . exact az c e
theorem Rn.low(hb:Below w.heap.size w W)(d:New w none a)(c:But (Q.InA a) W w5)(h:w.heap.size<=rb):Below w.heap.size w (w5.setCell ⟨rb,i,none⟩ v):=by
 have b:But (λk=>k=rb\/Q.InA a k) w w5:=(But.ofBelow (S:=λk=>k=rb\/Q.InA a k) hb).trans c (λ_ _ e=>.inr e)
 exact(b.setCell (p:=⟨rb,i,none⟩) (λ_=>.inl rfl) v).below (λk hk e=>by
  rcases e with e|⟨y,f,e⟩
  . omega
  . have:=jt d f;omega)
theorem Rn.apC(h:Rn w W rb D){c:Nat}(s:Q.Gw 3 1 w5 (some ⟨g,0,none⟩) c (D.C.length+1) (Q.vi D.C++[Value.int .i64 x]))(J:New W D.aC (some ⟨g,0,none⟩))(j:But (Q.InA D.aC) W w5):
 Rn w (w5.setCell ⟨rb,1,none⟩ (.slice (some ⟨g,0,none⟩) (D.C.length+1) c)) rb {D with aC:=some ⟨g,0,none⟩,cC:=c,C:=D.C++[x]}:=by
 have G:∀{t:TypeId}{k:Nat}{cs:Array Value},W.heap[k]?=some (.cells cs t (0,0))->t≠3->¬Q.InA D.aC k:=λhk q ⟨y,d,e⟩=>by
  obtain⟨f,b⟩:=h.cr.blk d;exact iP hk b q e.symm
 have l:w5.heap[rb]?=some (.cells D.box 109 (0,0)):=j.same h.box (G h.box (by decide))
 have bs:But (λk=>k=rb) w5 (w5.setCell ⟨rb,1,none⟩ (.slice (some ⟨g,0,none⟩) (D.C.length+1) c)):=(But.refl (λk=>k=rb) w5).setCell (p:=⟨rb,1,none⟩) (λ_=>rfl) _
 have nb:∀{t:TypeId}{k:Nat}{cs:Array Value},w5.heap[k]?=some (.cells cs t (0,0))->t≠109->¬(k=rb):=λhk q e=>iP hk l q e
 have F:∀{e:TypeId}{sz:Nat}{a:Option Addr}{cap n:Nat}{C:List Value},e≠3->e≠109->Q.Gw e sz W a cap n C->Q.Gw e sz (w5.setCell ⟨rb,1,none⟩ (.slice (some ⟨g,0,none⟩) (D.C.length+1) c)) a cap n C:=λH I A=>by
  have E:=A.but j (λy d=>by obtain⟨f,b⟩:=A.blk d;exact G b H)
  exact E.but bs (λy d=>by obtain⟨f,b⟩:=E.blk d;exact nb b I)
 have mp:∀p:Pv,Pn w W p->Pn w (w5.setCell ⟨rb,1,none⟩ (.slice (some ⟨g,0,none⟩) (D.C.length+1) c)) p:=λp m=>by
  have K:=m.but j (λk ⟨y,d,e⟩=>by obtain⟨f,b⟩:=h.cr.blk d;exact⟨3,f,by rw[<-e];exact b,by decide,by decide⟩)
  exact K.but bs (λk e=>⟨109,D.box,by rw[e];exact l,by decide,by decide⟩)
 refine⟨?_,(by show Q.Gw _ _ _ _ _ (D.C++[x]).length _;rw[af,<-mL];exact s.but bs (λy d=>by obtain⟨f,b⟩:=s.blk d;exact nb b (by decide))),F (by decide) (by decide) h.lr,F (by decide) (by decide) h.pr,λp m=>mp p (h.pn p m),h.ps,h.nb,qh h.nC J h.b.size,h.nl,h.np,Rn.low h.b h.nC j h.nb⟩
 rw[aS _ _ _ _ _ _ l];show some (Obj.cells _ _ _)=some (Obj.cells (Rd.box _) _ _);unfold Rd.box;rw[af];rfl
theorem Rn.apL(h:Rn w W rb D){c:Nat}{x:Bool}(s:Q.Gw 4 1 w5 (some ⟨g,0,none⟩) c (D.L.length+1) (vbl D.L++[Value.bool x]))(J:New W D.aL (some ⟨g,0,none⟩))(j:But (Q.InA D.aL) W w5):
 Rn w (w5.setCell ⟨rb,2,none⟩ (.slice (some ⟨g,0,none⟩) (D.L.length+1) c)) rb {D with aL:=some ⟨g,0,none⟩,cL:=c,L:=D.L++[x]}:=by
 have G:∀{t:TypeId}{k:Nat}{cs:Array Value},W.heap[k]?=some (.cells cs t (0,0))->t≠4->¬Q.InA D.aL k:=λhk q ⟨y,d,e⟩=>by
  obtain⟨f,b⟩:=h.lr.blk d;exact iP hk b q e.symm
 have l:w5.heap[rb]?=some (.cells D.box 109 (0,0)):=j.same h.box (G h.box (by decide))
 have bs:But (λk=>k=rb) w5 (w5.setCell ⟨rb,2,none⟩ (.slice (some ⟨g,0,none⟩) (D.L.length+1) c)):=(But.refl (λk=>k=rb) w5).setCell (p:=⟨rb,2,none⟩) (λ_=>rfl) _
 have nb:∀{t:TypeId}{k:Nat}{cs:Array Value},w5.heap[k]?=some (.cells cs t (0,0))->t≠109->¬(k=rb):=λhk q e=>iP hk l q e
 have F:∀{e:TypeId}{sz:Nat}{a:Option Addr}{cap n:Nat}{C:List Value},e≠4->e≠109->Q.Gw e sz W a cap n C->Q.Gw e sz (w5.setCell ⟨rb,2,none⟩ (.slice (some ⟨g,0,none⟩) (D.L.length+1) c)) a cap n C:=λH I A=>by
  have E:=A.but j (λy d=>by obtain⟨f,b⟩:=A.blk d;exact G b H)
  exact E.but bs (λy d=>by obtain⟨f,b⟩:=E.blk d;exact nb b I)
 have mp:∀p:Pv,Pn w W p->Pn w (w5.setCell ⟨rb,2,none⟩ (.slice (some ⟨g,0,none⟩) (D.L.length+1) c)) p:=λp m=>by
  have K:=m.but j (λk ⟨y,d,e⟩=>by obtain⟨f,b⟩:=h.lr.blk d;exact⟨4,f,by rw[<-e];exact b,by decide,by decide⟩)
  exact K.but bs (λk e=>⟨109,D.box,by rw[e];exact l,by decide,by decide⟩)
 refine⟨?_,F (by decide) (by decide) h.cr,(by show Q.Gw _ _ _ _ _ (D.L++[x]).length _;rw[af,<-ue];exact s.but bs (λy d=>by obtain⟨f,b⟩:=s.blk d;exact nb b (by decide))),F (by decide) (by decide) h.pr,λp m=>mp p (h.pn p m),h.ps,h.nb,h.nC,qh h.nl J h.b.size,h.np,Rn.low h.b h.nl j h.nb⟩
 rw[aS _ _ _ _ _ _ l];show some (Obj.cells _ _ _)=some (Obj.cells (Rd.box _) _ _);unfold Rd.box;rw[af];rfl
theorem Rn.apP(h:Rn w W rb D){c:Nat}{x:Pv}(J:Pn w W x)(L:x.pg.check=0\/x=Pv.zero)(q:Q.Gw 77 5 w5 (some ⟨g,0,none⟩) c (D.P.length+1) (vpg D.P++x.cs.toList))(I:New W D.aP (some ⟨g,0,none⟩))(j:But (Q.InA D.aP) W w5):
 Rn w (w5.setCell ⟨rb,3,none⟩ (.slice (some ⟨g,0,none⟩) (D.P.length+1) c)) rb {D with aP:=some ⟨g,0,none⟩,cP:=c,P:=D.P++[x]}:=by
 have F:∀{t:TypeId}{k:Nat}{cs:Array Value},W.heap[k]?=some (.cells cs t (0,0))->t≠77->¬Q.InA D.aP k:=λhk m ⟨y,d,e⟩=>by
  obtain⟨f,b⟩:=h.pr.blk d;exact iP hk b m e.symm
 have l:w5.heap[rb]?=some (.cells D.box 109 (0,0)):=j.same h.box (F h.box (by decide))
 have bs:But (λk=>k=rb) w5 (w5.setCell ⟨rb,3,none⟩ (.slice (some ⟨g,0,none⟩) (D.P.length+1) c)):=(But.refl (λk=>k=rb) w5).setCell (p:=⟨rb,3,none⟩) (λ_=>rfl) _
 have nb:∀{t:TypeId}{k:Nat}{cs:Array Value},w5.heap[k]?=some (.cells cs t (0,0))->t≠109->¬(k=rb):=λhk m e=>iP hk l m e
 have E:∀{e:TypeId}{sz:Nat}{a:Option Addr}{cap n:Nat}{C:List Value},e≠77->e≠109->Q.Gw e sz W a cap n C->Q.Gw e sz (w5.setCell ⟨rb,3,none⟩ (.slice (some ⟨g,0,none⟩) (D.P.length+1) c)) a cap n C:=λG H s=>by
  have A:=s.but j (λy d=>by obtain⟨f,b⟩:=s.blk d;exact F b G)
  exact A.but bs (λy d=>by obtain⟨f,b⟩:=A.blk d;exact nb b H)
 have mp:∀p:Pv,Pn w W p->Pn w (w5.setCell ⟨rb,3,none⟩ (.slice (some ⟨g,0,none⟩) (D.P.length+1) c)) p:=λp hp=>by
  have K:=hp.but j (λk ⟨y,d,e⟩=>by obtain⟨f,b⟩:=h.pr.blk d;exact⟨77,f,by rw[<-e];exact b,by decide,by decide⟩)
  exact K.but bs (λk e=>⟨109,D.box,by rw[e];exact l,by decide,by decide⟩)
 refine⟨?_,E (by decide) (by decide) h.cr,E (by decide) (by decide) h.lr,(by show Q.Gw _ _ _ _ _ (D.P++[x]).length _;rw[af,<-Cu];exact q.but bs (λy d=>by obtain⟨f,b⟩:=q.blk d;exact nb b (by decide))),(λp hp=>by
  rcases bG.1 hp with hp|hp
  . exact mp p (h.pn p hp)
  . rw[aM.1 hp];exact mp x J),(λp hp=>by
  rcases bG.1 hp with hp|hp
  . exact h.ps p hp
  . rw[aM.1 hp];exact L),h.nb,h.nC,h.nl,qh h.np I h.b.size,Rn.low h.b h.np j h.nb⟩
 rw[aS _ _ _ _ _ _ l];show some (Obj.cells _ _ _)=some (Obj.cells (Rd.box _) _ _);unfold Rd.box;rw[af];rfl
theorem Fd(w:World)(n r:Int)(h:Q.fits n r=false):Calls prog 121 #[.int .i64 n,.int .i64 r] w λe p=>e=.returned (.tuple #[.pointer none,.int .i64 1])/\p=w:=by
 have c:=gW (po w r);unfold Q.fits at h;by_cases b:n<1
 . have d:decide (n<1)=true:=au b;clear h;go_enter func121,ntmps121;go_wp2_with fail
   go_ret2
   exact⟨rfl,rfl⟩
 . by_cases f:65536<n
   . have d:decide (n<1)=false:=ar b;have m:decide (65536<n)=true:=au f;clear h;go_enter func121,ntmps121;go_wp2_with fail
     go_ret2
     exact⟨rfl,rfl⟩
   . have d:decide (n<1)=false:=ar b;have m:decide (65536<n)=false:=ar f
     have j:(decide (2<=r)&&decide (r<65536))=false:=by
      rw[au (show 1<=n by omega),au (show n<=65536 by omega)] at h
      simpa using h
     rw[j] at c;clear h j;go_enter func121,ntmps121;go_wp2_with fail
     refine c.o.mono ?_;rintro _ q ⟨rfl,l⟩;rw[l];clear l;go_wp2_with fail
     go_ret2
     exact⟨rfl,rfl⟩
def Rd.Fresh(D:Rd)(r:Int)(i:Nat):Prop:=D.R=r/\D.C=List.replicate i 0/\D.L=List.replicate i false/\D.P=List.replicate i Pv.zero/\D.aA=none/\D.nA=0/\D.cA=0/\D.fl=0/\D.hush=false
theorem Rn.start(r:Int):Rn w (w.alloc (.cells #[.int .i64 r,.slice none 0 0,.slice none 0 0,.slice none 0 0,.slice none 0 0,.int .i64 0,.bool false] 109)) w.heap.size ⟨r,none,0,[],none,0,[],none,0,[],none,0,0,0,false⟩:=
 ⟨aZ _ _,Q.Gw.nil _ _ _,Q.Gw.nil _ _ _,Q.Gw.nil _ _ _,λp b=>absurd b (bX),λp b=>absurd b (bX),ai _,New.none _ _,New.none _ _,New.none _ _,al _ _⟩
theorem kO(h:W.heap[g]?=some (.cells #[v] t (0,0))):∀j u,[v][j]?=some u->W.cell? ((⟨g,0,none⟩:Addr).add j)=some u:=by
 intro j u b;rw[Addr.add_mid,b9,am _ _ _ _ _ _ h,<-b];simp
theorem zero_add{W:World}{g:Nat}{t:TypeId}(h:W.heap[g]?=some (.cells #[.int .i64 0,.int .i64 0,.slice none 0 0,.slice none 0 0,.int .i64 0] t (0,0))):∀j u,Pv.zero.cs.toList[j]?=some u->W.cell? ((⟨g,0,none⟩:Addr).add j)=some u:=by
 intro j u b;rw[Addr.add_mid,b9,am _ _ _ _ _ _ h,<-b];simp[Pv.zero,Pv.cs]
theorem C7:∀u∈Pv.zero.cs.toList,u.oneCell'=true:=by
 intro u b;simp[Pv.zero,Pv.cs] at b;rcases b with rfl|rfl|rfl<;>rfl
theorem nE{α:Type}(i:Nat)(x:α):List.replicate i x++[x]=List.replicate (i+1) x:=by rw[List.replicate_succ']
theorem Cw(w:World)(n:Nat)(r:Int)(h:Q.fits n r=true):Calls prog 121 #[.int .i64 (n:Int),.int .i64 r] w λe w'=>∃(rb:Nat)(D:Rd),e=.returned (.tuple #[.pointer (some ⟨rb,0,none⟩),.int .i64 0])/\Rn w w' rb D/\D.Fresh r n:=by
 have RA:=gW (po w r);unfold Q.fits at h;simp only[b7,bZ] at h;rw[au (show 2<=r by omega),au (show r<65536 by omega)] at RA
 have d1:decide ((n:Int)<1)=false:=ar (by omega)
 have d2:decide ((65536:Int)<(n:Int))=false:=ar (by omega)
 have h6:n<=65536:=by omega
 have S0:=gW (Rn.start (w:=w) r);clear h;go_enter func121,ntmps121;go_wp2_with fail
 refine RA.o.mono ?_;rintro _ wq ⟨rfl,ae⟩;rw[ae];clear ae;go_wp2_with fail
 generalize (w.alloc (.cells #[.int .i64 r,.slice none 0 0,.slice none 0 0,.slice none 0 0,.slice none 0 0,.int .i64 0,.bool false] 109))=w1 at *;go_loopw [7] (λvi wx=>∃(i:Nat)(D:Rd),i<=n/\vi=.int .i64 (i:Int)/\Rn w wx w.heap.size D/\D.Fresh r i) (λvi _=>n-(intOf vi).toNat)
 case atStart=>exact⟨0,_,an _,rfl,S0.o,rfl,rfl,rfl,rfl,rfl,rfl,rfl,rfl,rfl⟩
 case round=>
  clear S0;obtain⟨i,D,hi,rfl,hR,T⟩:=hrel;have u:=gW hR;have FF:=gW T;have LC:D.C.length=i:=by rw[T.2.1,df]
  have LL:D.L.length=i:=by rw[T.2.2.1,df]
  have LP:D.P.length=i:=by rw[T.2.2.2.1,df]
  have m:=gW LC;have p:=gW LL;have q:=gW LP;clear hR T LC LL LP;by_cases ap:i<n
  . have ao:(i:Int)<(n:Int):=by omega
    have ab:i+1<=maxLen:=by unfold maxLen;omega
    obtain⟨Y,G,H,I,O,R,S⟩:=u.o.cells;rw[m.o] at G;rw[p.o] at H;rw[q.o] at I;have y:=u.o.lb;have s:=gW (al wr (.cells #[Value.int .i64 0] 3));have A:=gW (aZ wr (.cells #[Value.int .i64 0] 3));have b:=gW (u.o.keep s.o);have f:=gW b.o.cr;rw[m.o] at f;go_wp2_with (at_builtin;refine i5 underlying22 kG rfl (by decide) rfl _ _ rfl D.aC i D.cC (Q.vi D.C) rfl f.o ⟨wr.heap.size,0,none⟩ 1 [Value.int .i64 0] rfl rfl (kO A.o) (λag hu=>by rw[aM.1 hu];rfl) ab (by omega) ?_)
    intro gC cC w5 E F l;have M:=gW (b.o.apC (x:=0) (by rw[m.o];exact E) F l)
    rw[m.o] at M;have j:w5.heap[w.heap.size]?=some (.cells D.box 109 (0,0)):=l.same b.o.box (λ⟨ac,V,e⟩=>by obtain⟨ad,U⟩:=b.o.cr.blk V;exact iP b.o.box U (by decide) e.symm)
    have y1:w5.cell? ⟨w.heap.size,1,none⟩=some (.slice D.aC i D.cC):=by rw[am _ _ _ _ _ _ j];show some (Value.slice D.aC D.C.length D.cC)=_;rw[m.o]
    have z1:w5.frozen? ⟨w.heap.size,1,none⟩=false:=by simp[World.frozen?,j]
    clear E F l j Y G H I O R S b f A s y;go_upto_region 8 with fail
    generalize Z:(w5.setCell ⟨w.heap.size,1,none⟩ (.slice (some ⟨gC,0,none⟩) (i+1) cC))=w6 at *;clear Z y1 z1;obtain⟨c,J⟩:∃X,({D with aC:=some ⟨gC,0,none⟩,cC:=cC,C:=D.C++[0]}:Rd)=X:=⟨_,rfl⟩;rw[J] at M;have aj:Hid (c.C.length=i+1):=by show _=_;rw[<-J];show(D.C++[0]).length=_;rw[af,m.o];rfl
    have p:Hid (c.L.length=i):=by show _=_;rw[<-J];exact p.o
    have q:Hid (c.P.length=i):=by show _=_;rw[<-J];exact q.o
    replace m:=aj
    have ah:=gW J;clear J;obtain⟨Y,G,H,I,O,R,S⟩:=M.o.cells;rw[m.o] at G;rw[p.o] at H;rw[q.o] at I;have y:=M.o.lb;have s:=gW (al w6 (.cells #[Value.bool false] 4));have A:=gW (aZ w6 (.cells #[Value.bool false] 4));have b:=gW (M.o.keep s.o);have f:=gW b.o.lr;rw[p.o] at f;go_wp2_with (at_builtin;refine i5 underlying105 ui rfl (by decide) rfl _ _ rfl c.aL i c.cL (vbl c.L) rfl f.o ⟨w6.heap.size,0,none⟩ 1 [Value.bool false] rfl rfl (kO A.o) (λag hu=>by rw[aM.1 hu];rfl) ab (by omega) ?_)
    intro gL cL w5 E F l;have N:=gW (b.o.apL (x:=false) (by rw[p.o];exact E) F l)
    rw[p.o] at N;have j:w5.heap[w.heap.size]?=some (.cells c.box 109 (0,0)):=l.same b.o.box (λ⟨ac,V,e⟩=>by obtain⟨ad,U⟩:=b.o.lr.blk V;exact iP b.o.box U (by decide) e.symm)
    have y2:w5.cell? ⟨w.heap.size,2,none⟩=some (.slice c.aL i c.cL):=by rw[am _ _ _ _ _ _ j];show some (Value.slice c.aL c.L.length c.cL)=_;rw[p.o]
    have z2:w5.frozen? ⟨w.heap.size,2,none⟩=false:=by simp[World.frozen?,j]
    clear E F l j Y G H I O R S b f A s y;go_upto_region 9 with fail
    generalize Z:(w5.setCell ⟨w.heap.size,2,none⟩ (.slice (some ⟨gL,0,none⟩) (i+1) cL))=w7 at *;clear Z y2 z2;obtain⟨d,K⟩:∃X,({c with aL:=some ⟨gL,0,none⟩,cL:=cL,L:=c.L++[false]}:Rd)=X:=⟨_,rfl⟩;rw[K] at N;have m:Hid (d.C.length=i+1):=by show _=_;rw[<-K];exact m.o
    have ak:Hid (d.L.length=i+1):=by show _=_;rw[<-K];show(c.L++[false]).length=_;rw[af,p.o];rfl
    have q:Hid (d.P.length=i):=by show _=_;rw[<-K];exact q.o
    replace p:=ak
    have ai:=gW K;clear K;obtain⟨Y,G,H,I,O,R,S⟩:=N.o.cells;rw[m.o] at G;rw[p.o] at H;rw[q.o] at I;have y:=N.o.lb;have s:=gW (al w7 (.cells #[.int .i64 0,.int .i64 0,.slice none 0 0,.slice none 0 0,.int .i64 0] 77));have A:=gW (aZ w7 (.cells #[.int .i64 0,.int .i64 0,.slice none 0 0,.slice none 0 0,.int .i64 0] 77));have b:=gW (N.o.keep s.o);have f:=gW b.o.pr;rw[q.o] at f;go_wp2_with (at_builtin;refine i5 underlying106 zC rfl (by decide) rfl _ _ rfl d.aP i d.cP (vpg d.P) rfl f.o ⟨w7.heap.size,0,none⟩ 1 Pv.zero.cs.toList rfl rfl (zero_add A.o) C7 ab (by omega) ?_)
    intro gP cP w5 E F l;have R3:=gW (b.o.apP (x:=Pv.zero) (Pn.zero _ _) (.inr rfl) (by rw[q.o];exact E) F l)
    rw[q.o] at R3;have j:w5.heap[w.heap.size]?=some (.cells d.box 109 (0,0)):=l.same b.o.box (λ⟨ac,V,e⟩=>by obtain⟨ad,U⟩:=b.o.pr.blk V;exact iP b.o.box U (by decide) e.symm)
    have y3:w5.cell? ⟨w.heap.size,3,none⟩=some (.slice d.aP i d.cP):=by rw[am _ _ _ _ _ _ j];show some (Value.slice d.aP d.P.length d.cP)=_;rw[q.o]
    have z3:w5.frozen? ⟨w.heap.size,3,none⟩=false:=by simp[World.frozen?,j]
    clear E F l j Y G H I O R S b f A s y;go_upto_region 6 with fail
    generalize Z:(w5.setCell ⟨w.heap.size,3,none⟩ (.slice (some ⟨gP,0,none⟩) (i+1) cP))=w8 at *;clear Z y3 z3;obtain⟨D3,aa⟩:∃X,({d with aP:=some ⟨gP,0,none⟩,cP:=cP,P:=d.P++[Pv.zero]}:Rd)=X:=⟨_,rfl⟩;rw[aa] at R3
    have F3:Hid (D3.Fresh r (i+1)):=by
     show Rd.Fresh _ _ _;obtain⟨q1,q2,q3,q4,q5,q6,q7,q8,q9⟩:=FF.o;rw[<-aa,<-ai.o,<-ah.o];refine⟨q1,?_,?_,?_,q5,q6,q7,q8,q9⟩
     . show D.C++[0]=_;rw[q2];exact nE i 0
     . show D.L++[false]=_;rw[q3];exact nE i false
     . show D.P++[Pv.zero]=_;rw[q4];exact nE i Pv.zero
    clear aa;go_wp2_with fail
    go_roundw
    case rel=>exact⟨i+1,D3,by omega,by go_num,R3.o,F3.o⟩
    case measure=>simp[intOf];omega
  . obtain rfl:i=n:=by omega
    go_wp2_with fail
    go_ret2
    exact⟨w.heap.size,D,rfl,u.o,FF.o⟩
theorem Q.Gw.setc{e:TypeId}{sz:Nat}{C:List Value}(h:Q.Gw e sz w (some ⟨g,0,none⟩) cap n C)(k:Nat)(v:Value):Q.Gw e sz (w.setCell ⟨g,k,none⟩ v) (some ⟨g,0,none⟩) cap n (C.set k v):=by
 have b:=h.length;rcases h.cases with⟨h0,_⟩|⟨g',cur,h0,hg,h1,h2,h3,h4⟩
 . cases h0
 . cases h0;refine Q.Gw.mk (by rw[cx];exact b) (aS _ _ _ _ _ _ hg) h1 h2 (by simpa using h3) ?_
   rw[ey,gy,h4]
theorem Q.Gw.free{e:TypeId}{sz:Nat}{C:List Value}(h:Q.Gw e sz w (some ⟨g,0,none⟩) cap n C)(k:Nat):w.frozen? ⟨g,k,none⟩=false:=by
 rcases h.cases with⟨h0,_⟩|⟨g',cur,h0,hg,_⟩
 . cases h0
 . cases h0;exact bq _ _ _ _ _ hg
theorem ow(l:List Int)(k:Nat)(x:Int):(Q.vi l).set k (.int .i64 x)=Q.vi (l.set k x):=by simp[Q.vi,fU]
theorem wH(l:List Bool)(k:Nat)(x:Bool):(vbl l).set k (.bool x)=vbl (l.set k x):=by simp[vbl,fU]
theorem Q.Gw.there5(h:Q.Gw 77 5 w (some ⟨g,0,none⟩) cap P.length (vpg P))(hk:k<P.length):w.there g (k*5) 5:=by
 rcases h.cases with⟨h0,_⟩|⟨g',cur,h0,hg,h1,h2,h3,h4⟩
 . cases h0
 . cases h0;intro j b;have c:P.length*5<=cap*5:=fd _ h1;constructor
   . rw[am _ _ _ _ _ _ hg];simp[show k*5+j<cur.size by omega]
   . exact bq _ _ _ _ _ hg
theorem Q.Gw.setp(h:Q.Gw 77 5 w (some ⟨g,0,none⟩) cap P.length (vpg P))(k:Nat)(v:Pv):Q.Gw 77 5 (w.setCells g (k*5) v.cs.toList) (some ⟨g,0,none⟩) cap (P.set k v).length (vpg (P.set k v)):=by
 rcases h.cases with⟨h0,_⟩|⟨g',cur,h0,hg,h1,h2,h3,h4⟩
 . cases h0
 . cases h0;obtain⟨F,q,s,y⟩:=oN g 77 v.cs.toList w (k*5) cur hg;have A:v.cs.toList.length=5:=rfl;refine Q.Gw.mk (mS _) q (by rw[cx];exact h1) h2 (by rw[s];exact h3) ?_
   rw[cx];apply List.ext_getElem?;intro i;have E:P.length*5<=cap*5:=fd _ h1;by_cases b:i<P.length*5
   . have p:(vpg P)[i]?=cur[i]?:=by rw[<-h4,dJ,if_pos b];simp
     have c:i/5<P.length:=by omega
     have f:i=i/5*5+i%5:=by omega
     have j:i%5<5:=fJ _ (by decide)
     rw[dJ,if_pos b,Array.getElem?_toList,y i (by omega),A]
     have m:(vpg (P.set k v))[i]?=((P.set k v).getD (i/5) Pv.zero).cs.toList[i%5]?:=by
      conv=>lhs;rw[f]
      exact oP (P.set k v) (i/5) (i%5) (by rw[cx];exact c) j
     have l:(vpg P)[i]?=(P.getD (i/5) Pv.zero).cs.toList[i%5]?:=by
      conv=>lhs;rw[f]
      exact oP P (i/5) (i%5) c j
     rw[m];by_cases d:k*5<=i/\i<k*5+5
     . have e:i/5=k:=by omega
       rw[if_pos d,e,show i-k*5=i%5 by omega]
       simp[show k<P.length by omega]
     . have e:¬k=i/5:=by omega
       rw[if_neg d,<-p,l];simp[fI e]
   . rw[dJ,if_neg b,dQ (by rw[mS,cx];omega)]
theorem Rn.but1(h:Rn w W rb D)(b:But (λk=>k=g) W W')(E:w.heap.size<=g)(c:W.heap[g]?=some (.cells cs t (0,0)))(f:t≠109)(j:t≠5)(l:t≠89):
 W'.heap[rb]?=some (.cells D.box 109 (0,0))/\(∀p,Pn w W p->Pn w W' p)/\Below w.heap.size w W'/\∀{e:TypeId}{sz:Nat}{a:Option Addr}{cap n:Nat}{C:List Value},e≠t->Q.Gw e sz W a cap n C->Q.Gw e sz W' a cap n C:=by
 refine⟨b.same h.box (λe=>iP h.box c (λe=>f e.symm) e),λp s=>s.but b (λk e=>⟨t,cs,by rw[e];exact c,j,l⟩),?_,λq d=>d.but b (λy A e=>by obtain⟨F,m⟩:=d.blk A;exact iP m c q e)⟩
 exact((But.ofBelow (S:=λk=>k=g) h.b).trans b (λ_ _ e=>e)).below (λk hk e=>by omega)
theorem Rn.setC(h:Rn w W rb D)(b:D.aC=some ⟨g,0,none⟩)(k:Nat)(x:Int):Rn w (W.setCell ⟨g,k,none⟩ (.int .i64 x)) rb {D with C:=D.C.set k x}:=by
 obtain⟨q,l⟩:=h.cr.blk b;have bs:But (λk=>k=g) W (W.setCell ⟨g,k,none⟩ (.int .i64 x)):=(But.refl (λk=>k=g) W).setCell (p:=⟨g,k,none⟩) (λ_=>rfl) _
 obtain⟨e,f,j,c⟩:=h.but1 bs (jt h.nC b) l (by decide) (by decide) (by decide)
 have d:=h.cr;rw[b] at d;refine⟨?_,?_,c (by decide) h.lr,c (by decide) h.pr,λp m=>f p (h.pn p m),h.ps,h.nb,h.nC,h.nl,h.np,j⟩
 . rw[e];unfold Rd.box;rw[cx]
 . show Q.Gw _ _ _ D.aC _ (D.C.set k x).length _;rw[b,cx,<-ow];exact d.setc k _
theorem Rn.setL(h:Rn w W rb D)(b:D.aL=some ⟨g,0,none⟩)(k:Nat)(x:Bool):Rn w (W.setCell ⟨g,k,none⟩ (.bool x)) rb {D with L:=D.L.set k x}:=by
 obtain⟨q,l⟩:=h.lr.blk b;have bs:But (λk=>k=g) W (W.setCell ⟨g,k,none⟩ (.bool x)):=(But.refl (λk=>k=g) W).setCell (p:=⟨g,k,none⟩) (λ_=>rfl) _
 obtain⟨e,f,j,c⟩:=h.but1 bs (jt h.nl b) l (by decide) (by decide) (by decide)
 have d:=h.lr;rw[b] at d;refine⟨?_,c (by decide) h.cr,?_,c (by decide) h.pr,λp m=>f p (h.pn p m),h.ps,h.nb,h.nC,h.nl,h.np,j⟩
 . rw[e];unfold Rd.box;rw[cx]
 . show Q.Gw _ _ _ D.aL _ (D.L.set k x).length _;rw[b,cx,<-wH];exact d.setc k _
theorem Rn.setP(h:Rn w W rb D)(c:D.aP=some ⟨g,0,none⟩)(k:Nat)(x:Pv)(q:Pn w W x)(s:x.pg.check=0\/x=Pv.zero):Rn w (W.setCells g (k*5) x.cs.toList) rb {D with P:=D.P.set k x}:=by
 obtain⟨y,m⟩:=h.pr.blk c;have bs:=kj g x.cs.toList W (k*5);obtain⟨j,d,l,e⟩:=h.but1 bs (jt h.np c) m (by decide) (by decide) (by decide)
 have f:=h.pr;rw[c] at f;refine⟨?_,e (by decide) h.cr,e (by decide) h.lr,?_,λp b=>?_,λp b=>?_,h.nb,h.nC,h.nl,h.np,l⟩
 . rw[j];unfold Rd.box;rw[cx]
 . show Q.Gw _ _ _ D.aP _ (D.P.set k x).length _;rw[c];exact f.setp k x
 . rcases List.mem_or_eq_of_mem_set b with b|rfl
   . exact d p (h.pn p b)
   . exact d p q
 . rcases List.mem_or_eq_of_mem_set b with b|rfl
   . exact h.ps p b
   . exact s
theorem Rn.foreign(h:Rn w W rb D)(c:But (λk=>k=g) W W')(l:w.heap.size<=g)(s:W.heap[g]?=some (.cells cs 4 (0,0)))(m:∀x,D.aL=some x->x.block≠g):Rn w W' rb D:=by
 obtain⟨d,f,j,b⟩:=h.but1 c l s (by decide) (by decide) (by decide)
 exact⟨d,b (by decide) h.cr,h.lr.but c (λy A e=>m y A e),b (by decide) h.pr,λp q=>f p (h.pn p q),h.ps,h.nb,h.nC,h.nl,h.np,j⟩
def ldG(cnt:Int->Int):(Int->Option Pg)->List (Int×Pg)->Nat×(Int->Option Pg)
 |f,[]=>(0,f)
 |f,(n,p)::T=>if ¬0<cnt n then (15,f) else if (f n).isSome=true then (10,f) else if p.check≠0 then (p.check,f) else ldG cnt (λk=>if k=n then some p else f k) T
def ip(C:List Int)(z:Int):Int:=if 1<=z/\z<=C.length then C.getD (z-1).toNat 0 else 0
def nmc(x:Int×Pv):List Value:=.int .i64 x.1::x.2.cs.toList
def nm0:Int×Pv:=(0,Pv.zero)
structure Nm(w:World)(a:Option Addr)(L:List (Int×Pv)):Prop where
 c:∀j,j<L.length->∃g off,a=some ⟨g,off,none⟩/\∀k u,(nmc (L.getD j nm0))[k]?=some u->w.cell? ⟨g,off+j*6+k,none⟩=some u
 p:∀x∈L,Pi w x.2/\N64 x.1
theorem Nm.keep{f:World}{L:List (Int×Pv)}(h:Nm w a L)(hb:Below w.heap.size w f):Nm f a L:=⟨λj m=>by
 obtain⟨g,l,e,b⟩:=h.c j m;exact⟨g,l,e,λk u c=>(hb.cell (p:=⟨g,l+j*6+k,none⟩) (block_lt_of_cell (b k u c))).trans (b k u c)⟩,λx d=>⟨(h.p x d).1.keep hb,(h.p x d).2⟩⟩
def nmg(L:List (Int×Pv)):List (Int×Pg):=L.map λx=>(x.1,x.2.pg)
theorem oE{α:Type}(C:List α)(n i:Nat)(d:α)(f:C.length=n)(hi:i<n)(x:α)(c:C.getD i d=x)(z:α):(C.take i++List.replicate (n-i) z).set i x=C.take (i+1)++List.replicate (n-(i+1)) z:=by
 have b:(C.take i).length=i:=by rw[dh];omega
 have e:C[i]'(by omega)=x:=by rw[<-c];simp[show i<C.length by omega]
 rw[ee _ _ (by omega),b,dU,bY (by omega:i<C.length),e,show n-i=(n-(i+1))+1 by omega,List.replicate_succ,eY,aE]
 rfl
structure La(w wx:World)(w1s rb:Nat)(r:Int)(C:List Int)(n i iL iB:Nat)(D:Rd)(aB:Option Addr)(cB:Nat):Prop where
 q:Rn w wx rb D
 hR:D.R=r
 hC:D.C=C.take i++List.replicate (n-i) 0
 hL:D.L=(C.map λc=>decide (0<c)).take iL++List.replicate (n-iL) false
 hP:D.P=List.replicate n Pv.zero
 ha:D.aA=none/\D.nA=0/\D.cA=0/\D.fl=0/\D.hush=false
 lw:∀x,D.aL=some x->x.block<w1s
 hb:Q.Gw 4 1 wx aB cB iB (vbl (List.replicate iB false))
 bn:∀x,aB=some x->w1s<=x.block
 ok:∀j,j<iB->0<=C.getD j 0/\C.getD j 0<=r
 sz:w.heap.size<=w1s/\w1s<=wx.heap.size
theorem La.keep(h:La w wx w1s rb r C n i iL iB D aB cB)(hb:Below wx.heap.size wx wy):La w wy w1s rb r C n i iL iB D aB cB:=
 ⟨h.q.keep hb,h.hR,h.hC,h.hL,h.hP,h.ha,h.lw,h.hb.keep hb,h.bn,h.ok,⟨h.sz.1,az h.sz.2 hb.size⟩⟩
theorem La.lens(h:La w wx w1s rb r C n i iL iB D aB cB)(b:C.length=n)(hi:i<=n)(c:iL<=n):D.C.length=n/\D.L.length=n/\D.P.length=n:=by
 rw[h.hC,h.hL,h.hP];simp;omega
theorem La.c1{b:Nat}(h:La w W w1s rb r C n i iL iB D aB cB)(f:C.length=n)(hi:i<n)(c:D.aC=some ⟨b,0,none⟩)(j:C.getD i 0=x):
 La w (W.setCell ⟨b,i,none⟩ (.int .i64 x)) w1s rb r C n (i+1) iL iB {D with C:=D.C.set i x} aB cB:=by
 obtain⟨q,m⟩:=h.q.cr.blk c;refine⟨h.q.setC c i x,h.hR,?_,h.hL,h.hP,h.ha,h.lw,?_,h.bn,h.ok,⟨h.sz.1,?_⟩⟩
 . show D.C.set i _=_;rw[h.hC];exact oE C n i 0 f hi _ j 0
 . exact h.hb.but ((But.refl (λk=>k=b) W).setCell (p:=⟨b,i,none⟩) (λ_=>rfl) (.int .i64 x)) (λy l e=>by
    obtain⟨c2,d⟩:=h.hb.blk l;exact iP d m (by decide) e)
 . exact az h.sz.2 ((But.refl (λk=>k=b) W).setCell (p:=⟨b,i,none⟩) (λ_=>rfl) (.int .i64 x)).size
theorem La.c2{b:Nat}(h:La w W w1s rb r C n iC i iB D aB cB)(d:C.length=n)(hi:i<n)(c:D.aL=some ⟨b,0,none⟩)(f:C.getD i 0=x):
 La w (W.setCell ⟨b,i,none⟩ (.bool (decide (0<x)))) w1s rb r C n iC (i+1) iB {D with L:=D.L.set i (decide (0<x))} aB cB:=by
 have l:=h.lw _ c;refine⟨h.q.setL c i _,h.hR,h.hC,?_,h.hP,h.ha,h.lw,?_,h.bn,h.ok,⟨h.sz.1,?_⟩⟩
 . show D.L.set i _=_;rw[h.hL];refine oE _ n i false (by rw[bu];exact d) hi _ ?_ false
   rw[<-f];simp[show i<C.length by omega]
 . exact h.hb.but ((But.refl (λk=>k=b) W).setCell (p:=⟨b,i,none⟩) (λ_=>rfl) _) (λy j e=>by
    have:=h.bn y j;simp only at l;omega)
 . exact az h.sz.2 ((But.refl (λk=>k=b) W).setCell (p:=⟨b,i,none⟩) (λ_=>rfl) (.bool (decide (0<x)))).size
theorem La.c3{c:Nat}(h:La w W w1s rb r C n iC iL i D aB cB)(H:0<=C.getD i 0/\C.getD i 0<=r)(s:Q.Gw 4 1 w5 (some ⟨g,0,none⟩) c (i+1) (vbl (List.replicate i false)++[.bool false]))(E:New W aB (some ⟨g,0,none⟩))(d:But (Q.InA aB) W w5):
 La w w5 w1s rb r C n iC iL (i+1) D (some ⟨g,0,none⟩) c:=by
 have q:∀{t:TypeId}{k:Nat}{cs:Array Value},W.heap[k]?=some (.cells cs t (0,0))->t≠4->¬Q.InA aB k:=λhk G ⟨y,b,e⟩=>by
  obtain⟨l,f⟩:=h.hb.blk b;exact iP hk f G e.symm
 have A:w1s<=g:=by
  rcases E ⟨g,0,none⟩ rfl with⟨z,m,e⟩|e
  . have e:z.block=g:=e;rw[<-e];exact h.bn z m
  . exact az h.sz.2 e
 refine⟨⟨d.same h.q.box (q h.q.box (by decide)),h.q.cr.but d (λy b=>by obtain⟨l,f⟩:=h.q.cr.blk b;exact q f (by decide)),h.q.lr.but d (λy b ⟨z,m,e⟩=>?_),h.q.pr.but d (λy b=>by obtain⟨l,f⟩:=h.q.pr.blk b;exact q f (by decide)),λp F=>(h.q.pn p F).but d (λk ⟨y,b,e⟩=>?_),h.q.ps,h.q.nb,h.q.nC,h.q.nl,h.q.np,?_⟩,h.hR,h.hC,h.hL,h.hP,h.ha,h.lw,by rw[ue,nE] at s;exact s,λy b=>by cases b;exact A,λj I=>?_,⟨h.sz.1,az h.sz.2 d.size⟩⟩
 . have:=h.lw y b;have:=h.bn z m;omega
 . obtain⟨l,f⟩:=h.hb.blk b;exact⟨4,l,by rw[<-e];exact f,by decide,by decide⟩
 . exact((But.ofBelow (S:=Q.InA aB) h.q.b).trans d (λ_ _ e=>e)).below (λk hk ⟨y,b,e⟩=>by have:=h.bn y b;have:=h.sz.1;omega)
 . by_cases e:j=i
   . rw[e];exact H
   . exact h.ok j (by omega)
def lj(a:Option Addr)(k:Nat):Bool:=match a with
 |none=>false
 |some x=>decide (x.block=k)
theorem ke{a:Option Addr}{k:Nat}:lj a k=true↔∃x,a=some x/\x.block=k:=by
 cases a with
 |none=>simp[lj]
 |some x=>simp[lj]
def kS(w wx:World)(rb:Nat)(D:Rd)(k:Nat):Nat:=if k=rb then 1 else if lj D.aC k=true then 2 else if lj D.aL k=true then 3 else if lj D.aP k=true then 4 else if w.heap.size<=k/\k<wx.heap.size then 6 else 0
theorem Rn.rq(h:Rn w wx rb D)(R:D.L.length=D.C.length)(S:D.P.length=D.C.length)(O:D.C.length<=65536):Rq wx rb D (kS w wx rb D)/\∀k,kS w wx rb D k≠0->w.heap.size<=k:=by
 have H:∀{t:TypeId}{k:Nat}{cs:Array Value},wx.heap[k]?=some (.cells cs t (0,0))->t≠109->k≠rb:=λhk f=>iP hk h.box f
 have j:∀{t e:TypeId}{sz k:Nat}{cs:Array Value}{a:Option Addr}{cap n:Nat}{C:List Value},Q.Gw e sz wx a cap n C->wx.heap[k]?=some (.cells cs t (0,0))->t≠e->¬lj a k=true:=λm hk f e=>by
  obtain⟨x,b,e⟩:=ke.1 e;obtain⟨s,d⟩:=m.blk b;exact iP hk d f e.symm
 have N:∀{t:TypeId}{k:Nat}{cs:Array Value},wx.heap[k]?=some (.cells cs t (0,0))->t≠109->t≠3->t≠4->t≠77->w.heap.size<=k->kS w wx rb D k=6:=λhk y A E F G=>by
  unfold kS;rw[if_neg (H hk y),if_neg (j h.cr hk A),if_neg (j h.lr hk E),if_neg (j h.pr hk F),if_pos ⟨G,(ae.1 hk).1⟩]
 have low:∀k,kS w wx rb D k≠0->w.heap.size<=k/\k<wx.heap.size:=λk hk=>by
  unfold kS at hk;by_cases y:k=rb
  . rw[y];exact⟨h.nb,h.lb⟩
  . rw[if_neg y] at hk;by_cases A:lj D.aC k=true
    . obtain⟨x,b,e⟩:=ke.1 A;rw[<-e];exact⟨jt h.nC b,h.cr.lt b⟩
    . rw[if_neg A] at hk;by_cases E:lj D.aL k=true
      . obtain⟨x,b,e⟩:=ke.1 E;rw[<-e];exact⟨jt h.nl b,h.lr.lt b⟩
      . rw[if_neg E] at hk;by_cases F:lj D.aP k=true
        . obtain⟨x,b,e⟩:=ke.1 F;rw[<-e];exact⟨jt h.np b,h.pr.lt b⟩
        . rw[if_neg F] at hk;by_cases G:w.heap.size<=k/\k<wx.heap.size
          . exact G
          . rw[if_neg G] at hk;exact absurd rfl hk
 have V:∀{a:Option Addr}{c:Nat}{L:List Iv},Jw wx a c L->New w none a->∀x,a=some x->¬ ¬(kS w wx rb D x.block=6):=λT I x b e=>by
  rcases T.cases with⟨h0,_⟩|⟨g,s,h0,m,_⟩
  . rw[h0] at b;cases b
  . rw[h0] at b;cases b;exact e (N m (by decide) (by decide) (by decide) (by decide) (jt I h0))
 have M:∀{a:Option Addr}{c:Nat}{l:List Nat},Rw wx a c l->New w none a->∀x,a=some x->¬ ¬(kS w wx rb D x.block=6):=λU I x b e=>by
  rcases U.cases with⟨h0,_⟩|⟨g,s,h0,m,_⟩
  . rw[h0] at b;cases b
  . rw[h0] at b;cases b;exact e (N m (by decide) (by decide) (by decide) (by decide) (jt I h0))
 refine⟨⟨h.box,h.cr,h.lr,h.pr,λp K v J=>?_,h.ps,if_pos rfl,λx b=>?_,λx b=>?_,λx b=>?_,λk hk=>(low k hk).2,R,S,O⟩,λk hk=>(low k hk).1⟩
 . have q:=h.pn p K;exact Pn.pi (v:=w) ⟨q.it.but J (V q.it q.itn),q.itn,q.d.but J (M q.d q.dn),q.dn,λt f=>⟨(q.fr t f).1.but J (M (q.fr t f).1 (q.fr t f).2.1),(q.fr t f).2⟩,q.dist,q.d8,q.ns,q.nk,q.nl,q.nn⟩ (az (kW (h.ps p K)).2 (by decide))
 . obtain⟨s,d⟩:=h.cr.blk b;unfold kS;rw[if_neg (H d (by decide)),if_pos (ke.2 ⟨x,b,rfl⟩)]
 . obtain⟨s,d⟩:=h.lr.blk b;unfold kS;rw[if_neg (H d (by decide)),if_neg (j h.cr d (by decide)),if_pos (ke.2 ⟨x,b,rfl⟩)]
 . obtain⟨s,d⟩:=h.pr.blk b;unfold kS;rw[if_neg (H d (by decide)),if_neg (j h.cr d (by decide)),if_neg (j h.lr d (by decide)),if_pos (ke.2 ⟨x,b,rfl⟩)]
structure Lb(w wx:World)(w1s rb:Nat)(r:Int)(C:List Int)(n:Nat)(D:Rd)(aB:Option Addr)(cB:Nat)(B:List Bool)(g:Int->Option Pg):Prop where
 q:Rn w wx rb D
 hR:D.R=r
 hC:D.C=C
 hL:D.L=C.map λc=>decide (0<c)
 hP:D.P.length=n
 hg:∀i,i<n->(D.P.getD i Pv.zero).pg=(g ((i:Int)+1)).getD Pv.zero.pg
 ha:D.aA=none/\D.nA=0/\D.cA=0/\D.fl=0/\D.hush=false
 lw:∀x,D.aL=some x->x.block<w1s
 hb:Q.Gw 4 1 wx aB cB n (vbl B)
 hB:B.length=n
 hs:∀i,i<n->B.getD i false=(g ((i:Int)+1)).isSome
 bn:∀x,aB=some x->w1s<=x.block
 sz:w.heap.size<=w1s/\w1s<=wx.heap.size
theorem Lb.keep{g:Int->Option Pg}(h:Lb w wx w1s rb r C n D aB cB B g)(hb:Below wx.heap.size wx wy):Lb w wy w1s rb r C n D aB cB B g:=
 ⟨h.q.keep hb,h.hR,h.hC,h.hL,h.hP,h.hg,h.ha,h.lw,h.hb.keep hb,h.hB,h.hs,h.bn,⟨h.sz.1,az h.sz.2 hb.size⟩⟩
theorem La.lb(h:La w wx w1s rb r C n n n n D aB cB)(c:C.length=n):Lb w wx w1s rb r C n D aB cB (List.replicate n false) (λ_=>none):=by
 refine⟨h.q,h.hR,?_,?_,?_,λi b=>?_,h.ha,h.lw,h.hb,by simp,λi b=>?_,h.bn,h.sz⟩
 . rw[h.hC,dU,<-c,dp];simp
 . rw[h.hL,dU,<-c,eW (by rw[bu];omega)];simp
 . rw[h.hP];simp
 . rw[h.hP];simp[b]
 . simp[b]
theorem Lb.cnt{g:Int->Option Pg}(h:Lb w wx w1s rb r C n D aB cB B g)(z:Int):D.count z=ip C z:=by
 unfold Rd.count Rd.has ip;rw[h.hC];by_cases b:1<=z/\z<=C.length
 . rw[if_pos b,if_pos (by simp[b])]
 . rw[if_neg b,if_neg (by simpa using b)]
theorem Lb.rq{g:Int->Option Pg}(h:Lb w wx w1s rb r C n D aB cB B g)(b:C.length=n)(c:n<=65536):Rq wx rb D (kS w wx rb D)/\∀k,kS w wx rb D k≠0->w.heap.size<=k:=
 h.q.rq (by rw[h.hL,h.hC,bu]) (by rw[h.hP,h.hC,b]) (by rw[h.hC,b];exact c)
theorem Lb.mid{g:Int->Option Pg}(h:Lb w wx w1s rb r C n D (some ⟨gB,0,none⟩) cB B g):Rn w (wx.setCell ⟨gB,i,none⟩ (.bool true)) rb D:=by
 obtain⟨d,c⟩:=h.hb.blk rfl
 exact h.q.foreign ((But.refl (λk=>k=gB) wx).setCell (p:=⟨gB,i,none⟩) (λ_=>rfl) _) (az h.sz.1 (h.bn _ rfl)) c (λy b e=>by
  have:=h.lw y b;have:=h.bn _ rfl;simp only at this;omega)
theorem Lb.lay{c:World}{d:Nat}{g:Int->Option Pg}(h:Lb w wx w1s rb r C n D (some ⟨gB,0,none⟩) cB B g)(hi:i<n)(s:D.aP=some ⟨d,0,none⟩)(x:Pv){b:World}(f:b=wx.setCell ⟨gB,i,none⟩ (.bool true))(hb:Below b.heap.size b c)(J:Pn b c x)(I:x.pg.check=0):
 ∃E,Lb w (c.setCells d (i*5) x.cs.toList) w1s rb r C n E (some ⟨gB,0,none⟩) cB (B.set i true) (λk=>if k=(i:Int)+1 then some x.pg else g k):=by
 obtain⟨V,R⟩:=h.hb.blk rfl
 have K:∀y,D.aL=some y->y.block≠gB:=λy m e=>by
  have:=h.lw y m;have:=h.bn _ rfl;simp only at this;omega
 have F:But (λk=>k=gB) wx b:=by rw[f];exact(But.refl (λk=>k=gB) wx).setCell (p:=⟨gB,i,none⟩) (λ_=>rfl) _
 have L:=h.q.foreign F (az h.sz.1 (h.bn _ rfl)) R K;have q:Q.Gw 4 1 b (some ⟨gB,0,none⟩) cB n (vbl (B.set i true)):=by rw[f,<-wH];exact h.hb.setc i _
 have A:=L.keep hb;have N:b.heap.size=wx.heap.size:=by rw[f];simp[World.setCell]
 have O:Pn w c x:=J.pre (by rw[N];exact az h.sz.1 h.sz.2)
 have M:=A.setP s i x O (.inl I);have S:i<D.P.length:=by rw[h.hP];exact hi
 refine⟨{D with P:=D.P.set i x},M,h.hR,h.hC,h.hL,?_,λj l=>?_,h.ha,h.lw,?_,?_,λj l=>?_,h.bn,⟨h.sz.1,?_⟩⟩
 . show(D.P.set i x).length=n;rw[cx,h.hP]
 . show((D.P.set i x).getD j Pv.zero).pg=_;by_cases e:j=i
   . subst e;rw[if_pos rfl];simp[S]
   . rw[if_neg (by omega),<-h.hg j l]
     simp[fI (Ne.symm e)]
 . refine(q.keep hb).but (kj d x.cs.toList c (i*5)) (λy m e=>?_)
   cases m;obtain⟨c1,G⟩:=(q.keep hb).blk rfl;obtain⟨c2,H⟩:=A.pr.blk s;exact iP G H (by decide) e
 . rw[cx,h.hB]
 . by_cases e:j=i
   . subst e;rw[if_pos rfl];simp[h.hB,hi]
   . rw[if_neg (by omega),<-h.hs j l]
     simp[fI (Ne.symm e)]
 . have T:=hb.size;have U:=(kj d x.cs.toList c (i*5)).size;have:=h.sz.2;omega
def jE(r:Int)(C:List Int):Bool:=C.any λc=>decide (c<0)||decide (r<c)
def kD(C:List Int)(g:Int->Option Pg):Bool:=(List.range C.length).any λi=>decide (0<C.getD i 0)&&(g ((i:Int)+1)).isNone
def iu(r:Int)(C:List Int)(l:List (Int×Pg)):Nat×(Int->Option Pg):=
 if Q.fits C.length r=false then (1,λ_=>none) else if jE r C=true then (13,λ_=>none)
 else if (ldG (ip C) (λ_=>none) l).1≠0 then ldG (ip C) (λ_=>none) l
 else if kD C (ldG (ip C) (λ_=>none) l).2=true then (9,(ldG (ip C) (λ_=>none) l).2) else (0,(ldG (ip C) (λ_=>none) l).2)
theorem wV(hi:i<C.length)(h:C.getD i 0<0\/r<C.getD i 0):jE r C=true:=by
 unfold jE;rw[fH];refine⟨C.getD i 0,by simp[hi],?_⟩
 simp only[eu,bZ];exact h
theorem Et(h:∀j,j<C.length->0<=C.getD j 0/\C.getD j 0<=r):jE r C=false:=by
 unfold jE;rw[fb];intro c f;obtain⟨i,b,e⟩:=List.getElem_of_mem f;have:=h i b;have d:C.getD i 0=c:=by simp[b,e]
 rw[d] at this;simp only[eu,bZ];omega
theorem AK{g:Int->Option Pg}(hi:i<C.length)(b:0<C.getD i 0)(c:(g ((i:Int)+1)).isSome=false):kD C g=true:=by
 unfold kD;rw[fH];refine⟨i,dv.2 hi,?_⟩;rw[au b];simpa using c
theorem CE{C:List Int}{g:Int->Option Pg}(h:∀i,i<C.length->0<C.getD i 0->(g ((i:Int)+1)).isSome=true):kD C g=false:=by
 unfold kD;rw[fb];intro i b;have:=h i (dv.1 b);simp only[b7,bZ];rintro⟨k1,k2⟩;have:=this k1;cases e:g ((i:Int)+1) with
 |none=>rw[e] at this;cases this
 |some v=>rw[e] at k2;cases k2
theorem uR{L:List (Int×Pv)}{j:Nat}(b:j<L.length):nmg (L.drop j)=((L.getD j nm0).1,(L.getD j nm0).2.pg)::nmg (L.drop (j+1)):=by
 unfold nmg;have e:L.getD j nm0=L[j]:=by simp[b]
 rw[co b,e,bO]
end Go.Proofs.YteaogidofpfmmaaGreat
