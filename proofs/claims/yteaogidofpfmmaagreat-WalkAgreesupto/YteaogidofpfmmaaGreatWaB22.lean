import Derived.Test.YteaogidofpfmmaaGreatWaB21
set_option linter.all false
set_option maxHeartbeats 16000000
set_option maxRecDepth 10000
namespace Go.Proofs.YteaogidofpfmmaaGreat
open Go.Proofs.Tryz
open Go.RowKit Go.Shelf
attribute [local go_sem] Oper.semAt_some
variable {n:Nat}{F S:Nat->Prop}{V W:World}
theorem mA{F:Fence}{q:Nat}{f:Array Oper}{i:List Oper}{o:Oper}{a:Act}{w:World}{e:Exit->Act->World->Prop}(s:o.guard=none)(d:TypeId)(x y:Operand)(b:o.op=.store d x y)
 (g:Nat) (cells:Array Value) (l:a.eval x=.pointer (some ⟨g,0,none⟩)) (m:a.eval y=.agg cells)
 (t:TypeId) (old:Array Value) (k:w.heap[g]?=some (.cells old t (0,0))) (hi:(prog.info? d).map (·.size)=some cells.size)
 (v:old.size=cells.size) (j:cells.all (·.oneCell')=true)
 (h:wpListIn F q prog f e i (a.put o.dst undef) (w.setRow g cells)):wpListIn F q prog f e (o::i) a w:=by
 refine wpListIn_plain s λK p=>?_
 unfold Oper.wpIn;refine⟨?_,?_⟩
 . simp[Oper.about,b]
 . rw[Oper.semAt_plain F _ _ (by rw[b];intro c r;cases r)]
   unfold execOp;simp only[b,l,m,Instr.storeAt,Instr.sureAddr,eu,ey,dP,run_storeVar_row w g t d old cells k hi v j];exact p _ _ h
def Yf:Yc (Option (Nat×List Nat×List Nat)):=⟨λ_ p=>some (0,p.1,p.2),λ_ e=>some (e,[],[]),λc=>c.isSome⟩
theorem zN:∀c e,e≠0->Yf.ystp (Yf.ybad c e)=true:=λc e h=>rfl
def FiI(n:Nat)(F:Nat->Prop)(s:Option (Nat×List Nat×List Nat))(W:World):Prop:=
 (∀k,F k↔(k=n\/k=n+1\/k=n+2))/\s=none/\W.heap[n]?=some (.cells #[.slice none 0 0,.slice none 0 0] 45 (0,0))/\W.heap[n+1]?=some (.cells #[.bool false] 4 (0,0))/\W.heap[n+2]?=some (.cells #[.int .i64 0] 39 (0,0))
def FiV(W:World)(G:Nat->Prop)(s:Option (Nat×List Nat×List Nat))(c:Array Value)(bv:Bool)(e:Int):Prop:=
 (∃K V:Br,s=some (0,K.l,V.l)/\c=#[.slice K.a K.l.length K.c,.slice V.a V.l.length V.c]/\bv=true/\e=0/\Rw W K.a K.c K.l/\B8 K.l/\Rw W V.a V.c V.l/\B8 V.l/\jE K V/\(∀x,K.a=some x->G x.block)/\∀x,V.a=some x->G x.block)\/(∃f:Nat,s=some (f,[],[])/\f≠0/\c=#[.slice none 0 0,.slice none 0 0]/\bv=false/\e=(f:Int))
theorem FiV.but{G:Nat->Prop}{s:Option (Nat×List Nat×List Nat)}{c:Array Value}{b:Bool}{e:Int}(h:FiV W G s c b e)(hb:But S W V)(d:∀k,G k->¬S k):FiV V G s c b e:=by
 rcases h with⟨K,V,h1,h2,h3,h4,h5,h6,h7,h8,h9,h10,h11⟩|h
 . exact .inl ⟨K,V,h1,h2,h3,h4,h5.but hb (λx a=>d _ (h10 x a)),h6,h7.but hb (λx a=>d _ (h11 x a)),h8,h9,h10,h11⟩
 . exact .inr h
def FiX(n:Nat)(F:Nat->Prop)(s:Option (Nat×List Nat×List Nat))(W:World):Prop:=
 (∀k,F k->k<W.heap.size)/\F n/\F (n+1)/\F (n+2)/\∃(c:Array Value)(bv:Bool)(e:Int),W.heap[n]?=some (.cells c 45 (0,0))/\W.heap[n+1]?=some (.cells #[.bool bv] 4 (0,0))/\W.heap[n+2]?=some (.cells #[.int .i64 e] 39 (0,0))/\FiV W (λk=>F k/\n+2<k) s c bv e
theorem FiI.but{s:Option (Nat×List Nat×List Nat)}(h:FiI n F s W)(hb:But S W V)(b:∀k,F k->¬S k):FiI n F s V:=by
 obtain⟨a,c,d,e,f⟩:=h;exact⟨a,c,hb.same d (b _ ((a _).2 (.inl rfl))),hb.same e (b _ ((a _).2 (.inr (.inl rfl)))),hb.same f (b _ ((a _).2 (.inr (.inr rfl))))⟩
theorem FiI.siz{s:Option (Nat×List Nat×List Nat)}(h:FiI n F s W):∀k,F k->k<W.heap.size:=λk hk=>by
 obtain⟨a,c,d,e,b⟩:=h;have f:=(ae.1 b).1;rcases (a k).1 hk with rfl|rfl|rfl<;>omega
theorem FiX.but{s:Option (Nat×List Nat×List Nat)}(h:FiX n F s W)(hb:But S W V)(a:∀k,F k->¬S k):FiX n F s V:=by
 obtain⟨i,b,d,f,c,g,e,j,l,m,p⟩:=h;exact⟨λk hk=>a6 (i k hk) hb.size,b,d,f,c,g,e,hb.same j (a _ b),hb.same l (a _ d),hb.same m (a _ f),p.but hb (λk hk=>a k hk.1)⟩
theorem Dk(w:World):∃U:World,((w.alloc (.cells #[.slice none 0 0,.slice none 0 0] 45)).alloc (.cells #[.bool false] 4)).alloc (.cells #[.int .i64 0] 39)=U/\FiI w.heap.size (λk=>k=w.heap.size\/k=w.heap.size+1\/k=w.heap.size+2) none U/\Below w.heap.size w U/\U.heap.size=w.heap.size+3:=by
 obtain⟨a,d⟩:∃U,w.alloc (.cells #[.slice none 0 0,.slice none 0 0] 45)=U:=⟨_,rfl⟩;obtain⟨b,e⟩:∃U,a.alloc (.cells #[.bool false] 4)=U:=⟨_,rfl⟩;obtain⟨c,f⟩:∃U,b.alloc (.cells #[.int .i64 0] 39)=U:=⟨_,rfl⟩;have i:a.heap.size=w.heap.size+1:=by rw[<-d,size_alloc]
 have j:b.heap.size=w.heap.size+2:=by rw[<-e,size_alloc,i]
 have m:c.heap.size=w.heap.size+3:=by rw[<-f,size_alloc,j]
 have l:Below w.heap.size w a:=by rw[<-d];exact al _ _
 have h:Below a.heap.size a b:=by rw[<-e];exact al _ _
 have g:Below b.heap.size b c:=by rw[<-f];exact al _ _
 have p:a.heap[w.heap.size]?=some (.cells #[.slice none 0 0,.slice none 0 0] 45 (0,0)):=by rw[<-d];exact ag _ _
 have q:b.heap[w.heap.size+1]?=some (.cells #[.bool false] 4 (0,0)):=by rw[<-i,<-e];exact ag _ _
 have r:c.heap[w.heap.size+2]?=some (.cells #[.int .i64 0] 39 (0,0)):=by rw[<-j,<-f];exact ag _ _
 exact⟨c,by rw[d,e,f],⟨λk=>dT,rfl,(bt h g).block _ (by omega) |>.trans p,(g.block _ (by omega)).trans q,r⟩,bt (bt l h) g,m⟩
theorem rN{a:Func}{p q r:Tmp}{b c tu:TypeId}(h:a.results=#[.cell p b,.cell q c,.cell r tu])(tmps:Array Value)(w:World)(g k m:Nat)(v u x:Value)
 (e:tmps.getD p undef=.pointer (some ⟨g,0,none⟩)) (f:tmps.getD q undef=.pointer (some ⟨k,0,none⟩)) (i:tmps.getD r undef=.pointer (some ⟨m,0,none⟩)) (d:(loadVar b ⟨g,0,none⟩).run prog w=.ok v w) (j:(loadVar c ⟨k,0,none⟩).run prog w=.ok u w) (l:(loadVar tu ⟨m,0,none⟩).run prog w=.ok x w):
 (results a tmps).run prog w=.ok (.tuple #[v,u,x]) w:=by
 have s:tmps[p]?.getD undef=.pointer (some ⟨g,0,none⟩):=by simpa using e
 have t:tmps[q]?.getD undef=.pointer (some ⟨k,0,none⟩):=by simpa using f
 have y:tmps[r]?.getD undef=.pointer (some ⟨m,0,none⟩):=by simpa using i
 simp[results,h,s,t,y,asAddr,d,j,l]
theorem ls(w:World)(g:Nat)(v:Value)(a:w.cell? ⟨g,0,none⟩=some v):(loadVar 4 ⟨g,0,none⟩).run prog w=.ok v w:=by
 go_simp
def FiR(w w':World)(e:Ending)(s:Option (Nat×List Nat×List Nat)):Prop:=
 (s=none/\e=.returned (.tuple #[.agg #[.slice none 0 0,.slice none 0 0],.bool false,.int .i64 0]))\/
 ∃(c:Array Value)(bv:Bool)(f:Int),e=.returned (.tuple #[.agg c,.bool bv,.int .i64 f])/\FiV w' (λk=>w.heap.size<=k) s c bv f
theorem mD{gf:Nat}{lb:Array Value}(eg:∀args w,(callFunc gf args).run prog w=.ok (.enter gf args) w){w0 w:World}{X:Nat->Prop}{Fin:Option (Nat×List Nat×List Nat)->Prop}{B:Nat}{cn:Option (Nat×List Nat×List Nat)->Nat}
 (aA:mh prog gf lb Yf.ystp (EnR Yf cn B) (λ_=>False) (λ_ _=>True) none Fin w0 X) (ar:But (λk=>¬X k) w0 w) (aw:∀k,X k->k<w.heap.size):
 Calls prog 46 #[.func (.func gf) #[] lb] w λe w'=>Below w.heap.size w w'/\∃s,Fin s/\FiR w w' e s:=by
 have EG:=ix eg;have SQ:=ix aA;have XW:=ix aw;clear eg aA aw;refine(dc (n:=0)).1 ?_;refine dM func46 rfl trivial ?_ rfl;simp only[ntmps46,cR,a7,bg,Nat.reduceAdd,Nat.reduceSub,cx,cM,dg,c7,b9,b7];refine d6.2 ?_;go_wp2_with fail
 obtain⟨aL,hU,I0,Y,sU⟩:=Dk w;rw[hU];have I0:=ix I0;have Y:=ix Y;have X0:=ix (ar.andBelow Y.o);clear hU ar;refine(d6 (n:=0)).1 ?_
 refine jX (gf:=gf) (lb:=lb) rfl EG.o SQ.o X0.o (λk hk=>a6 (XW.o k hk) Y.o.size)
  (by rintro s W0 W1 aJ s' er J (⟨K,V,rfl,_⟩|⟨e,rfl,_⟩)<;>rfl)
  (λk=>k=w.heap.size\/k=w.heap.size+1\/k=w.heap.size+2) (λk hk d=>by have:=XW.o k d;omega) (FiI w.heap.size) (λc F s W=>c=.ret/\FiX w.heap.size F s W)
  (λF s ak B h hb=>h.but hb (λk hk e=>e.1 hk))
  (λF s ak h=>h.siz)
  (λc F s ak B h hb=>⟨h.1,h.2.but hb (λk hk e=>e.1 hk)⟩)
  (λc F s ak h=>h.2.1)
  (λF s W h=>⟨trivial,λk h=>h.elim⟩)
  I0.o ?round ?done ?stop
 case round=>
  rintro l F s W0 W aJ s' er J hI az aH am aO aN au aP aQ aM ⟨r0,ay⟩;have av:=ix (hI.but az (λk _ h=>h))
  have aU:=az.size;clear hI;rcases aH with⟨K,V,rfl,hK,hK8,hV,hV8,hKV,hs',rfl,hcn,hGe⟩|⟨e,rfl,he,hs',rfl,hGe⟩
  . have P:=ix hs';have aC:=ix hKV;have GE:=ix hGe;have aB:=ix hK8;have aD:=ix hV8;have ao:=ix am;clear hs' hcn hKV hGe hK8 hV8 am;obtain⟨g,j,q⟩:=K;obtain⟨i,m,r⟩:=V;have HK:=ix hK;have HV:=ix hV;clear hK hV;simp only at HK HV P GE ⊢
    have KL:Hid (∀k,((∃x,g=some x/\x.block=k)\/∃x,i=some x/\x.block=k)->¬k=l):=ix (λk hk e=>by
     subst e;rcases hk with⟨x,d,e⟩|⟨x,d,e⟩
     . obtain⟨aF,hc⟩:=HK.o.blk d;rw[e,ay] at hc;cases hc
     . obtain⟨aF,hc⟩:=HV.o.blk d;rw[e,ay] at hc;cases hc)
    gi_wp2
    refine⟨al _ _,λa t r4 aI=>?_⟩
    have aa:=al W (.cells #[.slice g q.length j,.slice i r.length m] 45);have af:=ag W (.cells #[.slice g q.length j,.slice i r.length m] 45);have aT:=size_alloc W (.cells #[.slice g q.length j,.slice i r.length m] 45);generalize W.alloc (.cells #[.slice g q.length j,.slice i r.length m] 45)=V3 at *;have R:=ix ((But.ofBelow (S:=λk=>k=l) aa).trans t (λ_ _ e=>e))
    have I:=t.same af (λe=>by have e:W.heap.size=l:=e;omega)
    have I4:=ix (av.o.but R.o (λk hk e=>by have e:k=l:=e;rw[e] at hk;exact au hk))
    have k0:a.cell? ⟨W.heap.size,0,none⟩=some (.slice g q.length j):=by rw[ai _ _ _ _ _ _ I];rfl
    have k1:a.cell? ⟨W.heap.size,1,none⟩=some (.slice i r.length m):=by rw[ai _ _ _ _ _ _ I];rfl
    clear af aa t I
    have M:Hid (a.heap[w.heap.size]?=some (.cells #[.slice none 0 0,.slice none 0 0] 45 (0,0))/\(a.setRow w.heap.size #[.slice g q.length j,.slice i r.length m]).cell? ⟨w.heap.size+1,0,none⟩=some (.bool false)/\(a.setRow w.heap.size #[.slice g q.length j,.slice i r.length m]).frozen? ⟨w.heap.size+1,0,none⟩=false/\((a.setRow w.heap.size #[.slice g q.length j,.slice i r.length m]).setCell ⟨w.heap.size+1,0,none⟩ (.bool true)).cell? ⟨w.heap.size+2,0,none⟩=some (.int .i64 0)/\((a.setRow w.heap.size #[.slice g q.length j,.slice i r.length m]).setCell ⟨w.heap.size+1,0,none⟩ (.bool true)).frozen? ⟨w.heap.size+2,0,none⟩=false/\
     ∃G:Nat->Prop,But (λk=>F k\/J k) a (((a.setRow w.heap.size #[.slice g q.length j,.slice i r.length m]).setCell ⟨w.heap.size+1,0,none⟩ (.bool true)).setCell ⟨w.heap.size+2,0,none⟩ (.int .i64 0))/\(∀k,G k->F k\/J k\/W.heap.size<=k)/\Yf.ystp s'=true/\FiX w.heap.size G s' (((a.setRow w.heap.size #[.slice g q.length j,.slice i r.length m]).setCell ⟨w.heap.size+1,0,none⟩ (.bool true)).setCell ⟨w.heap.size+2,0,none⟩ (.int .i64 0))):=ix (by
     obtain⟨b,N,t,O,H⟩:=I4.o;have c1:But (λk=>k=w.heap.size) a (a.setRow w.heap.size #[.slice g q.length j,.slice i r.length m]):=Q.iD _ _ _
     have x1:=bu a w.heap.size _ #[.slice g q.length j,.slice i r.length m] _ _ t;have y:=c1.same O (λe=>by have e:w.heap.size+1=w.heap.size:=e;omega)
     have z1:=c1.same H (λe=>by have e:w.heap.size+2=w.heap.size:=e;omega)
     have c2:But (λk=>k=w.heap.size+1) (a.setRow w.heap.size #[.slice g q.length j,.slice i r.length m]) ((a.setRow w.heap.size #[.slice g q.length j,.slice i r.length m]).setCell ⟨w.heap.size+1,0,none⟩ (.bool true)):=(But.refl (λk=>k=w.heap.size+1) _).setCell (p:=⟨w.heap.size+1,0,none⟩) (λ_=>rfl) _
     have x2:=c2.same x1 (λe=>by have e:w.heap.size=w.heap.size+1:=e;omega)
     have y2:=aE _ (w.heap.size+1) 0 _ _ (.bool true) y;have C:=c2.same z1 (λe=>by have e:w.heap.size+2=w.heap.size+1:=e;omega)
     have c3:But (λk=>k=w.heap.size+2) ((a.setRow w.heap.size #[.slice g q.length j,.slice i r.length m]).setCell ⟨w.heap.size+1,0,none⟩ (.bool true)) (((a.setRow w.heap.size #[.slice g q.length j,.slice i r.length m]).setCell ⟨w.heap.size+1,0,none⟩ (.bool true)).setCell ⟨w.heap.size+2,0,none⟩ (.int .i64 0)):=(But.refl (λk=>k=w.heap.size+2) _).setCell (p:=⟨w.heap.size+2,0,none⟩) (λ_=>rfl) _
     have x3:=c3.same x2 (λe=>by have e:w.heap.size=w.heap.size+2:=e;omega)
     have y3:=c3.same y2 (λe=>by have e:w.heap.size+1=w.heap.size+2:=e;omega)
     have z3:=aE _ (w.heap.size+2) 0 _ _ (.int .i64 0) C;have E:=((c1.mono (T:=F) λk _ e=>(b k).2 (.inl e)).trans c2 (λk _ e=>(b k).2 (.inr (.inl e)))).trans c3 (λk _ e=>(b k).2 (.inr (.inr e)))
     have sz:∀k,F k->k<a.heap.size:=λk hk=>by
      have l6:=(ae.1 H).1;rcases (b k).1 hk with rfl|rfl|rfl<;>omega
     refine⟨t,by rw[ai _ _ _ _ _ _ y];rfl,bq _ (w.heap.size+1) 0 _ _ y,by rw[ai _ _ _ _ _ _ C];rfl,bq _ (w.heap.size+2) 0 _ _ C,λk=>F k\/J k,E.ing,λk hk=>hk.imp id .inl,by rw[P.o];rfl,λk hk=>?_,.inl ((b _).2 (.inl rfl)),.inl ((b _).2 (.inr (.inl rfl))),.inl ((b _).2 (.inr (.inr rfl))),#[.slice g q.length j,.slice i r.length m],true,0,x3,y3,z3,?_⟩
     . rcases hk with hk|hk
       . exact a6 (sz k hk) E.size
       . have:=ao.o k hk;have:=R.o.size;have:=E.size;omega
     . have f:∀k,((∃x,g=some x/\x.block=k)\/∃x,i=some x/\x.block=k)->¬F k/\J k/\w.heap.size+2<k:=λk hk=>by
        have ax:=(GE.o k).2 hk;have:=ao.o k ax;exact⟨this.1,ax,by omega⟩
       exact .inl ⟨⟨g,j,q⟩,⟨i,m,r⟩,P.o,rfl,rfl,rfl,(HK.o.but R.o (λx d=>KL.o _ (.inl ⟨x,d,rfl⟩))).but E (λx d=>(f _ (.inl ⟨x,d,rfl⟩)).1),aB.o,(HV.o.but R.o (λx d=>KL.o _ (.inr ⟨x,d,rfl⟩))).but E (λx d=>(f _ (.inr ⟨x,d,rfl⟩)).1),aD.o,aC.o,λx d=>⟨.inr (f _ (.inl ⟨x,d,rfl⟩)).2.1,(f _ (.inl ⟨x,d,rfl⟩)).2.2⟩,λx d=>⟨.inr (f _ (.inr ⟨x,d,rfl⟩)).2.1,(f _ (.inr ⟨x,d,rfl⟩)).2.2⟩⟩)
    obtain⟨L,f2,f3,f4,f5,Z⟩:=M.o;have A:=ix L;have F6:=ix Z;clear L Z M;gi_wp2_with (refine mA rfl 45 _ _ rfl w.heap.size _ rfl rfl 45 _ A.o iN rfl (by simp[Value.oneCell']) ?_)
    obtain⟨G,q1,q2,q3,q4⟩:=F6.o;exact⟨G,q1,q2,q3,rfl,q4⟩
  . have P:=ix hs';have HE:=ix he;have GE:=ix hGe;clear hs' hGe am;simp only at P ⊢;gi_wp2
    refine⟨al _ _,λa t aI=>?_⟩
    have aa:=al W (.cells #[.slice none 0 0,.slice none 0 0] 45);have af:=ag W (.cells #[.slice none 0 0,.slice none 0 0] 45);generalize W.alloc (.cells #[.slice none 0 0,.slice none 0 0] 45)=V3 at *;have R:=ix ((But.ofBelow (S:=λk=>k=l) aa).trans t (λ_ _ e=>e))
    have I:=t.same af (λe=>by have e:W.heap.size=l:=e;omega)
    have I4:=ix (av.o.but R.o (λk hk e=>by have e:k=l:=e;rw[e] at hk;exact au hk))
    have k0:a.cell? ⟨W.heap.size,0,none⟩=some (.slice none 0 0):=by rw[ai _ _ _ _ _ _ I];rfl
    have k1:a.cell? ⟨W.heap.size,1,none⟩=some (.slice none 0 0):=by rw[ai _ _ _ _ _ _ I];rfl
    have aR:((e:Int)==0)=false:=by simp[HE.o]
    have aS:¬(e:Int)=0:=by have:=HE.o;omega
    clear aa af t I
    have M:Hid (a.heap[w.heap.size]?=some (.cells #[.slice none 0 0,.slice none 0 0] 45 (0,0))/\(a.setRow w.heap.size #[.slice none 0 0,.slice none 0 0]).cell? ⟨w.heap.size+1,0,none⟩=some (.bool false)/\(a.setRow w.heap.size #[.slice none 0 0,.slice none 0 0]).frozen? ⟨w.heap.size+1,0,none⟩=false/\((a.setRow w.heap.size #[.slice none 0 0,.slice none 0 0]).setCell ⟨w.heap.size+1,0,none⟩ (.bool false)).cell? ⟨w.heap.size+2,0,none⟩=some (.int .i64 0)/\((a.setRow w.heap.size #[.slice none 0 0,.slice none 0 0]).setCell ⟨w.heap.size+1,0,none⟩ (.bool false)).frozen? ⟨w.heap.size+2,0,none⟩=false/\
     ∃G:Nat->Prop,But (λk=>F k\/J k) a (((a.setRow w.heap.size #[.slice none 0 0,.slice none 0 0]).setCell ⟨w.heap.size+1,0,none⟩ (.bool false)).setCell ⟨w.heap.size+2,0,none⟩ (.int .i64 (e:Int)))/\(∀k,G k->F k\/J k\/W.heap.size<=k)/\Yf.ystp s'=true/\FiX w.heap.size G s' (((a.setRow w.heap.size #[.slice none 0 0,.slice none 0 0]).setCell ⟨w.heap.size+1,0,none⟩ (.bool false)).setCell ⟨w.heap.size+2,0,none⟩ (.int .i64 (e:Int)))):=ix (by
     obtain⟨b,N,t,O,H⟩:=I4.o;have c1:But (λk=>k=w.heap.size) a (a.setRow w.heap.size #[.slice none 0 0,.slice none 0 0]):=Q.iD _ _ _
     have x1:=bu a w.heap.size _ #[.slice none 0 0,.slice none 0 0] _ _ t;have y:=c1.same O (λe=>by have e:w.heap.size+1=w.heap.size:=e;omega)
     have z1:=c1.same H (λe=>by have e:w.heap.size+2=w.heap.size:=e;omega)
     have c2:But (λk=>k=w.heap.size+1) (a.setRow w.heap.size #[.slice none 0 0,.slice none 0 0]) ((a.setRow w.heap.size #[.slice none 0 0,.slice none 0 0]).setCell ⟨w.heap.size+1,0,none⟩ (.bool false)):=(But.refl (λk=>k=w.heap.size+1) _).setCell (p:=⟨w.heap.size+1,0,none⟩) (λ_=>rfl) _
     have x2:=c2.same x1 (λe=>by have e:w.heap.size=w.heap.size+1:=e;omega)
     have y2:=aE _ (w.heap.size+1) 0 _ _ (.bool false) y;have C:=c2.same z1 (λe=>by have e:w.heap.size+2=w.heap.size+1:=e;omega)
     have c3:But (λk=>k=w.heap.size+2) ((a.setRow w.heap.size #[.slice none 0 0,.slice none 0 0]).setCell ⟨w.heap.size+1,0,none⟩ (.bool false)) (((a.setRow w.heap.size #[.slice none 0 0,.slice none 0 0]).setCell ⟨w.heap.size+1,0,none⟩ (.bool false)).setCell ⟨w.heap.size+2,0,none⟩ (.int .i64 (e:Int))):=(But.refl (λk=>k=w.heap.size+2) _).setCell (p:=⟨w.heap.size+2,0,none⟩) (λ_=>rfl) _
     have x3:=c3.same x2 (λe=>by have e:w.heap.size=w.heap.size+2:=e;omega)
     have y3:=c3.same y2 (λe=>by have e:w.heap.size+1=w.heap.size+2:=e;omega)
     have z3:=aE _ (w.heap.size+2) 0 _ _ (.int .i64 (e:Int)) C;have E:=((c1.mono (T:=F) λk _ e=>(b k).2 (.inl e)).trans c2 (λk _ e=>(b k).2 (.inr (.inl e)))).trans c3 (λk _ e=>(b k).2 (.inr (.inr e)))
     have sz:∀k,F k->k<a.heap.size:=λk hk=>by
      have l6:=(ae.1 H).1;rcases (b k).1 hk with rfl|rfl|rfl<;>omega
     refine⟨t,by rw[ai _ _ _ _ _ _ y];rfl,bq _ (w.heap.size+1) 0 _ _ y,by rw[ai _ _ _ _ _ _ C];rfl,bq _ (w.heap.size+2) 0 _ _ C,λk=>F k\/J k,E.ing,λk hk=>hk.imp id .inl,by rw[P.o];rfl,λk hk=>?_,.inl ((b _).2 (.inl rfl)),.inl ((b _).2 (.inr (.inl rfl))),.inl ((b _).2 (.inr (.inr rfl))),#[.slice none 0 0,.slice none 0 0],false,(e:Int),x3,y3,z3,?_⟩
     . rcases hk with hk|hk
       . exact a6 (sz k hk) E.size
       . exact(GE.o k hk).elim
     . exact .inr ⟨e,P.o,HE.o,rfl,rfl,rfl⟩)
    obtain⟨L,f2,f3,f4,f5,Z⟩:=M.o;have A:=ix L;have F6:=ix Z;clear L Z M;gi_wp2_with (refine mA rfl 45 _ _ rfl w.heap.size _ rfl rfl 45 _ A.o iN rfl (by simp[Value.oneCell']) ?_)
    obtain⟨G,q1,q2,q3,q4⟩:=F6.o;exact⟨G,q1,q2,q3,rfl,q4⟩
 case done=>
  rintro D F s W hD ac hI ah ab hF ad;have an:=ix ah
  have M:Hid (s=none/\W.heap[w.heap.size]?=some (.cells #[.slice none 0 0,.slice none 0 0] 45 (0,0))/\(W.setRow w.heap.size #[.slice none 0 0,.slice none 0 0]).cell? ⟨w.heap.size+1,0,none⟩=some (.bool false)/\(W.setRow w.heap.size #[.slice none 0 0,.slice none 0 0]).frozen? ⟨w.heap.size+1,0,none⟩=false/\((W.setRow w.heap.size #[.slice none 0 0,.slice none 0 0]).setCell ⟨w.heap.size+1,0,none⟩ (.bool false)).cell? ⟨w.heap.size+2,0,none⟩=some (.int .i64 0)/\((W.setRow w.heap.size #[.slice none 0 0,.slice none 0 0]).setCell ⟨w.heap.size+1,0,none⟩ (.bool false)).frozen? ⟨w.heap.size+2,0,none⟩=false/\
   (((W.setRow w.heap.size #[.slice none 0 0,.slice none 0 0]).setCell ⟨w.heap.size+1,0,none⟩ (.bool false)).setCell ⟨w.heap.size+2,0,none⟩ (.int .i64 0)).heap[D]?=some (.deferred (some []))/\((((W.setRow w.heap.size #[.slice none 0 0,.slice none 0 0]).setCell ⟨w.heap.size+1,0,none⟩ (.bool false)).setCell ⟨w.heap.size+2,0,none⟩ (.int .i64 0)).putObj D (.deferred none)).heap[w.heap.size]?=some (.cells #[.slice none 0 0,.slice none 0 0] 45 (0,0))/\((((W.setRow w.heap.size #[.slice none 0 0,.slice none 0 0]).setCell ⟨w.heap.size+1,0,none⟩ (.bool false)).setCell ⟨w.heap.size+2,0,none⟩ (.int .i64 0)).putObj D (.deferred none)).cell? ⟨w.heap.size+1,0,none⟩=some (.bool false)/\((((W.setRow w.heap.size #[.slice none 0 0,.slice none 0 0]).setCell ⟨w.heap.size+1,0,none⟩ (.bool false)).setCell ⟨w.heap.size+2,0,none⟩ (.int .i64 0)).putObj D (.deferred none)).cell? ⟨w.heap.size+2,0,none⟩=some (.int .i64 0)/\Below w.heap.size w ((((W.setRow w.heap.size #[.slice none 0 0,.slice none 0 0]).setCell ⟨w.heap.size+1,0,none⟩ (.bool false)).setCell ⟨w.heap.size+2,0,none⟩ (.int .i64 0)).putObj D (.deferred none))):=ix (by
   obtain⟨b,N,t,O,H⟩:=hI;have U:D≠w.heap.size/\D≠w.heap.size+1/\D≠w.heap.size+2:=⟨λe=>ac ((b D).2 (.inl e)),λe=>ac ((b D).2 (.inr (.inl e))),λe=>ac ((b D).2 (.inr (.inr e)))⟩
   have c1:But (λk=>k=w.heap.size) W (W.setRow w.heap.size #[.slice none 0 0,.slice none 0 0]):=Q.iD _ _ _
   have x1:=bu W w.heap.size _ #[.slice none 0 0,.slice none 0 0] _ _ t;have y:=c1.same O (λe=>by have e:w.heap.size+1=w.heap.size:=e;omega)
   have z1:=c1.same H (λe=>by have e:w.heap.size+2=w.heap.size:=e;omega)
   have c2:But (λk=>k=w.heap.size+1) (W.setRow w.heap.size #[.slice none 0 0,.slice none 0 0]) ((W.setRow w.heap.size #[.slice none 0 0,.slice none 0 0]).setCell ⟨w.heap.size+1,0,none⟩ (.bool false)):=(But.refl (λk=>k=w.heap.size+1) _).setCell (p:=⟨w.heap.size+1,0,none⟩) (λ_=>rfl) _
   have x2:=c2.same x1 (λe=>by have e:w.heap.size=w.heap.size+1:=e;omega)
   have y2:=aE _ (w.heap.size+1) 0 _ _ (.bool false) y;have C:=c2.same z1 (λe=>by have e:w.heap.size+2=w.heap.size+1:=e;omega)
   have c3:But (λk=>k=w.heap.size+2) ((W.setRow w.heap.size #[.slice none 0 0,.slice none 0 0]).setCell ⟨w.heap.size+1,0,none⟩ (.bool false)) (((W.setRow w.heap.size #[.slice none 0 0,.slice none 0 0]).setCell ⟨w.heap.size+1,0,none⟩ (.bool false)).setCell ⟨w.heap.size+2,0,none⟩ (.int .i64 0)):=(But.refl (λk=>k=w.heap.size+2) _).setCell (p:=⟨w.heap.size+2,0,none⟩) (λ_=>rfl) _
   have x3:=c3.same x2 (λe=>by have e:w.heap.size=w.heap.size+2:=e;omega)
   have y3:=c3.same y2 (λe=>by have e:w.heap.size+1=w.heap.size+2:=e;omega)
   have z3:=aE _ (w.heap.size+2) 0 _ _ (.int .i64 0) C;have d3:=c3.same (c2.same (c1.same ad U.1) U.2.1) U.2.2;have v:=(But.refl (λk=>k=D) (((W.setRow w.heap.size #[.slice none 0 0,.slice none 0 0]).setCell ⟨w.heap.size+1,0,none⟩ (.bool false)).setCell ⟨w.heap.size+2,0,none⟩ (.int .i64 0))).putObj (λ_=>rfl) (.deferred none)
   have I:=v.same x3 (λe=>U.1 e.symm)
   have y4:=v.same y3 (λe=>U.2.1 e.symm)
   have z4:=v.same z3 (λe=>U.2.2 e.symm)
   have E:=(((c1.mono (T:=λk=>w.heap.size<=k) λk _ e=>by have e:k=w.heap.size:=e;omega).trans c2 (λk _ e=>by have e:k=w.heap.size+1:=e;omega)).trans c3 (λk _ e=>by have e:k=w.heap.size+2:=e;omega)).trans v (λk _ e=>by have e:k=D:=e;omega)
   refine⟨N,t,by rw[ai _ _ _ _ _ _ y];rfl,bq _ (w.heap.size+1) 0 _ _ y,by rw[ai _ _ _ _ _ _ C];rfl,bq _ (w.heap.size+2) 0 _ _ C,d3,I,by rw[ai _ _ _ _ _ _ y4];rfl,by rw[ai _ _ _ _ _ _ z4];rfl,?_⟩
   exact(((But.ofBelow (S:=λk=>w.heap.size<=k) Y.o).trans (ab.mono (T:=λk=>w.heap.size<=k) λk _ e=>by rcases e with e|e|e<;>omega) (λ_ _ e=>e)).trans E (λ_ _ e=>e)).below (λk hk e=>by omega))
  obtain⟨L,f2,f3,f4,f5,Z,f7,f8,f9,ap,aq⟩:=M.o;have A:=ix L;have F2:=ix f2;have F7:=ix f7;have F8:=ix f8;have F9:=ix f9;have FA:=ix ap;have FB:=ix aq;clear hI L f2 f7 f8 f9 ap aq M ah ab hF ad;go_wp2_with (refine bz rfl 45 _ _ rfl w.heap.size _ rfl rfl 45 _ F2.o iN rfl (by simp[Value.oneCell']) ?_)
  refine⟨by simp,.inl ⟨_,_,rfl,cw F7.o,?_⟩⟩
  exact⟨_,rN results46 _ _ w.heap.size (w.heap.size+1) (w.heap.size+2) _ _ _ rfl rfl rfl (fE _ _ _ _ _ _ _ F8.o underlying45 rfl iN) (ls _ _ _ F9.o) (jG _ _ _ FA.o),FB.o,s,an.o,.inl ⟨A.o,rfl⟩⟩
 case stop=>
  rintro D c F s W hD ac ⟨rfl,aG⟩ ah ab hF ad;have an:=ix ah;obtain⟨g1,g2,g3,g4,c,bv,aj,g5,g6,g7,g8⟩:=aG;have v:=(But.refl (λk=>k=D) W).putObj (λ_=>rfl) (.deferred none)
  have ne:∀k,F k->¬k=D:=λk hk e=>ac (e▸hk)
  have x5:=v.same g5 (ne _ g2);have x6:=v.same g6 (ne _ g3);have x7:=v.same g7 (ne _ g4);have F5:=ix x5;have F6:Hid ((W.putObj D (.deferred none)).cell? ⟨w.heap.size+1,0,none⟩=some (.bool bv)):=ix (by rw[ai _ _ _ _ _ _ x6];rfl)
  have F7:Hid ((W.putObj D (.deferred none)).cell? ⟨w.heap.size+2,0,none⟩=some (.int .i64 aj)):=ix (by rw[ai _ _ _ _ _ _ x7];rfl)
  have F8:Hid (FiV (W.putObj D (.deferred none)) (λk=>w.heap.size<=k) s c bv aj):=ix (by
   rcases g8.but v (λk hk=>ne k hk.1) with⟨K,V,b,h2,N,t,O,H,h7,h8,h9,h10,h11⟩|h
   . exact .inl ⟨K,V,b,h2,N,t,O,H,h7,h8,h9,λx d=>by have:=(h10 x d).2;omega,λx d=>by have:=(h11 x d).2;omega⟩
   . exact .inr h)
  have F2:Hid (c.size=2):=ix (by
   rcases g8 with⟨K,V,b,h2,_⟩|⟨aj,b,h2,N,_⟩
   . rw[h2];rfl
   . rw[N];rfl)
  have F9:Hid (Below w.heap.size w (W.putObj D (.deferred none))):=ix ((((But.ofBelow (S:=λk=>w.heap.size<=k) Y.o).trans (ab.mono (T:=λk=>w.heap.size<=k) λk _ e=>by rcases e with e|e|e<;>omega) (λ_ _ e=>e)).trans (v.mono (T:=λk=>w.heap.size<=k) λk _ e=>by have e:k=D:=e;omega) (λ_ _ e=>e)).below (λk hk e=>by omega))
  have KD:=ix ad;clear g1 g2 g3 g4 g5 g6 g7 g8 v x5 x6 x7 ah ab hF ad ne;gi_wp2
  refine⟨by simp,.inl ⟨_,_,rfl,cw KD.o,?_⟩⟩
  exact⟨_,rN results46 _ _ w.heap.size (w.heap.size+1) (w.heap.size+2) _ _ _ rfl rfl rfl (fE _ _ _ _ _ _ _ F5.o underlying45 rfl (by rw[iN,F2.o])) (ls _ _ _ F6.o) (jG _ _ _ F7.o),F9.o,s,an.o,.inr ⟨c,bv,aj,rfl,F8.o⟩⟩
theorem jU{P:Program}{b:Func}{p q r:Tmp}{a:TypeId}(h:b.results=#[.cell p a,.tmp q,.tmp r])(tmps:Array Value)(w:World)(g:Nat)(t:TypeId)(cs:Array Value)(fr:Nat×Nat)(d:TypeDesc)
 (f:tmps.getD p undef=.pointer (some ⟨g,0,none⟩)) (e:w.heap[g]?=some (.cells cs t fr))
 (i:P.underlying a=some d) (c:(match d with| .struct _| .array _ _=>true|_=>false)=true) (hi:(P.info? a).map (·.size)=some cs.size):
 (results b tmps).run P w=.ok (.tuple #[.agg cs,tmps.getD q undef,tmps.getD r undef]) w:=by
 have j:tmps[p]?.getD undef=.pointer (some ⟨g,0,none⟩):=by simpa using f
 simp[results,h,j,asAddr,fE w g t a cs fr d e i c hi]
theorem AF(w:World)(b:Nat)(rd:Int->Option Pg)(X:iF rd)(N:Nat)(Y:jx rd N)(D:Nat->Prop)(p:i9 52 (.pointer (some ⟨b,0,none⟩)) rd D w)(Z:∀k,D k->k<w.heap.size)(root a q:Int)(h2:1<=a)(h3:a<=12)(g:Option Addr)(i:Nat)(k:List Nat)(ac:Ri w ⟨g,i,k,none,0,[],true⟩)(ab:Rb ⟨g,i,k,none,0,[],true⟩)(af:∀j,i5 ⟨g,i,k,none,0,[],true⟩ j->j<w.heap.size):
 Calls prog 14 #[.pointer (some ⟨b,0,none⟩),.agg #[.int .i64 root,.int .i64 a,.int .i64 q],.slice g k.length i] w λe w'=>Below w.heap.size w w'/\FiR w w' e (iE (prM Yf rd ⟨k,[],true⟩ true) rd (iU ⟨k,[],true⟩) true (a-1).toNat ⟨[],none⟩ (ja root a)).c:=by
 have y:=ix (λ(W:World)=>jI W b root a q ⟨g,i,k,none,0,[],true⟩ 0)
 obtain⟨T,B,r,s0⟩:=iS w (.cells #[.int .i64 root,.int .i64 a,.int .i64 q] 34) (.cells #[.slice none 0 0,.slice none 0 0] 45) (Below.refl _ _);have r:=ix r;have B:=ix B;have HR:=ix p;have HX:=ix Z;have aj:=ix ac;have ai:=ix ab;have al:=ix af;have HA:=ix X;have HN:=ix Y;clear p Z ac ab af X Y;unfold Rv.val at y;simp only[Rv.cs,bg] at y;obtain⟨t0,t1,t2⟩:=je T;go_enter func14,ntmps14;obtain⟨R,M⟩:∃R,(iE (prM Yf rd ⟨k,[],true⟩ true) rd (iU ⟨k,[],true⟩) true (a-1).toNat ⟨[],none⟩ (ja root a)).c=R:=⟨_,rfl⟩;rw[M];have ah:=ix M;clear M;go_wp2_with fail
 generalize (w.alloc (.cells #[.int .i64 root,.int .i64 a,.int .i64 q] 34)).alloc (.cells #[.slice none 0 0,.slice none 0 0] 45)=d at *;refine(y.o _).mono ?_;rintro _ A ⟨rfl,m1,m2,m3,m4,L,ms⟩;have t:=ix (bt r.o L);have an:w.heap.size<=d.heap.size:=r.o.size
 have G:Hid (∀j,(j=d.heap.size+1\/j=d.heap.size+2\/j=d.heap.size\/j=d.heap.size+3\/D j\/i5 ⟨g,i,k,none,0,[],true⟩ j)->j<A.heap.size):=ix (λj hk=>by
  rcases hk with h|h|h|h|h|h
  . omega
  . omega
  . omega
  . omega
  . have:=HX.o j h;omega
  . have:=al.o j h;omega)
 have P:=ix (mD (enters_of func86 (by kernel_rfl) rfl) (lI Yf zN rd HA.o (λ_=>0) (λ_ _=>by omega) N HN.o b D A (d.heap.size+1) (d.heap.size+2) d.heap.size (d.heap.size+3) root a q h2 h3 ⟨g,i,k,none,0,[],true⟩ true m2 m3 m1 (by rw[if_pos rfl];exact m4) (aj.o.keep t.o) ai.o (HR.o.keep t.o) (λj hk=>G.o j (.inr (.inr (.inr (.inr (.inl hk)))))) (λj hk=>G.o j (.inr (.inr (.inr (.inr (.inr hk)))))) none rfl rfl) (But.refl _ _) G.o)
 have H:=ix ((L.block (w.heap.size+1) (by omega)).trans B.o)
 have am:w.heap.size+2<=A.heap.size:=by omega
 clear m1 m2 m3 m4 L ms t0 t1 t2 T B y;go_wp2_with fail
 refine P.o.mono ?_;rintro e m ⟨O,ag,hs,s⟩;have B3:=ix (bt t.o O);have C:=ix ((O.block (w.heap.size+1) (ae.1 H.o).1).trans H.o);have p:ag=R:=hs.trans ah.o;have ad:w.heap.size<=A.heap.size:=t.o.size;clear hs P O H
 have aa:Hid (∃(c:Array Value)(E:Bool)(f:Int),e=.returned (.tuple #[.agg c,.bool E,.int .i64 f])/\(prog.info? 45).map (·.size)=some c.size/\(#[.slice none 0 0,.slice none 0 0]:Array Value).size=c.size/\c.all (·.oneCell')=true/\(m.setRow (w.heap.size+1) c).heap[w.heap.size+1]?=some (.cells c 45 (0,0))/\Below w.heap.size w (m.setRow (w.heap.size+1) c)/\FiR w (m.setRow (w.heap.size+1) c) (.returned (.tuple #[.agg c,.bool E,.int .i64 f])) R):=ix (by
  subst p;have J:∀c,But (λj=>j=w.heap.size+1) m (m.setRow (w.heap.size+1) c):=λc=>Q.iD _ _ _
  have I:∀c,Below w.heap.size w (m.setRow (w.heap.size+1) c):=λc=>((But.ofBelow (S:=λj=>j=w.heap.size+1) B3.o).trans (J c) (λ_ _ e=>e)).below (λj hj e=>by omega)
  rcases s with⟨hn,rfl⟩|⟨c,E,f,rfl,hv⟩
  . exact⟨_,false,0,rfl,iN,rfl,(by simp[Value.oneCell']),bu _ _ _ _ _ _ C.o,I _,.inl ⟨hn,rfl⟩⟩
  . rcases hv with⟨K,V,g1,rfl,rfl,rfl,g5,g6,g7,g8,g9,g10,g11⟩|⟨e',g1,g2,rfl,rfl,rfl⟩
    . exact⟨_,true,0,rfl,iN,rfl,(by simp[Value.oneCell']),bu _ _ _ _ _ _ C.o,I _,.inr ⟨_,true,0,rfl,.inl ⟨K,V,g1,rfl,rfl,rfl,g5.but (J _) (λx l e=>by have:=g10 x l;omega),g6,g7.but (J _) (λx l e=>by have:=g11 x l;omega),g8,g9,λx l=>ay ad (g10 x l),λx l=>ay ad (g11 x l)⟩⟩⟩
    . exact⟨_,false,_,rfl,iN,rfl,(by simp[Value.oneCell']),bu _ _ _ _ _ _ C.o,I _,.inr ⟨_,false,_,rfl,.inr ⟨e',g1,g2,rfl,rfl,rfl⟩⟩⟩)
 clear p s;obtain⟨c,E,f,rfl,y1,y2,y3,y4,y5,y6⟩:=aa.o;have U:=ix y1;have Y2:=ix y2;have Y3:=ix y3;have Y4:=ix y4;have Y5:=ix y5;have Y6:=ix y6;clear aa y1 y2 y3 y4 y5 y6;go_wp2_with (refine bz rfl 45 _ _ rfl (w.heap.size+1) _ rfl rfl 45 _ C.o U.o Y2.o Y3.o ?_)
 refine az (v:=.tuple #[.agg _,_,_]) (jU results14 _ _ (w.heap.size+1) 45 _ (0,0) _ rfl Y4.o underlying45 rfl U.o) rfl ?_;exact⟨Y5.o,Y6.o⟩
end Go.Proofs.YteaogidofpfmmaaGreat
namespace Go.Proofs.YteaogidofpfmmaaGreat
open Go.Proofs.Tryz
open Go.RowKit
variable {j:Nat}{a:Option Addr}
def PLt(rd:Int->Option Pg)(t:Tr):List (List Nat×List Nat):=if t.root=0 then [] else (lits rd (t.height-1).toNat t.root).map (jQ rd)
theorem jm{rd:Int->Option Pg}(g:iF rd){t:Tr}(h:chk rd t=0)(d:t.root≠0):1<=t.height/\t.height<=12/\Sub rd t.root (t.height-1).toNat (ja t.root t.height)/\(nds rd (t.height-1).toNat t.root).Nodup/\(∀x∈nds rd (t.height-1).toNat t.root,∃p,rd x=some p)/\((lits rd (t.height-1).toNat t.root).length:Int)=t.items:=by
 unfold chk at h;rw[if_neg (λe=>d e.1)] at h
 split at h
 . cases h
 . rename_i m;split at h
   . rename_i b;exact absurd h b
   . rename_i b;split at h
     . cases h
     . rename_i c;have b:(kO rd t).er=0:=by simpa using b
       have f:=xI (root:=t.root) g (t.height-1).toNat (ja t.root t.height) ⟨[],0,0⟩ (by show t.height-1<=_;omega) rfl b
       have c:((kO rd t).ks:Int)=t.items:=by simpa using c
       have e:=f.ks;refine⟨by omega,by omega,f.sb,f.nd,λx k=>?_,?_⟩
       . rcases f.g.cl x (f.ni x k).2 with h|⟨p,i,_⟩
         . cases h
         . exact⟨p,i⟩
       . rw[<-c];have l:(kO rd t).ks=0+(lits rd (t.height-1).toNat t.root).length:=e;omega
theorem GD{D:Rd}{w:World}{f:Nat}{g:Nat->Nat}(b:Rq w f D g){l:List Int}(d:l.Nodup)(h:∀x∈l,∃p,rdR D x=some p):l.length<=65536:=
 ml 65536 l d λn c=>by
  obtain⟨p,e⟩:=h n c;exact m6 b n (by rw[e];rfl)
theorem uj(w:World)(g:Nat)(D:Rd)(l:Nat->Nat)(f:Rq w g D l)(d:iF (rdR D))(t:Tr)(m:chk (rdR D) t=0):
 Calls prog 45 #[.pointer (some ⟨g,0,none⟩),.agg #[.int .i64 t.root,.int .i64 t.height,.int .i64 t.items]] w λe r=>Eh w r e (PLt (rdR D) t):=by
 by_cases b:t.root=0
 . obtain⟨B,i,h⟩:=t;dsimp only at b;subst b;have n:=ix (al w (.cells #[.int .i64 0,.int .i64 i,.int .i64 h] 34));obtain⟨y,A,t2⟩:=iz (ag w (.cells #[.int .i64 0,.int .i64 i,.int .i64 h] 34));have e:PLt (rdR D) ⟨0,i,h⟩=[]:=if_pos rfl;rw[e];clear m f d e;go_enter func45,ntmps45;go_wp2_with fail
   go_ret
   exact⟨n.o,none,0,[],rfl,Prs.nil _,rfl,λk hk=>by
    rcases hk with⟨x,c,_⟩|⟨x,c,_⟩
    . cases c
    . cases c⟩
 . obtain⟨s,v,q,p,c,_⟩:=jm d m b;have e:PLt (rdR D) t=(lits (rdR D) (t.height-1).toNat t.root).map (jQ (rdR D)):=if_neg b;rw[e];exact DU w g D l f d t.root t.height t.items (t.height-1).toNat b ⟨t.root,_,rfl,q⟩ (GD f p c)
theorem jV{α:Type}(q:α->Bool)(d:α):∀(L:List α)(j:Nat),j<L.length->(∀i,i<j->q (L.getD i d)=false)->q (L.getD j d)=true->L.find? q=some (L.getD j d)
 | [],j,h,_,_=>absurd h (dA _)
 |x::L,0,_,_,h=>by
  have h:q x=true:=h;rw[List.find?_cons,h];rfl
 |x::L,j+1,hj,hb,h=>by
  have b:q x=false:=hb 0 (Nat.zero_lt_succ _);rw[List.find?_cons,b];exact jV q d L j (by simpa using hj) (λi c=>hb (i+1) (Nat.succ_lt_succ c)) h
theorem mL{α:Type}(q:α->Bool)(d:α):∀(L:List α),(∀i,i<L.length->q (L.getD i d)=false)->L.find? q=none
 | [],_=>rfl
 |x::L,hb=>by
  have h0:q x=false:=hb 0 (Nat.zero_lt_succ _);rw[List.find?_cons,h0];exact mL q d L λi b=>hb (i+1) (by simpa using b)
def br0:Br×Br:=(⟨none,0,[]⟩,⟨none,0,[]⟩)
theorem ym:∀(C:List (Br×Br))(j:Nat),j<C.length->(prv C)[j*2]?=some (.slice (C.getD j br0).1.a (C.getD j br0).1.l.length (C.getD j br0).1.c)/\(prv C)[j*2+1]?=some (.slice (C.getD j br0).2.a (C.getD j br0).2.l.length (C.getD j br0).2.c)
 | [],j,h=>absurd h (dA _)
 |x::C,0,h=>⟨rfl,rfl⟩
 |x::C,j+1,h=>by
  have ih:=ym C j (by simpa using h)
  have e:prv (x::C)=[Value.slice x.1.a x.1.l.length x.1.c,Value.slice x.2.a x.2.l.length x.2.c]++prv C:=rfl;rw[e,bP (by simp;omega),bP (by simp;omega)]
  simp only[a7,bg];rw[show(j+1)*2-(0+1+1)=j*2 by omega,show(j+1)*2+1-(0+1+1)=j*2+1 by omega]
  exact ih
theorem Prs.at{W:World}{c:Nat}{C:List (Br×Br)}(h:Prs W a c C)(b:j<C.length):∃g,a=some ⟨g,0,none⟩/\W.cell? ⟨g,j*2,none⟩=some (.slice (C.getD j br0).1.a (C.getD j br0).1.l.length (C.getD j br0).1.c)/\W.cell? ⟨g,j*2+1,none⟩=some (.slice (C.getD j br0).2.a (C.getD j br0).2.l.length (C.getD j br0).2.c)/\(Rw W (C.getD j br0).1.a (C.getD j br0).1.c (C.getD j br0).1.l/\B8 (C.getD j br0).1.l)/\Rw W (C.getD j br0).2.a (C.getD j br0).2.c (C.getD j br0).2.l/\B8 (C.getD j br0).2.l:=by
 obtain⟨g,rfl⟩:=h.row.addr (by omega)
 obtain⟨e,f⟩:=ym C j b;have d:C.getD j br0∈C:=by simp[b]
 refine⟨g,rfl,h.row.cell e,h.row.cell f,h.ok _ ?_,h.ok _ ?_⟩
 . unfold prR;exact d7.2 ⟨_,bE.2 ⟨_,d,rfl⟩,bG⟩
 . unfold prR;exact d7.2 ⟨_,bE.2 ⟨_,d,rfl⟩,br _ bG⟩
theorem lz(C:List (Br×Br))(j:Nat):(prl C).getD j ([],[])=((C.getD j br0).1.l,(C.getD j br0).2.l):=by
 unfold prl br0;by_cases h:j<C.length<;>simp[h]
def mj(L:List (List Nat×List Nat))(k:List Nat):List Nat×Bool×Nat:=if k.length<1\/24<k.length then ([],false,7) else match L.find? (λp=>decide (p.1=k)) with
 |none=>([],false,0)
 |some p=>(p.2,true,0)
def GtD(w w':World)(e:Ending)(R:List Nat×Bool×Nat):Prop:=Below w.heap.size w w'/\∃(a:Option Addr)(c:Nat),e=.returned (.tuple #[.slice a R.1.length c,.bool R.2.1,.int .i64 ((R.2.2:Nat):Int)])/\Bs w' a R.1
theorem DS(w:World)(R:Nat)(D:Rd)(g:Nat->Nat)(Y:Rq w R D g)(V:iF (rdR D))(t:Tr)(ad:chk (rdR D) t=0)(N:Option Addr)(T:Nat)(k:List Nat)(O:Bs w N k):
 Calls prog 12 #[.pointer (some ⟨R,0,none⟩),.agg #[.int .i64 t.root,.int .i64 t.height,.int .i64 t.items],.slice N k.length T] w λe w'=>GtD w w' e (mj (PLt (rdR D) t) k):=by
 have A:=ix (al w (.cells #[.int .i64 t.root,.int .i64 t.height,.int .i64 t.items] 34));have X0:=ix (ag w (.cells #[.int .i64 t.root,.int .i64 t.height,.int .i64 t.items] 34));have B:=ix (uj _ R D g (Y.keep A.o) V t ad);have HB:=ix λ(aj:World)(hb:Below w.heap.size w aj)=>O.keep hb
 obtain⟨b,aa⟩:∃b,PLt (rdR D) t=b:=⟨_,rfl⟩;rw[aa] at B ⊢;have aw:=O.2.1;clear Y V ad O aa;by_cases hs:k.length<1\/24<k.length
 . have m:Hid (mj b k=([],false,7)):=ix (if_pos hs);rw[m.o];clear m B;have E:=ix (Bs.nil (w.alloc (.cells #[.int .i64 t.root,.int .i64 t.height,.int .i64 t.items] 34)));rcases hs with hs|hs
   . have U:(k.length:Int)<1:=by omega
     go_enter func12,ntmps12;go_wp2_with fail
     go_ret3
     exact⟨A.o,none,0,rfl,E.o⟩
   . have U:¬(k.length:Int)<1:=by omega
     have h2:(24:Int)<(k.length:Int):=by omega
     go_enter func12,ntmps12;go_wp2_with fail
     go_ret3
     exact⟨A.o,none,0,rfl,E.o⟩
 . have U:¬(k.length:Int)<1:=by omega
   have h2:¬(24:Int)<(k.length:Int):=by omega
   have K:Hid (mj b k=match b.find? (λp=>decide (p.1=k)) with
    |none=>([],false,0)
    |some p=>(p.2,true,0)):=ix (if_neg hs)
   obtain⟨F,ab⟩:∃F,mj b k=F:=⟨_,rfl⟩;rw[ab] at K ⊢;clear ab hs;obtain⟨t0,t1,t2⟩:=iz X0.o;go_enter func12,ntmps12;go_wp2_with fail
   refine B.o.mono ?_;rintro _ W ⟨ac,a,aq,C,rfl,X,ai,_⟩;have I:=ix (bt A.o ac);have S:=ix X;have c:=ix ai;clear ac X ai t0 t1 t2 B;obtain⟨n,s⟩:∃n,C.length=n:=⟨_,rfl⟩;have HN:=ix s;have x:Hid (b.length=n):=by show _=_;rw[<-c.o,i7];exact s
   have ax:n<=9223372036854775807:=by
    have:=S.o.row.capLe;unfold maxLen at this;rw[s] at this;omega
   simp only[s];clear s;go_wp2_with fail
   go_loopw [10] (λvi wx=>∃j:Nat,j<=n/\vi=.int .i64 (j:Int)/\Below W.heap.size W wx/\∀i,i<j->decide ((b.getD i ([],[])).1=k)=false) (λvi _=>n-(intOf vi).toNat)
   case atStart=>exact⟨0,an _,rfl,Below.refl _ _,λi r=>absurd r (dA _)⟩
   case round=>
    obtain⟨j,hj,rfl,hb,af⟩:=hrel;have q:=ix hb;have M:=ix af;clear hb af;by_cases ae:j<n
    . have ap:(j:Int)<(n:Int):=by omega
      have av:(0:Int)<=(j:Int):=by omega
      have PJ:=ix (S.o.keep5 q.o);obtain⟨am,rfl,c0,c1,⟨v,G⟩,y,H⟩:=PJ.o.at (show j<C.length by rw[HN.o];exact ae)
      have h:=ix (lz C j);rw[c.o] at h;obtain⟨⟨⟨kA,kC,P⟩,⟨vA,vC,vL⟩⟩,Z⟩:∃ao,C.getD j br0=ao:=⟨_,rfl⟩;rw[Z] at c0 c1 v G y H h;dsimp only at c0 c1 v G y H h;clear Z;have f:=ix (jY wr kA N P.length k.length kC T P k (v.bs G v.len_le) (HB.o _ (bt I.o q.o)) rfl rfl);have RV:=ix (y.bs H y.len_le);clear v G y H;by_cases l:P=k
      . rw[ar l] at f;have L:=ix l;clear l
        have m:Hid (F=(vL,true,0)):=by
         show _=_;rw[K.o,jV _ ([],[]) b j (by rw[x.o];exact ae) M.o (by rw[h.o];exact ar L.o),h.o]
        go_wp2_with fail
        refine f.o.mono ?_;rintro _ w4 ⟨rfl,d⟩;have J:=ix (bt (bt I.o q.o) d);have R4:=ix (RV.o.keep d);have au:=(d.cell (p:=⟨am,j*2+1,none⟩) (block_lt_of_cell c1)).trans c1;clear d c0 c1 f;go_wp2_with fail
        go_ret3
        rw[m.o];exact⟨J.o,vA,vC,rfl,R4.o⟩
      . rw[ah l] at f;have L:=ix l;clear l;go_wp2_with fail
        refine f.o.mono ?_;rintro _ w4 ⟨rfl,d⟩;have J:=ix (bt q.o d);clear d c0 c1 f;go_wp2_with fail
        go_roundw
        case rel=>exact⟨j+1,by omega,by first|(go_num;done)|exact bf (Value.int IntKind.i64) (by omega),J.o,λi r=>by
         rcases gG.1 r with r|rfl
         . exact M.o i r
         . rw[h.o];exact ah L.o⟩
        case measure=>(simp[intOf];omega)
    . obtain rfl:j=n:=by omega
      have ap:¬(j:Int)<(j:Int):=by omega
      have m:Hid (F=([],false,0)):=by
       show _=_;rw[K.o,mL _ ([],[]) b (by rw[x.o];exact M.o)]
      have E:=ix (Bs.nil wr);go_wp2_with fail
      go_ret3
      rw[m.o];exact⟨bt I.o q.o,none,0,rfl,E.o⟩
theorem sC{α:Type}(d:α)(L:List α)(h:j<L.length):L.reverse.getD j d=L.getD (L.length-1-j) d:=by
 rw[aM,aM,List.getElem?_reverse h]
theorem ny{α:Type}(q:α->Bool)(d:α)(L:List α)(j:Nat)(c:j<L.length)(hb:∀i,j<i->i<L.length->q (L.getD i d)=false)(h:q (L.getD j d)=true):L.reverse.find? q=some (L.getD j d):=by
 have e:L.reverse.getD (L.length-1-j) d=L.getD j d:=by
  rw[sC d L (by omega)]
  congr 1
  omega
 rw[<-e];refine jV q d L.reverse _ (by rw[gy];omega) (λi b=>?_) (by rw[e];exact h)
 rw[sC d L (by omega)]
 exact hb _ (by omega) (by omega)
theorem Cd{α:Type}(q:α->Bool)(d:α)(L:List α)(hb:∀i,i<L.length->q (L.getD i d)=false):L.reverse.find? q=none:=
 mL q d L.reverse λi b=>by
  rw[gy] at b;rw[sC d L b];exact hb _ (by omega)
def kJ(L:List (List Nat×List Nat))(k:List Nat):Option (List Nat×List Nat):=L.find? λp=>decide (0<=iy p.1 k)
def jT(L:List (List Nat×List Nat))(k:List Nat):Option (List Nat×List Nat):=L.reverse.find? λp=>decide (iy p.1 k<=0)
def PrD(w w':World)(e:Ending)(R:Option (List Nat×List Nat)):Prop:=Below w.heap.size w w'/\((R=none/\e=.returned (.tuple #[.agg #[.slice none 0 0,.slice none 0 0],.bool false,.int .i64 0]))\/∃K V:Br,R=some (K.l,V.l)/\e=.returned (.tuple #[.agg #[.slice K.a K.l.length K.c,.slice V.a V.l.length V.c],.bool true,.int .i64 0])/\Bs w' K.a K.l/\Bs w' V.a V.l)
theorem Prs.in1{C:List (Br×Br)}(e:j<C.length){x:Addr}:((C.getD j br0).1.a=some x->prO a C x.block)/\((C.getD j br0).2.a=some x->prO a C x.block):=by
 have b:C.getD j br0∈C:=by simp[e]
 have c:(C.getD j br0).1∈prR C:=by
  unfold prR;exact d7.2 ⟨_,bE.2 ⟨_,b,rfl⟩,bG⟩
 have d:(C.getD j br0).2∈prR C:=by
  unfold prR;exact d7.2 ⟨_,bE.2 ⟨_,b,rfl⟩,br _ bG⟩
 exact⟨λh=>.inr ⟨_,c,x,h,rfl⟩,λh=>.inr ⟨_,d,x,h,rfl⟩⟩
theorem Ay(w:World)(X:Nat)(D:Rd)(ac:Nat->Nat)(hR:Rq w X D ac)(hA:iF (rdR D))(t:Tr)(af:chk (rdR D) t=0)(T:Option Addr)(ck:Nat)(k:List Nat)(U:Bs w T k):
 Calls prog 15 #[.pointer (some ⟨X,0,none⟩),.agg #[.int .i64 t.root,.int .i64 t.height,.int .i64 t.items],.slice T k.length ck] w λe w'=>PrD w w' e (kJ (PLt (rdR D) t) k):=by
 have c:=ix ((al w (.cells #[.int .i64 t.root,.int .i64 t.height,.int .i64 t.items] 34)).alloc (by rw[size_alloc];omega) (.cells #[.slice none 0 0,.slice none 0 0] 45))
 have X0:=ix ((al (w.alloc (.cells #[.int .i64 t.root,.int .i64 t.height,.int .i64 t.items] 34)) (.cells #[.slice none 0 0,.slice none 0 0] 45)).block w.heap.size (by rw[size_alloc];omega) |>.trans (ag w (.cells #[.int .i64 t.root,.int .i64 t.height,.int .i64 t.items] 34)))
 have S:=ix (ag (w.alloc (.cells #[.int .i64 t.root,.int .i64 t.height,.int .i64 t.items] 34)) (.cells #[.slice none 0 0,.slice none 0 0] 45));rw[size_alloc] at S;have M:=ix (uj _ X D ac (hR.keep c.o) hA t af);have HB:=ix λ(ao:World)(hb:Below w.heap.size w ao)=>U.keep hb
 obtain⟨f,ad⟩:∃f,PLt (rdR D) t=f:=⟨_,rfl⟩;rw[ad] at M ⊢;have ax:=U.2.1;clear hR hA af U ad;obtain⟨G,Z⟩:∃G,kJ f k=G:=⟨_,rfl⟩;have DG:=ix Z;rw[Z];clear Z;have am:((w.alloc (.cells #[.int .i64 t.root,.int .i64 t.height,.int .i64 t.items] 34)).alloc (.cells #[.slice none 0 0,.slice none 0 0] 45)).heap.size=w.heap.size+2:=by rw[size_alloc,size_alloc]
 obtain⟨t0,t1,t2⟩:=iz X0.o;go_enter func15,ntmps15;go_wp2_with fail
 refine M.o.mono ?_;rintro _ w2 ⟨K,a,aq,C,rfl,hP,aj,W⟩;rw[am] at K W;have N:=ix (bt c.o (K.mono (by omega)))
 have H:=ix ((K.block (w.heap.size+1) (by omega)).trans S.o)
 have PP:=ix hP;have aa:=ix aj;have LO:=ix W;clear K hP aj W t0 t1 t2 M am X0 S;obtain⟨n,B⟩:∃n,C.length=n:=⟨_,rfl⟩;have P:=ix B;have ab:Hid (f.length=n):=by show _=_;rw[<-aa.o,i7];exact B
 have ay:n<=9223372036854775807:=by
  have:=PP.o.row.capLe;unfold maxLen at this;rw[B] at this;omega
 simp only[B];clear B;go_wp2_with fail
 go_loopw [10] (λvi wx=>∃j:Nat,j<=n/\vi=.int .i64 (j:Int)/\Below w2.heap.size w2 wx/\∀i,i<j->decide (0<=iy (f.getD i ([],[])).1 k)=false) (λvi _=>n-(intOf vi).toNat)
 case atStart=>exact⟨0,an _,rfl,Below.refl _ _,λi A=>absurd A (dA _)⟩
 case round=>
  obtain⟨j,hj,rfl,hb,ai⟩:=hrel;have d:=ix hb;have R:=ix ai;clear hb ai;by_cases L:j<n
  . have ap:(j:Int)<(n:Int):=by omega
    have aw:(0:Int)<=(j:Int):=by omega
    have PJ:=ix (PP.o.keep5 d.o);obtain⟨g,rfl,c0,c1,⟨l,y⟩,F,I⟩:=PJ.o.at (show j<C.length by rw[P.o];exact L)
    have m:=ix (lz C j);rw[aa.o] at m;obtain⟨⟨⟨kA,kC,E⟩,⟨vA,vC,vL⟩⟩,q⟩:∃x,C.getD j br0=x:=⟨_,rfl⟩;have J:=ix (λ(x:Addr)=>And.intro (λh=>(Prs.in1 (a:=some ⟨g,0,none⟩) (C:=C) (j:=j) (x:=x) (by rw[P.o];exact L)).1 h) (λh=>(Prs.in1 (a:=some ⟨g,0,none⟩) (C:=C) (j:=j) (x:=x) (by rw[P.o];exact L)).2 h))
    rw[q] at c0 c1 l y F I m J;dsimp only at c0 c1 l y F I m J;clear q;have r:=ix (jo wr kA T E.length k.length kC ck E k (l.bs y l.len_le) (HB.o _ (bt N.o d.o)) rfl rfl);have RK:=ix (l.bs y l.len_le);have RV:=ix (F.bs I F.len_le);clear l y F I;obtain⟨z,V⟩:∃z,iy E k=z:=⟨_,rfl⟩;rw[V] at r;have HZ:=ix V;clear V;by_cases he:0<=z
    . have Y:Hid (G=some (E,vL)):=by
       show _=_;rw[<-DG.o,kJ,jV _ ([],[]) f j (by rw[ab.o];exact L) R.o (by rw[m.o];exact ar (by rw[HZ.o];exact he)),m.o]
      have XR:=ix ((d.o.block (w.heap.size+1) (ae.1 H.o).1).trans H.o);go_wp2_with fail
      refine r.o.mono ?_;rintro _ w4 ⟨rfl,b⟩;have O:=ix (bt (bt N.o d.o) b);have R3:=ix (RK.o.keep b);have R4:=ix (RV.o.keep b);have s:=ix ((b.block (w.heap.size+1) (ae.1 XR.o).1).trans XR.o);have av:=(b.cell (p:=⟨g,j*2+1,none⟩) (block_lt_of_cell c1)).trans c1;have au:=(b.cell (p:=⟨g,j*2,none⟩) (block_lt_of_cell c0)).trans c0;clear b c0 c1 r;go_wp2_with (refine bz rfl 45 _ _ rfl (w.heap.size+1) _ rfl rfl 45 _ s.o iN rfl (by simp[Value.oneCell']) ?_)
      refine az (v:=.tuple #[.agg _,_,_]) (jU results15 _ _ (w.heap.size+1) 45 _ (0,0) _ rfl (bu _ _ _ _ _ _ s.o) underlying45 rfl iN) rfl ?_;refine⟨below_setRow O.o (by omega) _,.inr ⟨⟨kA,kC,E⟩,⟨vA,vC,vL⟩,Y.o,rfl,R3.o.but (Q.iD _ _ _) (λx q _ e=>?_),R4.o.but (Q.iD _ _ _) (λx q _ e=>?_)⟩⟩
      . have:=LO.o _ ((J.o x).1 q);omega
      . have:=LO.o _ ((J.o x).2 q);omega
    . go_wp2_with fail
      refine r.o.mono ?_;rintro _ w4 ⟨rfl,b⟩;have O:=ix (bt d.o b);clear b c0 c1 r;go_wp2_with fail
      go_roundw
      case rel=>exact⟨j+1,by omega,by first|(go_num;done)|exact bf (Value.int IntKind.i64) (by omega),O.o,λi A=>by
       rcases gG.1 A with A|rfl
       . exact R.o i A
       . rw[m.o];exact ah (by rw[HZ.o];omega)⟩
      case measure=>first|(simp[intOf];done)|(simp[intOf];omega)
  . obtain rfl:j=n:=by omega
    have ap:¬(j:Int)<(j:Int):=by omega
    have Y:Hid (G=none):=by
     show _=_;rw[<-DG.o,kJ,mL _ ([],[]) f (by rw[ab.o];exact R.o)]
    have s:=ix ((d.o.block (w.heap.size+1) (ae.1 H.o).1).trans H.o);go_wp2_with (refine bz rfl 45 _ _ rfl (w.heap.size+1) _ rfl rfl 45 _ s.o iN rfl (by simp[Value.oneCell']) ?_)
    refine az (v:=.tuple #[.agg _,_,_]) (jU results15 _ _ (w.heap.size+1) 45 _ (0,0) _ rfl (bu _ _ _ _ _ _ s.o) underlying45 rfl iN) rfl ?_;exact⟨below_setRow (bt N.o d.o) (by omega) _,.inl ⟨Y.o,rfl⟩⟩
theorem zk(w:World)(Y:Nat)(D:Rd)(ad:Nat->Nat)(hR:Rq w Y D ad)(hA:iF (rdR D))(t:Tr)(ai:chk (rdR D) t=0)(U:Option Addr)(ck:Nat)(k:List Nat)(V:Bs w U k):
 Calls prog 18 #[.pointer (some ⟨Y,0,none⟩),.agg #[.int .i64 t.root,.int .i64 t.height,.int .i64 t.items],.slice U k.length ck] w λe w'=>PrD w w' e (jT (PLt (rdR D) t) k):=by
 have A0:=ix ((al w (.cells #[.int .i64 t.root,.int .i64 t.height,.int .i64 t.items] 34)).alloc (by rw[size_alloc];omega) (.cells #[.slice none 0 0,.slice none 0 0] 45))
 have X0:=ix ((al (w.alloc (.cells #[.int .i64 t.root,.int .i64 t.height,.int .i64 t.items] 34)) (.cells #[.slice none 0 0,.slice none 0 0] 45)).block w.heap.size (by rw[size_alloc];omega) |>.trans (ag w (.cells #[.int .i64 t.root,.int .i64 t.height,.int .i64 t.items] 34)))
 have T:=ix (ag (w.alloc (.cells #[.int .i64 t.root,.int .i64 t.height,.int .i64 t.items] 34)) (.cells #[.slice none 0 0,.slice none 0 0] 45));rw[size_alloc] at T;have N:=ix (uj _ Y D ad (hR.keep A0.o) hA t ai);have HB:=ix λ(au:World)(hb:Below w.heap.size w au)=>V.keep hb
 obtain⟨f,af⟩:∃f,PLt (rdR D) t=f:=⟨_,rfl⟩;rw[af] at N ⊢;have aB:=V.2.1;clear hR hA ai V af;obtain⟨H,c⟩:∃H,jT f k=H:=⟨_,rfl⟩;have DG:=ix c;rw[c];clear c;have aq:((w.alloc (.cells #[.int .i64 t.root,.int .i64 t.height,.int .i64 t.items] 34)).alloc (.cells #[.slice none 0 0,.slice none 0 0] 45)).heap.size=w.heap.size+2:=by rw[size_alloc,size_alloc]
 obtain⟨t0,t1,t2⟩:=iz X0.o;go_enter func18,ntmps18;go_wp2_with fail
 refine N.o.mono ?_;rintro _ w2 ⟨L,a,aw,C,rfl,hP,ap,ab⟩;rw[aq] at L ab;have O:=ix (bt A0.o (L.mono (by omega)))
 have I:=ix ((L.block (w.heap.size+1) (by omega)).trans T.o)
 have PP:=ix hP;have ac:=ix ap;have LO:=ix ab;clear L hP ap ab t0 t1 t2 N aq X0 T;obtain⟨n,E⟩:∃n,C.length=n:=⟨_,rfl⟩;have R:=ix E;have W:Hid (f.length=n):=by show _=_;rw[<-ac.o,i7];exact E
 have aC:n<=9223372036854775807:=by
  have:=PP.o.row.capLe;unfold maxLen at this;rw[E] at this;omega
 simp only[E];clear E;go_wp2_with fail
 go_loopw [10] (λvi wx=>∃m:Nat,m<=n/\vi=.int .i64 ((m:Int)-1)/\Below w2.heap.size w2 wx/\∀i,m<=i->i<n->decide (iy (f.getD i ([],[])).1 k<=0)=false) (λvi _=>(intOf vi+1).toNat)
 case atStart=>exact⟨n,am _,by first|rfl|(go_num;done)|exact bf (Value.int IntKind.i64) (by omega),Below.refl _ _,λi l aa=>absurd aa (by omega)⟩
 case round=>
  obtain⟨m,hm,rfl,hb,ao⟩:=hrel;have d:=ix hb;have S:=ix ao;clear hb ao;by_cases aD:1<=m
  . obtain⟨j,rfl⟩:∃j,m=j+1:=⟨m-1,by omega⟩
    have aj:((j+1:Nat):Int)-1=(j:Int):=by omega
    have M:j<n:=by omega
    have av:(j:Int)<(n:Int):=by omega
    have aA:(0:Int)<=(j:Int):=by omega
    simp only[aj];clear aj;have PJ:=ix (PP.o.keep5 d.o);obtain⟨g,rfl,c0,c1,⟨q,B⟩,G,J⟩:=PJ.o.at (show j<C.length by rw[R.o];exact M)
    have r:=ix (lz C j);rw[ac.o] at r;obtain⟨⟨⟨kA,kC,F⟩,⟨vA,vC,vL⟩⟩,s⟩:∃x,C.getD j br0=x:=⟨_,rfl⟩;have K:=ix (λ(x:Addr)=>And.intro (λh=>(Prs.in1 (a:=some ⟨g,0,none⟩) (C:=C) (j:=j) (x:=x) (by rw[R.o];exact M)).1 h) (λh=>(Prs.in1 (a:=some ⟨g,0,none⟩) (C:=C) (j:=j) (x:=x) (by rw[R.o];exact M)).2 h))
    rw[s] at c0 c1 q B G J r K;dsimp only at c0 c1 q B G J r K;clear s;have y:=ix (jo wr kA U F.length k.length kC ck F k (q.bs B q.len_le) (HB.o _ (bt O.o d.o)) rfl rfl);have RK:=ix (q.bs B q.len_le);have RV:=ix (G.bs J G.len_le);clear q B G J;obtain⟨z,X⟩:∃z,iy F k=z:=⟨_,rfl⟩;rw[X] at y;have HZ:=ix X;clear X;by_cases he:z<=0
    . have Z:Hid (H=some (F,vL)):=by
       show _=_;rw[<-DG.o,jT,ny _ ([],[]) f j (by rw[W.o];exact M) (λi h1 h2=>S.o i (by omega) (by rw[W.o] at h2;exact h2)) (by rw[r.o];exact ar (by rw[HZ.o];exact he)),r.o]
      have XR:=ix ((d.o.block (w.heap.size+1) (ae.1 I.o).1).trans I.o);go_wp2_with fail
      refine y.o.mono ?_;rintro _ w4 ⟨rfl,b⟩;have P:=ix (bt (bt O.o d.o) b);have R3:=ix (RK.o.keep b);have R4:=ix (RV.o.keep b);have A:=ix ((b.block (w.heap.size+1) (ae.1 XR.o).1).trans XR.o);have ay:=(b.cell (p:=⟨g,j*2+1,none⟩) (block_lt_of_cell c1)).trans c1;have ax:=(b.cell (p:=⟨g,j*2,none⟩) (block_lt_of_cell c0)).trans c0;clear b c0 c1 y;go_wp2_with (refine bz rfl 45 _ _ rfl (w.heap.size+1) _ rfl rfl 45 _ A.o iN rfl (by simp[Value.oneCell']) ?_)
      refine az (v:=.tuple #[.agg _,_,_]) (jU results18 _ _ (w.heap.size+1) 45 _ (0,0) _ rfl (bu _ _ _ _ _ _ A.o) underlying45 rfl iN) rfl ?_;refine⟨below_setRow P.o (by omega) _,.inr ⟨⟨kA,kC,F⟩,⟨vA,vC,vL⟩,Z.o,rfl,R3.o.but (Q.iD _ _ _) (λx s _ e=>?_),R4.o.but (Q.iD _ _ _) (λx s _ e=>?_)⟩⟩
      . have:=LO.o _ ((K.o x).1 s);omega
      . have:=LO.o _ ((K.o x).2 s);omega
    . go_wp2_with fail
      refine y.o.mono ?_;rintro _ w4 ⟨rfl,b⟩;have P:=ix (bt d.o b);clear b c0 c1 y;go_wp2_with fail
      go_roundw
      case rel=>exact⟨j,by omega,by first|rfl|(go_num;done)|exact bf (Value.int IntKind.i64) (by omega),P.o,λi l aa=>by
       rcases gH l with l|rfl
       . exact S.o i l aa
       . rw[r.o];exact ah (by rw[HZ.o];omega)⟩
      case measure=>first|(simp[intOf];done)|(simp[intOf];omega)
  . obtain rfl:m=0:=by omega
    have av:¬(0:Int)<=((0:Nat):Int)-1:=by omega
    have Z:Hid (H=none):=by
     show _=_;rw[<-DG.o,jT,Cd _ ([],[]) f (λi l=>S.o i (an _) (by rw[W.o] at l;exact l))]
    have A:=ix ((d.o.block (w.heap.size+1) (ae.1 I.o).1).trans I.o);go_wp2_with (refine bz rfl 45 _ _ rfl (w.heap.size+1) _ rfl rfl 45 _ A.o iN rfl (by simp[Value.oneCell']) ?_)
    refine az (v:=.tuple #[.agg _,_,_]) (jU results18 _ _ (w.heap.size+1) 45 _ (0,0) _ rfl (bu _ _ _ _ _ _ A.o) underlying45 rfl iN) rfl ?_;exact⟨below_setRow (bt O.o d.o) (by omega) _,.inl ⟨Z.o,rfl⟩⟩
end Go.Proofs.YteaogidofpfmmaaGreat
