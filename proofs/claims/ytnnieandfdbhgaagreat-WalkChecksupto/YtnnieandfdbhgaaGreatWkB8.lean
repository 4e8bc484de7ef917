import Derived.Test.YtnnieandfdbhgaaGreatWkB7
import Derived.Test.YtnnieandfdbhgaaGreatRows
set_option linter.all false
set_option maxHeartbeats 3200000
namespace Go.Proofs.YtnnieandfdbhgaaGreat
open Go.Proofs.Tryz
open Go.RowKit
variable {L:List Iv}{cap g k mb pb:Nat}{col pc:Nat->Nat}{w:World}
theorem gO{P:Program}{b:Func}{p q:Tmp}{a:TypeId}(h:b.results=#[.cell p a,.tmp q])(tmps:Array Value)(w:World)(g:Nat)(t:TypeId)(cs:Array Value)(fr:Nat×Nat)(d:TypeDesc)
 (f:tmps.getD p undef=.pointer (some ⟨g,0,none⟩)) (e:w.heap[g]?=some (.cells cs t fr))
 (i:P.underlying a=some d) (c:(match d with| .struct _| .array _ _=>true|_=>false)=true) (hi:(P.info? a).map (·.size)=some cs.size):
 (results b tmps).run P w=.ok (.tuple #[.agg cs,tmps.getD q undef]) w:=by
 have j:tmps[p]?.getD undef=.pointer (some ⟨g,0,none⟩):=by simpa using f
 simp[results,h,j,asAddr,run_loadVar_row w g t a cs fr d e i c hi]
structure Vs where
 X:Vm
 al:List (Nat×Nat)
 fl:Nat
def Vw(w:World)(b:Nat)(S:Vs)(pb mb:Nat)(pc col:Nat->Nat):Prop:=∃ac cc aa ca,Vq w b S.X.P S.fl ⟨pb,mb,S.X.f,ac,cc,S.X.ch,aa,ca,S.al⟩ pc col
theorem Vw.keep{a:World}{b:Nat}{S:Vs}(h:Vw w b S pb mb pc col)(hb:Below w.heap.size w a):Vw a b S pb mb pc col:=by
 obtain⟨d,f,c,e,h⟩:=h;exact⟨d,f,c,e,h.keep hb⟩
def vd0(pb mb:Nat)(aa:Option Addr)(ca:Nat)(al:List (Nat×Nat)):Vd:=⟨pb,mb,λ_=>none,none,0,[],aa,ca,al⟩
theorem Vw.vx{b:Nat}{S:Vs}(h:Vw w b S pb mb pc col):∃a c,Vx w b S.X S.fl (vd0 pb mb a c S.al) pc col:=by
 obtain⟨d,e,a,c,h⟩:=h;exact⟨a,c,d,e,h⟩
theorem Vw.c0{b:Nat}{S:Vs}(h:Vw w b S pb mb pc col):w.cell? ⟨b,0,none⟩=some (.pointer (some ⟨pb,0,none⟩)):=by
 obtain⟨c,e,a,d,h⟩:=h;exact h.cells.1
theorem Vw.z{b:Nat}{S:Vs}(h:Vw w b S pb mb pc col)(a:w.heap.size<=k):col k=0:=by
 obtain⟨c,d,h⟩:=h.vx;exact h.z a
def sB(w w':World)(b:Nat)(S:Vs):Prop:=∃pb mb pc col,Vw w' b S pb mb pc col/\Below w.heap.size w w'/\∀k,col k≠0->w.heap.size<=k
def Vs.start(P:Q.Po):Vs:=⟨⟨P,λ_=>none,[]⟩,[],0⟩
theorem sf{a:World}{P:Q.Po}(h:Q.uX w a pb P):
 sB w ((a.alloc (.map #[] 0)).alloc (.cells #[.pointer (some ⟨pb,0,none⟩),.map (some a.heap.size),.slice none 0 0,.slice none 0 0,.int .i64 0] 117)) (a.heap.size+1) (Vs.start P):=by
 obtain⟨pc,l,hb,r⟩:=h;have m:=al a (.map #[] 0);have f:=al (a.alloc (.map #[] 0)) (.cells #[.pointer (some ⟨pb,0,none⟩),.map (some a.heap.size),.slice none 0 0,.slice none 0 0,.int .i64 0] 117);have n:(a.alloc (.map #[] 0)).heap.size=a.heap.size+1:=size_alloc _ _;have s:((a.alloc (.map #[] 0)).alloc (.cells #[.pointer (some ⟨pb,0,none⟩),.map (some a.heap.size),.slice none 0 0,.slice none 0 0,.int .i64 0] 117)).heap.size=a.heap.size+2:=by rw[size_alloc,n]
 have q:=ag (a.alloc (.map #[] 0)) (.cells #[.pointer (some ⟨pb,0,none⟩),.map (some a.heap.size),.slice none 0 0,.slice none 0 0,.int .i64 0] 117);rw[n] at q;have t:=hb.size;refine⟨pb,a.heap.size,pc,λk=>if k=a.heap.size+1 then 1 else if k=a.heap.size then 2 else if pc k≠0 then 5 else 0,⟨none,0,none,0,⟨q,((Mp.made a).keep f).congr (λ_=>rfl),Q.Gw.nil _ _ _,Q.Gw.nil _ _ _,l.keep (bt m f),λk p e=>(by cases e),λx d=>absurd d (bZ),if_pos rfl,?_,λx d=>(by cases d),λx d=>(by cases d),λk b=>?_,λk b=>?_⟩⟩,bt hb (bt m f),λk b=>?_⟩
 . show(if a.heap.size=a.heap.size+1 then 1 else if a.heap.size=a.heap.size then 2 else _)=2
   rw[if_neg (by omega),if_pos rfl]
 . have:=l.lt k b;show(if k=a.heap.size+1 then 1 else if k=a.heap.size then 2 else if pc k≠0 then 5 else 0)=5
   rw[if_neg (by omega),if_neg (by omega),if_pos b]
 . rw[s];by_cases i:k=a.heap.size+1
   . omega
   . by_cases j:k=a.heap.size
     . omega
     . by_cases c:pc k≠0
       . have:=l.lt k c;omega
       . exact absurd (show(if k=a.heap.size+1 then 1 else if k=a.heap.size then 2 else if pc k≠0 then 5 else 0)=0 by rw[if_neg i,if_neg j,if_neg c]) b
 . by_cases i:k=a.heap.size+1
   . omega
   . by_cases j:k=a.heap.size
     . omega
     . by_cases c:pc k≠0
       . exact r k c
       . exact absurd (show(if k=a.heap.size+1 then 1 else if k=a.heap.size then 2 else if pc k≠0 then 5 else 0)=0 by rw[if_neg i,if_neg j,if_neg c]) b
theorem x8(L:List Iv):∀u∈Jc L,u.oneCell'=true:=by
 intro u a;unfold Jc at a;obtain⟨l,b,a⟩:=List.mem_flatten.1 a;obtain⟨v,c,rfl⟩:=bN.1 b;exact(Array.all_eq_true_iff_forall_mem.1 (tE v)) u (by simpa using a)
theorem Js.all{a:Option Addr}(h:Js w a L)(i:0<L.length):∃c,a=some c/\∀j u,(Jc L)[j]?=some u->w.cell? (c.add j)=some u:=by
 obtain⟨b,f,rfl,_⟩:=h.at i;refine⟨_,rfl,λj u d=>?_⟩
 have n:j<L.length*4:=by
  rw[<-jD];exact(aW.1 d).1
 obtain⟨m,p,e,l⟩:=h.at (r:=j/4) (by omega)
 cases e;have k:=pw L (j/4) (j%4) (by omega) (by omega)
 rw[show j/4*4+j%4=j by omega,d] at k
 have:=l (j%4) u k.symm;rw[Addr.add_mid,show f+j=f+j/4*4+j%4 by omega]
 exact this
theorem vu(w:World)(i:TypeId)(e:Addr)(c:Nat)(L:List Iv)(n:∀j u,(Jc L)[j]?=some u->w.cell? (e.add j)=some u)(l:0<L.length)(B:L.length<=2199023255520):
 ∃g d b,(Builtin.append_ #[75,75] i #[.slice none 0 0,.slice (some e) L.length c]).run prog w=.ok (.slice (some ⟨g,0,none⟩) L.length d) b/\
  Jw b (some ⟨g,0,none⟩) d L/\w.heap.size<=g/\Below w.heap.size w b:=by
 obtain⟨r,p,s,t,v⟩:=dm jx
 obtain⟨g,d,b,h,f,m,h3,y⟩:=eE (P:=prog) w 75 i 0 89 r (.agg Iv.zero.cs) 4 64 underlying75 p s t v rfl (by decide) (.slice none 0 0) 0 [] (ee w 0 89 4) e L.length c (Jc L) (jD L)
  n (x8 L) l (by unfold maxLen;omega) (by omega) (ar _) w.heap.size rfl
 rw[bP] at h f;rw[cu] at f
 have A:g=w.heap.size:=by
  rcases h3 with h3|h3
  . cases h3
  . exact h3
 exact⟨g,d,b,h,f,by omega,(But.inA (a:=none) m).below (λk _ ⟨x,q,_⟩=>by cases q)⟩
theorem rM:∀(L:List Iv)(k:Nat),k<L.length->∀(aK:Option Addr)(cK:Nat)(aV:Option Addr)(cV:Nat),((Jc L).set (k*4) (.slice aK (L.getD k Iv.zero).key.length cK)).set (k*4+1) (.slice aV (L.getD k Iv.zero).val.length cV)=Jc (L.set k {L.getD k Iv.zero with aK:=aK,cK:=cK,aV:=aV,cV:=cV})
 | [],k,h,_,_,_,_=>absurd h (by simp)
 |x::L,0,h,aK,cK,aV,cV=>by simp[Jc,Iv.cs]
 |x::L,k+1,h,aK,cK,aV,cV=>by
  have ih:=rM L k (by simpa using h) aK cK aV cV
  have e:∀(y:Iv)(M:List Iv),Jc (y::M)=y.cs.toList++Jc M:=λy M=>by simp[Jc]
  have a:x.cs.toList.length=4:=rfl;rw[e,List.getD_cons_succ,List.set_cons_succ,e,<-ih,show(k+1)*4=k*4+4 by omega,dv _ _ (by omega),dv _ _ (by omega),a,show k*4+4-4=k*4 by omega,show k*4+4+1-4=k*4+1 by omega]
theorem Jw.set2(h:Jw w (some ⟨g,0,none⟩) cap L)(a:k<L.length)(aK:Option Addr)(cK:Nat)(aV:Option Addr)(cV:Nat):
 Jw ((w.setCell ⟨g,k*4,none⟩ (.slice aK (L.getD k Iv.zero).key.length cK)).setCell ⟨g,k*4+1,none⟩ (.slice aV (L.getD k Iv.zero).val.length cV)) (some ⟨g,0,none⟩) cap (L.set k {L.getD k Iv.zero with aK:=aK,cK:=cK,aV:=aV,cV:=cV}):=by
 rcases h.cases with⟨h0,_⟩|⟨g',cur,ha,hg,h1,h2,h3,h4⟩
 . cases h0
 . cases ha;refine Jw.mk (ay _ _ _ _ _ _ (ay _ _ _ _ _ _ hg)) (by rw[bq];exact h1) h2 (by simpa using h3) ?_
   rw[dr,dr,bq,eK,eK,h4];exact rM L k a aK cK aV cV
structure Co(w W:World)(g cap i:Nat)(M L:List Iv):Prop where
 j:Jw W (some ⟨g,0,none⟩) cap (M++L.drop i)
 len:M.length=i
 e:M.map Iv.it=(L.take i).map Iv.it
 f:Fam w W (fI M)
 n:∀r∈M,N64 r.child/\N64 r.size
 b:Below w.heap.size w W
 gn:w.heap.size<=g
theorem Co.keep{W a:World}{i:Nat}{M:List Iv}(h:Co w W g cap i M L)(hb:Below W.heap.size W a):Co w a g cap i M L:=⟨h.j.keep hb,h.len,h.e,h.f.keep hb,h.n,bt h.b hb,h.gn⟩
theorem xv(W:World)(g c d:Nat)(a b:Value):But (λk=>k=g) W ((W.setCell ⟨g,c,none⟩ a).setCell ⟨g,d,none⟩ b):=((But.refl (λk=>k=g) W).setCell (p:=⟨g,c,none⟩) (λ_=>rfl) a).setCell (p:=⟨g,d,none⟩) (λ_=>rfl) b
theorem Co.round{w W j a:World}{g cap i:Nat}{M L:List Iv}(h:Co w W g cap i M L)(hi:i<L.length)(C:N64 (L.getD i Iv.zero).child/\N64 (L.getD i Iv.zero).size)(v:B8 (L.getD i Iv.zero).key)(A:B8 (L.getD i Iv.zero).val)
 {aK aV:Option Addr} {cK cV:Nat} (f:Own W j aK cK (L.getD i Iv.zero).key) (c:Own j a aV cV (L.getD i Iv.zero).val):
 Co w ((a.setCell ⟨g,i*4,none⟩ (.slice aK (L.getD i Iv.zero).key.length cK)).setCell ⟨g,i*4+1,none⟩ (.slice aV (L.getD i Iv.zero).val.length cV)) g cap (i+1) (M++[{L.getD i Iv.zero with aK:=aK,cK:=cK,aV:=aV,cV:=cV}]) L:=by
 have d:Below W.heap.size W a:=bt f.b c.b;have p:=xv a g (i*4) (i*4+1) (.slice aK (L.getD i Iv.zero).key.length cK) (.slice aV (L.getD i Iv.zero).val.length cV);have q:=h.j.keep d
 have B:(M++L.drop i).getD i Iv.zero=L.getD i Iv.zero:=by
  rw[aM,a6 (by rw[h.len];exact ai _),h.len,dc,List.getElem?_drop,cx,<-aM]
 have m:=q.set2 (k:=i) (by rw[af,h.len,cf];omega) aK cK aV cV
 rw[B] at m
 have E:(M++L.drop i).set i {L.getD i Iv.zero with aK:=aK,cK:=cK,aV:=aV,cV:=cV}=(M++[{L.getD i Iv.zero with aK:=aK,cK:=cK,aV:=aV,cV:=cV}])++L.drop (i+1):=by
  rw[dv _ _ (by rw[h.len];exact ai _),h.len,dc,bC hi,ec,ax]
  rfl
 rw[E] at m
 have io:Io W a {L.getD i Iv.zero with aK:=aK,cK:=cK,aV:=aV,cV:=cV}:=⟨f.keep c.b,⟨c.r,λx b=>(by
  rcases c.n x b with⟨y,l,_⟩|h2
  . cases l
  . exact .inr (az f.b.size h2)),d⟩,λx y b l e=>(by
  have F:=f.r.lt b;rcases c.n y l with⟨z,hz,_⟩|h2
  . cases hz
  . have h2:j.heap.size<=y.block:=h2;omega),v,A⟩
 have n:Fam w a (fI M++Iv.rows {L.getD i Iv.zero with aK:=aK,cK:=cK,aV:=aV,cV:=cV}):=h.f.add io.fam d h.b;have s:Below w.heap.size w ((a.setCell ⟨g,i*4,none⟩ (.slice aK (L.getD i Iv.zero).key.length cK)).setCell ⟨g,i*4+1,none⟩ (.slice aV (L.getD i Iv.zero).val.length cV)):=((But.ofBelow (S:=λ_=>False) (bt h.b d)).trans p (λk G e=>by have:=h.gn;omega)).below (λ_ _ h=>h)
 refine⟨m,by rw[af,h.len];rfl,?_,?_,λr hr=>?_,s,h.gn⟩
 . rw[dh,h.e,Q.ie L Iv.zero hi,dh];rfl
 . rw[gR,jj];exact n.but p s (λt D x b e=>q.ne (n.own t D).1.r rfl b e.symm)
 . rcases bg.1 hr with hr|hr
   . exact h.n r hr
   . rw[aS.1 hr];exact C
theorem sg(w:World)(f:Option Addr)(n r:Nat)(p:List Nat)(c:Bs w f p)(v:n=p.length)(E:p.length<=140737488355328):
 Calls prog 48 #[.slice f n r] w λx q=>∃a d,x=.returned (.slice a n d)/\Rw q a d p/\New w none a/\Below w.heap.size w q:=by
 subst v;cases f with
 |none=>
  obtain rfl:p=[]:=by
   rcases c.2.2 with h|⟨b,F,h,_⟩
   . exact h
   . cases h
  clear c;have A:=run_eql_slice_nil none;go_enter func48,ntmps48;go_wp2;go_ret;exact⟨none,0,rfl,Rw.nil _,New.none _ _,Below.refl _ _⟩
 |some x=>
  have s:=e7 c;clear c;have A:=run_eql_slice_nil (some x);go_enter func48,ntmps48;go_wp2_with (at_builtin;refine jQ rfl _ _ rfl (some ⟨w.heap.size,0,none⟩) 0 0 [] rfl rfl (Rw.mk (cur:=#[]) (aF _ _) (ai _) (ar _) rfl rfl) (some x) p.length r p rfl rfl (s.o.keep ((Below.refl _ _).alloc (ai _) _)) (by simpa using E) ?_)
  intro a d C j i l _;have hb:Below w.heap.size w C:=(But.grown (S:=λk=>k=w.heap.size) ((But.refl _ w).alloc _) l (by intro k m _;simpa using m.symm)).below (by intro k m e;omega)
  have D:New w none a:=by
   intro y B;rcases i y B with⟨z,hz,e⟩|h
   . simp only[au] at hz;subst hz;exact .inr (by show _<=y.block;rw[<-e];exact ai _)
   . rw[size_alloc] at h;exact .inr (by omega)
  have t:=e7 j;clear j i l;go_wp2;go_ret;exact⟨a,d,by simp,t.o,D,hb⟩
theorem i7(w:World)(b:Option Addr)(d:Nat)(p:List Nat)(l:Bs w b p)(n:p.length<=140737488355328):
 Calls prog 48 #[.slice b p.length d] w λx m=>∃a c,x=.returned (.slice a p.length c)/\Own w m a c p:=
 (sg w b p.length d p l rfl n).mono λ_ _ ⟨a,e,f,h,i,j⟩=>⟨a,e,f,h,i,j⟩
end Go.Proofs.YtnnieandfdbhgaaGreat
namespace Go.Proofs.YtnnieandfdbhgaaGreat
open Go.Proofs.Tryz
open Go.ChangeShapes Go.WideShapes Go.ChangeAt Go.RowKit
theorem own:ownKnob prog.godebug=none:=by kernel_rfl
theorem laidOut:laidOutB prog=true:=by kernel_rfl
theorem xt:prog.bytesOf 5=1:=by kernel_rfl
theorem iG:prog.cellsOf 3=1:=by kernel_rfl
theorem mL:prog.cellsOf 37=1:=by kernel_rfl
theorem lN{H:Type}(d:DataW H):1<=Rows.uptoBulk d:=by
 cases d with
 |lit l=>cases l<;>simp[Rows.uptoBulk]
 |nil=>simp[Rows.uptoBulk]
 |ptr d=>simp[Rows.uptoBulk]
 |slice elems spare=>simp[Rows.uptoBulk]
 |agg parts=>simp[Rows.uptoBulk]
 |iface t d=>simp[Rows.uptoBulk]
 |map entries=>simp[Rows.uptoBulk]
 |held h=>simp[Rows.uptoBulk]
theorem li{H:Type}(l:List (DataW H)):l.length<=Rows.uptoBulkAll l:=by
 induction l with
 |nil=>simp[Rows.uptoBulkAll]
 |cons x r ih=>have:=lN x;simp only[Rows.uptoBulkAll,aR];omega
theorem ph{H:Type}{d:DataW H}:∀{l:List (DataW H)},d∈l->Rows.uptoBulk d<=Rows.uptoBulkAll l
 |x::r,hd=>by
  simp only[Rows.uptoBulkAll];rcases b8.1 hd with rfl|hd
  . omega
  . have:=ph hd;omega
def Lit'{H:Type}(t:TypeId)(d:DataW H):Prop:=(∀x∈d.weights prog t,x<=reachBytes)\/Rows.uptoBulk d<=1048576
def yL(k:IntKind)(w:World)(a:Option Addr)(len cap:Nat)(zs:List Int):Prop:=
 (a=none/\len=0/\cap=0/\zs=[])\/
 ∃x,a=some x/\len<=cap/\cap<=maxLen/\zs.length=cap/\(∀i,i<zs.length->w.cell? (x.add i)=some (.int k (zs.getD i 0)))/\∀n∈zs,(Lit.int k n).wf=true
theorem uS{w:World}{a:Option Addr}{len cap:Nat}{c:List Int}(h:yL .u8 w a len cap c):
 ∃l:List Nat,len=l.length/\Bs w a l/\l.length<=maxLen/\len<=cap:=by
 rcases h with⟨rfl,rfl,rfl,rfl⟩|⟨x,rfl,hl,hm,hz,hcell,hwz⟩
 . exact⟨[],rfl,⟨by simp,by simp,.inl rfl⟩,by simp,ai _⟩
 . have d:((c.take len).map Int.toNat).length=len:=by simp;omega
   have p:∀n∈c,0<=n/\n<256:=λn e=>by have:=bounds_u8 (hwz n e);omega
   refine⟨(c.take len).map Int.toNat,d.symm,⟨?_,?_,?_⟩,by rw[d];omega,hl⟩
   . intro y k;simp only[bN] at k;obtain⟨n,e,rfl⟩:=k;have:=p n (eR e);omega
   . rw[d];unfold maxLen at hm;omega
   . by_cases f:len=0
     . have iZ:=f;refine .inl ?_;subst f;simp
     . refine .inr ?_;obtain⟨b,t,v⟩:=x;have A:v=none:=by simpa[Addr.add] using World.cell?_spot (hcell 0 (by omega))
       subst A;refine⟨b,t,rfl,λi j=>?_⟩
       rw[d] at j;have g:=hcell i (by omega)
       have m:i<c.length:=by omega
       have s:=p c[i] (et _);have q:((c.take len).map Int.toNat).getD i 0=c[i].toNat:=by simp[m,j]
       have r:c.getD i 0=c[i]:=by simp[m]
       rw[q,Int.toNat_of_nonneg s.1];rw[r,Addr.add_mid] at g;exact g
theorem ja{H:Type}{enc:TypeId×Value->H}{W:World}{n:Nat}{cs:List Value}{d:DataW H}{p:List MemPlace}
 (i:DataW.trod enc prog W 0 (λ_=>true) true n 37 cs=some (d,p)) (hd:Lit' 37 d):
 ∃(a:Option Addr)(l:List Nat)(cap:Nat),cs=[.slice a l.length cap]/\Bs W a l/\l.length+64<=140737488355328/\l.length<=cap/\l.length<=Rows.uptoBulk d:=by
 rcases open_ints underlying37 underlying5 (by kernel_rfl) i with⟨hcs,_⟩|⟨x,l,c,zs,hcs,_,hl,hm,hz,hx,hcell,hwz⟩
 . exact⟨none,[],0,hcs,Bs.nil W,by decide,ai _,ar _⟩
 . simp only[Prod.mk.injEq] at hx;simp only[if_true] at hz;have f:(lits (H:=H) .u8 (zs.take l)).length+(lits (H:=H) .u8 (zs.drop l)).length=c:=by simp[lits];omega
   obtain⟨k,j,g,_,h⟩:=uS (.inr ⟨_,rfl,hl,hm,hz,hcell,hwz⟩);have q:=li (lits (H:=H) .u8 (zs.take l));have e:(lits (H:=H) .u8 (zs.take l)).length=l:=by simp[lits];omega
   have m:k.length<=Rows.uptoBulk d:=by
    rw[hx.1];simp only[Rows.uptoBulk];omega
   subst j;refine⟨some x,k,c,hcs,g,?_,h,m⟩;rcases hd with hd|hd
   . have b:=hd (((lits (H:=H) .u8 (zs.take k.length)).length+(lits (H:=H) .u8 (zs.drop k.length)).length)*prog.bytesOf 5) (by rw[hx.1];simp only[DataW.weights,underlying37,b8];exact .inl trivial)
     rw[f,xt] at b;unfold reachBytes at b;omega
   . omega
theorem n64{z:Int}(h:(Lit.int .i64 z).wf=true):N64 z:=by
 have:=bounds_i64 h;exact⟨by omega,by omega⟩
end Go.Proofs.YtnnieandfdbhgaaGreat
namespace Go.Proofs.YtnnieandfdbhgaaGreat
open Go.Proofs.Tryz
open Go.RowKit Go.Shelf
attribute [local go_sem] Oper.semAt_some
variable {F:Nat->Prop}{a b:World}
def je{β:Type}(n:Nat)(J:(Nat->Prop)->β->World->Prop):Prop:=∀F s A B,J F s A->But (λk=>¬F k/\n<=k) A B->J F s B
def jY{β:Type}(J:(Nat->Prop)->β->World->Prop):Prop:=∀F s A,J F s A->∀k,F k->k<A.heap.size
theorem But.nog(h:But (λk=>F k\/False) a b):But F a b:=h.mono λ_ _ e=>e.elim id False.elim
theorem But.ing{G:Nat->Prop}(h:But F a b):But (λk=>F k\/G k) a b:=h.mono λ_ _ e=>.inl e
def YesM{σ:Type}(F:Nat->Prop)(J Jx:(Nat->Prop)->σ->World->Prop)(stp:σ->Bool)(s':σ)(er:Bool)(Gv:Nat->Prop)(W:World)(e:Ending)(W':World):Prop:=
 ∃F':Nat->Prop,But (λk=>F k\/Gv k) W W'/\(∀k,F' k->F k\/Gv k\/W.heap.size<=k)/\((e=.returned (.bool true)/\(er=false->stp s'=false)/\J F' s' W')\/(e=.returned (.bool false)/\stp s'=true/\Jx F' s' W'))
def oV{σ:Type}(F:Nat->Prop)(I:(Nat->Prop)->σ->World->Prop)(Ix:Code->(Nat->Prop)->σ->World->Prop)(stp:σ->Bool)(s':σ)(er:Bool)(Gv:Nat->Prop)(n:Nat)(W:World):Exit->Act->World->Prop
 | .normal,_,W'=>∃F':Nat->Prop,But (λk=>F k\/Gv k) W W'/\(∀k,F' k->F k\/Gv k\/n<=k)/\(er=false->stp s'=false)/\I F' s' W'
 | .ret,_,W'=>∃F':Nat->Prop,But (λk=>F k\/Gv k) W W'/\(∀k,F' k->F k\/Gv k\/n<=k)/\stp s'=true/\Ix .ret F' s' W'
 | .exit id,_,W'=>∃F':Nat->Prop,But (λk=>F k\/Gv k) W W'/\(∀k,F' k->F k\/Gv k\/n<=k)/\stp s'=true/\Ix (.exit id) F' s' W'
 | .goto t,_,W'=>∃F':Nat->Prop,But (λk=>F k\/Gv k) W W'/\(∀k,F' k->F k\/Gv k\/n<=k)/\stp s'=true/\Ix (.goto t) F' s' W'
 | .panic _,_,_=>False
 | .outgrown,_,_=>False
def jE{σ:Type}(P:Program)(g:Nat)(lb:Array Value)(stp:σ->Bool)(En:σ->World->World->Array Value->σ->Bool->(Nat->Prop)->Prop)(OB:Nat->Prop)(Rep:σ->World->Prop)(s0:σ)(Fin:σ->Prop)(w:World)(X:Nat->Prop):Prop:=
 ∀(l:Nat)(J Jx:(Nat->Prop)->σ->World->Prop)(W:World)(F0:Nat->Prop),But (λk=>¬X k) w W->(∀k,F0 k->¬X k)->je W.heap.size J->jY J->je W.heap.size Jx->jY Jx->(∀F s W1,J F s W1->Rep s W1/\∀k,OB k->F k)->
  (∀F s W0 W1 vals s' er Gv,J F s W0->But OB W0 W1->En s W0 W1 vals s' er Gv->(∀k,Gv k->¬F k/\W.heap.size<=k/\k<W1.heap.size)->W.heap.size<=W0.heap.size->(∀k,F k->F0 k\/W.heap.size<=k)->YieldAt Fence.wide 0 P l vals W1 (YesM F J Jx stp s' er Gv W1))->
  J F0 s0 W->CallsIn Fence.wide 0 P g (#[.func (.yield l) #[] #[]]++lb) W λe W'=>∃(F':Nat->Prop)(s:σ),(∃v,e=.returned v)/\But F0 W W'/\(∀k,F' k->F0 k\/W.heap.size<=k)/\Fin s/\(J F' s W'\/Jx F' s W')
theorem iO{P:Program}{σ:Type}{g:Operand}{ps:Array Tmp}{assign body:Code}{Qz:Exit->Act->World->Prop}{a:Act}{w:World}
 {gf:Nat} {lb:Array Value} (hg:a.eval g=.func (.func gf) #[] lb) (eg:∀args w,(callFunc gf args).run P w=.ok (.enter gf args) w)
 {aH:σ->Bool} {En:σ->World->World->Array Value->σ->Bool->(Nat->Prop)->Prop} {OB:Nat->Prop} {aA:σ->World->Prop} {s0:σ} {Fin:σ->Prop} {w0:World} {X:Nat->Prop} (aZ:jE P gf lb aH En OB aA s0 Fin w0 X) (aQ:But (λk=>¬X k) w0 w) (aC:∀k,X k->k<w.heap.size) (aW:∀s J W B s' er m,En s J W B s' er m->B.size=ps.size)
 (i:Nat->Prop) (hF:∀k,i k->¬X k) (I:(Nat->Prop)->σ->World->Prop) (Ix:Code->(Nat->Prop)->σ->World->Prop) (hI:je w.heap.size I) (sI:jY I) (al:∀c,je w.heap.size (Ix c)) (aY:∀c,jY (Ix c)) (hR:∀F s W,I F s W->aA s W/\∀k,OB k->F k)
 (h0:I i s0 w)
 (aM:∀(l:Nat)(F:Nat->Prop)(s:σ)(J W:World)(B:Array Value)(s':σ)(er:Bool)(m:Nat->Prop),I F s J->But OB J W->En s J W B s' er m->(∀k,m k->¬F k/\w.heap.size<k/\k<W.heap.size)->w.heap.size<=J.heap.size->(∀k,F k->i k\/w.heap.size<=k)->¬F l->w.heap.size<=l->l<J.heap.size->But i w J->(∃r,W.heap[l]?=some (.loop r))->
   assign.wpIn (Fence.wide.inRound l) 0 P (Exit.then (λa₁ W₁=>Below W.heap.size W W₁/\∀W₂,But (λk=>k=l) W₁ W₂->(∃r,W₂.heap[l]?=some (.loop r))->body.wpIn (Fence.wide.inRound l) 0 P (oV F I Ix aH s' er m W.heap.size W₂) a₁ W₂) (λ_ _ _=>False))
    {tmps:=(ps.zip B).foldl (λt (p,v)=>t.setIfInBounds p v) a.tmps,defers:=[]} W)
 (aK:∀(D:Nat)(F:Nat->Prop)(s:σ)(W:World),w.heap.size<=D->¬F D->I F s W->Fin s->But i w W->(∀k,F k->i k\/w.heap.size<=k)->W.heap[D]?=some (.deferred (some []))->Qz .normal {a with defers:={target:=.collected D,args:=#[]}::a.defers} W)
 (aL:∀(D:Nat)(c:Code)(F:Nat->Prop)(s:σ)(W:World),w.heap.size<=D->¬F D->Ix c F s W->Fin s->But i w W->(∀k,F k->i k\/w.heap.size<=k)->W.heap[D]?=some (.deferred (some []))->c.wpIn Fence.wide 0 P Qz {a with defers:={target:=.collected D,args:=#[]}::a.defers} W):
 (Code.rangeFunc g ps assign body).wpIn Fence.wide 0 P Qz a w:=by
 refine wpIn_rangeFunc λfn aU=>?_
 obtain⟨C,R⟩:∃C:LoopState->Option Code->Loop,C=λst pe=>{state:=st,pending:=pe,fn,tmps:=a.tmps,params:=ps,assign,body,defers:=w.heap.size}:=⟨_,rfl⟩
 have av:=run_enterLoop_outer (P:=P) (w:=w) fn a.tmps ps assign body;obtain⟨V,hV⟩:∃V,(w.alloc (.deferred (some []))).alloc (.loop (C .ready none))=V:=⟨_,rfl⟩;have sV:V.heap.size=w.heap.size+2:=by rw[<-hV,size_alloc,size_alloc]
 have rV:V.heap[w.heap.size+1]?=some (.loop (C .ready none)):=by
  rw[<-hV];have:=ag (w.alloc (.deferred (some []))) (.loop (C .ready none));rwa [World.size_alloc] at this
 have dV:V.heap[w.heap.size]?=some (.deferred (some [])):=by
  rw[<-hV];exact(Below.heap_alloc _ _ _ (by simp)).trans (ag w _)
 have bV:Below w.heap.size w V:=by rw[<-hV];exact bt ((Below.refl _ _).alloc (ai _) _) ((Below.refl _ _).alloc (ai _) _)
 have Z:∀k,i k->k<w.heap.size:=sI _ _ _ h0;have aB:=(hR _ _ _ h0).2;have IV:I i s0 V:=hI _ _ _ _ h0 (But.ofBelow bV);obtain⟨N,hN⟩:∃N:Nat,N=w.heap.size:=⟨_,rfl⟩;refine⟨w.heap.size+1,[{target:=.collected w.heap.size,args:=#[]}],V,{target:=.fn (.func gf) lb,args:=#[.func (.yield (w.heap.size+1)) #[] #[]]},V,gf,#[.func (.yield (w.heap.size+1)) #[] #[]]++lb,V,?_,?_,?_,?_,?_,?_⟩
 . rw[<-hV,R];exact av
 . simp only[resolve,hg];simp[go_sem]
 . intro f' _;trivial
 . simp[invoke,go_sem,eg]
 . intro h;cases h
 rw[<-hN] at sV rV dV Z hI al aM aK aL R ⊢;have fo:∀k,OB k->k<N:=λk h=>Z k (aB k h)
 have step:=aZ (N+1)
  (λF s W=>∃d:Nat->Prop,(∀k,F k↔(d k\/(k=N\/k=N+1)))/\(∀k,d k->i k\/N+2<=k)/\I d s W/\W.heap[N+1]?=some (.loop (C .ready none))/\W.heap[N]?=some (.deferred (some []))/\But i w W)
  (λF s W=>∃c,∃d:Nat->Prop,(∀k,F k↔(d k\/(k=N\/k=N+1)))/\(∀k,d k->i k\/N+2<=k)/\Ix c d s W/\W.heap[N+1]?=some (.loop (C .done (some c)))/\W.heap[N]?=some (.deferred (some []))/\But i w W)
  V (λk=>i k\/(k=N\/k=N+1)) (aQ.andBelow bV)
  (λk f=>by
    rcases f with f|rfl|rfl
    . exact hF k f
    . exact λhx=>by have:=aC _ hx;omega
    . exact λhx=>by have:=aC _ hx;omega
    )
  (λF s ao aN Y hb=>by
    obtain⟨d,n,h2,M,j,e,h6⟩:=Y;exact⟨d,n,h2,hI _ _ _ _ M (hb.mono λk _ f=>⟨λhf=>f.1 ((n k).2 (.inl hf)),by have:=f.2;omega⟩),hb.same j (λh=>h.1 ((n _).2 (.inr (.inr rfl)))),hb.same e (λh=>h.1 ((n _).2 (.inr (.inl rfl)))),h6.trans hb (λk f h=>by have:=h.2;omega)⟩)
  (λF s ao Y k f=>by
    obtain⟨d,n,h2,M,j,e,h6⟩:=Y;rcases (n k).1 f with h|rfl|rfl
    . exact sI _ _ _ M k h
    . exact(ae.1 e).1
    . exact(ae.1 j).1)
  (λF s ao aN Y hb=>by
    obtain⟨c,d,n,h2,M,j,e,h6⟩:=Y;exact⟨c,d,n,h2,al c _ _ _ _ M (hb.mono λk _ f=>⟨λhf=>f.1 ((n k).2 (.inl hf)),by have:=f.2;omega⟩),hb.same j (λh=>h.1 ((n _).2 (.inr (.inr rfl)))),hb.same e (λh=>h.1 ((n _).2 (.inr (.inl rfl)))),h6.trans hb (λk f h=>by have:=h.2;omega)⟩)
  (λF s ao Y k f=>by
    obtain⟨c,d,n,h2,M,j,e,h6⟩:=Y;rcases (n k).1 f with h|rfl|rfl
    . exact aY c _ _ _ M k h
    . exact(ae.1 e).1
    . exact(ae.1 j).1)
  (λF s ao Y=>by
    obtain⟨d,n,h2,M,j,e,h6⟩:=Y;exact⟨(hR _ _ _ M).1,λk f=>(n k).2 (.inl ((hR _ _ _ M).2 k f))⟩)
  ?_ ⟨i,λk=>df,λk f=>.inl f,IV,rV,dV,But.ofBelow bV⟩
 . refine CallsIn.mono step ?_;rintro ap W ⟨F',s,⟨v,rfl⟩,hB,a1,aJ,⟨d,y,H,hi,U,hd,ab⟩|⟨c,d,y,H,hi,U,hd,ab⟩⟩
   . have az:∀(G:Nat->Prop) o,¬G (N+1)->But (λk=>¬G k/\N<=k) W (W.putObj (N+1) o):=λG o q=>(But.refl _ W).putObj (l:=N+1) (λ_=>⟨q,by omega⟩) o
     have n1:¬d (N+1):=λh=>(H _ h).elim (λh=>by have:=Z _ h;omega) (λh=>by omega)
     have n0:¬d N:=λh=>(H _ h).elim (λh=>by have:=Z _ h;omega) (λh=>by omega)
     have an:=eJ (P:=P) U (by rw[R];simp)
     rw[show(C .ready none).pending=none by rw[R]] at an
     refine⟨none,_,an,?_⟩;have:=ab.size;refine aK N d s _ (ai _) n0 (hI _ _ _ _ hi (az d _ n1)) aJ (ab.putObj (λh=>by omega) _) (λk f=>(H k f).imp id (λh=>by omega)) ?_
     exact(cJ (by omega)).trans hd
   . have az:∀(G:Nat->Prop) o,¬G (N+1)->But (λk=>¬G k/\N<=k) W (W.putObj (N+1) o):=λG o q=>(But.refl _ W).putObj (l:=N+1) (λ_=>⟨q,by omega⟩) o
     have n1:¬d (N+1):=λh=>(H _ h).elim (λh=>by have:=Z _ h;omega) (λh=>by omega)
     have n0:¬d N:=λh=>(H _ h).elim (λh=>by have:=Z _ h;omega) (λh=>by omega)
     have an:=eJ (P:=P) U (by rw[R];simp)
     rw[show(C .done (some c)).pending=some c by rw[R]] at an
     refine⟨some c,_,an,?_⟩;have:=ab.size;refine aL N c d s _ (ai _) n0 (al c _ _ _ _ hi (az d _ n1)) aJ (ab.putObj (λh=>by omega) _) (λk f=>(H k f).imp id (λh=>by omega)) ?_
     exact(cJ (by omega)).trans hd
 . rintro F s J W B s' er m ⟨d,y,H,aV,aD,aR,aI⟩ am av A hW a2;have U:=am.same aD (λh=>by have:=fo _ h;omega)
   have hd:=am.same aR (λh=>by have:=fo _ h;omega)
   have ab:But i w W:=aI.trans am (λ_ _ h=>aB _ h)
   have a4:=am.size;have n1:¬d (N+1):=λh=>(H _ h).elim (λh=>by have:=Z _ h;omega) (λh=>by omega)
   have n0:¬d N:=λh=>(H _ h).elim (λh=>by have:=Z _ h;omega) (λh=>by omega)
   have hy:=run_yield (P:=P) (args:=B) U (by rw[R];exact aW _ _ _ _ _ _ _ av)
   rw[R] at hy;refine⟨fn,_,assign,body,hy,roundIn_of_wpIn aU (wpIn_mono (aM (N+1) d s J W B s' er m aV am av (λk f=>⟨λh=>(A k f).1 ((y k).2 (.inl h)),by have:=(A k f).2.1;omega,(A k f).2.2⟩) (by omega) (λk f=>(H k f).imp id (λh=>by omega)) n1 (by omega) (by omega) aI ⟨_,U⟩) ?_)⟩
   rintro ap a₁ W₁ E;cases ap with
   |normal=>
    obtain⟨au,a0⟩:=E;have aE:=(au.block (N+1) (by have:=(ae.1 U).1;omega)).trans U
    have aS:=(au.block N (by omega)).trans hd
    have aX:=run_beginRound (P:=P) aE (by rw[R])
    refine⟨_,aX,?_⟩;obtain⟨x,ay⟩:∃x,W₁.putObj (N+1) (.loop {C .ready none with state:=.busy})=x:=⟨_,rfl⟩;have l1:=(ae.1 aE).1;have aq:But (λk=>k=N+1) W₁ x:=by rw[<-ay];exact(But.refl (λk=>k=N+1) _).putObj (λ_=>rfl) _
    have aF:x.heap[N+1]?=some (.loop {C .ready none with state:=.busy}):=by rw[<-ay];exact dd l1
    have aT:x.heap[N]?=some (.deferred (some [])):=aq.same aS (by omega)
    have a5:=aq.size;have a6:=au.size;rw[ay];refine wpIn_mono (a0 x aq ⟨_,aF⟩) ?_;have aP:¬m (N+1):=λh=>(A _ h).1 ((y _).2 (.inr (.inr rfl)))
    have aO:¬m N:=λh=>(A _ h).1 ((y _).2 (.inr (.inl rfl)))
    have ar:∀(T:Option Code)(K:World)(G:Nat->Prop),But (λk=>d k\/m k) x K->(∀k,G k->d k\/m k\/W.heap.size<=k)->
     ∃L,(Instr.endRound (N+1) T).run P K=.ok (.bool T.isNone) L/\But (λk=>¬G k/\N<=k) K L/\But (λk=>F k\/m k) W L/\But i w L/\
     L.heap[N+1]?=some (.loop (C (if T.isNone then .ready else .done) T))/\L.heap[N]?=some (.deferred (some []))/\
     (∀k,(G k\/(k=N\/k=N+1))->F k\/m k\/W.heap.size<=k)/\(∀k,G k->i k\/N+2<=k):=λT K G ax q=>by
     have aG:=ax.same aF (λh=>h.elim n1 aP)
     have l3:=(ae.1 aG).1;have O:=run_endRound (P:=P) T aG;have e1:({ ({C .ready none with state:=.busy}:Loop) with state:=if T.isNone then .ready else .done,pending:=T}:Loop)=C (if T.isNone then .ready else .done) T:=by rw[R]
     rw[e1] at O
     have g1:¬G (N+1):=λh=>by
      rcases q _ h with h|h|h
      . exact n1 h
      . exact(A _ h).1 ((y _).2 (.inr (.inr rfl)))
      . have:=(ae.1 U).1;omega
     have bF:But (λk=>F k\/m k) W K:=((But.ofBelow (S:=λk=>F k\/m k) au).trans aq (λaw _ h=>.inl ((y aw).2 (.inr (.inr h))))).trans ax (λaw _ h=>h.imp (λh=>(y aw).2 (.inl h)) id)
     refine⟨_,O,(But.refl _ _).putObj (λ_=>⟨g1,by omega⟩) _,bF.putObj (λ_=>.inl ((y _).2 (.inr (.inr rfl)))) _,?_,dd l3,(cJ (by omega)).trans (ax.same aT (λh=>h.elim n0 aO)),?_,?_⟩
     . exact(ab.trans (bF.putObj (λ_=>.inl ((y _).2 (.inr (.inr rfl)))) _) (λk f h=>by
        rcases h with h|h;rotate_left
        . have:=(A k h).2.1;omega
        rcases (y k).1 h with h|rfl|rfl
        . exact(H k h).elim id (λh=>by omega)
        . omega
        . omega
        ))
     . rintro k (h|rfl|rfl)
       . exact(q k h).elim (λh=>.inl ((y k).2 (.inl h))) .inr
       . exact .inl ((y _).2 (.inr (.inl rfl)))
       . exact .inl ((y _).2 (.inr (.inr rfl)))
     . intro k h;rcases q k h with h|h|h
       . exact H k h
       . exact .inr (by have:=(A k h).2.1;omega)
       . exact .inr (by have:=(ae.1 aD).1;omega)
    rintro ap a3 K E;cases ap with
    |normal=>
     obtain⟨G,ah,q,ak,af⟩:=E;obtain⟨L,O,aa,ac,j,aj,ad,s4,s5⟩:=ar (none) K G ah q;exact⟨_,_,O,λk=>G k\/k=N\/k=N+1,ac,s4,.inl ⟨rfl,ak,G,λk=>df,s5,hI _ _ _ _ af aa,aj,ad,j⟩⟩
    |ret=>
     obtain⟨G,ah,q,ak,af⟩:=E;obtain⟨L,O,aa,ac,j,aj,ad,s4,s5⟩:=ar (some .ret) K G ah q;exact⟨_,_,O,λk=>G k\/k=N\/k=N+1,ac,s4,.inr ⟨rfl,ak,.ret,G,λk=>df,s5,al _ _ _ _ _ af aa,aj,ad,j⟩⟩
    |exit id=>
     obtain⟨G,ah,q,ak,af⟩:=E;obtain⟨L,O,aa,ac,j,aj,ad,s4,s5⟩:=ar (some (.exit id)) K G ah q;exact⟨_,_,O,λk=>G k\/k=N\/k=N+1,ac,s4,.inr ⟨rfl,ak,(.exit id),G,λk=>df,s5,al _ _ _ _ _ af aa,aj,ad,j⟩⟩
    |goto t=>
     obtain⟨G,ah,q,ak,af⟩:=E;obtain⟨L,O,aa,ac,j,aj,ad,s4,s5⟩:=ar (some (.goto t)) K G ah q;exact⟨_,_,O,λk=>G k\/k=N\/k=N+1,ac,s4,.inr ⟨rfl,ak,(.goto t),G,λk=>df,s5,al _ _ _ _ _ af aa,aj,ad,j⟩⟩
    |panic ch=>exact E.elim
    |outgrown=>exact E.elim
   |ret=>exact E.elim
   |exit id=>exact E.elim
   |goto t=>exact E.elim
   |panic ch=>exact E.elim
   |outgrown=>exact E.elim
theorem mK{P:Program}{σ:Type}{g:Operand}{ps:Array Tmp}{assign body:Code}{Qz:Exit->Act->World->Prop}{a:Act}{w:World}{l₀:Nat}{r₀:Loop}(aQ:w.heap[l₀]?=some (.loop r₀))
 {gf:Nat} {lb:Array Value} (hg:a.eval g=.func (.func gf) #[] lb) (eg:∀args w,(callFunc gf args).run P w=.ok (.enter gf args) w)
 {aE:σ->Bool} {En:σ->World->World->Array Value->σ->Bool->(Nat->Prop)->Prop} {OB:Nat->Prop} {ay:σ->World->Prop} {s0:σ} {Fin:σ->Prop} {w0:World} {X:Nat->Prop} (aU:jE P gf lb aE En OB ay s0 Fin w0 X) (aM:But (λk=>¬X k) w0 w) (aN:∀k,X k->k<w.heap.size) (aR:∀s E W Y s' er n,En s E W Y s' er n->Y.size=ps.size)
 (i:Nat->Prop) (hF:∀k,i k->¬X k) (I:(Nat->Prop)->σ->World->Prop) (Ix:Code->(Nat->Prop)->σ->World->Prop) (hI:je w.heap.size I) (sI:jY I) (aj:∀c,je w.heap.size (Ix c)) (aT:∀c,jY (Ix c)) (hR:∀F s W,I F s W->ay s W/\∀k,OB k->F k)
 (h0:I i s0 w)
 (aJ:∀(l:Nat)(F:Nat->Prop)(s:σ)(E W:World)(Y:Array Value)(s':σ)(er:Bool)(n:Nat->Prop),I F s E->But OB E W->En s E W Y s' er n->(∀k,n k->¬F k/\w.heap.size<k/\k<W.heap.size)->w.heap.size<=E.heap.size->(∀k,F k->i k\/w.heap.size<=k)->¬F l->w.heap.size<=l->l<E.heap.size->But i w E->(∃r,W.heap[l]?=some (.loop r))->
   assign.wpIn (Fence.wide.inRound l) 0 P (Exit.then (λa₁ W₁=>Below W.heap.size W W₁/\∀W₂,But (λk=>k=l) W₁ W₂->(∃r,W₂.heap[l]?=some (.loop r))->body.wpIn (Fence.wide.inRound l) 0 P (oV F I Ix aE s' er n W.heap.size W₂) a₁ W₂) (λ_ _ _=>False))
    {tmps:=(ps.zip Y).foldl (λt (p,v)=>t.setIfInBounds p v) a.tmps,defers:=[]} W)
 (aH:∀(F:Nat->Prop)(s:σ)(W:World),I F s W->Fin s->But i w W->(∀k,F k->i k\/w.heap.size<=k)->Qz .normal a W)
 (aI:∀(c:Code)(F:Nat->Prop)(s:σ)(W:World),Ix c F s W->Fin s->But i w W->(∀k,F k->i k\/w.heap.size<=k)->c.wpIn (Fence.wide.inRound l₀) 0 P Qz a W):
 (Code.rangeFunc g ps assign body).wpIn (Fence.wide.inRound l₀) 0 P Qz a w:=by
 refine wpIn_rangeFunc λfn aO=>?_
 obtain⟨C,U⟩:∃C:LoopState->Option Code->Loop,C=λst pe=>{state:=st,pending:=pe,fn,tmps:=a.tmps,params:=ps,assign,body,defers:=r₀.defers}:=⟨_,rfl⟩
 have ao:=run_enterLoop_inner (P:=P) aQ fn a.tmps ps assign body;obtain⟨V,hV⟩:∃V,w.alloc (.loop (C .ready none))=V:=⟨_,rfl⟩;have sV:V.heap.size=w.heap.size+1:=by rw[<-hV,size_alloc]
 have rV:V.heap[w.heap.size]?=some (.loop (C .ready none)):=by rw[<-hV];exact ag w _
 have bV:Below w.heap.size w V:=by rw[<-hV];exact(Below.refl _ _).alloc (ai _) _
 have f0:∀k,i k->k<w.heap.size:=sI _ _ _ h0;have aA:=(hR _ _ _ h0).2;have IV:I i s0 V:=hI _ _ _ _ h0 (But.ofBelow bV);obtain⟨N,hN⟩:∃N:Nat,N=w.heap.size:=⟨_,rfl⟩;refine⟨w.heap.size,[],V,{target:=.fn (.func gf) lb,args:=#[.func (.yield (w.heap.size)) #[] #[]]},V,gf,#[.func (.yield (w.heap.size)) #[] #[]]++lb,V,?_,?_,?_,?_,?_,?_⟩
 . rw[<-hV,U];exact ao
 . simp only[resolve,hg];simp[go_sem]
 . intro f' _;trivial
 . simp[invoke,go_sem,eg]
 . intro h;cases h
 rw[<-hN] at sV rV f0 hI aj aJ aH aI ⊢;have fo:∀k,OB k->k<N:=λk h=>f0 k (aA k h)
 have step:=aU (N)
  (λF s W=>∃f:Nat->Prop,(∀k,F k↔(f k\/k=N))/\(∀k,f k->i k\/N+1<=k)/\I f s W/\W.heap[N]?=some (.loop (C .ready none))/\But i w W)
  (λF s W=>∃c,∃f:Nat->Prop,(∀k,F k↔(f k\/k=N))/\(∀k,f k->i k\/N+1<=k)/\Ix c f s W/\W.heap[N]?=some (.loop (C .done (some c)))/\But i w W)
  V (λk=>i k\/k=N) (aM.andBelow bV)
  (λk d=>by
    rcases d with d|rfl
    . exact hF k d
    . exact λhx=>by have:=aN _ hx;omega
    )
  (λF s al aK T hb=>by
    obtain⟨f,q,h2,J,j,h6⟩:=T;exact⟨f,q,h2,hI _ _ _ _ J (hb.mono λk _ d=>⟨λhf=>d.1 ((q k).2 (.inl hf)),by have:=d.2;omega⟩),hb.same j (λh=>h.1 ((q _).2 (.inr rfl))),h6.trans hb (λk d h=>by have:=h.2;omega)⟩)
  (λF s al T k d=>by
    obtain⟨f,q,h2,J,j,h6⟩:=T;rcases (q k).1 d with h|rfl
    . exact sI _ _ _ J k h
    . exact(ae.1 j).1)
  (λF s al aK T hb=>by
    obtain⟨c,f,q,h2,J,j,h6⟩:=T;exact⟨c,f,q,h2,aj c _ _ _ _ J (hb.mono λk _ d=>⟨λhf=>d.1 ((q k).2 (.inl hf)),by have:=d.2;omega⟩),hb.same j (λh=>h.1 ((q _).2 (.inr rfl))),h6.trans hb (λk d h=>by have:=h.2;omega)⟩)
  (λF s al T k d=>by
    obtain⟨c,f,q,h2,J,j,h6⟩:=T;rcases (q k).1 d with h|rfl
    . exact aT c _ _ _ J k h
    . exact(ae.1 j).1)
  (λF s al T=>by
    obtain⟨f,q,h2,J,j,h6⟩:=T;exact⟨(hR _ _ _ J).1,λk d=>(q k).2 (.inl ((hR _ _ _ J).2 k d))⟩)
  ?_ ⟨i,λk=>df,λk d=>.inl d,IV,rV,But.ofBelow bV⟩
 . refine CallsIn.mono (CallsIn.inRound l₀ step) ?_;rintro am W ⟨F',s,⟨v,rfl⟩,hB,aW,aG,⟨f,D,L,hi,R,x⟩|⟨c,f,D,L,hi,R,x⟩⟩
   . have ax:∀(G:Nat->Prop) o,¬G (N)->But (λk=>¬G k/\N<=k) W (W.putObj (N) o):=λG o m=>(But.refl _ W).putObj (l:=N) (λ_=>⟨m,by omega⟩) o
     have Z:¬f (N):=λh=>(L _ h).elim (λh=>by have:=f0 _ h;omega) (λh=>by omega)
     have ak:=eJ (P:=P) R (by rw[U];simp)
     rw[show(C .ready none).pending=none by rw[U]] at ak
     refine⟨none,_,ak,?_⟩;have:=x.size;exact aH f s _ (hI _ _ _ _ hi (ax f _ Z)) aG (x.putObj (λh=>by omega) _) (λk d=>(L k d).imp id (λh=>by omega))
   . have ax:∀(G:Nat->Prop) o,¬G (N)->But (λk=>¬G k/\N<=k) W (W.putObj (N) o):=λG o m=>(But.refl _ W).putObj (l:=N) (λ_=>⟨m,by omega⟩) o
     have Z:¬f (N):=λh=>(L _ h).elim (λh=>by have:=f0 _ h;omega) (λh=>by omega)
     have ak:=eJ (P:=P) R (by rw[U];simp)
     rw[show(C .done (some c)).pending=some c by rw[U]] at ak
     refine⟨some c,_,ak,?_⟩;have:=x.size;exact aI c f s _ (aj c _ _ _ _ hi (ax f _ Z)) aG (x.putObj (λh=>by omega) _) (λk d=>(L k d).imp id (λh=>by omega))
 . rintro F s E W Y s' er n ⟨f,D,L,aP,aw,aF⟩ ap ao ab hW aX;have R:=ap.same aw (λh=>by have:=fo _ h;omega)
   have x:But i w W:=aF.trans ap (λ_ _ h=>aA _ h)
   have aY:=ap.size;have Z:¬f (N):=λh=>(L _ h).elim (λh=>by have:=f0 _ h;omega) (λh=>by omega)
   have hy:=run_yield (P:=P) (args:=Y) R (by rw[U];exact aR _ _ _ _ _ _ _ ao)
   rw[U] at hy;refine⟨fn,_,assign,body,hy,roundIn_of_wpIn aO (wpIn_mono (aJ (N) f s E W Y s' er n aP ap ao (λk d=>⟨λh=>(ab k d).1 ((D k).2 (.inl h)),by have:=(ab k d).2.1;omega,(ab k d).2.2⟩) (by omega) (λk d=>(L k d).imp id (λh=>by omega)) Z (by omega) (by have:=(ae.1 aw).1;omega) aF ⟨_,R⟩) ?_)⟩
   rintro am a₁ W₁ y;cases am with
   |normal=>
    obtain⟨av,aV⟩:=y;have aB:=(av.block (N) (by have:=(ae.1 R).1;omega)).trans R
    have aS:=run_beginRound (P:=P) aB (by rw[U])
    refine⟨_,aS,?_⟩;obtain⟨W2,au⟩:∃W2,W₁.putObj (N) (.loop {C .ready none with state:=.busy})=W2:=⟨_,rfl⟩;have l1:=(ae.1 aB).1;have ar:But (λk=>k=N) W₁ W2:=by rw[<-au];exact(But.refl (λk=>k=N) _).putObj (λ_=>rfl) _
    have aC:W2.heap[N]?=some (.loop {C .ready none with state:=.busy}):=by rw[<-au];exact dd l1
    have aZ:=ar.size;have a0:=av.size;rw[au];refine wpIn_mono (aV W2 ar ⟨_,aC⟩) ?_;have aL:¬n N:=λh=>(ab _ h).1 ((D _).2 (.inr rfl))
    have an:∀(M:Option Code)(H:World)(G:Nat->Prop),But (λk=>f k\/n k) W2 H->(∀k,G k->f k\/n k\/W.heap.size<=k)->
     ∃O,(Instr.endRound (N) M).run P H=.ok (.bool M.isNone) O/\But (λk=>¬G k/\N<=k) H O/\But (λk=>F k\/n k) W O/\But i w O/\
     O.heap[N]?=some (.loop (C (if M.isNone then .ready else .done) M))/\
     (∀k,(G k\/k=N)->F k\/n k\/W.heap.size<=k)/\(∀k,G k->i k\/N+1<=k):=λM H G az m=>by
     have aD:=az.same aC (λh=>h.elim Z aL)
     have l3:=(ae.1 aD).1;have K:=run_endRound (P:=P) M aD;have e1:({ ({C .ready none with state:=.busy}:Loop) with state:=if M.isNone then .ready else .done,pending:=M}:Loop)=C (if M.isNone then .ready else .done) M:=by rw[U]
     rw[e1] at K
     have g1:¬G (N):=λh=>by
      rcases m _ h with h|h|h
      . exact Z h
      . exact(ab _ h).1 ((D _).2 (.inr rfl))
      . have:=(ae.1 R).1;omega
     have bF:But (λk=>F k\/n k) W H:=((But.ofBelow (S:=λk=>F k\/n k) av).trans ar (λaq _ h=>.inl ((D aq).2 (.inr h)))).trans az (λaq _ h=>h.imp (λh=>(D aq).2 (.inl h)) id)
     refine⟨_,K,(But.refl _ _).putObj (λ_=>⟨g1,by omega⟩) _,bF.putObj (λ_=>.inl ((D _).2 (.inr rfl))) _,?_,dd l3,?_,?_⟩
     . exact(x.trans (bF.putObj (λ_=>.inl ((D _).2 (.inr rfl))) _) (λk d h=>by
        rcases h with h|h;rotate_left
        . have:=(ab k h).2.1;omega
        rcases (D k).1 h with h|rfl
        . exact(L k h).elim id (λh=>by omega)
        . omega
        ))
     . rintro k (h|rfl)
       . exact(m k h).elim (λh=>.inl ((D k).2 (.inl h))) .inr
       . exact .inl ((D _).2 (.inr rfl))
     . intro k h;rcases m k h with h|h|h
       . exact L k h
       . exact .inr (by have:=(ab k h).2.1;omega)
       . exact .inr (by have:=(ae.1 aw).1;omega)
    rintro am a3 H y;cases am with
    |normal=>
     obtain⟨G,ad,m,ah,ac⟩:=y;obtain⟨O,K,B,aa,j,af,e,A⟩:=an (none) H G ad m;exact⟨_,_,K,λk=>G k\/k=N,aa,e,.inl ⟨rfl,ah,G,λk=>df,A,hI _ _ _ _ ac B,af,j⟩⟩
    |ret=>
     obtain⟨G,ad,m,ah,ac⟩:=y;obtain⟨O,K,B,aa,j,af,e,A⟩:=an (some .ret) H G ad m;exact⟨_,_,K,λk=>G k\/k=N,aa,e,.inr ⟨rfl,ah,.ret,G,λk=>df,A,aj _ _ _ _ _ ac B,af,j⟩⟩
    |exit id=>
     obtain⟨G,ad,m,ah,ac⟩:=y;obtain⟨O,K,B,aa,j,af,e,A⟩:=an (some (.exit id)) H G ad m;exact⟨_,_,K,λk=>G k\/k=N,aa,e,.inr ⟨rfl,ah,(.exit id),G,λk=>df,A,aj _ _ _ _ _ ac B,af,j⟩⟩
    |goto t=>
     obtain⟨G,ad,m,ah,ac⟩:=y;obtain⟨O,K,B,aa,j,af,e,A⟩:=an (some (.goto t)) H G ad m;exact⟨_,_,K,λk=>G k\/k=N,aa,e,.inr ⟨rfl,ah,(.goto t),G,λk=>df,A,aj _ _ _ _ _ ac B,af,j⟩⟩
    |panic ch=>exact y.elim
    |outgrown=>exact y.elim
   |ret=>exact y.elim
   |exit id=>exact y.elim
   |goto t=>exact y.elim
   |panic ch=>exact y.elim
   |outgrown=>exact y.elim
end Go.Proofs.YtnnieandfdbhgaaGreat
namespace Go.Proofs.YtnnieandfdbhgaaGreat
open Go.Proofs.Tryz
structure Rg where
 lo:List Nat
 hi:List Nat
 op:Bool
def has(r:Rg)(k:List Nat):Bool:=isK k&&(decide (0<=fa k r.lo)&&(r.op||decide (fa k r.hi<0)))
def iv(k:List Nat):List It->Nat
 | []=>0
 |x::L=>if x.key<k then iv k L+1 else 0
def jr(k:List Nat)(L:List It):Bool:=decide (iv k L<L.length)&&decide ((L.getD (iv k L) It.zero).key=k)
def upto(k:List Nat):List It->Nat
 | []=>0
 |x::L=>if x.key<=k then upto k L+1 else 0
def kz(k:List Nat)(L:List It):Nat:=upto k (L.drop 1)
theorem xg(k:List Nat):∀L:List It,iv k L<=L.length
 | []=>ai _
 |x::L=>by
  have:=xg k L;simp only[iv,aR];split<;>omega
theorem rp(k:List Nat):∀(L:List It)(j:Nat),j<=L.length->(∀i,i<j->(L.getD i It.zero).key<k)->(j=L.length\/¬(L.getD j It.zero).key<k)->iv k L=j
 | [],j,h,_,_=>by simp at h;subst h;rfl
 |x::L,0,_,_,h=>by
  rcases h with h|h
  . simp at h
  . simp only[dZ] at h;simp[iv,h]
 |x::L,j+1,h1,h2,h3=>by
  have h0:=h2 0 (by omega)
  simp only[dZ] at h0;simp only[iv,h0,if_true];rw[rp k L j (by simpa using h1) (λi a=>by simpa using h2 (i+1) (by omega)) (by simpa using h3)]
theorem mZ(k:List Nat):∀L:List It,upto k L<=L.length
 | []=>ai _
 |x::L=>by
  have:=mZ k L;simp only[upto,aR];split<;>omega
theorem rX(k:List Nat):∀(L:List It)(j:Nat),j<=L.length->(∀i,i<j->(L.getD i It.zero).key<=k)->(j=L.length\/¬(L.getD j It.zero).key<=k)->upto k L=j
 | [],j,h,_,_=>by simp at h;subst h;rfl
 |x::L,0,_,_,h=>by
  rcases h with h|h
  . simp at h
  . simp only[dZ] at h;simp[upto,h]
 |x::L,j+1,h1,h2,h3=>by
  have h0:=h2 0 (by omega)
  simp only[dZ] at h0;simp only[upto,h0,if_true];rw[rX k L j (by simpa using h1) (λi a=>by simpa using h2 (i+1) (by omega)) (by simpa using h3)]
theorem fT(L:List Iv)(i:Nat):(L.map Iv.it).getD i It.zero=(L.getD i Iv.zero).it:=by
 have:It.zero=Iv.zero.it:=rfl;rw[this];simp[aM,dR]
end Go.Proofs.YtnnieandfdbhgaaGreat
namespace Go.Proofs.YtnnieandfdbhgaaGreat
open Go.Proofs.Tryz
open Go.RowKit
variable {g:Nat}{a:Option Addr}{b c:Value}{w w' wx:World}
theorem Bs.cut{l:List Nat}(h:Bs w a l)(n:Nat):Bs w a (l.take n):=by
 refine⟨λx f=>h.1 x (eR f),by rw[b9];have:=h.2.1;omega,?_⟩
 rcases h.2.2 with rfl|⟨b,j,rfl,d⟩
 . exact .inl (by simp)
 . refine .inr ⟨b,j,rfl,λi e=>?_⟩
   rw[b9] at e;rw[d i (by omega)]
   have:(l.take n).getD i 0=l.getD i 0:=by
    simp only[aM];rw[List.getElem?_take_of_lt (by omega)]
   rw[this]
theorem xw{l:List Nat}(h:B8 l)(i:Nat):l.getD i 0<256:=by
 by_cases d:i<l.length
 . rw[kN l d];exact h _ (et _)
 . simp[aM,du (by omega:l.length<=i)]
theorem tx{l:List Nat}{i n:Nat}(h:i<n):(l.take n).getD i 0=l.getD i 0:=by
 simp only[aM];rw[List.getElem?_take_of_lt h]
theorem oU(w:World)(a:Option Addr)(n c:Nat)(l:List Nat)(h:n=l.length):
 Calls prog 137 #[.slice a n c] w λe w'=>e=.returned (.bool (isK l))/\w'=w:=by
 subst h;unfold isK;by_cases d:0<l.length
 . have i:(0:Int)<(l.length:Int):=by omega
   by_cases f:l.length<=24
   . have j:(l.length:Int)<=24:=by omega
     rw[an d,an f];go_enter func137,ntmps137;go_wp2;go_ret;exact⟨by simp,rfl⟩
   . have j:¬(l.length:Int)<=24:=by omega
     rw[an d,am f];go_enter func137,ntmps137;go_wp2;go_ret;exact⟨by simp,rfl⟩
 . have i:¬(0:Int)<(l.length:Int):=by omega
   rw[am d];go_enter func137,ntmps137;go_wp2;go_ret;exact⟨by simp,rfl⟩
theorem kg(w:World)(a:Option Addr)(n c:Nat)(l:List Nat)(p:Bs w a l)(D:n=l.length)(M:l.length<=c)(N:l.length<=281474976710656):
 Calls prog 193 #[.slice a n c] w λe w'=>∃f k,e=.returned (.slice f (beh l).length k)/\Own w w' f k (beh l):=by
 subst D;have s:=e7 p;have A:=e7 (wD l);have F:=e7 (yH p);clear p;go_enter func193,ntmps193;go_wp2;go_loopw [3] (λi wx=>∃j:Nat,j<=l.length/\i=.int .i64 j/\(sn l j=sn l l.length/\wx=w)) (λi _=>(intOf i).toNat)
 case atStart=>exact⟨l.length,ai _,rfl,rfl,rfl⟩
 case round=>
  obtain⟨j,I,rfl,d,E⟩:=hrel;subst E;cases j with
  |zero=>
   have t:Hid (beh l=[]):=by
    have h:=A.o;rw[<-d] at h;exact h
   clear d;go_wp2;go_ret;refine⟨none,0,by rw[t.o];rfl,?_⟩
   rw[t.o];exact Own.nil _ (Below.refl _ _)
  |succ j=>
   have K:(0:Int)<(j:Int)+1:=by omega
   obtain⟨b,G,rfl,C⟩:=s.o.at (j:=j) (by omega)
   by_cases q:l.getD j 0=255
   . have m:sn l j=sn l l.length:=by rw[<-d];simp only[sn];rw[if_pos q]
     rw[q] at C;clear d;go_wp2;go_roundw
     case rel=>exact⟨j,by omega,by go_num,m,by first|trivial|rfl⟩
     case measure=>simp[intOf]
   . have m:sn l l.length=j+1:=by rw[<-d];simp only[sn];rw[if_neg q]
     have H:¬((l.getD j 0:Nat):Int)=255:=by omega
     have L:(((l.getD j 0:Nat):Int)==255)=false:=eqf H
     have v:Hid (beh l=inc (l.take (j+1))):=by
      have h:=A.o;rw[m,if_neg (by omega)] at h
      exact h
     have r:(l.take (j+1)).length=j+1:=by rw[b9];omega
     have R:=e7 (r9 wr (some ⟨b,G,none⟩) (j+1) (j+1) (l.take (j+1)) (s.o.cut _) r.symm (by omega) (by omega) (by
      rw[r,eF,tx (by omega)]
      have:=xw F.o j;omega))
     clear d m r;generalize l.getD j 0=x at *;go_wp2_with fail
     refine R.o.mono ?_;rintro e J ⟨f,k,rfl,y⟩;have B:=e7 y;clear y;go_wp2;go_ret;exact⟨f,k,by rw[v.o];rfl,by rw[v.o];exact B.o⟩
theorem s7{l:List Nat}(h:l.length<24):next l=l++[0]:=by unfold next;rw[if_pos h]
theorem uL{l:List Nat}(h:¬l.length<24):next l=beh (l.take 24):=by unfold next;rw[if_neg h]
theorem wg(w:World)(a:Option Addr)(n c:Nat)(l:List Nat)(k:Bs w a l)(s:n=l.length)(y:l.length<=c):
 Calls prog 170 #[.slice a n c] w λe w'=>∃d f,e=.returned (.slice d (next l).length f)/\Own w w' d f (next l):=by
 subst s;by_cases h:l.length<24
 . have q:(l.length:Int)<24:=by omega
   have R:=e7 (mX w a l.length c l k rfl (by omega))
   have i:=e7 (s7 h);clear k;go_enter func170,ntmps170;go_wp2_with fail
   refine R.o.mono ?_;rintro e t ⟨d,f,rfl,m⟩;have p:=e7 m;clear m;go_wp2;go_ret;exact⟨d,f,by rw[i.o];first|rfl|simp,by rw[i.o];exact p.o⟩
 . have q:¬(l.length:Int)<24:=by omega
   obtain⟨b,v,rfl,_⟩:=k.at (j:=0) (by omega)
   have r:(l.take 24).length=24:=by rw[b9];omega
   have R:=e7 (kg w (some ⟨b,v,none⟩) 24 24 (l.take 24) (k.cut _) r.symm (by omega) (by omega))
   have i:=e7 (uL h);clear k r;have x:(24:Int)<=(c:Int):=by omega
   have A:24<=c:=by omega
   go_enter func170,ntmps170;go_wp2_with fail
   refine R.o.mono ?_;rintro e t ⟨d,f,rfl,m⟩;have p:=e7 m;clear m;go_wp2;go_ret;exact⟨d,f,by rw[i.o];first|rfl|simp,by rw[i.o];exact p.o⟩
theorem ue{l:List Nat}(h:isK l=true):iE l=l:=by unfold iE;rw[if_pos h]
theorem wz{l:List Nat}(h:isK l=false):iE l=next l:=by unfold iE;rw[h];rfl
theorem uH(w:World)(a:Option Addr)(n c:Nat)(l:List Nat)(k:Bs w a l)(q:n=l.length)(r:l.length<=c):
 Calls prog 130 #[.slice a n c] w λe w'=>∃i j,e=.returned (.slice i (iE l).length j)/\Own w w' i j (iE l):=by
 subst q;have K:=e7 (oU w a l.length c l rfl);cases h:isK l with
 |true=>
  rw[h] at K;have R:=e7 (jd w a l.length c l k rfl (by have:=od.1 h;omega))
  have d:=e7 (ue h);clear k h;go_enter func130,ntmps130;go_wp2_with fail
  refine K.o.mono ?_;rintro e p ⟨rfl,rfl⟩;go_wp2_with fail
  refine R.o.mono ?_;rintro e p ⟨rfl,f⟩;have m:=e7 f;clear f;go_wp2;go_ret;exact⟨_,_,by rw[d.o];rfl,by rw[d.o];exact m.o⟩
 |false=>
  rw[h] at K;have R:=e7 (wg w a l.length c l k rfl r);have d:=e7 (wz h);clear k h;go_enter func130,ntmps130;go_wp2_with fail
  refine K.o.mono ?_;rintro e p ⟨rfl,rfl⟩;go_wp2_with fail
  refine R.o.mono ?_;rintro e p ⟨i,j,rfl,f⟩;have m:=e7 f;clear f;go_wp2;go_ret;exact⟨i,j,by rw[d.o];first|rfl|simp,by rw[d.o];exact m.o⟩
structure Rv where
 aL:Option Addr
 cL:Nat
 lo:List Nat
 aH:Option Addr
 cH:Nat
 hi:List Nat
 op:Bool
def Rv.cs(r:Rv):Array Value:=#[.slice r.aL r.lo.length r.cL,.slice r.aH r.hi.length r.cH,.bool r.op]
def Rv.val(r:Rv):Value:=.agg r.cs
def Rv.rg(r:Rv):Rg:=⟨r.lo,r.hi,r.op⟩
structure Ri(w:World)(r:Rv):Prop where
 bl:Bs w r.aL r.lo
 cl:r.lo.length<=r.cL
 bh:Bs w r.aH r.hi
 ch:r.hi.length<=r.cH
theorem Ri.keep{r:Rv}(h:Ri w r)(hb:Below w.heap.size w w'):Ri w' r:=⟨h.bl.keep hb,h.cl,h.bh.keep hb,h.ch⟩
theorem fw:(prog.info? 62).map (·.size)=some 3:=by kernel_rfl
structure Ro(w wx:World)(r:Rv):Prop where
 l:Own w wx r.aL r.cL r.lo
 h:Own w wx r.aH r.cH r.hi
 apart:∀x y,r.aL=some x->r.aH=some y->x.block≠y.block
 l8:B8 r.lo
 h8:B8 r.hi
theorem Ro.keep{d:World}{r:Rv}(h:Ro w wx r)(hb:Below wx.heap.size wx d):Ro w d r:=⟨h.l.keep hb,h.h.keep hb,h.apart,h.l8,h.h8⟩
theorem Ro.pre{d:World}{r:Rv}(hb:Below w.heap.size w d)(h:Ro d wx r):Ro w wx r:=⟨Own.pre hb h.l,Own.pre hb h.h,h.apart,h.l8,h.h8⟩
theorem Ro.ri{r:Rv}(h:Ro w wx r):Ri wx r:=⟨h.l.bs h.l8,h.l.r.cap,h.h.bs h.h8,h.h.r.cap⟩
theorem nR(w:World)(r:Rv)(a:Option Addr)(n c:Nat)(k:List Nat)(l:Ri w r)(j:Bs w a k)(A:n=k.length):
 Calls prog 91 #[r.val,.slice a n c] w λe w'=>e=.returned (.bool (has r.rg k))/\Below w.heap.size w w':=by
 subst A;obtain⟨v,y,p,t,x,m,B⟩:=r;have h:=e7 λf=>oU f a k.length c k rfl
 have i:=e7 λf (hb:Below w.heap.size w f)=>gr f a v k.length c p.length y k p (j.keep hb) (l.bl.keep hb) rfl rfl
 have s:=e7 λf (hb:Below w.heap.size w f)=>gr f a t k.length c m.length x k m (j.keep hb) (l.bh.keep hb) rfl rfl
 clear l j;unfold Rv.val Rv.cs has Rv.rg;dsimp only;generalize fa k p=C at *;generalize fa k m=D at *;cases hk:isK k with
 |false=>
  rw[hk] at h;clear hk;go_enter func91,ntmps91;go_wp2_with fail
  refine(h.o _).mono ?_;rintro e f ⟨rfl,d⟩;obtain rfl:=d.symm;go_wp2;go_ret;exact⟨by simp,al _ _⟩
 |true=>
  rw[hk] at h;clear hk;by_cases q:0<=C
  . cases B with
    |true=>
     go_enter func91,ntmps91;go_wp2_with fail
     refine(h.o _).mono ?_;rintro e f ⟨rfl,d⟩;obtain rfl:=d.symm;go_wp2_with fail
     refine(i.o _ (al _ _)).mono ?_;rintro e f ⟨rfl,d⟩;obtain rfl:=d.symm;go_wp2;go_ret;exact⟨by simp[q],al _ _⟩
    |false=>
     go_enter func91,ntmps91;go_wp2_with fail
     refine(h.o _).mono ?_;rintro e f ⟨rfl,d⟩;obtain rfl:=d.symm;go_wp2_with fail
     refine(i.o _ (al _ _)).mono ?_;rintro e f ⟨rfl,d⟩;obtain rfl:=d.symm;go_wp2_with fail
     refine(s.o _ (al _ _)).mono ?_;rintro e f ⟨rfl,d⟩;obtain rfl:=d.symm;go_wp2;go_ret;exact⟨by simp[q],al _ _⟩
  . go_enter func91,ntmps91;go_wp2_with fail
    refine(h.o _).mono ?_;rintro e f ⟨rfl,d⟩;obtain rfl:=d.symm;go_wp2_with fail
    refine(i.o _ (al _ _)).mono ?_;rintro e f ⟨rfl,d⟩;obtain rfl:=d.symm;go_wp2;go_ret;exact⟨by simp;omega,al _ _⟩
theorem Own.setRow{cap:Nat}{l:List Nat}(h:Own w wx a cap l)(d:w.heap.size<=g)(i:∀x,a=some x->x.block≠g)(cs:Array Value):Own w (wx.setRow g cs) a cap l:=
 ⟨h.r.but (S:=λk=>k=g) ⟨rfl,rfl,rfl,by simp,λk _ f=>setRow_other _ _ _ _ (by simpa using f)⟩ (λx j e=>i x j e),h.n,below_setRow h.b d cs⟩
theorem fb{a:Value}{t:TypeId}(h:w.heap[g]?=some (.cells #[a,b,c] t (0,0))):w.cell? ⟨g,0,none⟩=some a/\w.cell? ⟨g,1,none⟩=some b/\w.cell? ⟨g,2,none⟩=some c:=by
 refine⟨?_,?_,?_⟩<;>rw[ah _ _ _ _ _ _ h]<;>rfl
theorem fK(w:World)(o p:Obj){d:World}(hb:Below ((w.alloc o).alloc p).heap.size ((w.alloc o).alloc p) d):d.heap[w.heap.size]?=some o/\d.heap[w.heap.size+1]?=some p/\Below w.heap.size w d/\w.heap.size+2<=d.heap.size:=by
 have e:((w.alloc o).alloc p).heap.size=w.heap.size+2:=by rw[size_alloc,size_alloc]
 refine⟨(hb.block _ (by rw[e];omega)).trans ?_,(hb.block _ (by rw[e];omega)).trans ?_,bt (bt (al _ _) (al _ _)) hb,by have:=hb.size;omega⟩
 . rw[heap_alloc_old _ _ (by rw[size_alloc];omega)];exact aF _ _
 . have:=aF (w.alloc o) p;rw[size_alloc] at this;exact this
theorem mV{a:Value}(h:w.cell? ⟨g,0,none⟩=some a/\w.cell? ⟨g,1,none⟩=some b/\w.cell? ⟨g,2,none⟩=some c)(hb:Below w.heap.size w w'):w'.cell? ⟨g,0,none⟩=some a/\w'.cell? ⟨g,1,none⟩=some b/\w'.cell? ⟨g,2,none⟩=some c:=
 ⟨(hb.cell (p:=⟨g,0,none⟩) (block_lt_of_cell h.1)).trans h.1,(hb.cell (p:=⟨g,1,none⟩) (block_lt_of_cell h.2.1)).trans h.2.1,(hb.cell (p:=⟨g,2,none⟩) (block_lt_of_cell h.2.2)).trans h.2.2⟩
theorem tV(w:World)(r:Rv)(p:Ri w r):
 Calls prog 88 #[r.val] w λe w'=>e=.returned (.bool (!has r.rg (iE r.lo)))/\Below w.heap.size w w':=by
 have D:=e7 (vT p.bl.1);have E:=e7 λn (hb:Below w.heap.size w n)=>uH n r.aL r.lo.length r.cL r.lo (p.bl.keep hb) rfl p.cl
 have x:=e7 λn (hb:Below w.heap.size w n) a c k (H:Bs n a k)=>nR n r a k.length c k (p.keep hb) H rfl
 clear p;unfold Rv.val Rv.cs at x ⊢;obtain⟨j,m,d,i,l,f,h⟩:=r;dsimp only[Rv.rg] at *;generalize I:has ⟨d,f,h⟩=J at *;clear I;go_enter func88,ntmps88;go_wp2;have y:(w.alloc (.cells #[.slice j d.length m,.slice i f.length l,.bool h] 62)).drew.cell? ⟨w.heap.size,0,none⟩=some (.slice j d.length m)/\(w.alloc (.cells #[.slice j d.length m,.slice i f.length l,.bool h] 62)).drew.cell? ⟨w.heap.size,1,none⟩=some (.slice i f.length l)/\(w.alloc (.cells #[.slice j d.length m,.slice i f.length l,.bool h] 62)).drew.cell? ⟨w.heap.size,2,none⟩=some (.bool h):=⟨by simp,by simp,by simp⟩
 have t:Hid (Below w.heap.size w (w.alloc (.cells #[.slice j d.length m,.slice i f.length l,.bool h] 62)).drew):=(al w _).drew
 go_region_held3 (λw'=>w'.cell? ⟨w.heap.size,0,none⟩=some (.slice j d.length m)/\w'.cell? ⟨w.heap.size,1,none⟩=some (.slice i f.length l)/\w'.cell? ⟨w.heap.size,2,none⟩=some (.bool h))
  (first|exact y|exact A|exact F)
  (first|(go_at_call 130;refine(E.o _ t.o).mono ?_;rintro e K ⟨G,c2,rfl,q⟩;have A:=mV y q.b;have v:=e7 (bt t.o q.b);have C:=e7 (q.bs D.o);clear q)|(go_at_call 91;refine(x.o _ v.o G c2 (iE d) C.o).mono ?_;rintro e w3 ⟨rfl,s⟩;have F:=mV A s;have B:=e7 (bt v.o s);clear s))
 go_wp2;go_ret;exact⟨rfl,B.o⟩
end Go.Proofs.YtnnieandfdbhgaaGreat
