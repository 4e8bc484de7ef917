import Derived.Test.YteaogidofpfmmaaGreatWaB7
import Derived.Test.YteaogidofpfmmaaGreatRows
set_option linter.all false
set_option maxHeartbeats 3200000
namespace Go.Proofs.YteaogidofpfmmaaGreat
open Go.Proofs.Tryz
open Go.RowKit
variable {L:List Iv}{cap g k mb pb:Nat}{col pc:Nat->Nat}{w:World}
theorem kz{P:Program}{b:Func}{p q:Tmp}{a:TypeId}(h:b.results=#[.cell p a,.tmp q])(tmps:Array Value)(w:World)(g:Nat)(t:TypeId)(cs:Array Value)(fr:Nat×Nat)(d:TypeDesc)
 (f:tmps.getD p undef=.pointer (some ⟨g,0,none⟩)) (e:w.heap[g]?=some (.cells cs t fr))
 (i:P.underlying a=some d) (c:(match d with| .struct _| .array _ _=>true|_=>false)=true) (hi:(P.info? a).map (·.size)=some cs.size):
 (results b tmps).run P w=.ok (.tuple #[.agg cs,tmps.getD q undef]) w:=by
 have j:tmps[p]?.getD undef=.pointer (some ⟨g,0,none⟩):=by simpa using f
 simp[results,h,j,asAddr,fE w g t a cs fr d e i c hi]
structure Vs where
 X:Vm
 al:List (Nat×Nat)
 fl:Nat
def Vw(w:World)(b:Nat)(S:Vs)(pb mb:Nat)(pc col:Nat->Nat):Prop:=∃ac cc aa ca,Vq w b S.X.P S.fl ⟨pb,mb,S.X.f,ac,cc,S.X.ch,aa,ca,S.al⟩ pc col
theorem Vw.keep{a:World}{b:Nat}{S:Vs}(h:Vw w b S pb mb pc col)(hb:Below w.heap.size w a):Vw a b S pb mb pc col:=by
 obtain⟨d,f,c,e,h⟩:=h;exact⟨d,f,c,e,h.keep hb⟩
def vd0(pb mb:Nat)(aa:Option Addr)(ca:Nat)(al:List (Nat×Nat)):Vd:=⟨pb,mb,λ_=>none,none,0,[],aa,ca,al⟩
theorem Vw.vx{b:Nat}{S:Vs}(h:Vw w b S pb mb pc col):∃a c,Vx w b S.X S.fl (vd0 pb mb a c S.al) pc col:=by
 obtain⟨d,e,a,c,h⟩:=h;exact⟨a,c,d,e,h⟩
theorem Vw.c0{b:Nat}{S:Vs}(h:Vw w b S pb mb pc col):w.cell? ⟨b,0,none⟩=some (.pointer (some ⟨pb,0,none⟩)):=by
 obtain⟨c,e,a,d,h⟩:=h;exact h.cells.1
theorem Vw.z{b:Nat}{S:Vs}(h:Vw w b S pb mb pc col)(hk:w.heap.size<=k):col k=0:=by
 obtain⟨a,c,h⟩:=h.vx;exact h.z hk
def y8(w w':World)(b:Nat)(S:Vs):Prop:=∃pb mb pc col,Vw w' b S pb mb pc col/\Below w.heap.size w w'/\∀k,col k≠0->w.heap.size<=k
def Vs.start(P:Q.Po):Vs:=⟨⟨P,λ_=>none,[]⟩,[],0⟩
theorem yW{a:World}{P:Q.Po}(h:Q.BY w a pb P):
 y8 w ((a.alloc (.map #[] 0)).alloc (.cells #[.pointer (some ⟨pb,0,none⟩),.map (some a.heap.size),.slice none 0 0,.slice none 0 0,.int .i64 0] 117)) (a.heap.size+1) (Vs.start P):=by
 obtain⟨pc,j,hb,q⟩:=h;have l:=al a (.map #[] 0);have d:=al (a.alloc (.map #[] 0)) (.cells #[.pointer (some ⟨pb,0,none⟩),.map (some a.heap.size),.slice none 0 0,.slice none 0 0,.int .i64 0] 117);have m:(a.alloc (.map #[] 0)).heap.size=a.heap.size+1:=size_alloc _ _;have r:((a.alloc (.map #[] 0)).alloc (.cells #[.pointer (some ⟨pb,0,none⟩),.map (some a.heap.size),.slice none 0 0,.slice none 0 0,.int .i64 0] 117)).heap.size=a.heap.size+2:=by rw[size_alloc,m]
 have n:=ag (a.alloc (.map #[] 0)) (.cells #[.pointer (some ⟨pb,0,none⟩),.map (some a.heap.size),.slice none 0 0,.slice none 0 0,.int .i64 0] 117);rw[m] at n;have s:=hb.size;refine⟨pb,a.heap.size,pc,λk=>if k=a.heap.size+1 then 1 else if k=a.heap.size then 2 else if pc k≠0 then 5 else 0,⟨none,0,none,0,⟨n,((Mp.made a).keep d).congr (λ_=>rfl),Q.Gw.nil _ _ _,Q.Gw.nil _ _ _,j.keep (bt l d),λk p e=>(by cases e),λx c=>absurd c (cf),if_pos rfl,?_,λx c=>(by cases c),λx c=>(by cases c),λk hk=>?_,λk hk=>?_⟩⟩,bt hb (bt l d),λk hk=>?_⟩
 . show(if a.heap.size=a.heap.size+1 then 1 else if a.heap.size=a.heap.size then 2 else _)=2
   rw[if_neg (by omega),if_pos rfl]
 . have:=j.lt k hk;show(if k=a.heap.size+1 then 1 else if k=a.heap.size then 2 else if pc k≠0 then 5 else 0)=5
   rw[if_neg (by omega),if_neg (by omega),if_pos hk]
 . rw[r];by_cases f:k=a.heap.size+1
   . omega
   . by_cases i:k=a.heap.size
     . omega
     . by_cases b:pc k≠0
       . have:=j.lt k b;omega
       . exact absurd (show(if k=a.heap.size+1 then 1 else if k=a.heap.size then 2 else if pc k≠0 then 5 else 0)=0 by rw[if_neg f,if_neg i,if_neg b]) hk
 . by_cases f:k=a.heap.size+1
   . omega
   . by_cases i:k=a.heap.size
     . omega
     . by_cases b:pc k≠0
       . exact q k b
       . exact absurd (show(if k=a.heap.size+1 then 1 else if k=a.heap.size then 2 else if pc k≠0 then 5 else 0)=0 by rw[if_neg f,if_neg i,if_neg b]) hk
theorem Gf(L:List Iv):∀u∈Jc L,u.oneCell'=true:=by
 intro u a;unfold Jc at a;obtain⟨l,b,a⟩:=d7.1 a;obtain⟨v,c,rfl⟩:=bE.1 b;exact(Array.all_eq_true_iff_forall_mem.1 (Aw v)) u (by simpa using a)
theorem Js.all{a:Option Addr}(h:Js w a L)(i:0<L.length):∃c,a=some c/\∀j u,(Jc L)[j]?=some u->w.cell? (c.add j)=some u:=by
 obtain⟨b,f,rfl,_⟩:=h.at i;refine⟨_,rfl,λj u d=>?_⟩
 have n:j<L.length*4:=by
  rw[<-ng];exact(bA.1 d).1
 obtain⟨m,p,e,l⟩:=h.at (r:=j/4) (by omega)
 cases e;have k:=vr L (j/4) (j%4) (by omega) (by omega)
 rw[show j/4*4+j%4=j by omega,d] at k
 have:=l (j%4) u k.symm;rw[Addr.add_mid,show f+j=f+j/4*4+j%4 by omega]
 exact this
theorem Ch(w:World)(i:TypeId)(e:Addr)(c:Nat)(L:List Iv)(n:∀j u,(Jc L)[j]?=some u->w.cell? (e.add j)=some u)(l:0<L.length)(B:L.length<=2199023255520):
 ∃g d b,(Builtin.append_ #[75,75] i #[.slice none 0 0,.slice (some e) L.length c]).run prog w=.ok (.slice (some ⟨g,0,none⟩) L.length d) b/\
  Jw b (some ⟨g,0,none⟩) d L/\w.heap.size<=g/\Below w.heap.size w b:=by
 obtain⟨r,p,s,t,v⟩:=eo mS
 obtain⟨g,d,b,h,f,m,h3,y⟩:=fD (P:=prog) w 75 i 0 89 r (.agg Iv.zero.cs) 4 64 underlying75 p s t v rfl (by decide) (.slice none 0 0) 0 [] (fH w 0 89 4) e L.length c (Jc L) (ng L)
  n (Gf L) l (by unfold maxLen;omega) (by omega) (an _) w.heap.size rfl
 rw[de] at h f;rw[b9] at f
 have A:g=w.heap.size:=by
  rcases h3 with h3|h3
  . cases h3
  . exact h3
 exact⟨g,d,b,h,f,by omega,(But.inA (a:=none) m).below (λk _ ⟨x,q,_⟩=>by cases q)⟩
theorem yd:∀(L:List Iv)(k:Nat),k<L.length->∀(aK:Option Addr)(cK:Nat)(aV:Option Addr)(cV:Nat),((Jc L).set (k*4) (.slice aK (L.getD k Iv.zero).key.length cK)).set (k*4+1) (.slice aV (L.getD k Iv.zero).val.length cV)=Jc (L.set k {L.getD k Iv.zero with aK:=aK,cK:=cK,aV:=aV,cV:=cV})
 | [],k,h,_,_,_,_=>absurd h (by simp)
 |x::L,0,h,aK,cK,aV,cV=>by simp[Jc,Iv.cs]
 |x::L,k+1,h,aK,cK,aV,cV=>by
  have ih:=yd L k (by simpa using h) aK cK aV cV
  have e:∀(y:Iv)(M:List Iv),Jc (y::M)=y.cs.toList++Jc M:=λy M=>by simp[Jc]
  have a:x.cs.toList.length=4:=rfl;rw[e,List.getD_cons_succ,List.set_cons_succ,e,<-ih,show(k+1)*4=k*4+4 by omega,eZ _ _ (by omega),eZ _ _ (by omega),a,show k*4+4-4=k*4 by omega,show k*4+4+1-4=k*4+1 by omega]
theorem Jw.set2(h:Jw w (some ⟨g,0,none⟩) cap L)(hk:k<L.length)(aK:Option Addr)(cK:Nat)(aV:Option Addr)(cV:Nat):
 Jw ((w.setCell ⟨g,k*4,none⟩ (.slice aK (L.getD k Iv.zero).key.length cK)).setCell ⟨g,k*4+1,none⟩ (.slice aV (L.getD k Iv.zero).val.length cV)) (some ⟨g,0,none⟩) cap (L.set k {L.getD k Iv.zero with aK:=aK,cK:=cK,aV:=aV,cV:=cV}):=by
 rcases h.cases with⟨h0,_⟩|⟨g',cur,ha,hg,h1,h2,h3,h4⟩
 . cases h0
 . cases ha;refine Jw.mk (aE _ _ _ _ _ _ (aE _ _ _ _ _ _ hg)) (by rw[da];exact h1) h2 (by simpa using h3) ?_
   rw[e7,e7,da,List.take_set,List.take_set,h4];exact yd L k hk aK cK aV cV
structure Co(w W:World)(g cap i:Nat)(M L:List Iv):Prop where
 j:Jw W (some ⟨g,0,none⟩) cap (M++L.drop i)
 len:M.length=i
 e:M.map Iv.it=(L.take i).map Iv.it
 f:Fam w W (ji M)
 n:∀r∈M,N64 r.child/\N64 r.size
 b:Below w.heap.size w W
 gn:w.heap.size<=g
theorem Co.keep{W a:World}{i:Nat}{M:List Iv}(h:Co w W g cap i M L)(hb:Below W.heap.size W a):Co w a g cap i M L:=⟨h.j.keep hb,h.len,h.e,h.f.keep hb,h.n,bt h.b hb,h.gn⟩
theorem Fa(W:World)(g c d:Nat)(a b:Value):But (λk=>k=g) W ((W.setCell ⟨g,c,none⟩ a).setCell ⟨g,d,none⟩ b):=((But.refl (λk=>k=g) W).setCell (p:=⟨g,c,none⟩) (λ_=>rfl) a).setCell (p:=⟨g,d,none⟩) (λ_=>rfl) b
theorem Co.round{w W j a:World}{g cap i:Nat}{M L:List Iv}(h:Co w W g cap i M L)(hi:i<L.length)(C:N64 (L.getD i Iv.zero).child/\N64 (L.getD i Iv.zero).size)(v:B8 (L.getD i Iv.zero).key)(A:B8 (L.getD i Iv.zero).val)
 {aK aV:Option Addr} {cK cV:Nat} (f:Own W j aK cK (L.getD i Iv.zero).key) (c:Own j a aV cV (L.getD i Iv.zero).val):
 Co w ((a.setCell ⟨g,i*4,none⟩ (.slice aK (L.getD i Iv.zero).key.length cK)).setCell ⟨g,i*4+1,none⟩ (.slice aV (L.getD i Iv.zero).val.length cV)) g cap (i+1) (M++[{L.getD i Iv.zero with aK:=aK,cK:=cK,aV:=aV,cV:=cV}]) L:=by
 have d:Below W.heap.size W a:=bt f.b c.b;have p:=Fa a g (i*4) (i*4+1) (.slice aK (L.getD i Iv.zero).key.length cK) (.slice aV (L.getD i Iv.zero).val.length cV);have q:=h.j.keep d
 have B:(M++L.drop i).getD i Iv.zero=L.getD i Iv.zero:=by
  rw[aM,bP (by rw[h.len];exact am _),h.len,eC,List.getElem?_drop,dp,<-aM]
 have m:=q.set2 (k:=i) (by rw[af,h.len,dv];omega) aK cK aV cV
 rw[B] at m
 have E:(M++L.drop i).set i {L.getD i Iv.zero with aK:=aK,cK:=cK,aV:=aV,cV:=cV}=(M++[{L.getD i Iv.zero with aK:=aK,cK:=cK,aV:=aV,cV:=cV}])++L.drop (i+1):=by
  rw[eZ _ _ (by rw[h.len];exact am _),h.len,eC,df hi,gA,aR]
  rfl
 rw[E] at m
 have io:Io W a {L.getD i Iv.zero with aK:=aK,cK:=cK,aV:=aV,cV:=cV}:=⟨f.keep c.b,⟨c.r,λx b=>(by
  rcases c.n x b with⟨y,l,_⟩|h2
  . cases l
  . exact .inr (ay f.b.size h2)),d⟩,λx y b l e=>(by
  have F:=f.r.lt b;rcases c.n y l with⟨z,hz,_⟩|h2
  . cases hz
  . have h2:j.heap.size<=y.block:=h2;omega),v,A⟩
 have n:Fam w a (ji M++Iv.rows {L.getD i Iv.zero with aK:=aK,cK:=cK,aV:=aV,cV:=cV}):=h.f.add io.fam d h.b;have s:Below w.heap.size w ((a.setCell ⟨g,i*4,none⟩ (.slice aK (L.getD i Iv.zero).key.length cK)).setCell ⟨g,i*4+1,none⟩ (.slice aV (L.getD i Iv.zero).val.length cV)):=((But.ofBelow (S:=λ_=>False) (bt h.b d)).trans p (λk hk e=>by have:=h.gn;omega)).below (λ_ _ h=>h)
 refine⟨m,by rw[af,h.len];rfl,?_,?_,λr hr=>?_,s,h.gn⟩
 . rw[dy,h.e,Q.lu L Iv.zero hi,dy];rfl
 . rw[kD,mI];exact n.but p s (λt D x b e=>q.ne (n.own t D).1.r rfl b e.symm)
 . rcases bO.1 hr with hr|hr
   . exact h.n r hr
   . rw[aZ.1 hr];exact C
theorem lL(w:World)(f:Option Addr)(n q:Nat)(p:List Nat)(c:Bs w f p)(t:n=p.length)(D:p.length<=140737488355328):
 Calls prog 48 #[.slice f n q] w λx m=>∃a d,x=.returned (.slice a n d)/\Rw m a d p/\New w none a/\Below w.heap.size w m:=by
 subst t;cases f with
 |none=>
  obtain rfl:p=[]:=by
   rcases c.2.2 with h|⟨b,E,h,_⟩
   . exact h
   . cases h
  clear c;have v:=run_eql_slice_nil none;go_enter func48,ntmps48;go_wp2;go_ret;exact⟨none,0,rfl,Rw.nil _,New.none _ _,Below.refl _ _⟩
 |some x=>
  have r:=ix c;clear c;have v:=run_eql_slice_nil (some x);go_enter func48,ntmps48;go_wp2_with (at_builtin;refine jP rfl _ _ rfl (some ⟨w.heap.size,0,none⟩) 0 0 [] rfl rfl (Rw.mk (cur:=#[]) (bj _ _) (am _) (an _) rfl rfl) (some x) p.length q p rfl rfl (r.o.keep ((Below.refl _ _).alloc (am _) _)) (by simpa using D) ?_)
  intro a d B j i l _;have hb:Below w.heap.size w B:=(But.grown (S:=λk=>k=w.heap.size) ((But.refl _ w).alloc _) l (by intro k hk _;simpa using hk.symm)).below (by intro k hk e;omega)
  have C:New w none a:=by
   intro y A;rcases i y A with⟨z,hz,e⟩|h
   . simp only[au] at hz;subst hz;exact .inr (by show _<=y.block;rw[<-e];exact am _)
   . rw[size_alloc] at h;exact .inr (by omega)
  have s:=ix j;clear j i l;go_wp2;go_ret;exact⟨a,d,by simp,s.o,C,hb⟩
theorem mz(w:World)(b:Option Addr)(d:Nat)(p:List Nat)(l:Bs w b p)(n:p.length<=140737488355328):
 Calls prog 48 #[.slice b p.length d] w λx m=>∃a c,x=.returned (.slice a p.length c)/\Own w m a c p:=
 (lL w b p.length d p l rfl n).mono λ_ _ ⟨a,e,f,h,i,j⟩=>⟨a,e,f,h,i,j⟩
end Go.Proofs.YteaogidofpfmmaaGreat
namespace Go.Proofs.YteaogidofpfmmaaGreat
open Go.Proofs.Tryz
open Go.ChangeShapes Go.WideShapes Go.ChangeAt Go.RowKit
theorem own:ownKnob prog.godebug=none:=by kernel_rfl
theorem laidOut:laidOutB prog=true:=by kernel_rfl
theorem FI:prog.bytesOf 5=1:=by kernel_rfl
theorem lh:prog.cellsOf 3=1:=by kernel_rfl
theorem rR:prog.cellsOf 37=1:=by kernel_rfl
theorem qH{H:Type}(d:DataW H):1<=Rows.uptoBulk d:=by
 cases d with
 |lit l=>cases l<;>simp[Rows.uptoBulk]
 |nil=>simp[Rows.uptoBulk]
 |ptr d=>simp[Rows.uptoBulk]
 |slice elems spare=>simp[Rows.uptoBulk]
 |agg parts=>simp[Rows.uptoBulk]
 |iface t d=>simp[Rows.uptoBulk]
 |map entries=>simp[Rows.uptoBulk]
 |held h=>simp[Rows.uptoBulk]
theorem pU{H:Type}(l:List (DataW H)):l.length<=Rows.uptoBulkAll l:=by
 induction l with
 |nil=>simp[Rows.uptoBulkAll]
 |cons x r ih=>have:=qH x;simp only[Rows.uptoBulkAll,a7];omega
theorem ul{H:Type}{d:DataW H}:∀{l:List (DataW H)},d∈l->Rows.uptoBulk d<=Rows.uptoBulkAll l
 |x::r,hd=>by
  simp only[Rows.uptoBulkAll];rcases bQ.1 hd with rfl|hd
  . omega
  . have:=ul hd;omega
def Lit'{H:Type}(t:TypeId)(d:DataW H):Prop:=(∀x∈d.weights prog t,x<=reachBytes)\/Rows.uptoBulk d<=1048576
def Hq(k:IntKind)(w:World)(a:Option Addr)(len cap:Nat)(zs:List Int):Prop:=
 (a=none/\len=0/\cap=0/\zs=[])\/
 ∃x,a=some x/\len<=cap/\cap<=maxLen/\zs.length=cap/\(∀i,i<zs.length->w.cell? (x.add i)=some (.int k (zs.getD i 0)))/\∀n∈zs,(Lit.int k n).wf=true
theorem BH{w:World}{a:Option Addr}{len cap:Nat}{c:List Int}(h:Hq .u8 w a len cap c):
 ∃l:List Nat,len=l.length/\Bs w a l/\l.length<=maxLen/\len<=cap:=by
 rcases h with⟨rfl,rfl,rfl,rfl⟩|⟨x,rfl,hl,hm,hz,hcell,hwz⟩
 . exact⟨[],rfl,⟨by simp,by simp,.inl rfl⟩,by simp,am _⟩
 . have d:((c.take len).map Int.toNat).length=len:=by simp;omega
   have p:∀n∈c,0<=n/\n<256:=λn e=>by have:=bounds_u8 (hwz n e);omega
   refine⟨(c.take len).map Int.toNat,d.symm,⟨?_,?_,?_⟩,by rw[d];omega,hl⟩
   . intro y k;simp only[bE] at k;obtain⟨n,e,rfl⟩:=k;have:=p n (ig e);omega
   . rw[d];unfold maxLen at hm;omega
   . by_cases f:len=0
     . have lS:=f;refine .inl ?_;subst f;simp
     . refine .inr ?_;obtain⟨b,t,v⟩:=x;have A:v=none:=by simpa[Addr.add] using World.cell?_spot (hcell 0 (by omega))
       subst A;refine⟨b,t,rfl,λi j=>?_⟩
       rw[d] at j;have g:=hcell i (by omega)
       have m:i<c.length:=by omega
       have s:=p c[i] (fp _);have q:((c.take len).map Int.toNat).getD i 0=c[i].toNat:=by simp[m,j]
       have r:c.getD i 0=c[i]:=by simp[m]
       rw[q,Int.toNat_of_nonneg s.1];rw[r,Addr.add_mid] at g;exact g
theorem open_bytes_cs{H:Type}{enc:TypeId×Value->H}{W:World}{m:Nat}{cs:List Value}{d:DataW H}{p:List MemPlace}
 (i:DataW.trod enc prog W 0 (λ_=>true) true m 37 cs=some (d,p)) (hd:Lit' 37 d):
 ∃(a:Option Addr)(l:List Nat)(cap:Nat),cs=[.slice a l.length cap]/\Bs W a l/\l.length+64<=140737488355328/\l.length<=cap/\l.length<=Rows.uptoBulk d:=by
 rcases open_ints underlying37 underlying5 (by kernel_rfl) i with⟨hcs,_⟩|⟨x,l,c,zs,hcs,_,hl,hm,hz,hx,hcell,hwz⟩
 . exact⟨none,[],0,hcs,Bs.nil W,by decide,am _,an _⟩
 . simp only[gX] at hx;simp only[if_true] at hz;have f:(lits (H:=H) .u8 (zs.take l)).length+(lits (H:=H) .u8 (zs.drop l)).length=c:=by simp[lits];omega
   obtain⟨k,hk,g,_,h⟩:=BH (.inr ⟨_,rfl,hl,hm,hz,hcell,hwz⟩);have n:=pU (lits (H:=H) .u8 (zs.take l));have e:(lits (H:=H) .u8 (zs.take l)).length=l:=by simp[lits];omega
   have j:k.length<=Rows.uptoBulk d:=by
    rw[hx.1];simp only[Rows.uptoBulk];omega
   subst hk;refine⟨some x,k,c,hcs,g,?_,h,j⟩;rcases hd with hd|hd
   . have b:=hd (((lits (H:=H) .u8 (zs.take k.length)).length+(lits (H:=H) .u8 (zs.drop k.length)).length)*prog.bytesOf 5) (by rw[hx.1];simp only[DataW.weights,underlying37,bQ];exact .inl trivial)
     rw[f,FI] at b;unfold reachBytes at b;omega
   . omega
theorem n64{z:Int}(h:(Lit.int .i64 z).wf=true):N64 z:=by
 have:=bounds_i64 h;exact⟨by omega,by omega⟩
end Go.Proofs.YteaogidofpfmmaaGreat
namespace Go.Proofs.YteaogidofpfmmaaGreat
open Go.Proofs.Tryz
open Go.RowKit Go.Shelf
attribute [local go_sem] Oper.semAt_some
variable {F:Nat->Prop}{a b:World}
def mF{β:Type}(n:Nat)(J:(Nat->Prop)->β->World->Prop):Prop:=∀F s A B,J F s A->But (λk=>¬F k/\n<=k) A B->J F s B
def oA{β:Type}(J:(Nat->Prop)->β->World->Prop):Prop:=∀F s A,J F s A->∀k,F k->k<A.heap.size
theorem But.nog(h:But (λk=>F k\/False) a b):But F a b:=h.mono λ_ _ e=>e.elim id False.elim
theorem But.ing{G:Nat->Prop}(h:But F a b):But (λk=>F k\/G k) a b:=h.mono λ_ _ e=>.inl e
def YesM{σ:Type}(F:Nat->Prop)(J Jx:(Nat->Prop)->σ->World->Prop)(stp:σ->Bool)(s':σ)(er:Bool)(Gv:Nat->Prop)(W:World)(e:Ending)(W':World):Prop:=
 ∃F':Nat->Prop,But (λk=>F k\/Gv k) W W'/\(∀k,F' k->F k\/Gv k\/W.heap.size<=k)/\((e=.returned (.bool true)/\(er=false->stp s'=false)/\J F' s' W')\/(e=.returned (.bool false)/\stp s'=true/\Jx F' s' W'))
def t8{σ:Type}(F:Nat->Prop)(I:(Nat->Prop)->σ->World->Prop)(Ix:Code->(Nat->Prop)->σ->World->Prop)(stp:σ->Bool)(s':σ)(er:Bool)(Gv:Nat->Prop)(n:Nat)(W:World):Exit->Act->World->Prop
 | .normal,_,W'=>∃F':Nat->Prop,But (λk=>F k\/Gv k) W W'/\(∀k,F' k->F k\/Gv k\/n<=k)/\(er=false->stp s'=false)/\I F' s' W'
 | .ret,_,W'=>∃F':Nat->Prop,But (λk=>F k\/Gv k) W W'/\(∀k,F' k->F k\/Gv k\/n<=k)/\stp s'=true/\Ix .ret F' s' W'
 | .exit id,_,W'=>∃F':Nat->Prop,But (λk=>F k\/Gv k) W W'/\(∀k,F' k->F k\/Gv k\/n<=k)/\stp s'=true/\Ix (.exit id) F' s' W'
 | .goto t,_,W'=>∃F':Nat->Prop,But (λk=>F k\/Gv k) W W'/\(∀k,F' k->F k\/Gv k\/n<=k)/\stp s'=true/\Ix (.goto t) F' s' W'
 | .panic _,_,_=>False
 | .outgrown,_,_=>False
def mh{σ:Type}(P:Program)(g:Nat)(lb:Array Value)(stp:σ->Bool)(En:σ->World->World->Array Value->σ->Bool->(Nat->Prop)->Prop)(OB:Nat->Prop)(Rep:σ->World->Prop)(s0:σ)(Fin:σ->Prop)(w:World)(X:Nat->Prop):Prop:=
 ∀(l:Nat)(J Jx:(Nat->Prop)->σ->World->Prop)(W:World)(F0:Nat->Prop),But (λk=>¬X k) w W->(∀k,F0 k->¬X k)->mF W.heap.size J->oA J->mF W.heap.size Jx->oA Jx->(∀F s W1,J F s W1->Rep s W1/\∀k,OB k->F k)->
  (∀F s W0 W1 vals s' er Gv,J F s W0->But OB W0 W1->En s W0 W1 vals s' er Gv->(∀k,Gv k->¬F k/\W.heap.size<=k/\k<W1.heap.size)->W.heap.size<=W0.heap.size->(∀k,F k->F0 k\/W.heap.size<=k)->YieldAt Fence.wide 0 P l vals W1 (YesM F J Jx stp s' er Gv W1))->
  J F0 s0 W->CallsIn Fence.wide 0 P g (#[.func (.yield l) #[] #[]]++lb) W λe W'=>∃(F':Nat->Prop)(s:σ),(∃v,e=.returned v)/\But F0 W W'/\(∀k,F' k->F0 k\/W.heap.size<=k)/\Fin s/\(J F' s W'\/Jx F' s W')
theorem jX{P:Program}{σ:Type}{g:Operand}{ps:Array Tmp}{assign body:Code}{Qz:Exit->Act->World->Prop}{a:Act}{w:World}
 {gf:Nat} {lb:Array Value} (hg:a.eval g=.func (.func gf) #[] lb) (eg:∀args w,(callFunc gf args).run P w=.ok (.enter gf args) w)
 {aH:σ->Bool} {En:σ->World->World->Array Value->σ->Bool->(Nat->Prop)->Prop} {OB:Nat->Prop} {aA:σ->World->Prop} {s0:σ} {Fin:σ->Prop} {w0:World} {X:Nat->Prop} (aZ:mh P gf lb aH En OB aA s0 Fin w0 X) (aQ:But (λk=>¬X k) w0 w) (aC:∀k,X k->k<w.heap.size) (aW:∀s H W A s' er j,En s H W A s' er j->A.size=ps.size)
 (f:Nat->Prop) (hF:∀k,f k->¬X k) (I:(Nat->Prop)->σ->World->Prop) (Ix:Code->(Nat->Prop)->σ->World->Prop) (hI:mF w.heap.size I) (sI:oA I) (ak:∀c,mF w.heap.size (Ix c)) (aY:∀c,oA (Ix c)) (hR:∀F s W,I F s W->aA s W/\∀k,OB k->F k)
 (h0:I f s0 w)
 (aM:∀(l:Nat)(F:Nat->Prop)(s:σ)(H W:World)(A:Array Value)(s':σ)(er:Bool)(j:Nat->Prop),I F s H->But OB H W->En s H W A s' er j->(∀k,j k->¬F k/\w.heap.size<k/\k<W.heap.size)->w.heap.size<=H.heap.size->(∀k,F k->f k\/w.heap.size<=k)->¬F l->w.heap.size<=l->l<H.heap.size->But f w H->(∃r,W.heap[l]?=some (.loop r))->
   assign.wpIn (Fence.wide.inRound l) 0 P (Exit.then (λa₁ W₁=>Below W.heap.size W W₁/\∀W₂,But (λk=>k=l) W₁ W₂->(∃r,W₂.heap[l]?=some (.loop r))->body.wpIn (Fence.wide.inRound l) 0 P (t8 F I Ix aH s' er j W.heap.size W₂) a₁ W₂) (λ_ _ _=>False))
    {tmps:=(ps.zip A).foldl (λt (p,v)=>t.setIfInBounds p v) a.tmps,defers:=[]} W)
 (aK:∀(D:Nat)(F:Nat->Prop)(s:σ)(W:World),w.heap.size<=D->¬F D->I F s W->Fin s->But f w W->(∀k,F k->f k\/w.heap.size<=k)->W.heap[D]?=some (.deferred (some []))->Qz .normal {a with defers:={target:=.collected D,args:=#[]}::a.defers} W)
 (aL:∀(D:Nat)(c:Code)(F:Nat->Prop)(s:σ)(W:World),w.heap.size<=D->¬F D->Ix c F s W->Fin s->But f w W->(∀k,F k->f k\/w.heap.size<=k)->W.heap[D]?=some (.deferred (some []))->c.wpIn Fence.wide 0 P Qz {a with defers:={target:=.collected D,args:=#[]}::a.defers} W):
 (Code.rangeFunc g ps assign body).wpIn Fence.wide 0 P Qz a w:=by
 refine wpIn_rangeFunc λfn aU=>?_
 obtain⟨y,O⟩:∃y:LoopState->Option Code->Loop,y=λst pe=>{state:=st,pending:=pe,fn,tmps:=a.tmps,params:=ps,assign,body,defers:=w.heap.size}:=⟨_,rfl⟩
 have av:=run_enterLoop_outer (P:=P) (w:=w) fn a.tmps ps assign body;obtain⟨V,hV⟩:∃V,(w.alloc (.deferred (some []))).alloc (.loop (y .ready none))=V:=⟨_,rfl⟩;have sV:V.heap.size=w.heap.size+2:=by rw[<-hV,size_alloc,size_alloc]
 have rV:V.heap[w.heap.size+1]?=some (.loop (y .ready none)):=by
  rw[<-hV];have:=ag (w.alloc (.deferred (some []))) (.loop (y .ready none));rwa [World.size_alloc] at this
 have dV:V.heap[w.heap.size]?=some (.deferred (some [])):=by
  rw[<-hV];exact(Below.heap_alloc _ _ _ (by simp)).trans (ag w _)
 have bV:Below w.heap.size w V:=by rw[<-hV];exact bt ((Below.refl _ _).alloc (am _) _) ((Below.refl _ _).alloc (am _) _)
 have Y:∀k,f k->k<w.heap.size:=sI _ _ _ h0;have aB:=(hR _ _ _ h0).2;have IV:I f s0 V:=hI _ _ _ _ h0 (But.ofBelow bV);obtain⟨N,hN⟩:∃N:Nat,N=w.heap.size:=⟨_,rfl⟩;refine⟨w.heap.size+1,[{target:=.collected w.heap.size,args:=#[]}],V,{target:=.fn (.func gf) lb,args:=#[.func (.yield (w.heap.size+1)) #[] #[]]},V,gf,#[.func (.yield (w.heap.size+1)) #[] #[]]++lb,V,?_,?_,?_,?_,?_,?_⟩
 . rw[<-hV,O];exact av
 . simp only[resolve,hg];simp[go_sem]
 . intro f' _;trivial
 . simp[invoke,go_sem,eg]
 . intro h;cases h
 rw[<-hN] at sV rV dV Y hI ak aM aK aL O ⊢;have fo:∀k,OB k->k<N:=λk h=>Y k (aB k h)
 have step:=aZ (N+1)
  (λF s W=>∃d:Nat->Prop,(∀k,F k↔(d k\/(k=N\/k=N+1)))/\(∀k,d k->f k\/N+2<=k)/\I d s W/\W.heap[N+1]?=some (.loop (y .ready none))/\W.heap[N]?=some (.deferred (some []))/\But f w W)
  (λF s W=>∃c,∃d:Nat->Prop,(∀k,F k↔(d k\/(k=N\/k=N+1)))/\(∀k,d k->f k\/N+2<=k)/\Ix c d s W/\W.heap[N+1]?=some (.loop (y .done (some c)))/\W.heap[N]?=some (.deferred (some []))/\But f w W)
  V (λk=>f k\/(k=N\/k=N+1)) (aQ.andBelow bV)
  (λk hk=>by
    rcases hk with hk|rfl|rfl
    . exact hF k hk
    . exact λhx=>by have:=aC _ hx;omega
    . exact λhx=>by have:=aC _ hx;omega
    )
  (λF s ao aN U hb=>by
    obtain⟨d,m,h2,L,i,Z,h6⟩:=U;exact⟨d,m,h2,hI _ _ _ _ L (hb.mono λk _ hk=>⟨λhf=>hk.1 ((m k).2 (.inl hf)),by have:=hk.2;omega⟩),hb.same i (λh=>h.1 ((m _).2 (.inr (.inr rfl)))),hb.same Z (λh=>h.1 ((m _).2 (.inr (.inl rfl)))),h6.trans hb (λk hk h=>by have:=h.2;omega)⟩)
  (λF s ao U k hk=>by
    obtain⟨d,m,h2,L,i,Z,h6⟩:=U;rcases (m k).1 hk with h|rfl|rfl
    . exact sI _ _ _ L k h
    . exact(ae.1 Z).1
    . exact(ae.1 i).1)
  (λF s ao aN U hb=>by
    obtain⟨c,d,m,h2,L,i,Z,h6⟩:=U;exact⟨c,d,m,h2,ak c _ _ _ _ L (hb.mono λk _ hk=>⟨λhf=>hk.1 ((m k).2 (.inl hf)),by have:=hk.2;omega⟩),hb.same i (λh=>h.1 ((m _).2 (.inr (.inr rfl)))),hb.same Z (λh=>h.1 ((m _).2 (.inr (.inl rfl)))),h6.trans hb (λk hk h=>by have:=h.2;omega)⟩)
  (λF s ao U k hk=>by
    obtain⟨c,d,m,h2,L,i,Z,h6⟩:=U;rcases (m k).1 hk with h|rfl|rfl
    . exact aY c _ _ _ L k h
    . exact(ae.1 Z).1
    . exact(ae.1 i).1)
  (λF s ao U=>by
    obtain⟨d,m,h2,L,i,Z,h6⟩:=U;exact⟨(hR _ _ _ L).1,λk hk=>(m k).2 (.inl ((hR _ _ _ L).2 k hk))⟩)
  ?_ ⟨f,λk=>dT,λk hk=>.inl hk,IV,rV,dV,But.ofBelow bV⟩
 . refine CallsIn.mono step ?_;rintro ap W ⟨F',s,⟨v,rfl⟩,hB,a1,aJ,⟨d,q,E,hi,T,hd,ab⟩|⟨c,d,q,E,hi,T,hd,ab⟩⟩
   . have az:∀(G:Nat->Prop) o,¬G (N+1)->But (λk=>¬G k/\N<=k) W (W.putObj (N+1) o):=λG o n=>(But.refl _ W).putObj (l:=N+1) (λ_=>⟨n,by omega⟩) o
     have x:¬d (N+1):=λh=>(E _ h).elim (λh=>by have:=Y _ h;omega) (λh=>by omega)
     have n0:¬d N:=λh=>(E _ h).elim (λh=>by have:=Y _ h;omega) (λh=>by omega)
     have an:=gV (P:=P) T (by rw[O];simp)
     rw[show(y .ready none).pending=none by rw[O]] at an
     refine⟨none,_,an,?_⟩;have:=ab.size;refine aK N d s _ (am _) n0 (hI _ _ _ _ hi (az d _ x)) aJ (ab.putObj (λh=>by omega) _) (λk hk=>(E k hk).imp id (λh=>by omega)) ?_
     exact(dJ (by omega)).trans hd
   . have az:∀(G:Nat->Prop) o,¬G (N+1)->But (λk=>¬G k/\N<=k) W (W.putObj (N+1) o):=λG o n=>(But.refl _ W).putObj (l:=N+1) (λ_=>⟨n,by omega⟩) o
     have x:¬d (N+1):=λh=>(E _ h).elim (λh=>by have:=Y _ h;omega) (λh=>by omega)
     have n0:¬d N:=λh=>(E _ h).elim (λh=>by have:=Y _ h;omega) (λh=>by omega)
     have an:=gV (P:=P) T (by rw[O];simp)
     rw[show(y .done (some c)).pending=some c by rw[O]] at an
     refine⟨some c,_,an,?_⟩;have:=ab.size;refine aL N c d s _ (am _) n0 (ak c _ _ _ _ hi (az d _ x)) aJ (ab.putObj (λh=>by omega) _) (λk hk=>(E k hk).imp id (λh=>by omega)) ?_
     exact(dJ (by omega)).trans hd
 . rintro F s H W A s' er j ⟨d,q,E,aV,aD,aR,aI⟩ al av e hW a2;have T:=al.same aD (λh=>by have:=fo _ h;omega)
   have hd:=al.same aR (λh=>by have:=fo _ h;omega)
   have ab:But f w W:=aI.trans al (λ_ _ h=>aB _ h)
   have a4:=al.size;have x:¬d (N+1):=λh=>(E _ h).elim (λh=>by have:=Y _ h;omega) (λh=>by omega)
   have n0:¬d N:=λh=>(E _ h).elim (λh=>by have:=Y _ h;omega) (λh=>by omega)
   have hy:=run_yield (P:=P) (args:=A) T (by rw[O];exact aW _ _ _ _ _ _ _ av)
   rw[O] at hy;refine⟨fn,_,assign,body,hy,roundIn_of_wpIn aU (wpIn_mono (aM (N+1) d s H W A s' er j aV al av (λk hk=>⟨λh=>(e k hk).1 ((q k).2 (.inl h)),by have:=(e k hk).2.1;omega,(e k hk).2.2⟩) (by omega) (λk hk=>(E k hk).imp id (λh=>by omega)) x (by omega) (by omega) aI ⟨_,T⟩) ?_)⟩
   rintro ap a₁ W₁ C;cases ap with
   |normal=>
    obtain⟨au,a0⟩:=C;have aE:=(au.block (N+1) (by have:=(ae.1 T).1;omega)).trans T
    have aS:=(au.block N (by omega)).trans hd
    have aX:=run_beginRound (P:=P) aE (by rw[O])
    refine⟨_,aX,?_⟩;obtain⟨B,ay⟩:∃B,W₁.putObj (N+1) (.loop {y .ready none with state:=.busy})=B:=⟨_,rfl⟩;have l1:=(ae.1 aE).1;have aq:But (λk=>k=N+1) W₁ B:=by rw[<-ay];exact(But.refl (λk=>k=N+1) _).putObj (λ_=>rfl) _
    have aF:B.heap[N+1]?=some (.loop {y .ready none with state:=.busy}):=by rw[<-ay];exact ec l1
    have aT:B.heap[N]?=some (.deferred (some [])):=aq.same aS (by omega)
    have a5:=aq.size;have a6:=au.size;rw[ay];refine wpIn_mono (a0 B aq ⟨_,aF⟩) ?_;have aP:¬j (N+1):=λh=>(e _ h).1 ((q _).2 (.inr (.inr rfl)))
    have aO:¬j N:=λh=>(e _ h).1 ((q _).2 (.inr (.inl rfl)))
    have ar:∀(R:Option Code)(J:World)(G:Nat->Prop),But (λk=>d k\/j k) B J->(∀k,G k->d k\/j k\/W.heap.size<=k)->
     ∃K,(Instr.endRound (N+1) R).run P J=.ok (.bool R.isNone) K/\But (λk=>¬G k/\N<=k) J K/\But (λk=>F k\/j k) W K/\But f w K/\
     K.heap[N+1]?=some (.loop (y (if R.isNone then .ready else .done) R))/\K.heap[N]?=some (.deferred (some []))/\
     (∀k,(G k\/(k=N\/k=N+1))->F k\/j k\/W.heap.size<=k)/\(∀k,G k->f k\/N+2<=k):=λR J G ax n=>by
     have aG:=ax.same aF (λh=>h.elim x aP)
     have l3:=(ae.1 aG).1;have M:=run_endRound (P:=P) R aG;have e1:({ ({y .ready none with state:=.busy}:Loop) with state:=if R.isNone then .ready else .done,pending:=R}:Loop)=y (if R.isNone then .ready else .done) R:=by rw[O]
     rw[e1] at M
     have g1:¬G (N+1):=λh=>by
      rcases n _ h with h|h|h
      . exact x h
      . exact(e _ h).1 ((q _).2 (.inr (.inr rfl)))
      . have:=(ae.1 T).1;omega
     have bF:But (λk=>F k\/j k) W J:=((But.ofBelow (S:=λk=>F k\/j k) au).trans aq (λaw _ h=>.inl ((q aw).2 (.inr (.inr h))))).trans ax (λaw _ h=>h.imp (λh=>(q aw).2 (.inl h)) id)
     refine⟨_,M,(But.refl _ _).putObj (λ_=>⟨g1,by omega⟩) _,bF.putObj (λ_=>.inl ((q _).2 (.inr (.inr rfl)))) _,?_,ec l3,(dJ (by omega)).trans (ax.same aT (λh=>h.elim n0 aO)),?_,?_⟩
     . exact(ab.trans (bF.putObj (λ_=>.inl ((q _).2 (.inr (.inr rfl)))) _) (λk hk h=>by
        rcases h with h|h;rotate_left
        . have:=(e k h).2.1;omega
        rcases (q k).1 h with h|rfl|rfl
        . exact(E k h).elim id (λh=>by omega)
        . omega
        . omega
        ))
     . rintro k (h|rfl|rfl)
       . exact(n k h).elim (λh=>.inl ((q k).2 (.inl h))) .inr
       . exact .inl ((q _).2 (.inr (.inl rfl)))
       . exact .inl ((q _).2 (.inr (.inr rfl)))
     . intro k h;rcases n k h with h|h|h
       . exact E k h
       . exact .inr (by have:=(e k h).2.1;omega)
       . exact .inr (by have:=(ae.1 aD).1;omega)
    rintro ap a3 J C;cases ap with
    |normal=>
     obtain⟨G,ah,n,aj,af⟩:=C;obtain⟨K,M,aa,ac,i,ai,ad,s4,s5⟩:=ar (none) J G ah n;exact⟨_,_,M,λk=>G k\/k=N\/k=N+1,ac,s4,.inl ⟨rfl,aj,G,λk=>dT,s5,hI _ _ _ _ af aa,ai,ad,i⟩⟩
    |ret=>
     obtain⟨G,ah,n,aj,af⟩:=C;obtain⟨K,M,aa,ac,i,ai,ad,s4,s5⟩:=ar (some .ret) J G ah n;exact⟨_,_,M,λk=>G k\/k=N\/k=N+1,ac,s4,.inr ⟨rfl,aj,.ret,G,λk=>dT,s5,ak _ _ _ _ _ af aa,ai,ad,i⟩⟩
    |exit id=>
     obtain⟨G,ah,n,aj,af⟩:=C;obtain⟨K,M,aa,ac,i,ai,ad,s4,s5⟩:=ar (some (.exit id)) J G ah n;exact⟨_,_,M,λk=>G k\/k=N\/k=N+1,ac,s4,.inr ⟨rfl,aj,(.exit id),G,λk=>dT,s5,ak _ _ _ _ _ af aa,ai,ad,i⟩⟩
    |goto t=>
     obtain⟨G,ah,n,aj,af⟩:=C;obtain⟨K,M,aa,ac,i,ai,ad,s4,s5⟩:=ar (some (.goto t)) J G ah n;exact⟨_,_,M,λk=>G k\/k=N\/k=N+1,ac,s4,.inr ⟨rfl,aj,(.goto t),G,λk=>dT,s5,ak _ _ _ _ _ af aa,ai,ad,i⟩⟩
    |panic ch=>exact C.elim
    |outgrown=>exact C.elim
   |ret=>exact C.elim
   |exit id=>exact C.elim
   |goto t=>exact C.elim
   |panic ch=>exact C.elim
   |outgrown=>exact C.elim
theorem rz{P:Program}{σ:Type}{g:Operand}{ps:Array Tmp}{assign body:Code}{Qz:Exit->Act->World->Prop}{a:Act}{w:World}{l₀:Nat}{r₀:Loop}(aP:w.heap[l₀]?=some (.loop r₀))
 {gf:Nat} {lb:Array Value} (hg:a.eval g=.func (.func gf) #[] lb) (eg:∀args w,(callFunc gf args).run P w=.ok (.enter gf args) w)
 {aD:σ->Bool} {En:σ->World->World->Array Value->σ->Bool->(Nat->Prop)->Prop} {OB:Nat->Prop} {ax:σ->World->Prop} {s0:σ} {Fin:σ->Prop} {w0:World} {X:Nat->Prop} (aT:mh P gf lb aD En OB ax s0 Fin w0 X) (aL:But (λk=>¬X k) w0 w) (aM:∀k,X k->k<w.heap.size) (aQ:∀s D W U s' er m,En s D W U s' er m->U.size=ps.size)
 (f:Nat->Prop) (hF:∀k,f k->¬X k) (I:(Nat->Prop)->σ->World->Prop) (Ix:Code->(Nat->Prop)->σ->World->Prop) (hI:mF w.heap.size I) (sI:oA I) (ah:∀c,mF w.heap.size (Ix c)) (aS:∀c,oA (Ix c)) (hR:∀F s W,I F s W->ax s W/\∀k,OB k->F k)
 (h0:I f s0 w)
 (aI:∀(l:Nat)(F:Nat->Prop)(s:σ)(D W:World)(U:Array Value)(s':σ)(er:Bool)(m:Nat->Prop),I F s D->But OB D W->En s D W U s' er m->(∀k,m k->¬F k/\w.heap.size<k/\k<W.heap.size)->w.heap.size<=D.heap.size->(∀k,F k->f k\/w.heap.size<=k)->¬F l->w.heap.size<=l->l<D.heap.size->But f w D->(∃r,W.heap[l]?=some (.loop r))->
   assign.wpIn (Fence.wide.inRound l) 0 P (Exit.then (λa₁ W₁=>Below W.heap.size W W₁/\∀W₂,But (λk=>k=l) W₁ W₂->(∃r,W₂.heap[l]?=some (.loop r))->body.wpIn (Fence.wide.inRound l) 0 P (t8 F I Ix aD s' er m W.heap.size W₂) a₁ W₂) (λ_ _ _=>False))
    {tmps:=(ps.zip U).foldl (λt (p,v)=>t.setIfInBounds p v) a.tmps,defers:=[]} W)
 (aG:∀(F:Nat->Prop)(s:σ)(W:World),I F s W->Fin s->But f w W->(∀k,F k->f k\/w.heap.size<=k)->Qz .normal a W)
 (aH:∀(c:Code)(F:Nat->Prop)(s:σ)(W:World),Ix c F s W->Fin s->But f w W->(∀k,F k->f k\/w.heap.size<=k)->c.wpIn (Fence.wide.inRound l₀) 0 P Qz a W):
 (Code.rangeFunc g ps assign body).wpIn (Fence.wide.inRound l₀) 0 P Qz a w:=by
 refine wpIn_rangeFunc λfn aN=>?_
 obtain⟨y,T⟩:∃y:LoopState->Option Code->Loop,y=λst pe=>{state:=st,pending:=pe,fn,tmps:=a.tmps,params:=ps,assign,body,defers:=r₀.defers}:=⟨_,rfl⟩
 have an:=run_enterLoop_inner (P:=P) aP fn a.tmps ps assign body;obtain⟨V,hV⟩:∃V,w.alloc (.loop (y .ready none))=V:=⟨_,rfl⟩;have sV:V.heap.size=w.heap.size+1:=by rw[<-hV,size_alloc]
 have rV:V.heap[w.heap.size]?=some (.loop (y .ready none)):=by rw[<-hV];exact ag w _
 have bV:Below w.heap.size w V:=by rw[<-hV];exact(Below.refl _ _).alloc (am _) _
 have f0:∀k,f k->k<w.heap.size:=sI _ _ _ h0;have az:=(hR _ _ _ h0).2;have IV:I f s0 V:=hI _ _ _ _ h0 (But.ofBelow bV);obtain⟨N,hN⟩:∃N:Nat,N=w.heap.size:=⟨_,rfl⟩;refine⟨w.heap.size,[],V,{target:=.fn (.func gf) lb,args:=#[.func (.yield (w.heap.size)) #[] #[]]},V,gf,#[.func (.yield (w.heap.size)) #[] #[]]++lb,V,?_,?_,?_,?_,?_,?_⟩
 . rw[<-hV,T];exact an
 . simp only[resolve,hg];simp[go_sem]
 . intro f' _;trivial
 . simp[invoke,go_sem,eg]
 . intro h;cases h
 rw[<-hN] at sV rV f0 hI ah aI aG aH ⊢;have fo:∀k,OB k->k<N:=λk h=>f0 k (az k h)
 have step:=aT (N)
  (λF s W=>∃d:Nat->Prop,(∀k,F k↔(d k\/k=N))/\(∀k,d k->f k\/N+1<=k)/\I d s W/\W.heap[N]?=some (.loop (y .ready none))/\But f w W)
  (λF s W=>∃c,∃d:Nat->Prop,(∀k,F k↔(d k\/k=N))/\(∀k,d k->f k\/N+1<=k)/\Ix c d s W/\W.heap[N]?=some (.loop (y .done (some c)))/\But f w W)
  V (λk=>f k\/k=N) (aL.andBelow bV)
  (λk hk=>by
    rcases hk with hk|rfl
    . exact hF k hk
    . exact λhx=>by have:=aM _ hx;omega
    )
  (λF s aj aJ R hb=>by
    obtain⟨d,n,h2,H,i,h6⟩:=R;exact⟨d,n,h2,hI _ _ _ _ H (hb.mono λk _ hk=>⟨λhf=>hk.1 ((n k).2 (.inl hf)),by have:=hk.2;omega⟩),hb.same i (λh=>h.1 ((n _).2 (.inr rfl))),h6.trans hb (λk hk h=>by have:=h.2;omega)⟩)
  (λF s aj R k hk=>by
    obtain⟨d,n,h2,H,i,h6⟩:=R;rcases (n k).1 hk with h|rfl
    . exact sI _ _ _ H k h
    . exact(ae.1 i).1)
  (λF s aj aJ R hb=>by
    obtain⟨c,d,n,h2,H,i,h6⟩:=R;exact⟨c,d,n,h2,ah c _ _ _ _ H (hb.mono λk _ hk=>⟨λhf=>hk.1 ((n k).2 (.inl hf)),by have:=hk.2;omega⟩),hb.same i (λh=>h.1 ((n _).2 (.inr rfl))),h6.trans hb (λk hk h=>by have:=h.2;omega)⟩)
  (λF s aj R k hk=>by
    obtain⟨c,d,n,h2,H,i,h6⟩:=R;rcases (n k).1 hk with h|rfl
    . exact aS c _ _ _ H k h
    . exact(ae.1 i).1)
  (λF s aj R=>by
    obtain⟨d,n,h2,H,i,h6⟩:=R;exact⟨(hR _ _ _ H).1,λk hk=>(n k).2 (.inl ((hR _ _ _ H).2 k hk))⟩)
  ?_ ⟨f,λk=>dT,λk hk=>.inl hk,IV,rV,But.ofBelow bV⟩
 . refine CallsIn.mono (CallsIn.inRound l₀ step) ?_;rintro ak W ⟨F',s,⟨v,rfl⟩,hB,aV,aF,⟨d,C,K,hi,O,B⟩|⟨c,d,C,K,hi,O,B⟩⟩
   . have aw:∀(G:Nat->Prop) o,¬G (N)->But (λk=>¬G k/\N<=k) W (W.putObj (N) o):=λG o j=>(But.refl _ W).putObj (l:=N) (λ_=>⟨j,by omega⟩) o
     have Y:¬d (N):=λh=>(K _ h).elim (λh=>by have:=f0 _ h;omega) (λh=>by omega)
     have ai:=gV (P:=P) O (by rw[T];simp)
     rw[show(y .ready none).pending=none by rw[T]] at ai
     refine⟨none,_,ai,?_⟩;have:=B.size;exact aG d s _ (hI _ _ _ _ hi (aw d _ Y)) aF (B.putObj (λh=>by omega) _) (λk hk=>(K k hk).imp id (λh=>by omega))
   . have aw:∀(G:Nat->Prop) o,¬G (N)->But (λk=>¬G k/\N<=k) W (W.putObj (N) o):=λG o j=>(But.refl _ W).putObj (l:=N) (λ_=>⟨j,by omega⟩) o
     have Y:¬d (N):=λh=>(K _ h).elim (λh=>by have:=f0 _ h;omega) (λh=>by omega)
     have ai:=gV (P:=P) O (by rw[T];simp)
     rw[show(y .done (some c)).pending=some c by rw[T]] at ai
     refine⟨some c,_,ai,?_⟩;have:=B.size;exact aH c d s _ (ah c _ _ _ _ hi (aw d _ Y)) aF (B.putObj (λh=>by omega) _) (λk hk=>(K k hk).imp id (λh=>by omega))
 . rintro F s D W U s' er m ⟨d,C,K,aO,av,aE⟩ ao an aa hW aW;have O:=ao.same av (λh=>by have:=fo _ h;omega)
   have B:But f w W:=aE.trans ao (λ_ _ h=>az _ h)
   have aX:=ao.size;have Y:¬d (N):=λh=>(K _ h).elim (λh=>by have:=f0 _ h;omega) (λh=>by omega)
   have hy:=run_yield (P:=P) (args:=U) O (by rw[T];exact aQ _ _ _ _ _ _ _ an)
   rw[T] at hy;refine⟨fn,_,assign,body,hy,roundIn_of_wpIn aN (wpIn_mono (aI (N) d s D W U s' er m aO ao an (λk hk=>⟨λh=>(aa k hk).1 ((C k).2 (.inl h)),by have:=(aa k hk).2.1;omega,(aa k hk).2.2⟩) (by omega) (λk hk=>(K k hk).imp id (λh=>by omega)) Y (by omega) (by have:=(ae.1 av).1;omega) aE ⟨_,O⟩) ?_)⟩
   rintro ak a₁ W₁ q;cases ak with
   |normal=>
    obtain⟨au,aU⟩:=q;have aA:=(au.block (N) (by have:=(ae.1 O).1;omega)).trans O
    have aR:=run_beginRound (P:=P) aA (by rw[T])
    refine⟨_,aR,?_⟩;obtain⟨W2,ar⟩:∃W2,W₁.putObj (N) (.loop {y .ready none with state:=.busy})=W2:=⟨_,rfl⟩;have l1:=(ae.1 aA).1;have aq:But (λk=>k=N) W₁ W2:=by rw[<-ar];exact(But.refl (λk=>k=N) _).putObj (λ_=>rfl) _
    have aB:W2.heap[N]?=some (.loop {y .ready none with state:=.busy}):=by rw[<-ar];exact ec l1
    have aY:=aq.size;have aZ:=au.size;rw[ar];refine wpIn_mono (aU W2 aq ⟨_,aB⟩) ?_;have aK:¬m N:=λh=>(aa _ h).1 ((C _).2 (.inr rfl))
    have al:∀(L:Option Code)(E:World)(G:Nat->Prop),But (λk=>d k\/m k) W2 E->(∀k,G k->d k\/m k\/W.heap.size<=k)->
     ∃M,(Instr.endRound (N) L).run P E=.ok (.bool L.isNone) M/\But (λk=>¬G k/\N<=k) E M/\But (λk=>F k\/m k) W M/\But f w M/\
     M.heap[N]?=some (.loop (y (if L.isNone then .ready else .done) L))/\
     (∀k,(G k\/k=N)->F k\/m k\/W.heap.size<=k)/\(∀k,G k->f k\/N+1<=k):=λL E G ay j=>by
     have aC:=ay.same aB (λh=>h.elim Y aK)
     have l3:=(ae.1 aC).1;have J:=run_endRound (P:=P) L aC;have e1:({ ({y .ready none with state:=.busy}:Loop) with state:=if L.isNone then .ready else .done,pending:=L}:Loop)=y (if L.isNone then .ready else .done) L:=by rw[T]
     rw[e1] at J
     have g1:¬G (N):=λh=>by
      rcases j _ h with h|h|h
      . exact Y h
      . exact(aa _ h).1 ((C _).2 (.inr rfl))
      . have:=(ae.1 O).1;omega
     have bF:But (λk=>F k\/m k) W E:=((But.ofBelow (S:=λk=>F k\/m k) au).trans aq (λap _ h=>.inl ((C ap).2 (.inr h)))).trans ay (λap _ h=>h.imp (λh=>(C ap).2 (.inl h)) id)
     refine⟨_,J,(But.refl _ _).putObj (λ_=>⟨g1,by omega⟩) _,bF.putObj (λ_=>.inl ((C _).2 (.inr rfl))) _,?_,ec l3,?_,?_⟩
     . exact(B.trans (bF.putObj (λ_=>.inl ((C _).2 (.inr rfl))) _) (λk hk h=>by
        rcases h with h|h;rotate_left
        . have:=(aa k h).2.1;omega
        rcases (C k).1 h with h|rfl
        . exact(K k h).elim id (λh=>by omega)
        . omega
        ))
     . rintro k (h|rfl)
       . exact(j k h).elim (λh=>.inl ((C k).2 (.inl h))) .inr
       . exact .inl ((C _).2 (.inr rfl))
     . intro k h;rcases j k h with h|h|h
       . exact K k h
       . exact .inr (by have:=(aa k h).2.1;omega)
       . exact .inr (by have:=(ae.1 av).1;omega)
    rintro ak a3 E q;cases ak with
    |normal=>
     obtain⟨G,ac,j,af,ab⟩:=q;obtain⟨M,J,A,x,i,ad,Z,e⟩:=al (none) E G ac j;exact⟨_,_,J,λk=>G k\/k=N,x,Z,.inl ⟨rfl,af,G,λk=>dT,e,hI _ _ _ _ ab A,ad,i⟩⟩
    |ret=>
     obtain⟨G,ac,j,af,ab⟩:=q;obtain⟨M,J,A,x,i,ad,Z,e⟩:=al (some .ret) E G ac j;exact⟨_,_,J,λk=>G k\/k=N,x,Z,.inr ⟨rfl,af,.ret,G,λk=>dT,e,ah _ _ _ _ _ ab A,ad,i⟩⟩
    |exit id=>
     obtain⟨G,ac,j,af,ab⟩:=q;obtain⟨M,J,A,x,i,ad,Z,e⟩:=al (some (.exit id)) E G ac j;exact⟨_,_,J,λk=>G k\/k=N,x,Z,.inr ⟨rfl,af,(.exit id),G,λk=>dT,e,ah _ _ _ _ _ ab A,ad,i⟩⟩
    |goto t=>
     obtain⟨G,ac,j,af,ab⟩:=q;obtain⟨M,J,A,x,i,ad,Z,e⟩:=al (some (.goto t)) E G ac j;exact⟨_,_,J,λk=>G k\/k=N,x,Z,.inr ⟨rfl,af,(.goto t),G,λk=>dT,e,ah _ _ _ _ _ ab A,ad,i⟩⟩
    |panic ch=>exact q.elim
    |outgrown=>exact q.elim
   |ret=>exact q.elim
   |exit id=>exact q.elim
   |goto t=>exact q.elim
   |panic ch=>exact q.elim
   |outgrown=>exact q.elim
end Go.Proofs.YteaogidofpfmmaaGreat
namespace Go.Proofs.YteaogidofpfmmaaGreat
open Go.Proofs.Tryz
variable {k:List Nat}
structure Rg where
 lo:List Nat
 hi:List Nat
 op:Bool
def Rg.b8(r:Rg):Prop:=B8 r.lo/\B8 r.hi
def has(r:Rg)(k:List Nat):Bool:=isK k&&(decide (0<=iy k r.lo)&&(r.op||decide (iy k r.hi<0)))
theorem has_iff{r:Rg}:has r k=true↔isK k=true/\r.lo<=k/\(r.op=true\/k<r.hi):=by
 unfold has;rw[ce,ce,eF,dI,dI,sB,kw]
abbrev Fm:=List Nat×List Nat
def form(r:Rg):Option Fm:=if has r (jv r.lo) then some (jv r.lo,if r.op then [] else jv r.hi) else none
theorem EZ{r:Rg}(h:has r k=true):isK k=true:=(has_iff.1 h).1
theorem Dw{b:List Nat}(hb:B8 b)(h:jv b≠[]):b<=jv b:=(rn hb (tQ hb h)).2 ⟨h,by grind⟩
theorem Bg{r:Rg}(a:r.b8)(h:form r=none){x:List Nat}(e:KK x):has r x=false:=by
 unfold form at h;split at h
 . cases h
 . rename_i c;cases hh:has r x with
   |false=>rfl
   |true=>
    exfalso;apply c;obtain⟨_,d,h3⟩:=has_iff.1 hh;obtain⟨b,f⟩:=(rn a.1 e).1 d;refine has_iff.2 ⟨(tQ a.1 b).1,Dw a.1 b,?_⟩;rcases h3 with h3|h3
    . exact .inl h3
    . exact .inr (by grind)
def jy(k:List Nat):List It->Nat
 | []=>0
 |x::L=>if x.key<k then jy k L+1 else 0
def lN(k:List Nat)(L:List It):Bool:=decide (jy k L<L.length)&&decide ((L.getD (jy k L) It.zero).key=k)
def upto(k:List Nat):List It->Nat
 | []=>0
 |x::L=>if x.key<=k then upto k L+1 else 0
def jg(k:List Nat)(L:List It):Nat:=upto k (L.drop 1)
theorem EO(k:List Nat):∀L:List It,jy k L<=L.length
 | []=>am _
 |x::L=>by
  have:=EO k L;simp only[jy,a7];split<;>omega
theorem xq(k:List Nat):∀(L:List It)(j:Nat),j<=L.length->(∀i,i<j->(L.getD i It.zero).key<k)->(j=L.length\/¬(L.getD j It.zero).key<k)->jy k L=j
 | [],j,h,_,_=>by simp at h;subst h;rfl
 |x::L,0,_,_,h=>by
  rcases h with h|h
  . simp at h
  . simp only[fq] at h;simp[jy,h]
 |x::L,j+1,h1,h2,h3=>by
  have h0:=h2 0 (by omega)
  simp only[fq] at h0;simp only[jy,h0,if_true];rw[xq k L j (by simpa using h1) (λi a=>by simpa using h2 (i+1) (by omega)) (by simpa using h3)]
theorem sP(k:List Nat):∀(L:List It)(i:Nat),i<jy k L->(L.getD i It.zero).key<k
 | [],i,h=>by simp[jy] at h
 |x::L,i,h=>by
  simp only[jy] at h;split at h
  . cases i with
    |zero=>simpa using ‹x.key<k›
    |succ i=>simpa using sP k L i (by omega)
  . omega
theorem wb(k:List Nat):∀(L:List It),jy k L<L.length->¬(L.getD (jy k L) It.zero).key<k
 | [],h=>by simp[jy] at h
 |x::L,h=>by
  simp only[jy] at h ⊢;split
  . rename_i h0;rw[if_pos h0] at h;simpa using wb k L (by simpa using h)
  . simpa using ‹¬x.key<k›
theorem pG(k:List Nat):∀L:List It,upto k L<=L.length
 | []=>am _
 |x::L=>by
  have:=pG k L;simp only[upto,a7];split<;>omega
theorem su(k:List Nat):∀(L:List It)(j:Nat),j<=L.length->(∀i,i<j->(L.getD i It.zero).key<=k)->(j=L.length\/¬(L.getD j It.zero).key<=k)->upto k L=j
 | [],j,h,_,_=>by simp at h;subst h;rfl
 |x::L,0,_,_,h=>by
  rcases h with h|h
  . simp at h
  . simp only[fq] at h;simp[upto,h]
 |x::L,j+1,h1,h2,h3=>by
  have h0:=h2 0 (by omega)
  simp only[fq] at h0;simp only[upto,h0,if_true];rw[su k L j (by simpa using h1) (λi a=>by simpa using h2 (i+1) (by omega)) (by simpa using h3)]
theorem xr(k:List Nat):∀(L:List It)(i:Nat),i<upto k L->(L.getD i It.zero).key<=k
 | [],i,h=>by simp[upto] at h
 |x::L,i,h=>by
  simp only[upto] at h;split at h
  . cases i with
    |zero=>simpa using ‹x.key<=k›
    |succ i=>simpa using xr k L i (by omega)
  . omega
theorem vw(k:List Nat):∀(L:List It),upto k L<L.length->¬(L.getD (upto k L) It.zero).key<=k
 | [],h=>by simp[upto] at h
 |x::L,h=>by
  simp only[upto] at h ⊢;split
  . rename_i h0;rw[if_pos h0] at h;simpa using vw k L (by simpa using h)
  . simpa using ‹¬x.key<=k›
theorem js(L:List Iv)(i:Nat):(L.map Iv.it).getD i It.zero=(L.getD i Iv.zero).it:=by
 have:It.zero=Iv.zero.it:=rfl;rw[this];simp[aM,ed]
end Go.Proofs.YteaogidofpfmmaaGreat
namespace Go.Proofs.YteaogidofpfmmaaGreat
open Go.Proofs.Tryz
open Go.RowKit
variable {g:Nat}{a:Option Addr}{b c:Value}{w w' wx:World}
theorem Bs.cut{l:List Nat}(h:Bs w a l)(n:Nat):Bs w a (l.take n):=by
 refine⟨λx f=>h.1 x (ig f),by rw[dm];have:=h.2.1;omega,?_⟩
 rcases h.2.2 with rfl|⟨b,j,rfl,d⟩
 . exact .inl (by simp)
 . refine .inr ⟨b,j,rfl,λi e=>?_⟩
   rw[dm] at e;rw[d i (by omega)]
   have:(l.take n).getD i 0=l.getD i 0:=by
    simp only[aM];rw[List.getElem?_take_of_lt (by omega)]
   rw[this]
theorem Fd{l:List Nat}(h:B8 l)(i:Nat):l.getD i 0<256:=by
 by_cases d:i<l.length
 . rw[pA l d];exact h _ (fp _)
 . simp[aM,ep (by omega:l.length<=i)]
theorem zw{l:List Nat}{i n:Nat}(h:i<n):(l.take n).getD i 0=l.getD i 0:=by
 simp only[aM];rw[List.getElem?_take_of_lt h]
theorem t7(w:World)(a:Option Addr)(n c:Nat)(l:List Nat)(h:n=l.length):
 Calls prog 137 #[.slice a n c] w λe w'=>e=.returned (.bool (isK l))/\w'=w:=by
 subst h;unfold isK;by_cases d:0<l.length
 . have i:(0:Int)<(l.length:Int):=by omega
   by_cases f:l.length<=24
   . have j:(l.length:Int)<=24:=by omega
     rw[ar d,ar f];go_enter func137,ntmps137;go_wp2;go_ret;exact⟨by simp,rfl⟩
   . have j:¬(l.length:Int)<=24:=by omega
     rw[ar d,ah f];go_enter func137,ntmps137;go_wp2;go_ret;exact⟨by simp,rfl⟩
 . have i:¬(0:Int)<(l.length:Int):=by omega
   rw[ah d];go_enter func137,ntmps137;go_wp2;go_ret;exact⟨by simp,rfl⟩
theorem oF(w:World)(a:Option Addr)(n c:Nat)(l:List Nat)(p:Bs w a l)(D:n=l.length)(M:l.length<=c)(N:l.length<=281474976710656):
 Calls prog 193 #[.slice a n c] w λe w'=>∃f k,e=.returned (.slice f (beh l).length k)/\Own w w' f k (beh l):=by
 subst D;have s:=ix p;have A:=ix (Eg l);have F:=ix (Hj p);clear p;go_enter func193,ntmps193;go_wp2;go_loopw [3] (λi wx=>∃j:Nat,j<=l.length/\i=.int .i64 j/\(sn l j=sn l l.length/\wx=w)) (λi _=>(intOf i).toNat)
 case atStart=>exact⟨l.length,am _,rfl,rfl,rfl⟩
 case round=>
  obtain⟨j,I,rfl,d,E⟩:=hrel;subst E;cases j with
  |zero=>
   have t:Hid (beh l=[]):=by
    have h:=A.o;rw[<-d] at h;exact h
   clear d;go_wp2;go_ret;refine⟨none,0,by rw[t.o];rfl,?_⟩
   rw[t.o];exact Own.nil _ (Below.refl _ _)
  |succ j=>
   have K:(0:Int)<(j:Int)+1:=by omega
   obtain⟨b,G,rfl,C⟩:=s.o.at (j:=j) (by omega)
   by_cases q:l.getD j 0=255
   . have m:sn l j=sn l l.length:=by rw[<-d];simp only[sn];rw[if_pos q]
     rw[q] at C;clear d;go_wp2;go_roundw
     case rel=>exact⟨j,by omega,by go_num,m,by first|trivial|rfl⟩
     case measure=>simp[intOf]
   . have m:sn l l.length=j+1:=by rw[<-d];simp only[sn];rw[if_neg q]
     have H:¬((l.getD j 0:Nat):Int)=255:=by omega
     have L:(((l.getD j 0:Nat):Int)==255)=false:=eqf H
     have v:Hid (beh l=inc (l.take (j+1))):=by
      have h:=A.o;rw[m,if_neg (by omega)] at h
      exact h
     have r:(l.take (j+1)).length=j+1:=by rw[dm];omega
     have R:=ix (yU wr (some ⟨b,G,none⟩) (j+1) (j+1) (l.take (j+1)) (s.o.cut _) r.symm (by omega) (by omega) (by
      rw[r,gE,zw (by omega)]
      have:=Fd F.o j;omega))
     clear d m r;generalize l.getD j 0=x at *;go_wp2_with fail
     refine R.o.mono ?_;rintro e J ⟨f,k,rfl,y⟩;have B:=ix y;clear y;go_wp2;go_ret;exact⟨f,k,by rw[v.o];rfl,by rw[v.o];exact B.o⟩
theorem yP{l:List Nat}(h:l.length<24):next l=l++[0]:=by unfold next;rw[if_pos h]
theorem Aj{l:List Nat}(h:¬l.length<24):next l=beh (l.take 24):=by unfold next;rw[if_neg h]
theorem D4(w:World)(a:Option Addr)(n c:Nat)(l:List Nat)(k:Bs w a l)(s:n=l.length)(y:l.length<=c):
 Calls prog 170 #[.slice a n c] w λe w'=>∃d f,e=.returned (.slice d (next l).length f)/\Own w w' d f (next l):=by
 subst s;by_cases h:l.length<24
 . have q:(l.length:Int)<24:=by omega
   have R:=ix (sy w a l.length c l k rfl (by omega))
   have i:=ix (yP h);clear k;go_enter func170,ntmps170;go_wp2_with fail
   refine R.o.mono ?_;rintro e t ⟨d,f,rfl,m⟩;have p:=ix m;clear m;go_wp2;go_ret;exact⟨d,f,by rw[i.o];first|rfl|simp,by rw[i.o];exact p.o⟩
 . have q:¬(l.length:Int)<24:=by omega
   obtain⟨b,v,rfl,_⟩:=k.at (j:=0) (by omega)
   have r:(l.take 24).length=24:=by rw[dm];omega
   have R:=ix (oF w (some ⟨b,v,none⟩) 24 24 (l.take 24) (k.cut _) r.symm (by omega) (by omega))
   have i:=ix (Aj h);clear k r;have x:(24:Int)<=(c:Int):=by omega
   have A:24<=c:=by omega
   go_enter func170,ntmps170;go_wp2_with fail
   refine R.o.mono ?_;rintro e t ⟨d,f,rfl,m⟩;have p:=ix m;clear m;go_wp2;go_ret;exact⟨d,f,by rw[i.o];first|rfl|simp,by rw[i.o];exact p.o⟩
theorem AZ{l:List Nat}(h:isK l=true):jv l=l:=by unfold jv;rw[if_pos h]
theorem Ed{l:List Nat}(h:isK l=false):jv l=next l:=by unfold jv;rw[h];rfl
theorem Af(w:World)(a:Option Addr)(n c:Nat)(l:List Nat)(k:Bs w a l)(q:n=l.length)(r:l.length<=c):
 Calls prog 130 #[.slice a n c] w λe w'=>∃i j,e=.returned (.slice i (jv l).length j)/\Own w w' i j (jv l):=by
 subst q;have K:=ix (t7 w a l.length c l rfl);cases h:isK l with
 |true=>
  rw[h] at K;have R:=ix (mJ w a l.length c l k rfl (by have:=nY.1 h;omega))
  have d:=ix (AZ h);clear k h;go_enter func130,ntmps130;go_wp2_with fail
  refine K.o.mono ?_;rintro e p ⟨rfl,rfl⟩;go_wp2_with fail
  refine R.o.mono ?_;rintro e p ⟨rfl,f⟩;have m:=ix f;clear f;go_wp2;go_ret;exact⟨_,_,by rw[d.o];rfl,by rw[d.o];exact m.o⟩
 |false=>
  rw[h] at K;have R:=ix (D4 w a l.length c l k rfl r);have d:=ix (Ed h);clear k h;go_enter func130,ntmps130;go_wp2_with fail
  refine K.o.mono ?_;rintro e p ⟨rfl,rfl⟩;go_wp2_with fail
  refine R.o.mono ?_;rintro e p ⟨i,j,rfl,f⟩;have m:=ix f;clear f;go_wp2;go_ret;exact⟨i,j,by rw[d.o];first|rfl|simp,by rw[d.o];exact m.o⟩
structure Rv where
 aL:Option Addr
 cL:Nat
 lo:List Nat
 aH:Option Addr
 cH:Nat
 hi:List Nat
 op:Bool
def Rv.cs(r:Rv):Array Value:=#[.slice r.aL r.lo.length r.cL,.slice r.aH r.hi.length r.cH,.bool r.op]
def Rv.val(r:Rv):Value:=.agg r.cs
def Rv.rg(r:Rv):Rg:=⟨r.lo,r.hi,r.op⟩
structure Ri(w:World)(r:Rv):Prop where
 bl:Bs w r.aL r.lo
 cl:r.lo.length<=r.cL
 bh:Bs w r.aH r.hi
 ch:r.hi.length<=r.cH
theorem Ri.keep{r:Rv}(h:Ri w r)(hb:Below w.heap.size w w'):Ri w' r:=⟨h.bl.keep hb,h.cl,h.bh.keep hb,h.ch⟩
theorem Ri.b8{r:Rv}(h:Ri w r):r.rg.b8:=⟨h.bl.1,h.bh.1⟩
theorem iY:(prog.info? 62).map (·.size)=some 3:=by kernel_rfl
structure Ro(w wx:World)(r:Rv):Prop where
 l:Own w wx r.aL r.cL r.lo
 h:Own w wx r.aH r.cH r.hi
 apart:∀x y,r.aL=some x->r.aH=some y->x.block≠y.block
 l8:B8 r.lo
 h8:B8 r.hi
theorem Ro.keep{d:World}{r:Rv}(h:Ro w wx r)(hb:Below wx.heap.size wx d):Ro w d r:=⟨h.l.keep hb,h.h.keep hb,h.apart,h.l8,h.h8⟩
theorem Ro.pre{d:World}{r:Rv}(hb:Below w.heap.size w d)(h:Ro d wx r):Ro w wx r:=⟨Own.pre hb h.l,Own.pre hb h.h,h.apart,h.l8,h.h8⟩
theorem Ro.ri{r:Rv}(h:Ro w wx r):Ri wx r:=⟨h.l.bs h.l8,h.l.r.cap,h.h.bs h.h8,h.h.r.cap⟩
theorem sh(w:World)(r:Rv)(a:Option Addr)(n c:Nat)(k:List Nat)(l:Ri w r)(j:Bs w a k)(A:n=k.length):
 Calls prog 91 #[r.val,.slice a n c] w λe w'=>e=.returned (.bool (has r.rg k))/\Below w.heap.size w w':=by
 subst A;obtain⟨v,y,p,t,x,m,B⟩:=r;have h:=ix λf=>t7 f a k.length c k rfl
 have i:=ix λf (hb:Below w.heap.size w f)=>kf f a v k.length c p.length y k p (j.keep hb) (l.bl.keep hb) rfl rfl
 have s:=ix λf (hb:Below w.heap.size w f)=>kf f a t k.length c m.length x k m (j.keep hb) (l.bh.keep hb) rfl rfl
 clear l j;unfold Rv.val Rv.cs has Rv.rg;dsimp only;generalize iy k p=C at *;generalize iy k m=D at *;cases hk:isK k with
 |false=>
  rw[hk] at h;clear hk;go_enter func91,ntmps91;go_wp2_with fail
  refine(h.o _).mono ?_;rintro e f ⟨rfl,d⟩;obtain rfl:=d.symm;go_wp2;go_ret;exact⟨by simp,al _ _⟩
 |true=>
  rw[hk] at h;clear hk;by_cases q:0<=C
  . cases B with
    |true=>
     go_enter func91,ntmps91;go_wp2_with fail
     refine(h.o _).mono ?_;rintro e f ⟨rfl,d⟩;obtain rfl:=d.symm;go_wp2_with fail
     refine(i.o _ (al _ _)).mono ?_;rintro e f ⟨rfl,d⟩;obtain rfl:=d.symm;go_wp2;go_ret;exact⟨by simp[q],al _ _⟩
    |false=>
     go_enter func91,ntmps91;go_wp2_with fail
     refine(h.o _).mono ?_;rintro e f ⟨rfl,d⟩;obtain rfl:=d.symm;go_wp2_with fail
     refine(i.o _ (al _ _)).mono ?_;rintro e f ⟨rfl,d⟩;obtain rfl:=d.symm;go_wp2_with fail
     refine(s.o _ (al _ _)).mono ?_;rintro e f ⟨rfl,d⟩;obtain rfl:=d.symm;go_wp2;go_ret;exact⟨by simp[q],al _ _⟩
  . go_enter func91,ntmps91;go_wp2_with fail
    refine(h.o _).mono ?_;rintro e f ⟨rfl,d⟩;obtain rfl:=d.symm;go_wp2_with fail
    refine(i.o _ (al _ _)).mono ?_;rintro e f ⟨rfl,d⟩;obtain rfl:=d.symm;go_wp2;go_ret;exact⟨by simp;omega,al _ _⟩
theorem Own.setRow{cap:Nat}{l:List Nat}(h:Own w wx a cap l)(d:w.heap.size<=g)(f:∀x,a=some x->x.block≠g)(cs:Array Value):Own w (wx.setRow g cs) a cap l:=
 ⟨h.r.but (S:=λk=>k=g) ⟨rfl,rfl,rfl,by simp,λk _ hk=>setRow_other _ _ _ _ (by simpa using hk)⟩ (λx i e=>f x i e),h.n,below_setRow h.b d cs⟩
theorem iz{a:Value}{t:TypeId}(h:w.heap[g]?=some (.cells #[a,b,c] t (0,0))):w.cell? ⟨g,0,none⟩=some a/\w.cell? ⟨g,1,none⟩=some b/\w.cell? ⟨g,2,none⟩=some c:=by
 refine⟨?_,?_,?_⟩<;>rw[ai _ _ _ _ _ _ h]<;>rfl
theorem iS(w:World)(o p:Obj){d:World}(hb:Below ((w.alloc o).alloc p).heap.size ((w.alloc o).alloc p) d):d.heap[w.heap.size]?=some o/\d.heap[w.heap.size+1]?=some p/\Below w.heap.size w d/\w.heap.size+2<=d.heap.size:=by
 have e:((w.alloc o).alloc p).heap.size=w.heap.size+2:=by rw[size_alloc,size_alloc]
 refine⟨(hb.block _ (by rw[e];omega)).trans ?_,(hb.block _ (by rw[e];omega)).trans ?_,bt (bt (al _ _) (al _ _)) hb,by have:=hb.size;omega⟩
 . rw[heap_alloc_old _ _ (by rw[size_alloc];omega)];exact bj _ _
 . have:=bj (w.alloc o) p;rw[size_alloc] at this;exact this
theorem rH{a:Value}(h:w.cell? ⟨g,0,none⟩=some a/\w.cell? ⟨g,1,none⟩=some b/\w.cell? ⟨g,2,none⟩=some c)(hb:Below w.heap.size w w'):w'.cell? ⟨g,0,none⟩=some a/\w'.cell? ⟨g,1,none⟩=some b/\w'.cell? ⟨g,2,none⟩=some c:=
 ⟨(hb.cell (p:=⟨g,0,none⟩) (block_lt_of_cell h.1)).trans h.1,(hb.cell (p:=⟨g,1,none⟩) (block_lt_of_cell h.2.1)).trans h.2.1,(hb.cell (p:=⟨g,2,none⟩) (block_lt_of_cell h.2.2)).trans h.2.2⟩
theorem zI(w:World)(r:Rv)(p:Ri w r):
 Calls prog 88 #[r.val] w λe w'=>e=.returned (.bool (!has r.rg (jv r.lo)))/\Below w.heap.size w w':=by
 have D:=ix (DO p.bl.1);have E:=ix λn (hb:Below w.heap.size w n)=>Af n r.aL r.lo.length r.cL r.lo (p.bl.keep hb) rfl p.cl
 have x:=ix λn (hb:Below w.heap.size w n) a c k (H:Bs n a k)=>sh n r a k.length c k (p.keep hb) H rfl
 clear p;unfold Rv.val Rv.cs at x ⊢;obtain⟨j,m,d,i,l,f,h⟩:=r;dsimp only[Rv.rg] at *;generalize I:has ⟨d,f,h⟩=J at *;clear I;go_enter func88,ntmps88;go_wp2;have y:(w.alloc (.cells #[.slice j d.length m,.slice i f.length l,.bool h] 62)).drew.cell? ⟨w.heap.size,0,none⟩=some (.slice j d.length m)/\(w.alloc (.cells #[.slice j d.length m,.slice i f.length l,.bool h] 62)).drew.cell? ⟨w.heap.size,1,none⟩=some (.slice i f.length l)/\(w.alloc (.cells #[.slice j d.length m,.slice i f.length l,.bool h] 62)).drew.cell? ⟨w.heap.size,2,none⟩=some (.bool h):=⟨by simp,by simp,by simp⟩
 have t:Hid (Below w.heap.size w (w.alloc (.cells #[.slice j d.length m,.slice i f.length l,.bool h] 62)).drew):=(al w _).drew
 go_region_held3 (λw'=>w'.cell? ⟨w.heap.size,0,none⟩=some (.slice j d.length m)/\w'.cell? ⟨w.heap.size,1,none⟩=some (.slice i f.length l)/\w'.cell? ⟨w.heap.size,2,none⟩=some (.bool h))
  (first|exact y|exact A|exact F)
  (first|(go_at_call 130;refine(E.o _ t.o).mono ?_;rintro e K ⟨G,c2,rfl,q⟩;have A:=rH y q.b;have v:=ix (bt t.o q.b);have C:=ix (q.bs D.o);clear q)|(go_at_call 91;refine(x.o _ v.o G c2 (jv d) C.o).mono ?_;rintro e w3 ⟨rfl,s⟩;have F:=rH A s;have B:=ix (bt v.o s);clear s))
 go_wp2;go_ret;exact⟨rfl,B.o⟩
end Go.Proofs.YteaogidofpfmmaaGreat
