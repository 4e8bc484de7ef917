import Derived.Test.YtbdkogimlbnlmaaGreatWlB13
set_option linter.all false
set_option maxHeartbeats 8000000
set_option maxRecDepth 8000
namespace Go.Proofs.YtbdkogimlbnlmaaGreat
open Tryz
open Go.RowKit
variable {z:Int}{c g i rb sz:Nat}{col:Nat->Nat}{a:Option Addr}{W w w' w5 wx:World}
structure Rd where
 R:Int
 aC:Option Addr
 cC:Nat
 C:List Int
 aL:Option Addr
 cL:Nat
 L:List Bool
 aP:Option Addr
 cP:Nat
 P:List Pv
 aA:Option Addr
 nA:Nat
 cA:Nat
 fl:Int
 hush:Bool
def Rd.box(D:Rd):Array Value:=#[.int .i64 D.R,.slice D.aC D.C.length D.cC,.slice D.aL D.L.length D.cL,.slice D.aP D.P.length D.cP,.slice D.aA D.nA D.cA,.int .i64 D.fl,.bool D.hush]
def vbl(L:List Bool):List Value:=L.map Value.bool
def vpg(P:List Pv):List Value:=(P.map λp=>p.cs.toList).flatten
theorem rZ(A B:List Pv):vpg (A++B)=vpg A++vpg B:=by simp[vpg]
theorem nY:∀(L:List Pv),(vpg L).length=L.length*5
 | []=>rfl
 |x::L=>by
  have:=nY L;simp only[vpg,bL,dZ,ae,bf,Pv.cs] at this ⊢;simp only[bj] at this ⊢;omega
theorem nf:∀(L:List Pv)(i k:Nat),i<L.length->k<5->(vpg L)[i*5+k]?=(L.getD i Pv.zero).cs.toList[k]?
 | [],i,k,h,_=>absurd h (dQ _)
 |x::L,0,k,h,hk=>by
  have b:x.cs.toList.length=5:=rfl;simp only[vpg,bL,dZ,eE,bN];rw[br (by omega)]
  rfl
 |x::L,i+1,k,h,hk=>by
  have b:x.cs.toList.length=5:=rfl;have d:=nf L i k (by simpa using h) hk
  simp only[vpg,bL,dZ] at d ⊢;rw[bg (by omega),b,show(i+1)*5+k-5=i*5+k by omega,d]
  rfl
structure Rq(w:World)(rb:Nat)(D:Rd)(col:Nat->Nat):Prop where
 box:w.heap[rb]?=some (.cells D.box 99 (0,0))
 cr:Q.Ig w D.aC D.cC D.C
 lr:Q.Gw 4 1 w D.aL D.cL D.L.length (vbl D.L)
 pr:Q.Gw 31 5 w D.aP D.cP D.P.length (vpg D.P)
 pz:∀p∈D.P,Pz (λk=>col k=6) w p
 ps:∀p∈D.P,p.pg.check=0\/p=Pv.zero
 cb:col rb=1
 cc:∀x,D.aC=some x->col x.block=2
 cl:∀x,D.aL=some x->col x.block=3
 cp:∀x,D.aP=some x->col x.block=4
 lt:∀k,col k≠0->k<w.heap.size
 nL:D.L.length=D.C.length
 nP:D.P.length=D.C.length
 n6:D.C.length<=65536
theorem Rq.but{S:Nat->Prop}{D:Rd}(h:Rq w rb D col)(hb:But S w w')(j:∀k,col k≠0->¬S k):Rq w' rb D col:=by
 have d:∀{k c:Nat},col k=c+1->¬S k:=λe=>j _ (by omega)
 exact⟨hb.same h.box (d (c:=0) h.cb),h.cr.but hb (λx b=>d (c:=1) (h.cc x b)),h.lr.but hb (λx b=>d (c:=2) (h.cl x b)),h.pr.but hb (λx b=>d (c:=3) (h.cp x b)),λp l=>(h.pz p l).but hb (λk _ e=>d (c:=5) e),h.ps,h.cb,h.cc,h.cl,h.cp,λk f=>be (h.lt k f) hb.size,h.nL,h.nP,h.n6⟩
theorem Rq.keep{D:Rd}(h:Rq w rb D col)(hb:Below w.heap.size w w'):Rq w' rb D col:=h.but (S:=λ_=>False) (But.ofBelow hb) (λ_ _ h=>h)
theorem Rq.lb{D:Rd}(h:Rq w rb D col):rb<w.heap.size:=(af.1 h.box).1
theorem Rq.cells{D:Rd}(h:Rq w rb D col):w.cell? ⟨rb,0,none⟩=some (.int .i64 D.R)/\w.cell? ⟨rb,1,none⟩=some (.slice D.aC D.C.length D.cC)/\w.cell? ⟨rb,2,none⟩=some (.slice D.aL D.L.length D.cL)/\w.cell? ⟨rb,3,none⟩=some (.slice D.aP D.P.length D.cP)/\w.cell? ⟨rb,6,none⟩=some (.bool D.hush):=by
 rw[ay _ _ _ _ _ _ h.box,ay _ _ _ _ _ _ h.box,ay _ _ _ _ _ _ h.box,ay _ _ _ _ _ _ h.box,ay _ _ _ _ _ _ h.box];exact⟨rfl,rfl,rfl,rfl,rfl⟩
def Rd.has(D:Rd)(z:Int):Bool:=decide (1<=z)&&decide (z<=D.C.length)
def Rd.count(D:Rd)(z:Int):Int:=if D.has z then D.C.getD (z-1).toNat 0 else 0
def Rd.lasts(D:Rd)(z:Int):Bool:=D.L.getD (z-1).toNat false
def Rd.on(D:Rd)(z:Int):Pv:=D.P.getD (z-1).toNat Pv.zero
def Rd.state(D:Rd)(z:Int):Nat:=if D.has z then Q.stt (D.C.getD (z-1).toNat 0,D.lasts z) else 0
theorem Rd.has_iff{D:Rd}:D.has z=true↔1<=z/\z<=D.C.length:=by unfold Rd.has;simp
theorem Rq.cAt{D:Rd}(h:Rq w rb D col)(hi:i<D.C.length):∃g,D.aC=some ⟨g,0,none⟩/\w.cell? ⟨g,i,none⟩=some (.int .i64 (D.C.getD i 0)):=by
 rcases h.cr.cases with⟨_,_,e⟩|⟨g,cur,e,_⟩
 . rw[e] at hi;exact absurd hi (dQ _)
 . refine⟨g,e,?_⟩;have k:=h.cr;rw[e] at k;exact k.cell hi
theorem Rq.lAt{D:Rd}(h:Rq w rb D col)(hi:i<D.C.length):∃g,D.aL=some ⟨g,0,none⟩/\w.cell? ⟨g,i,none⟩=some (.bool (D.L.getD i false)):=by
 have b:i<D.L.length:=by rw[h.nL];exact hi
 obtain⟨g,e⟩:=h.lr.addr (by omega)
 refine⟨g,e,?_⟩;have k:=h.lr;rw[e] at k;exact k.cell (by simp[vbl,b])
theorem Rq.pAt{D:Rd}(h:Rq w rb D col)(hi:i<D.C.length):∃g,D.aP=some ⟨g,0,none⟩/\∀k u,k<5->(D.P.getD i Pv.zero).cs.toList[k]?=some u->w.cell? ⟨g,i*5+k,none⟩=some u:=by
 have d:i<D.P.length:=by rw[h.nP];exact hi
 obtain⟨g,e⟩:=h.pr.addr (by omega)
 refine⟨g,e,λk u b f=>?_⟩
 have r:=h.pr;rw[e] at r;exact r.cell (by rw[nf D.P i k d b];exact f)
theorem Rd.on_mem{D:Rd}(h:Rq w rb D col)(b:D.has z=true):D.on z∈D.P:=by
 obtain⟨d,e⟩:=Rd.has_iff.1 b;have:(z-1).toNat<D.P.length:=by rw[h.nP];omega
 unfold Rd.on;generalize (z-1).toNat=k at this;simp[this]
theorem jU{p:Pv}(h:p.pg.check=0\/p=Pv.zero):Sml p/\p.items.length<=1048576:=by
 rcases h with h|rfl
 . obtain⟨y,f,t,A⟩:=Pg.check_zero.1 h;unfold Pg.form at f;have l:p.pg.items.length=p.items.length:=aZ _;have v:p.pg.data=p.data:=rfl
   have B:p.items.length<=8/\p.data.length<=480:=by
    rw[l,v] at f;split at f
    all_goals
     simp only[bO,bE] at f;omega
   refine⟨⟨by omega,λx j=>?_⟩,by omega⟩
   obtain⟨i,m,e⟩:=List.getElem_of_mem j
   have n:p.pg.at i=x.it:=by
    unfold Pg.at;show(p.items.map Iv.it).getD i It.zero=x.it;simp[aq,m,e]
   have k:=t i (by rw[l];exact m)
   unfold Pg.itemE at k
   have d:p.pg.keyOk i=true:=by
    cases e:p.pg.keyOk i with
    |true=>rfl
    |false=>rw[if_pos e] at k;cases k
   rw[if_neg (by rw[d];decide)] at k
   have q:p.pg.ordOk i=true:=by
    cases e:p.pg.ordOk i with
    |true=>rfl
    |false=>rw[if_pos e] at k;cases k
   rw[if_neg (by rw[q];decide)] at k
   have b:(p.pg.at i).valOk p.pg.kind=true:=by
    cases e:(p.pg.at i).valOk p.pg.kind with
    |true=>rfl
    |false=>rw[if_pos e] at k;cases k
   rw[n] at b;unfold Pg.keyOk at d;rw[n] at d;unfold It.valOk at b;have r:x.it.key=x.key:=rfl;have s:x.it.val=x.val:=rfl;rw[r] at d;rw[s] at b;constructor
   . split at d
     . simp at d;rw[d];exact az _
     . simp only[bO,bE] at d;omega
   . split at b
     . simp only[bO,bE] at b;omega
     . split at b
       . cases b
       . split at b
         all_goals
          simp only[bE] at b;omega
 . exact⟨⟨az _,λx j=>absurd j (bm)⟩,az _⟩
theorem qC(w:World)(r:Int):Calls prog 91 #[.int .i64 r] w λe w'=>e=.returned (.bool (decide (2<=r)&&decide (r<65536)))/\w'=w:=by
 by_cases h:2<=r
 . go_enter func91,ntmps91;go_wp2;go_ret;exact⟨by simp[h],rfl⟩
 . go_enter func91,ntmps91;go_wp2;go_ret;exact⟨by rw[au (show ¬(2<=r) by omega)];rfl,rfl⟩
theorem sM(w:World)(rb:Nat)(D:Rd)(col:Nat->Nat)(h:Rq w rb D col)(n:Int):Calls prog 111 #[.pointer (some ⟨rb,0,none⟩),.int .i64 n] w λe w'=>e=.returned (.bool (D.has n))/\w'=w:=by
 obtain⟨c0,c1,c2,c3,d⟩:=h.cells;unfold Rd.has;generalize D.C.length=m at *;by_cases b:1<=n
 . go_enter func111,ntmps111;go_wp2;go_ret;exact⟨by simp[b],rfl⟩
 . go_enter func111,ntmps111;go_wp2;go_ret;exact⟨by rw[au (show ¬(1<=n) by omega)];rfl,rfl⟩
theorem kf(w:World)(rb:Nat)(D:Rd)(col:Nat->Nat)(h:Rq w rb D col)(n:Int):Calls prog 67 #[.pointer (some ⟨rb,0,none⟩),.int .i64 n] w λe w'=>e=.returned (.bool (decide (0<D.count n)))/\w'=w:=by
 obtain⟨c0,c1,c2,c3,q⟩:=h.cells;have f:=iJ (sM w rb D col h n);by_cases b:D.has n=true
 . obtain⟨s,t⟩:=Rd.has_iff.1 b;obtain⟨i,j⟩:∃i:Nat,n=(i:Int)+1:=⟨(n-1).toNat,by omega⟩
   subst j;have j:i<D.C.length:=by omega
   obtain⟨g,e,r⟩:=h.cAt j;have d:D.count ((i:Int)+1)=D.C.getD i 0:=by unfold Rd.count;rw[if_pos b];simp
   rw[d];rw[b] at f;rw[e] at c1;have y:(i:Int)+1-1=(i:Int):=by omega
   have A:(i:Int)<(D.C.length:Int):=by omega
   have v:=h.n6;clear h d b;generalize D.C.length=m at *;generalize D.C.getD i 0=x at *;go_enter func67,ntmps67;go_wp2_with fail
   refine f.o.mono ?_;rintro _ p ⟨rfl,k⟩;obtain rfl:=k.symm;go_wp2;go_ret;exact⟨rfl,rfl⟩
 . have l:D.has n=false:=by simpa using b
   have d:D.count n=0:=by unfold Rd.count;rw[if_neg b]
   rw[d];rw[l] at f;clear h d b l;go_enter func67,ntmps67;go_wp2_with fail
   refine f.o.mono ?_;rintro _ p ⟨rfl,k⟩;obtain rfl:=k.symm;go_wp2;go_ret;exact⟨rfl,rfl⟩
theorem lz(w:World)(rb:Nat)(D:Rd)(col:Nat->Nat)(h:Rq w rb D col)(n:Int):Calls prog 48 #[.pointer (some ⟨rb,0,none⟩),.int .i64 n] w λe w'=>e=.returned (.int .i64 ((D.state n:Nat):Int))/\w'=w:=by
 obtain⟨c0,c1,c2,c3,s⟩:=h.cells;have d:=iJ (sM w rb D col h n);by_cases b:D.has n=true
 . obtain⟨C,E⟩:=Rd.has_iff.1 b;obtain⟨i,k⟩:∃i:Nat,n=(i:Int)+1:=⟨(n-1).toNat,by omega⟩
   subst k;have k:i<D.C.length:=by omega
   obtain⟨g,e,t⟩:=h.cAt k;obtain⟨B,p,v⟩:=h.lAt k;have f:D.state ((i:Int)+1)=Q.stt (D.C.getD i 0,D.L.getD i false):=by unfold Rd.state Rd.lasts;rw[if_pos b];simp
   rw[f];rw[b] at d;rw[e] at c1;rw[p,h.nL] at c2;have H:(i:Int)+1-1=(i:Int):=by omega
   have I:(i:Int)<(D.C.length:Int):=by omega
   have G:=h.n6;clear h f b e p;generalize D.C.length=m at *;generalize D.C.getD i 0=x at *;generalize D.L.getD i false=y at *;unfold Q.stt;by_cases l:x=0
   . subst l;cases y
     all_goals
      go_enter func48,ntmps48;go_wp2_with fail
      refine d.o.mono ?_;rintro _ q ⟨rfl,j⟩;obtain rfl:=j.symm;go_wp2;go_ret;exact⟨rfl,rfl⟩
   . have A:(x==0)=false:=by simpa using l
     simp only[if_neg l];clear l;cases y
     all_goals
      go_enter func48,ntmps48;go_wp2_with fail
      refine d.o.mono ?_;rintro _ q ⟨rfl,j⟩;obtain rfl:=j.symm;go_wp2;go_ret;exact⟨rfl,rfl⟩
 . have r:D.has n=false:=by simpa using b
   have f:D.state n=0:=by unfold Rd.state;rw[if_neg b]
   rw[f];rw[r] at d;clear h f b r;go_enter func48,ntmps48;go_wp2_with fail
   refine d.o.mono ?_;rintro _ q ⟨rfl,j⟩;obtain rfl:=j.symm;go_wp2;go_ret;exact⟨rfl,rfl⟩
theorem AX(w:World)(rb:Nat)(D:Rd)(col:Nat->Nat)(h:Rq w rb D col)(n:Int):
 Calls prog 45 #[.pointer (some ⟨rb,0,none⟩),.int .i64 n] w λx w'=>∃q:Pv,x=.returned (.tuple #[q.vl,.int .i64 (if 0<D.count n then 0 else 15)])/\Pn w w' q/\q.items.length<=1048576/\q.pg=(if 0<D.count n then (D.on n).pg else Pv.zero.pg)/\Below w.heap.size w w':=by
 have y:=al w (.cells Pv.zero.cs 31);have b:=iJ (kf _ rb D col (h.keep y) n);have d:=iJ (aF w (.cells Pv.zero.cs 31));have j:=iJ y;have ah:=h.lb;by_cases f:0<D.count n
 . simp only[if_pos f]
   have B:D.has n=true:=by
    unfold Rd.count at f;split at f
    . assumption
    . omega
   obtain⟨m,k2⟩:=Rd.has_iff.1 B;obtain⟨i,C⟩:∃i:Nat,n=(i:Int)+1:=⟨(n-1).toNat,by omega⟩
   subst C;have C:i<D.C.length:=by omega
   obtain⟨g,e,l⟩:=h.pAt C;obtain⟨c0,c1,c2,c3,Y⟩:=h.cells;rw[e,h.nP] at c3;have R:D.on ((i:Int)+1)=D.P.getD i Pv.zero:=by unfold Rd.on;simp
   have E:=Rd.on_mem h B;obtain⟨sm,G⟩:=jU (h.ps _ E);have p:=iJ (jX _ (D.on ((i:Int)+1)) ((h.keep y).pz _ E).pi sm.1 G sm.2);have A:=iJ G;have hs:(i:Int)+1-1=(i:Int):=by omega
   have ai:(i:Int)<(D.C.length:Int):=by omega
   have h6:=h.n6;rw[ax f] at b;rw[R] at p A ⊢;clear h f B E sm G R y c0 c1 c2 Y m k2;generalize D.C.length=aa at *;obtain⟨q,P⟩:∃q,D.P.getD i Pv.zero=q:=⟨_,rfl⟩;rw[P] at p l A ⊢;clear P;obtain⟨kp,lp,ac,ae,aj,ab,ad,ag,ak⟩:=q;have s:=l 0 _ (by decide) rfl
   have H:=l 1 _ (by decide) rfl
   have I:=l 2 _ (by decide) rfl
   have J:=l 3 _ (by decide) rfl
   have K:=l 4 _ (by decide) rfl
   rw[bY] at s;have gl:g<w.heap.size:=block_lt_of_cell s;clear l;unfold Pv.vl at *;simp only[Pv.cs] at p d j b s H I J K;simp only[Pv.zero,bj] at p d j b s H I J K c3;go_enter func45,ntmps45;go_wp2_with fail
   refine b.o.mono ?_;rintro _ wq ⟨rfl,t⟩;obtain rfl:=t.symm;clear t;go_wp2_with fail
   refine p.o.mono ?_;rintro _ w2 ⟨r,rfl,M,O,N,hb⟩;have X:=iJ (M.pre j.o.size);have U:=iJ N;have V:=iJ O;have T:=iJ (bt j.o hb);have L:=iJ ((hb.block w.heap.size (af.1 d.o).1).trans d.o);clear M N hb p b s H I J K c3 O;go_wp2_with (first|(refine cE rfl 31 _ _ rfl w.heap.size _ rfl rfl 31 _ L.o iP rfl (by simp[Value.oneCell']) ?_)|fail)
   refine bZ (v:=.tuple #[.agg _,_]) (je results45 _ _ w.heap.size 31 _ (0,0) _ rfl (dc _ _ _ _ _ _ L.o) underlying31 rfl iP) rfl ?_;exact⟨r,rfl,X.o.row L.o (by decide) (by decide) _,by rw[V.o];exact A.o,U.o,((But.ofBelow (S:=λk=>k=w.heap.size) T.o).trans (Q.jg _ _ _) (λ_ _ e=>e)).below (λk Z e=>by omega)⟩
 . simp only[if_neg f];rw[au f] at b;clear f h;unfold Pv.vl at *;simp only[Pv.cs] at d j b;simp only[Pv.zero,bj] at d j b;go_enter func45,ntmps45;go_wp2_with fail
   refine b.o.mono ?_;rintro _ wq ⟨rfl,t⟩;obtain rfl:=t.symm;clear t;go_wp2_with (first|(refine cE rfl 31 _ _ rfl w.heap.size _ rfl rfl 31 _ d.o iP rfl (by simp[Value.oneCell']) ?_)|fail)
   refine bZ (v:=.tuple #[.agg _,_]) (je results45 _ _ w.heap.size 31 _ (0,0) _ rfl (dc _ _ _ _ _ _ d.o) underlying31 rfl iP) rfl ?_;exact⟨Pv.zero,rfl,Pn.zero _ _,az _,rfl,((But.ofBelow (S:=λk=>k=w.heap.size) j.o).trans (Q.jg _ _ _) (λ_ _ e=>e)).below (λk Z e=>by omega)⟩
theorem Q.Gw.blk{e:TypeId}{cap n:Nat}{C:List Value}(h:Q.Gw e sz w a cap n C){x:Addr}(b:a=some x):∃cur,w.heap[x.block]?=some (.cells cur e (0,0)):=by
 rcases h.cases with⟨e1,_⟩|⟨g,cur,e1,hg,_⟩
 . rw[e1] at b;cases b
 . rw[e1] at b;cases b;exact⟨cur,hg⟩
theorem jy{k b:Nat}{c f:Array Value}{t d:TypeId}(h:w.heap[k]?=some (.cells c t (0,0)))(j:w.heap[b]?=some (.cells f d (0,0)))(l:t≠d):k≠b:=λe=>by
 rw[e,j] at h;simp only[aE,dU] at h;exact l h.2.1.symm
theorem qv{d b:TypeId}{bs:Nat}{z:Value}(D:prog.underlying d=some (.slice b))(L:(prog.info? b).map (λi=>(i.zero,i.size,i.bytes))=some (some z,sz,bs))(k:z.cells.size=sz)(q:0<sz)(w:World)(p:TypeId)(a:Option Addr)(n cap:Nat)(C:List Value)(s:Q.Gw b sz w a cap n C)(h:Addr)(c:Nat)(xs:List Value)(x:xs.length=1*sz)(t:∀j u,xs[j]?=some u->w.cell? (h.add j)=some u)(r:∀u∈xs,u.oneCell'=true)(A:n+1<=maxLen)(K:(n+1)*bs<=140737488355328):
 ∃g f w',(Builtin.append_ #[d,d] p #[.slice a n cap,.slice (some h) 1 c]).run prog w=.ok (.slice (some ⟨g,0,none⟩) (n+1) f) w'/\
  Q.Gw b sz w' (some ⟨g,0,none⟩) f (n+1) (C++xs)/\New w a (some ⟨g,0,none⟩)/\But (Q.InA a) w w':=by
 obtain⟨E,v,H,I,J⟩:=dr L;obtain⟨g,f,w',B,G,m,k3,M⟩:=dW (P:=prog) w d p 0 b E z sz bs D v H I J k q (.slice a n cap) n C s h 1 c xs x t r (by decide) A K (az _) w.heap.size rfl
 rw[kA] at m k3;refine⟨g,f,w',B,G,?_,But.inA m⟩;intro y l;simp only[aE] at l;subst l;rcases k3 with k3|k3
 . obtain⟨z,k,e⟩:=map_some k3;exact .inl ⟨z,k,e⟩
 . exact .inr (by show _<=g;omega)
theorem jM{k d:TypeId}{sz bs:Nat}{z:Value}(H:prog.underlying k=some (.slice d))(R:(prog.info? d).map (λi=>(i.zero,i.size,i.bytes))=some (some z,sz,bs))(J:z.cells.size=sz)(q:0<sz){w:World}{m:Array Oper}{p:List Oper}{o:Oper}{a:Act}{l:Exit->Act->World->Prop}(O:o.guard=none)(s x:Operand)
 (D:o.op=.call {callee:=.builtin .append,args:=#[s,x],argTypes:=#[k,k]}) (b:Option Addr) (n cap:Nat) (C:List Value) (G:a.eval s=.slice b n cap) (v:Q.Gw d sz w b cap n C)
 (f:Addr) (c:Nat) (xs:List Value) (I:a.eval x=.slice (some f) 1 c) (A:xs.length=1*sz) (y:∀j u,xs[j]?=some u->w.cell? (f.add j)=some u) (r:∀u∈xs,u.oneCell'=true) (B:n+1<=maxLen) (P:(n+1)*bs<=140737488355328)
 (h:∀g e w',Q.Gw d sz w' (some ⟨g,0,none⟩) e (n+1) (C++xs)->New w b (some ⟨g,0,none⟩)->But (Q.InA b) w w'->wpList prog m l p (a.put o.dst (.slice (some ⟨g,0,none⟩) (n+1) e)) w'):wpList prog m l (o::p) a w:=
 e7 O λK t=>by
  obtain⟨g,e,w',E,L,M,N⟩:=qv H R J q w o.type b n cap C v f c xs A y r B P;unfold Oper.wp execOp;simp only[D,resolve,invoke,builtin,dE,dF,bT,cR,bL,dM,G,I,E];exact t _ _ (h g e w' L M N)
theorem uV:(prog.info? 4).map (λi=>(i.zero,i.size,i.bytes))=some (some (.bool false),1,1):=by kernel_rfl
theorem lW:(prog.info? 31).map (λi=>(i.zero,i.size,i.bytes))=some (some (.agg Pv.zero.cs),5,72):=by kernel_rfl
theorem BV:(prog.info? 3).map (λi=>(i.zero,i.size,i.bytes))=some (some (.int .i64 0),1,8):=by kernel_rfl
theorem Fg(l:List Int)(x:Int):Q.vi l++[.int .i64 x]=Q.vi (l++[x]):=by simp[Q.vi]
theorem uR(l:List Bool)(x:Bool):vbl l++[.bool x]=vbl (l++[x]):=by simp[vbl]
theorem vO(l:List Pv)(x:Pv):vpg l++x.cs.toList=vpg (l++[x]):=by simp[vpg]
structure Rn(w wx:World)(rb:Nat)(D:Rd):Prop where
 box:wx.heap[rb]?=some (.cells D.box 99 (0,0))
 cr:Q.Gw 3 1 wx D.aC D.cC D.C.length (Q.vi D.C)
 lr:Q.Gw 4 1 wx D.aL D.cL D.L.length (vbl D.L)
 pr:Q.Gw 31 5 wx D.aP D.cP D.P.length (vpg D.P)
 pn:∀p∈D.P,Pn w wx p
 ps:∀p∈D.P,p.pg.check=0\/p=Pv.zero
 nb:w.heap.size<=rb
 nC:New w none D.aC
 nl:New w none D.aL
 np:New w none D.aP
 b:Below w.heap.size w wx
theorem Rn.keep{b:World}{D:Rd}(h:Rn w wx rb D)(hb:Below wx.heap.size wx b):Rn w b rb D:=
 ⟨iQ h.box hb,h.cr.keep hb,h.lr.keep hb,h.pr.keep hb,λp d=>(h.pn p d).keep hb,h.ps,h.nb,h.nC,h.nl,h.np,bt h.b hb⟩
theorem Rn.lb{D:Rd}(h:Rn w wx rb D):rb<wx.heap.size:=(af.1 h.box).1
theorem Rn.cells{D:Rd}(h:Rn w wx rb D):wx.cell? ⟨rb,0,none⟩=some (.int .i64 D.R)/\wx.cell? ⟨rb,1,none⟩=some (.slice D.aC D.C.length D.cC)/\wx.cell? ⟨rb,2,none⟩=some (.slice D.aL D.L.length D.cL)/\wx.cell? ⟨rb,3,none⟩=some (.slice D.aP D.P.length D.cP)/\wx.frozen? ⟨rb,1,none⟩=false/\wx.frozen? ⟨rb,2,none⟩=false/\wx.frozen? ⟨rb,3,none⟩=false:=by
 rw[ay _ _ _ _ _ _ h.box,ay _ _ _ _ _ _ h.box,ay _ _ _ _ _ _ h.box,ay _ _ _ _ _ _ h.box];exact⟨rfl,rfl,rfl,rfl,by simp[World.frozen?,h.box],by simp[World.frozen?,h.box],by simp[World.frozen?,h.box]⟩
theorem oK(h:New w none a)(b:New W a (some ⟨g,0,none⟩))(d:w.heap.size<=W.heap.size):New w none (some ⟨g,0,none⟩):=λy f=>by
 cases f;refine .inr ?_;rcases b ⟨g,0,none⟩ rfl with⟨z,hz,e⟩|e
 . have e:z.block=g:=e;show _<=g;rw[<-e];exact i8 h hz
 . exact aO d e
theorem Rn.low{v:Value}(hb:Below w.heap.size w W)(f:New w none a)(d:But (Q.InA a) W w5)(l:w.heap.size<=rb):Below w.heap.size w (w5.setCell ⟨rb,i,none⟩ v):=by
 have b:But (λk=>k=rb\/Q.InA a k) w w5:=(But.ofBelow (S:=λk=>k=rb\/Q.InA a k) hb).trans d (λ_ _ e=>.inr e)
 exact(b.setCell (p:=⟨rb,i,none⟩) (λ_=>.inl rfl) v).below (λk j e=>by
  rcases e with e|⟨y,h,e⟩
  . omega
  . have:=i8 f h;omega)
theorem Rn.apC{D:Rd}(h:Rn w W rb D){x:Int}(s:Q.Gw 3 1 w5 (some ⟨g,0,none⟩) c (D.C.length+1) (Q.vi D.C++[Value.int .i64 x]))(I:New W D.aC (some ⟨g,0,none⟩))(j:But (Q.InA D.aC) W w5):
 Rn w (w5.setCell ⟨rb,1,none⟩ (.slice (some ⟨g,0,none⟩) (D.C.length+1) c)) rb {D with aC:=some ⟨g,0,none⟩,cC:=c,C:=D.C++[x]}:=by
 have E:∀{t:TypeId}{k:Nat}{cs:Array Value},W.heap[k]?=some (.cells cs t (0,0))->t≠3->¬Q.InA D.aC k:=λm r ⟨y,d,e⟩=>by
  obtain⟨f,b⟩:=h.cr.blk d;exact jy m b r e.symm
 have l:w5.heap[rb]?=some (.cells D.box 99 (0,0)):=j.same h.box (E h.box (by decide))
 have bs:But (λk=>k=rb) w5 (w5.setCell ⟨rb,1,none⟩ (.slice (some ⟨g,0,none⟩) (D.C.length+1) c)):=(But.refl (λk=>k=rb) w5).setCell (p:=⟨rb,1,none⟩) (λ_=>rfl) _
 have nb:∀{t:TypeId}{k:Nat}{cs:Array Value},w5.heap[k]?=some (.cells cs t (0,0))->t≠99->¬(k=rb):=λm r e=>jy m l r e
 have B:∀{e:TypeId}{sz:Nat}{a:Option Addr}{cap n:Nat}{C:List Value},e≠3->e≠99->Q.Gw e sz W a cap n C->Q.Gw e sz (w5.setCell ⟨rb,1,none⟩ (.slice (some ⟨g,0,none⟩) (D.C.length+1) c)) a cap n C:=λG H v=>by
  have A:=v.but j (λy d=>by obtain⟨f,b⟩:=v.blk d;exact E b G)
  exact A.but bs (λy d=>by obtain⟨f,b⟩:=A.blk d;exact nb b H)
 have mp:∀p:Pv,Pn w W p->Pn w (w5.setCell ⟨rb,1,none⟩ (.slice (some ⟨g,0,none⟩) (D.C.length+1) c)) p:=λp q=>by
  have J:=q.but j (λk ⟨y,d,e⟩=>by obtain⟨f,b⟩:=h.cr.blk d;exact⟨3,f,by rw[<-e];exact b,by decide,by decide⟩)
  exact J.but bs (λk e=>⟨99,D.box,by rw[e];exact l,by decide,by decide⟩)
 refine⟨?_,(by show Q.Gw _ _ _ _ _ (D.C++[x]).length _;rw[ae,<-Fg];exact s.but bs (λy d=>by obtain⟨f,b⟩:=s.blk d;exact nb b (by decide))),B (by decide) (by decide) h.lr,B (by decide) (by decide) h.pr,λp q=>mp p (h.pn p q),h.ps,h.nb,oK h.nC I h.b.size,h.nl,h.np,Rn.low h.b h.nC j h.nb⟩
 rw[aY _ _ _ _ _ _ l];show some (Obj.cells _ _ _)=some (Obj.cells (Rd.box _) _ _);unfold Rd.box;rw[ae];rfl
theorem Rn.apL{D:Rd}(h:Rn w W rb D){x:Bool}(s:Q.Gw 4 1 w5 (some ⟨g,0,none⟩) c (D.L.length+1) (vbl D.L++[Value.bool x]))(I:New W D.aL (some ⟨g,0,none⟩))(j:But (Q.InA D.aL) W w5):
 Rn w (w5.setCell ⟨rb,2,none⟩ (.slice (some ⟨g,0,none⟩) (D.L.length+1) c)) rb {D with aL:=some ⟨g,0,none⟩,cL:=c,L:=D.L++[x]}:=by
 have E:∀{t:TypeId}{k:Nat}{cs:Array Value},W.heap[k]?=some (.cells cs t (0,0))->t≠4->¬Q.InA D.aL k:=λm r ⟨y,d,e⟩=>by
  obtain⟨f,b⟩:=h.lr.blk d;exact jy m b r e.symm
 have l:w5.heap[rb]?=some (.cells D.box 99 (0,0)):=j.same h.box (E h.box (by decide))
 have bs:But (λk=>k=rb) w5 (w5.setCell ⟨rb,2,none⟩ (.slice (some ⟨g,0,none⟩) (D.L.length+1) c)):=(But.refl (λk=>k=rb) w5).setCell (p:=⟨rb,2,none⟩) (λ_=>rfl) _
 have nb:∀{t:TypeId}{k:Nat}{cs:Array Value},w5.heap[k]?=some (.cells cs t (0,0))->t≠99->¬(k=rb):=λm r e=>jy m l r e
 have B:∀{e:TypeId}{sz:Nat}{a:Option Addr}{cap n:Nat}{C:List Value},e≠4->e≠99->Q.Gw e sz W a cap n C->Q.Gw e sz (w5.setCell ⟨rb,2,none⟩ (.slice (some ⟨g,0,none⟩) (D.L.length+1) c)) a cap n C:=λG H v=>by
  have A:=v.but j (λy d=>by obtain⟨f,b⟩:=v.blk d;exact E b G)
  exact A.but bs (λy d=>by obtain⟨f,b⟩:=A.blk d;exact nb b H)
 have mp:∀p:Pv,Pn w W p->Pn w (w5.setCell ⟨rb,2,none⟩ (.slice (some ⟨g,0,none⟩) (D.L.length+1) c)) p:=λp q=>by
  have J:=q.but j (λk ⟨y,d,e⟩=>by obtain⟨f,b⟩:=h.lr.blk d;exact⟨4,f,by rw[<-e];exact b,by decide,by decide⟩)
  exact J.but bs (λk e=>⟨99,D.box,by rw[e];exact l,by decide,by decide⟩)
 refine⟨?_,B (by decide) (by decide) h.cr,(by show Q.Gw _ _ _ _ _ (D.L++[x]).length _;rw[ae,<-uR];exact s.but bs (λy d=>by obtain⟨f,b⟩:=s.blk d;exact nb b (by decide))),B (by decide) (by decide) h.pr,λp q=>mp p (h.pn p q),h.ps,h.nb,h.nC,oK h.nl I h.b.size,h.np,Rn.low h.b h.nl j h.nb⟩
 rw[aY _ _ _ _ _ _ l];show some (Obj.cells _ _ _)=some (Obj.cells (Rd.box _) _ _);unfold Rd.box;rw[ae];rfl
theorem Rn.apP{D:Rd}(h:Rn w W rb D){x:Pv}(I:Pn w W x)(K:x.pg.check=0\/x=Pv.zero)(r:Q.Gw 31 5 w5 (some ⟨g,0,none⟩) c (D.P.length+1) (vpg D.P++x.cs.toList))(H:New W D.aP (some ⟨g,0,none⟩))(j:But (Q.InA D.aP) W w5):
 Rn w (w5.setCell ⟨rb,3,none⟩ (.slice (some ⟨g,0,none⟩) (D.P.length+1) c)) rb {D with aP:=some ⟨g,0,none⟩,cP:=c,P:=D.P++[x]}:=by
 have B:∀{t:TypeId}{k:Nat}{cs:Array Value},W.heap[k]?=some (.cells cs t (0,0))->t≠31->¬Q.InA D.aP k:=λm q ⟨y,d,e⟩=>by
  obtain⟨f,b⟩:=h.pr.blk d;exact jy m b q e.symm
 have l:w5.heap[rb]?=some (.cells D.box 99 (0,0)):=j.same h.box (B h.box (by decide))
 have bs:But (λk=>k=rb) w5 (w5.setCell ⟨rb,3,none⟩ (.slice (some ⟨g,0,none⟩) (D.P.length+1) c)):=(But.refl (λk=>k=rb) w5).setCell (p:=⟨rb,3,none⟩) (λ_=>rfl) _
 have nb:∀{t:TypeId}{k:Nat}{cs:Array Value},w5.heap[k]?=some (.cells cs t (0,0))->t≠99->¬(k=rb):=λm q e=>jy m l q e
 have A:∀{e:TypeId}{sz:Nat}{a:Option Addr}{cap n:Nat}{C:List Value},e≠31->e≠99->Q.Gw e sz W a cap n C->Q.Gw e sz (w5.setCell ⟨rb,3,none⟩ (.slice (some ⟨g,0,none⟩) (D.P.length+1) c)) a cap n C:=λE G s=>by
  have v:=s.but j (λy d=>by obtain⟨f,b⟩:=s.blk d;exact B b E)
  exact v.but bs (λy d=>by obtain⟨f,b⟩:=v.blk d;exact nb b G)
 have mp:∀p:Pv,Pn w W p->Pn w (w5.setCell ⟨rb,3,none⟩ (.slice (some ⟨g,0,none⟩) (D.P.length+1) c)) p:=λp hp=>by
  have J:=hp.but j (λk ⟨y,d,e⟩=>by obtain⟨f,b⟩:=h.pr.blk d;exact⟨31,f,by rw[<-e];exact b,by decide,by decide⟩)
  exact J.but bs (λk e=>⟨99,D.box,by rw[e];exact l,by decide,by decide⟩)
 refine⟨?_,A (by decide) (by decide) h.cr,A (by decide) (by decide) h.lr,(by show Q.Gw _ _ _ _ _ (D.P++[x]).length _;rw[ae,<-vO];exact r.but bs (λy d=>by obtain⟨f,b⟩:=r.blk d;exact nb b (by decide))),(λp hp=>by
  rcases bq.1 hp with hp|hp
  . exact mp p (h.pn p hp)
  . rw[aQ.1 hp];exact mp x I),(λp hp=>by
  rcases bq.1 hp with hp|hp
  . exact h.ps p hp
  . rw[aQ.1 hp];exact K),h.nb,h.nC,h.nl,oK h.np H h.b.size,Rn.low h.b h.np j h.nb⟩
 rw[aY _ _ _ _ _ _ l];show some (Obj.cells _ _ _)=some (Obj.cells (Rd.box _) _ _);unfold Rd.box;rw[ae];rfl
end Go.Proofs.YtbdkogimlbnlmaaGreat
namespace Go.Proofs.YtbdkogimlbnlmaaGreat.Q
open Tryz
open Go.RowKit Go.Shelf
attribute [local go_sem] Oper.semAt_some
theorem zU(n:Nat)(j:n<=65536)(w:World):(Instr.makeSlice 35 (.int .i64 0) (.int .i64 (n:Int))).run prog w=.ok (.slice (some ⟨w.heap.size,0,none⟩) 0 n) (w.alloc (.cells (vi (List.replicate n 0)).toArray 3)):=by
 obtain⟨f,d,g,h,i⟩:=dr nE;have b:=run_make (P:=prog) w 35 3 f (.int .i64 0) underlying35 d g .i64 .i64 (0:Nat) n (by omega) (by omega) (by rw[i];omega) (by omega)
 simp only[di,h,ee] at b;have e:madeCells (Value.int .i64 0).cells n=(vi (List.replicate n 0)).toArray:=pW n;rw[e] at b;exact b
theorem j9(w:World)(a:Option Addr)(n cap:Nat)(l:List Int)(r:Ir w a l)(m:n=l.length)(B:l.length<=65536):
 Calls prog 87 #[.slice a n cap] w λe K=>∃b d,e=.returned (.slice b n d)/\IOwn w K b d l:=by
 have D:=iJ r;have h:=iJ m;rw[<-m] at B;have V:=zU n B w;have p:=iJ (show IOwn w (w.alloc (.cells (vi (List.replicate n 0)).toArray 3)) (some ⟨w.heap.size,0,none⟩) n (l.take 0) from⟨Ig.mk (aF w _) (by simp) (by unfold maxLen;omega) (by simp[vi]) (by simp[vi]),λx f=>.inr (by cases f;exact ai _),al _ _⟩)
 clear r m;go_enter func87,ntmps87;go_wp2_with fail
 go_loopw [3,4] (λs i wr=>∃(j:Nat)(b:Option Addr)(d:Nat),j<=n/\i=.int .i64 (j:Int)/\s=.slice b j d/\IOwn w wr b d (l.take j)) (λ_ i _=>n-(intOf i).toNat)
 case atStart=>exact⟨0,_,n,az _,rfl,rfl,p.o⟩
 case round=>
  clear p;obtain⟨j,b,d,R,rfl,rfl,v⟩:=hrel;have O:=iJ v;clear v;by_cases N:j<n
  . have C:j<l.length:=by rw[<-h.o];exact N
    have U:(j:Int)<(n:Int):=by omega
    obtain⟨P,S,rfl,I⟩:=(D.o.keep O.o.b).at C;have tl:(l.take j).length=j:=by rw[bi,<-h.o];omega
    have q:=iJ (jO l 0 C);obtain⟨x,f⟩:∃x,l.getD j 0=x:=⟨_,rfl⟩;rw[f] at I q;have k:=al wr (.cells #[.int .i64 x] 3);have J:=jd wr (.int .i64 x) 3;have E:=iJ (O.o.keep k);have H:=iJ E.o.r;have L:=iJ k;clear f k;go_wp2_with (refine jN rfl _ _ rfl b j d (l.take j) (by simp[Act.eval]) tl.symm H.o ⟨wr.heap.size,0,none⟩ 1 x (by simp[Act.eval]) J (by rw[tl];omega) ?_;intro g c2 T y t A M;have G:=iJ (O.o.step L.o y t A);clear y t A M)
    go_roundw
    case rel=>exact⟨j+1,_,c2,by omega,by go_num,rfl,by rw[q.o];exact G.o⟩
    case measure=>simp[intOf];omega
  . obtain rfl:j=n:=by omega
    go_wp2;go_ret;exact⟨b,d,rfl,by have o:=O.o;rwa [h.o,cJ] at o⟩
end Go.Proofs.YtbdkogimlbnlmaaGreat.Q
namespace Go.Proofs.YtbdkogimlbnlmaaGreat
open Tryz
open Go.RowKit
variable {cs:Array Value}{r x:Int}{B:List Bool}{C:List Int}{P:List Pv}{cB cap g gB i iB iC iL n rb w1s:Nat}{aB:Option Addr}{D:Rd}{t:TypeId}{W W' w wx wy:World}
theorem yh(w:World)(n r:Int)(h:Q.js n r=false):Calls prog 33 #[.int .i64 n,.int .i64 r] w λe p=>e=.returned (.tuple #[.pointer none,.int .i64 1])/\p=w:=by
 have d:=iJ (qC w r);unfold Q.js at h;by_cases b:n<1
 . have f:decide (n<1)=true:=ax b;clear h;go_enter func33,ntmps33;go_wp2_with fail
   go_ret2
   exact⟨rfl,rfl⟩
 . by_cases j:65536<n
   . have f:decide (n<1)=false:=au b;have m:decide (65536<n)=true:=ax j;clear h;go_enter func33,ntmps33;go_wp2_with fail
     go_ret2
     exact⟨rfl,rfl⟩
   . have f:decide (n<1)=false:=au b;have m:decide (65536<n)=false:=au j
     have k:(decide (2<=r)&&decide (r<65536))=false:=by
      rw[ax (show 1<=n by omega),ax (show n<=65536 by omega)] at h
      simpa using h
     rw[k] at d;clear h k;go_enter func33,ntmps33;go_wp2_with fail
     refine d.o.mono ?_;rintro _ q ⟨rfl,l⟩;rw[l];clear l;go_wp2_with fail
     go_ret2
     exact⟨rfl,rfl⟩
def Rd.Fresh(D:Rd)(r:Int)(i:Nat):Prop:=D.R=r/\D.C=List.replicate i 0/\D.L=List.replicate i false/\D.P=List.replicate i Pv.zero/\D.aA=none/\D.nA=0/\D.cA=0/\D.fl=0/\D.hush=false
theorem Rn.start(r:Int):Rn w (w.alloc (.cells #[.int .i64 r,.slice none 0 0,.slice none 0 0,.slice none 0 0,.slice none 0 0,.int .i64 0,.bool false] 99)) w.heap.size ⟨r,none,0,[],none,0,[],none,0,[],none,0,0,0,false⟩:=
 ⟨aH _ _,Q.Gw.nil _ _ _,Q.Gw.nil _ _ _,Q.Gw.nil _ _ _,λp b=>absurd b (bm),λp b=>absurd b (bm),ai _,New.none _ _,New.none _ _,New.none _ _,al _ _⟩
theorem qy{v:Value}(h:W.heap[g]?=some (.cells #[v] t (0,0))):∀j u,[v][j]?=some u->W.cell? ((⟨g,0,none⟩:Addr).add j)=some u:=by
 intro j u b;rw[Addr.add_mid,bN,ay _ _ _ _ _ _ h,<-b];simp
theorem zero_add{W:World}{g:Nat}{t:TypeId}(h:W.heap[g]?=some (.cells #[.int .i64 0,.int .i64 0,.slice none 0 0,.slice none 0 0,.int .i64 0] t (0,0))):∀j u,Pv.zero.cs.toList[j]?=some u->W.cell? ((⟨g,0,none⟩:Addr).add j)=some u:=by
 intro j u b;rw[Addr.add_mid,bN,ay _ _ _ _ _ _ h,<-b];simp[Pv.zero,Pv.cs]
theorem Dv:∀u∈Pv.zero.cs.toList,u.oneCell'=true:=by
 intro u b;simp[Pv.zero,Pv.cs] at b;rcases b with rfl|rfl|rfl<;>rfl
theorem oP{α:Type}(i:Nat)(x:α):List.replicate i x++[x]=List.replicate (i+1) x:=by rw[List.replicate_succ']
theorem vQ(w:World)(n:Nat)(r:Int)(h:Q.js n r=true):Calls prog 33 #[.int .i64 (n:Int),.int .i64 r] w λe w'=>∃(rb:Nat)(D:Rd),e=.returned (.tuple #[.pointer (some ⟨rb,0,none⟩),.int .i64 0])/\Rn w w' rb D/\D.Fresh r n:=by
 have RA:=iJ (qC w r);unfold Q.js at h;simp only[bO,bE] at h;rw[ax (show 2<=r by omega),ax (show r<65536 by omega)] at RA
 have d1:decide ((n:Int)<1)=false:=au (by omega)
 have d2:decide ((65536:Int)<(n:Int))=false:=au (by omega)
 have h6:n<=65536:=by omega
 have S0:=iJ (Rn.start (w:=w) r);clear h;go_enter func33,ntmps33;go_wp2_with fail
 refine RA.o.mono ?_;rintro _ wq ⟨rfl,af⟩;rw[af];clear af;go_wp2_with fail
 generalize (w.alloc (.cells #[.int .i64 r,.slice none 0 0,.slice none 0 0,.slice none 0 0,.slice none 0 0,.int .i64 0,.bool false] 99))=w1 at *;go_loopw [7] (λvi wx=>∃(i:Nat)(D:Rd),i<=n/\vi=.int .i64 (i:Int)/\Rn w wx w.heap.size D/\D.Fresh r i) (λvi _=>n-(intOf vi).toNat)
 case atStart=>exact⟨0,_,az _,rfl,S0.o,rfl,rfl,rfl,rfl,rfl,rfl,rfl,rfl,rfl⟩
 case round=>
  clear S0;obtain⟨i,D,hi,rfl,hR,T⟩:=hrel;have u:=iJ hR;have FF:=iJ T;have LC:D.C.length=i:=by rw[T.2.1,bh]
  have LL:D.L.length=i:=by rw[T.2.2.1,bh]
  have LP:D.P.length=i:=by rw[T.2.2.2.1,bh]
  have p:=iJ LC;have q:=iJ LL;have s:=iJ LP;clear hR T LC LL LP;by_cases an:i<n
  . have am:(i:Int)<(n:Int):=by omega
    have ab:i+1<=maxLen:=by unfold maxLen;omega
    obtain⟨Y,H,I,J,O,R,S⟩:=u.o.cells;rw[p.o] at H;rw[q.o] at I;rw[s.o] at J;have y:=u.o.lb;have v:=iJ (al wr (.cells #[Value.int .i64 0] 3));have A:=iJ (aH wr (.cells #[Value.int .i64 0] 3));have b:=iJ (u.o.keep v.o);have k:=iJ b.o.cr;rw[p.o] at k;go_wp2_with (at_builtin;refine jM underlying35 BV rfl (by decide) rfl _ _ rfl D.aC i D.cC (Q.vi D.C) rfl k.o ⟨wr.heap.size,0,none⟩ 1 [Value.int .i64 0] rfl rfl (qy A.o) (λag hu=>by rw[aQ.1 hu];rfl) ab (by omega) ?_)
    intro gC cC j E G m;have N:=iJ (b.o.apC (x:=0) (by rw[p.o];exact E) G m)
    rw[p.o] at N;have l:j.heap[w.heap.size]?=some (.cells D.box 99 (0,0)):=m.same b.o.box (λ⟨ac,V,e⟩=>by obtain⟨ad,U⟩:=b.o.cr.blk V;exact jy b.o.box U (by decide) e.symm)
    have y1:j.cell? ⟨w.heap.size,1,none⟩=some (.slice D.aC i D.cC):=by rw[ay _ _ _ _ _ _ l];show some (Value.slice D.aC D.C.length D.cC)=_;rw[p.o]
    have z1:j.frozen? ⟨w.heap.size,1,none⟩=false:=by simp[World.frozen?,l]
    clear E G m l Y H I J O R S b k A v y;go_upto_region 8 with fail
    generalize Z:(j.setCell ⟨w.heap.size,1,none⟩ (.slice (some ⟨gC,0,none⟩) (i+1) cC))=w6 at *;clear Z y1 z1;obtain⟨d,K⟩:∃X,({D with aC:=some ⟨gC,0,none⟩,cC:=cC,C:=D.C++[0]}:Rd)=X:=⟨_,rfl⟩;rw[K] at N;have aj:Hid (d.C.length=i+1):=by show _=_;rw[<-K];show(D.C++[0]).length=_;rw[ae,p.o];rfl
    have q:Hid (d.L.length=i):=by show _=_;rw[<-K];exact q.o
    have s:Hid (d.P.length=i):=by show _=_;rw[<-K];exact s.o
    replace p:=aj
    have ah:=iJ K;clear K;obtain⟨Y,H,I,J,O,R,S⟩:=N.o.cells;rw[p.o] at H;rw[q.o] at I;rw[s.o] at J;have y:=N.o.lb;have v:=iJ (al w6 (.cells #[Value.bool false] 4));have A:=iJ (aH w6 (.cells #[Value.bool false] 4));have b:=iJ (N.o.keep v.o);have k:=iJ b.o.lr;rw[q.o] at k;go_wp2_with (at_builtin;refine jM underlying64 uV rfl (by decide) rfl _ _ rfl d.aL i d.cL (vbl d.L) rfl k.o ⟨w6.heap.size,0,none⟩ 1 [Value.bool false] rfl rfl (qy A.o) (λag hu=>by rw[aQ.1 hu];rfl) ab (by omega) ?_)
    intro gL cL j E G m;have R2:=iJ (b.o.apL (x:=false) (by rw[q.o];exact E) G m)
    rw[q.o] at R2;have l:j.heap[w.heap.size]?=some (.cells d.box 99 (0,0)):=m.same b.o.box (λ⟨ac,V,e⟩=>by obtain⟨ad,U⟩:=b.o.lr.blk V;exact jy b.o.box U (by decide) e.symm)
    have y2:j.cell? ⟨w.heap.size,2,none⟩=some (.slice d.aL i d.cL):=by rw[ay _ _ _ _ _ _ l];show some (Value.slice d.aL d.L.length d.cL)=_;rw[q.o]
    have z2:j.frozen? ⟨w.heap.size,2,none⟩=false:=by simp[World.frozen?,l]
    clear E G m l Y H I J O R S b k A v y;go_upto_region 9 with fail
    generalize Z:(j.setCell ⟨w.heap.size,2,none⟩ (.slice (some ⟨gL,0,none⟩) (i+1) cL))=w7 at *;clear Z y2 z2;obtain⟨f,M⟩:∃X,({d with aL:=some ⟨gL,0,none⟩,cL:=cL,L:=d.L++[false]}:Rd)=X:=⟨_,rfl⟩;rw[M] at R2;have p:Hid (f.C.length=i+1):=by show _=_;rw[<-M];exact p.o
    have ak:Hid (f.L.length=i+1):=by show _=_;rw[<-M];show(d.L++[false]).length=_;rw[ae,q.o];rfl
    have s:Hid (f.P.length=i):=by show _=_;rw[<-M];exact s.o
    replace q:=ak
    have ai:=iJ M;clear M;obtain⟨Y,H,I,J,O,R,S⟩:=R2.o.cells;rw[p.o] at H;rw[q.o] at I;rw[s.o] at J;have y:=R2.o.lb;have v:=iJ (al w7 (.cells #[.int .i64 0,.int .i64 0,.slice none 0 0,.slice none 0 0,.int .i64 0] 31));have A:=iJ (aH w7 (.cells #[.int .i64 0,.int .i64 0,.slice none 0 0,.slice none 0 0,.int .i64 0] 31));have b:=iJ (R2.o.keep v.o);have k:=iJ b.o.pr;rw[s.o] at k;go_wp2_with (at_builtin;refine jM underlying53 lW rfl (by decide) rfl _ _ rfl f.aP i f.cP (vpg f.P) rfl k.o ⟨w7.heap.size,0,none⟩ 1 Pv.zero.cs.toList rfl rfl (zero_add A.o) Dv ab (by omega) ?_)
    intro gP cP j E G m;have R3:=iJ (b.o.apP (x:=Pv.zero) (Pn.zero _ _) (.inr rfl) (by rw[s.o];exact E) G m)
    rw[s.o] at R3;have l:j.heap[w.heap.size]?=some (.cells f.box 99 (0,0)):=m.same b.o.box (λ⟨ac,V,e⟩=>by obtain⟨ad,U⟩:=b.o.pr.blk V;exact jy b.o.box U (by decide) e.symm)
    have y3:j.cell? ⟨w.heap.size,3,none⟩=some (.slice f.aP i f.cP):=by rw[ay _ _ _ _ _ _ l];show some (Value.slice f.aP f.P.length f.cP)=_;rw[s.o]
    have z3:j.frozen? ⟨w.heap.size,3,none⟩=false:=by simp[World.frozen?,l]
    clear E G m l Y H I J O R S b k A v y;go_upto_region 6 with fail
    generalize Z:(j.setCell ⟨w.heap.size,3,none⟩ (.slice (some ⟨gP,0,none⟩) (i+1) cP))=w8 at *;clear Z y3 z3;obtain⟨D3,aa⟩:∃X,({f with aP:=some ⟨gP,0,none⟩,cP:=cP,P:=f.P++[Pv.zero]}:Rd)=X:=⟨_,rfl⟩;rw[aa] at R3
    have F3:Hid (D3.Fresh r (i+1)):=by
     show Rd.Fresh _ _ _;obtain⟨q1,q2,q3,q4,q5,q6,q7,q8,q9⟩:=FF.o;rw[<-aa,<-ai.o,<-ah.o];refine⟨q1,?_,?_,?_,q5,q6,q7,q8,q9⟩
     . show D.C++[0]=_;rw[q2];exact oP i 0
     . show D.L++[false]=_;rw[q3];exact oP i false
     . show D.P++[Pv.zero]=_;rw[q4];exact oP i Pv.zero
    clear aa;go_wp2_with fail
    go_roundw
    case rel=>exact⟨i+1,D3,by omega,by go_num,R3.o,F3.o⟩
    case measure=>simp[intOf];omega
  . obtain rfl:i=n:=by omega
    go_wp2_with fail
    go_ret2
    exact⟨w.heap.size,D,rfl,u.o,FF.o⟩
theorem Q.Gw.setc{e:TypeId}{sz:Nat}{C:List Value}(h:Q.Gw e sz w (some ⟨g,0,none⟩) cap n C)(k:Nat)(v:Value):Q.Gw e sz (w.setCell ⟨g,k,none⟩ v) (some ⟨g,0,none⟩) cap n (C.set k v):=by
 have b:=h.length;rcases h.cases with⟨h0,_⟩|⟨g',cur,h0,hg,h1,h2,h3,h4⟩
 . cases h0
 . cases h0;refine Q.Gw.mk (by rw[aM];exact b) (aY _ _ _ _ _ _ hg) h1 h2 (by simpa using h3) ?_
   rw[ew,fY,h4]
theorem Q.Gw.free{e:TypeId}{sz:Nat}{C:List Value}(h:Q.Gw e sz w (some ⟨g,0,none⟩) cap n C)(k:Nat):w.frozen? ⟨g,k,none⟩=false:=by
 rcases h.cases with⟨h0,_⟩|⟨g',cur,h0,hg,_⟩
 . cases h0
 . cases h0;exact bG _ _ _ _ _ hg
theorem GA(l:List Int)(k:Nat)(x:Int):(Q.vi l).set k (.int .i64 x)=Q.vi (l.set k x):=by simp[Q.vi,List.map_set]
theorem sZ(l:List Bool)(k:Nat)(x:Bool):(vbl l).set k (.bool x)=vbl (l.set k x):=by simp[vbl,List.map_set]
theorem Q.Gw.there5(h:Q.Gw 31 5 w (some ⟨g,0,none⟩) cap P.length (vpg P)){k:Nat}(d:k<P.length):w.there g (k*5) 5:=by
 rcases h.cases with⟨h0,_⟩|⟨g',cur,h0,hg,h1,h2,h3,h4⟩
 . cases h0
 . cases h0;intro j b;have e:P.length*5<=cap*5:=dT _ h1;constructor
   . rw[ay _ _ _ _ _ _ hg];simp[show k*5+j<cur.size by omega]
   . exact bG _ _ _ _ _ hg
theorem Q.Gw.setp(h:Q.Gw 31 5 w (some ⟨g,0,none⟩) cap P.length (vpg P))(k:Nat)(v:Pv):Q.Gw 31 5 (w.setCells g (k*5) v.cs.toList) (some ⟨g,0,none⟩) cap (P.set k v).length (vpg (P.set k v)):=by
 rcases h.cases with⟨h0,_⟩|⟨g',cur,h0,hg,h1,h2,h3,h4⟩
 . cases h0
 . cases h0;obtain⟨H,s,y,A⟩:=ma g 31 v.cs.toList w (k*5) cur hg;have E:v.cs.toList.length=5:=rfl;refine Q.Gw.mk (nY _) s (by rw[aM];exact h1) h2 (by rw[y];exact h3) ?_
   rw[aM];apply dX;intro i;have G:P.length*5<=cap*5:=dT _ h1;by_cases b:i<P.length*5
   . have q:(vpg P)[i]?=cur[i]?:=by rw[<-h4,cH,if_pos b];simp
     have d:i/5<P.length:=by omega
     have j:i=i/5*5+i%5:=by omega
     have l:i%5<5:=fP _ (by decide)
     rw[cH,if_pos b,fk,A i (by omega),E]
     have p:(vpg (P.set k v))[i]?=((P.set k v).getD (i/5) Pv.zero).cs.toList[i%5]?:=by
      conv=>lhs;rw[j]
      exact nf (P.set k v) (i/5) (i%5) (by rw[aM];exact d) l
     have m:(vpg P)[i]?=(P.getD (i/5) Pv.zero).cs.toList[i%5]?:=by
      conv=>lhs;rw[j]
      exact nf P (i/5) (i%5) d l
     rw[p];by_cases f:k*5<=i/\i<k*5+5
     . have e:i/5=k:=by omega
       rw[if_pos f,e,show i-k*5=i%5 by omega]
       simp[show k<P.length by omega]
     . have e:¬k=i/5:=by omega
       rw[if_neg f,<-q,m];simp[bQ e]
   . rw[cH,if_neg b,cM (by rw[nY,aM];omega)]
theorem Rn.but1(h:Rn w W rb D)(b:But (λk=>k=g) W W')(E:w.heap.size<=g)(d:W.heap[g]?=some (.cells cs t (0,0)))(j:t≠99)(l:t≠5)(m:t≠51):
 W'.heap[rb]?=some (.cells D.box 99 (0,0))/\(∀p,Pn w W p->Pn w W' p)/\Below w.heap.size w W'/\∀{e:TypeId}{sz:Nat}{a:Option Addr}{cap n:Nat}{C:List Value},e≠t->Q.Gw e sz W a cap n C->Q.Gw e sz W' a cap n C:=by
 refine⟨b.same h.box (λe=>jy h.box d (λe=>j e.symm) e),λp v=>v.but b (λk e=>⟨t,cs,by rw[e];exact d,l,m⟩),?_,λs f=>f.but b (λy A e=>by obtain⟨H,q⟩:=f.blk A;exact jy q d s e)⟩
 exact((But.ofBelow (S:=λk=>k=g) h.b).trans b (λ_ _ e=>e)).below (λk G e=>by omega)
theorem Rn.setC(h:Rn w W rb D)(b:D.aC=some ⟨g,0,none⟩)(k:Nat)(x:Int):Rn w (W.setCell ⟨g,k,none⟩ (.int .i64 x)) rb {D with C:=D.C.set k x}:=by
 obtain⟨s,m⟩:=h.cr.blk b;have bs:But (λk=>k=g) W (W.setCell ⟨g,k,none⟩ (.int .i64 x)):=(But.refl (λk=>k=g) W).setCell (p:=⟨g,k,none⟩) (λ_=>rfl) _
 obtain⟨f,j,l,d⟩:=h.but1 bs (i8 h.nC b) m (by decide) (by decide) (by decide)
 have e:=h.cr;rw[b] at e;refine⟨?_,?_,d (by decide) h.lr,d (by decide) h.pr,λp q=>j p (h.pn p q),h.ps,h.nb,h.nC,h.nl,h.np,l⟩
 . rw[f];unfold Rd.box;rw[aM]
 . show Q.Gw _ _ _ D.aC _ (D.C.set k x).length _;rw[b,aM,<-GA];exact e.setc k _
theorem Rn.setL(h:Rn w W rb D)(b:D.aL=some ⟨g,0,none⟩)(k:Nat)(x:Bool):Rn w (W.setCell ⟨g,k,none⟩ (.bool x)) rb {D with L:=D.L.set k x}:=by
 obtain⟨s,m⟩:=h.lr.blk b;have bs:But (λk=>k=g) W (W.setCell ⟨g,k,none⟩ (.bool x)):=(But.refl (λk=>k=g) W).setCell (p:=⟨g,k,none⟩) (λ_=>rfl) _
 obtain⟨f,j,l,d⟩:=h.but1 bs (i8 h.nl b) m (by decide) (by decide) (by decide)
 have e:=h.lr;rw[b] at e;refine⟨?_,d (by decide) h.cr,?_,d (by decide) h.pr,λp q=>j p (h.pn p q),h.ps,h.nb,h.nC,h.nl,h.np,l⟩
 . rw[f];unfold Rd.box;rw[aM]
 . show Q.Gw _ _ _ D.aL _ (D.L.set k x).length _;rw[b,aM,<-sZ];exact e.setc k _
theorem Rn.setP(h:Rn w W rb D)(d:D.aP=some ⟨g,0,none⟩)(k:Nat)(x:Pv)(s:Pn w W x)(v:x.pg.check=0\/x=Pv.zero):Rn w (W.setCells g (k*5) x.cs.toList) rb {D with P:=D.P.set k x}:=by
 obtain⟨y,q⟩:=h.pr.blk d;have bs:=jr g x.cs.toList W (k*5);obtain⟨l,e,m,f⟩:=h.but1 bs (i8 h.np d) q (by decide) (by decide) (by decide)
 have j:=h.pr;rw[d] at j;refine⟨?_,f (by decide) h.cr,f (by decide) h.lr,?_,λp b=>?_,λp b=>?_,h.nb,h.nC,h.nl,h.np,m⟩
 . rw[l];unfold Rd.box;rw[aM]
 . show Q.Gw _ _ _ D.aP _ (D.P.set k x).length _;rw[d];exact j.setp k x
 . rcases eV b with b|rfl
   . exact e p (h.pn p b)
   . exact e p s
 . rcases eV b with b|rfl
   . exact h.ps p b
   . exact v
theorem Rn.foreign(h:Rn w W rb D)(d:But (λk=>k=g) W W')(m:w.heap.size<=g)(v:W.heap[g]?=some (.cells cs 4 (0,0)))(q:∀x,D.aL=some x->x.block≠g):Rn w W' rb D:=by
 obtain⟨f,j,l,b⟩:=h.but1 d m v (by decide) (by decide) (by decide)
 exact⟨f,b (by decide) h.cr,h.lr.but d (λy A e=>q y A e),b (by decide) h.pr,λp s=>j p (h.pn p s),h.ps,h.nb,h.nC,h.nl,h.np,l⟩
def ldG(cnt:Int->Int):(Int->Option Pg)->List (Int×Pg)->Nat×(Int->Option Pg)
 |f,[]=>(0,f)
 |f,(n,p)::T=>if ¬0<cnt n then (15,f) else if (f n).isSome=true then (10,f) else if p.check≠0 then (p.check,f) else ldG cnt (λk=>if k=n then some p else f k) T
def iU(C:List Int)(z:Int):Int:=if 1<=z/\z<=C.length then C.getD (z-1).toNat 0 else 0
def nmc(x:Int×Pv):List Value:=.int .i64 x.1::x.2.cs.toList
def nm0:Int×Pv:=(0,Pv.zero)
structure Nm(w:World)(a:Option Addr)(L:List (Int×Pv)):Prop where
 c:∀j,j<L.length->∃g off,a=some ⟨g,off,none⟩/\∀k u,(nmc (L.getD j nm0))[k]?=some u->w.cell? ⟨g,off+j*6+k,none⟩=some u
 p:∀x∈L,Pi w x.2/\N64 x.1
theorem Nm.keep{l:World}{a:Option Addr}{L:List (Int×Pv)}(h:Nm w a L)(hb:Below w.heap.size w l):Nm l a L:=⟨λj m=>by
 obtain⟨g,off,e,b⟩:=h.c j m;exact⟨g,off,e,λk u d=>(hb.cell (p:=⟨g,off+j*6+k,none⟩) (block_lt_of_cell (b k u d))).trans (b k u d)⟩,λx f=>⟨(h.p x f).1.keep hb,(h.p x f).2⟩⟩
def nmg(L:List (Int×Pv)):List (Int×Pg):=L.map λx=>(x.1,x.2.pg)
theorem pX{α:Type}(C:List α)(n i:Nat)(d:α)(h:C.length=n)(hi:i<n)(x:α)(f:C.getD i d=x)(z:α):(C.take i++List.replicate (n-i) z).set i x=C.take (i+1)++List.replicate (n-(i+1)) z:=by
 have b:(C.take i).length=i:=by rw[bi];omega
 have e:C[i]'(by omega)=x:=by rw[<-f];simp[show i<C.length by omega]
 rw[ed _ _ (by omega),b,df,dS (by omega:i<C.length),e,show n-i=(n-(i+1))+1 by omega,gU,eZ,aU]
 rfl
structure La(w wx:World)(w1s rb:Nat)(r:Int)(C:List Int)(n i iL iB:Nat)(D:Rd)(aB:Option Addr)(cB:Nat):Prop where
 q:Rn w wx rb D
 hR:D.R=r
 hC:D.C=C.take i++List.replicate (n-i) 0
 hL:D.L=(C.map λc=>decide (0<c)).take iL++List.replicate (n-iL) false
 hP:D.P=List.replicate n Pv.zero
 ha:D.aA=none/\D.nA=0/\D.cA=0/\D.fl=0/\D.hush=false
 lw:∀x,D.aL=some x->x.block<w1s
 hb:Q.Gw 4 1 wx aB cB iB (vbl (List.replicate iB false))
 bn:∀x,aB=some x->w1s<=x.block
 ok:∀j,j<iB->0<=C.getD j 0/\C.getD j 0<=r
 sz:w.heap.size<=w1s/\w1s<=wx.heap.size
theorem La.keep(h:La w wx w1s rb r C n i iL iB D aB cB)(hb:Below wx.heap.size wx wy):La w wy w1s rb r C n i iL iB D aB cB:=
 ⟨h.q.keep hb,h.hR,h.hC,h.hL,h.hP,h.ha,h.lw,h.hb.keep hb,h.bn,h.ok,⟨h.sz.1,aO h.sz.2 hb.size⟩⟩
theorem La.lens(h:La w wx w1s rb r C n i iL iB D aB cB)(b:C.length=n)(hi:i<=n)(d:iL<=n):D.C.length=n/\D.L.length=n/\D.P.length=n:=by
 rw[h.hC,h.hL,h.hP];simp;omega
theorem La.c1{b:Nat}(h:La w W w1s rb r C n i iL iB D aB cB)(j:C.length=n)(hi:i<n)(d:D.aC=some ⟨b,0,none⟩)(l:C.getD i 0=x):
 La w (W.setCell ⟨b,i,none⟩ (.int .i64 x)) w1s rb r C n (i+1) iL iB {D with C:=D.C.set i x} aB cB:=by
 obtain⟨s,q⟩:=h.q.cr.blk d;refine⟨h.q.setC d i x,h.hR,?_,h.hL,h.hP,h.ha,h.lw,?_,h.bn,h.ok,⟨h.sz.1,?_⟩⟩
 . show D.C.set i _=_;rw[h.hC];exact pX C n i 0 j hi _ l 0
 . exact h.hb.but ((But.refl (λk=>k=b) W).setCell (p:=⟨b,i,none⟩) (λ_=>rfl) (.int .i64 x)) (λy m e=>by
    obtain⟨c2,f⟩:=h.hb.blk m;exact jy f q (by decide) e)
 . exact aO h.sz.2 ((But.refl (λk=>k=b) W).setCell (p:=⟨b,i,none⟩) (λ_=>rfl) (.int .i64 x)).size
theorem La.c2{b:Nat}(h:La w W w1s rb r C n iC i iB D aB cB)(f:C.length=n)(hi:i<n)(d:D.aL=some ⟨b,0,none⟩)(j:C.getD i 0=x):
 La w (W.setCell ⟨b,i,none⟩ (.bool (decide (0<x)))) w1s rb r C n iC (i+1) iB {D with L:=D.L.set i (decide (0<x))} aB cB:=by
 have m:=h.lw _ d;refine⟨h.q.setL d i _,h.hR,h.hC,?_,h.hP,h.ha,h.lw,?_,h.bn,h.ok,⟨h.sz.1,?_⟩⟩
 . show D.L.set i _=_;rw[h.hL];refine pX _ n i false (by rw[aZ];exact f) hi _ ?_ false
   rw[<-j];simp[show i<C.length by omega]
 . exact h.hb.but ((But.refl (λk=>k=b) W).setCell (p:=⟨b,i,none⟩) (λ_=>rfl) _) (λy l e=>by
    have:=h.bn y l;simp only at m;omega)
 . exact aO h.sz.2 ((But.refl (λk=>k=b) W).setCell (p:=⟨b,i,none⟩) (λ_=>rfl) (.bool (decide (0<x)))).size
theorem La.c3{w5:World}{c:Nat}(h:La w W w1s rb r C n iC iL i D aB cB)(I:0<=C.getD i 0/\C.getD i 0<=r)(s:Q.Gw 4 1 w5 (some ⟨g,0,none⟩) c (i+1) (vbl (List.replicate i false)++[.bool false]))(E:New W aB (some ⟨g,0,none⟩))(d:But (Q.InA aB) W w5):
 La w w5 w1s rb r C n iC iL (i+1) D (some ⟨g,0,none⟩) c:=by
 have q:∀{t:TypeId}{k:Nat}{cs:Array Value},W.heap[k]?=some (.cells cs t (0,0))->t≠4->¬Q.InA aB k:=λv H ⟨y,b,e⟩=>by
  obtain⟨l,f⟩:=h.hb.blk b;exact jy v f H e.symm
 have A:w1s<=g:=by
  rcases E ⟨g,0,none⟩ rfl with⟨z,m,e⟩|e
  . have e:z.block=g:=e;rw[<-e];exact h.bn z m
  . exact aO h.sz.2 e
 refine⟨⟨d.same h.q.box (q h.q.box (by decide)),h.q.cr.but d (λy b=>by obtain⟨l,f⟩:=h.q.cr.blk b;exact q f (by decide)),h.q.lr.but d (λy b ⟨z,m,e⟩=>?_),h.q.pr.but d (λy b=>by obtain⟨l,f⟩:=h.q.pr.blk b;exact q f (by decide)),λp G=>(h.q.pn p G).but d (λk ⟨y,b,e⟩=>?_),h.q.ps,h.q.nb,h.q.nC,h.q.nl,h.q.np,?_⟩,h.hR,h.hC,h.hL,h.hP,h.ha,h.lw,by rw[uR,oP] at s;exact s,λy b=>by cases b;exact A,λj J=>?_,⟨h.sz.1,aO h.sz.2 d.size⟩⟩
 . have:=h.lw y b;have:=h.bn z m;omega
 . obtain⟨l,f⟩:=h.hb.blk b;exact⟨4,l,by rw[<-e];exact f,by decide,by decide⟩
 . exact((But.ofBelow (S:=Q.InA aB) h.q.b).trans d (λ_ _ e=>e)).below (λk v ⟨y,b,e⟩=>by have:=h.bn y b;have:=h.sz.1;omega)
 . by_cases e:j=i
   . rw[e];exact I
   . exact h.ok j (by omega)
def jY(a:Option Addr)(k:Nat):Bool:=match a with
 |none=>false
 |some x=>decide (x.block=k)
theorem i9{a:Option Addr}{k:Nat}:jY a k=true↔∃x,a=some x/\x.block=k:=by
 cases a with
 |none=>simp[jY]
 |some x=>simp[jY]
def kQ(w wx:World)(rb:Nat)(D:Rd)(k:Nat):Nat:=if k=rb then 1 else if jY D.aC k=true then 2 else if jY D.aL k=true then 3 else if jY D.aP k=true then 4 else if w.heap.size<=k/\k<wx.heap.size then 6 else 0
theorem Rn.rq(h:Rn w wx rb D)(T:D.L.length=D.C.length)(U:D.P.length=D.C.length)(S:D.C.length<=65536):Rq wx rb D (kQ w wx rb D)/\∀k,kQ w wx rb D k≠0->w.heap.size<=k:=by
 have J:∀{t:TypeId}{k:Nat}{cs:Array Value},wx.heap[k]?=some (.cells cs t (0,0))->t≠99->k≠rb:=λd j=>jy d h.box j
 have m:∀{t e:TypeId}{sz k:Nat}{cs:Array Value}{a:Option Addr}{cap n:Nat}{C:List Value},Q.Gw e sz wx a cap n C->wx.heap[k]?=some (.cells cs t (0,0))->t≠e->¬jY a k=true:=λs d j e=>by
  obtain⟨x,b,e⟩:=i9.1 e;obtain⟨y,f⟩:=s.blk b;exact jy d f j e.symm
 have R:∀{t:TypeId}{k:Nat}{cs:Array Value},wx.heap[k]?=some (.cells cs t (0,0))->t≠99->t≠3->t≠4->t≠31->w.heap.size<=k->kQ w wx rb D k=6:=λd A E G H I=>by
  unfold kQ;rw[if_neg (J d A),if_neg (m h.cr d E),if_neg (m h.lr d G),if_neg (m h.pr d H),if_pos ⟨I,(af.1 d).1⟩]
 have low:∀k,kQ w wx rb D k≠0->w.heap.size<=k/\k<wx.heap.size:=λk d=>by
  unfold kQ at d;by_cases A:k=rb
  . rw[A];exact⟨h.nb,h.lb⟩
  . rw[if_neg A] at d;by_cases E:jY D.aC k=true
    . obtain⟨x,b,e⟩:=i9.1 E;rw[<-e];exact⟨i8 h.nC b,h.cr.lt b⟩
    . rw[if_neg E] at d;by_cases G:jY D.aL k=true
      . obtain⟨x,b,e⟩:=i9.1 G;rw[<-e];exact⟨i8 h.nl b,h.lr.lt b⟩
      . rw[if_neg G] at d;by_cases H:jY D.aP k=true
        . obtain⟨x,b,e⟩:=i9.1 H;rw[<-e];exact⟨i8 h.np b,h.pr.lt b⟩
        . rw[if_neg H] at d;by_cases I:w.heap.size<=k/\k<wx.heap.size
          . exact I
          . rw[if_neg I] at d;exact absurd rfl d
 have Y:∀{a:Option Addr}{c:Nat}{L:List Iv},Jw wx a c L->New w none a->∀x,a=some x->¬ ¬(kQ w wx rb D x.block=6):=λV K x b e=>by
  rcases V.cases with⟨h0,_⟩|⟨g,y,h0,s,_⟩
  . rw[h0] at b;cases b
  . rw[h0] at b;cases b;exact e (R s (by decide) (by decide) (by decide) (by decide) (i8 K h0))
 have O:∀{a:Option Addr}{c:Nat}{l:List Nat},Rw wx a c l->New w none a->∀x,a=some x->¬ ¬(kQ w wx rb D x.block=6):=λX K x b e=>by
  rcases X.cases with⟨h0,_⟩|⟨g,y,h0,s,_⟩
  . rw[h0] at b;cases b
  . rw[h0] at b;cases b;exact e (R s (by decide) (by decide) (by decide) (by decide) (i8 K h0))
 refine⟨⟨h.box,h.cr,h.lr,h.pr,λp N v M=>?_,h.ps,if_pos rfl,λx b=>?_,λx b=>?_,λx b=>?_,λk d=>(low k d).2,T,U,S⟩,λk d=>(low k d).1⟩
 . have q:=h.pn p N;exact Pn.pi (v:=w) ⟨q.it.but M (Y q.it q.itn),q.itn,q.d.but M (O q.d q.dn),q.dn,λt j=>⟨(q.fr t j).1.but M (O (q.fr t j).1 (q.fr t j).2.1),(q.fr t j).2⟩,q.dist,q.d8,q.ns,q.nk,q.nl,q.nn⟩ (aO (jU (h.ps p N)).2 (by decide))
 . obtain⟨y,f⟩:=h.cr.blk b;unfold kQ;rw[if_neg (J f (by decide)),if_pos (i9.2 ⟨x,b,rfl⟩)]
 . obtain⟨y,f⟩:=h.lr.blk b;unfold kQ;rw[if_neg (J f (by decide)),if_neg (m h.cr f (by decide)),if_pos (i9.2 ⟨x,b,rfl⟩)]
 . obtain⟨y,f⟩:=h.pr.blk b;unfold kQ;rw[if_neg (J f (by decide)),if_neg (m h.cr f (by decide)),if_neg (m h.lr f (by decide)),if_pos (i9.2 ⟨x,b,rfl⟩)]
structure Lb(w wx:World)(w1s rb:Nat)(r:Int)(C:List Int)(n:Nat)(D:Rd)(aB:Option Addr)(cB:Nat)(B:List Bool)(g:Int->Option Pg):Prop where
 q:Rn w wx rb D
 hR:D.R=r
 hC:D.C=C
 hL:D.L=C.map λc=>decide (0<c)
 hP:D.P.length=n
 hg:∀i,i<n->(D.P.getD i Pv.zero).pg=(g ((i:Int)+1)).getD Pv.zero.pg
 ha:D.aA=none/\D.nA=0/\D.cA=0/\D.fl=0/\D.hush=false
 lw:∀x,D.aL=some x->x.block<w1s
 hb:Q.Gw 4 1 wx aB cB n (vbl B)
 hB:B.length=n
 hs:∀i,i<n->B.getD i false=(g ((i:Int)+1)).isSome
 bn:∀x,aB=some x->w1s<=x.block
 sz:w.heap.size<=w1s/\w1s<=wx.heap.size
theorem Lb.keep{g:Int->Option Pg}(h:Lb w wx w1s rb r C n D aB cB B g)(hb:Below wx.heap.size wx wy):Lb w wy w1s rb r C n D aB cB B g:=
 ⟨h.q.keep hb,h.hR,h.hC,h.hL,h.hP,h.hg,h.ha,h.lw,h.hb.keep hb,h.hB,h.hs,h.bn,⟨h.sz.1,aO h.sz.2 hb.size⟩⟩
theorem La.lb(h:La w wx w1s rb r C n n n n D aB cB)(d:C.length=n):Lb w wx w1s rb r C n D aB cB (List.replicate n false) (λ_=>none):=by
 refine⟨h.q,h.hR,?_,?_,?_,λi b=>?_,h.ha,h.lw,h.hb,by simp,λi b=>?_,h.bn,h.sz⟩
 . rw[h.hC,df,<-d,cJ];simp
 . rw[h.hL,df,<-d,db (by rw[aZ];omega)];simp
 . rw[h.hP];simp
 . rw[h.hP];simp[b]
 . simp[b]
theorem Lb.cnt{g:Int->Option Pg}(h:Lb w wx w1s rb r C n D aB cB B g)(z:Int):D.count z=iU C z:=by
 unfold Rd.count Rd.has iU;rw[h.hC];by_cases b:1<=z/\z<=C.length
 . rw[if_pos b,if_pos (by simp[b])]
 . rw[if_neg b,if_neg (by simpa using b)]
theorem Lb.rq{g:Int->Option Pg}(h:Lb w wx w1s rb r C n D aB cB B g)(b:C.length=n)(d:n<=65536):Rq wx rb D (kQ w wx rb D)/\∀k,kQ w wx rb D k≠0->w.heap.size<=k:=
 h.q.rq (by rw[h.hL,h.hC,aZ]) (by rw[h.hP,h.hC,b]) (by rw[h.hC,b];exact d)
theorem Lb.mid{g:Int->Option Pg}(h:Lb w wx w1s rb r C n D (some ⟨gB,0,none⟩) cB B g):Rn w (wx.setCell ⟨gB,i,none⟩ (.bool true)) rb D:=by
 obtain⟨f,d⟩:=h.hb.blk rfl
 exact h.q.foreign ((But.refl (λk=>k=gB) wx).setCell (p:=⟨gB,i,none⟩) (λ_=>rfl) _) (aO h.sz.1 (h.bn _ rfl)) d (λy b e=>by
  have:=h.lw y b;have:=h.bn _ rfl;simp only at this;omega)
theorem Lb.lay{d:World}{f:Nat}{g:Int->Option Pg}(h:Lb w wx w1s rb r C n D (some ⟨gB,0,none⟩) cB B g)(hi:i<n)(v:D.aP=some ⟨f,0,none⟩)(x:Pv){b:World}(l:b=wx.setCell ⟨gB,i,none⟩ (.bool true))(hb:Below b.heap.size b d)(J:Pn b d x)(I:x.pg.check=0):
 ∃D',Lb w (d.setCells f (i*5) x.cs.toList) w1s rb r C n D' (some ⟨gB,0,none⟩) cB (B.set i true) (λk=>if k=(i:Int)+1 then some x.pg else g k):=by
 obtain⟨V,R⟩:=h.hb.blk rfl
 have K:∀y,D.aL=some y->y.block≠gB:=λy q e=>by
  have:=h.lw y q;have:=h.bn _ rfl;simp only at this;omega
 have E:But (λk=>k=gB) wx b:=by rw[l];exact(But.refl (λk=>k=gB) wx).setCell (p:=⟨gB,i,none⟩) (λ_=>rfl) _
 have L:=h.q.foreign E (aO h.sz.1 (h.bn _ rfl)) R K;have s:Q.Gw 4 1 b (some ⟨gB,0,none⟩) cB n (vbl (B.set i true)):=by rw[l,<-sZ];exact h.hb.setc i _
 have A:=L.keep hb;have N:b.heap.size=wx.heap.size:=by rw[l];simp[World.setCell]
 have O:Pn w d x:=J.pre (by rw[N];exact aO h.sz.1 h.sz.2)
 have M:=A.setP v i x O (.inl I);have S:i<D.P.length:=by rw[h.hP];exact hi
 refine⟨{D with P:=D.P.set i x},M,h.hR,h.hC,h.hL,?_,λj m=>?_,h.ha,h.lw,?_,?_,λj m=>?_,h.bn,⟨h.sz.1,?_⟩⟩
 . show(D.P.set i x).length=n;rw[aM,h.hP]
 . show((D.P.set i x).getD j Pv.zero).pg=_;by_cases e:j=i
   . subst e;rw[if_pos rfl];simp[S]
   . rw[if_neg (by omega),<-h.hg j m]
     simp[bQ (Ne.symm e)]
 . refine(s.keep hb).but (jr f x.cs.toList d (i*5)) (λy q e=>?_)
   cases q;obtain⟨c1,G⟩:=(s.keep hb).blk rfl;obtain⟨c2,H⟩:=A.pr.blk v;exact jy G H (by decide) e
 . rw[aM,h.hB]
 . by_cases e:j=i
   . subst e;rw[if_pos rfl];simp[h.hB,hi]
   . rw[if_neg (by omega),<-h.hs j m]
     simp[bQ (Ne.symm e)]
 . have T:=hb.size;have U:=(jr f x.cs.toList d (i*5)).size;have:=h.sz.2;omega
def jL(r:Int)(C:List Int):Bool:=C.any λc=>decide (c<0)||decide (r<c)
def lk(C:List Int)(g:Int->Option Pg):Bool:=(List.range C.length).any λi=>decide (0<C.getD i 0)&&(g ((i:Int)+1)).isNone
def jm(r:Int)(C:List Int)(l:List (Int×Pg)):Nat×(Int->Option Pg):=
 if Q.js C.length r=false then (1,λ_=>none) else if jL r C=true then (13,λ_=>none)
 else if (ldG (iU C) (λ_=>none) l).1≠0 then ldG (iU C) (λ_=>none) l
 else if lk C (ldG (iU C) (λ_=>none) l).2=true then (9,(ldG (iU C) (λ_=>none) l).2) else (0,(ldG (iU C) (λ_=>none) l).2)
theorem xO(hi:i<C.length)(h:C.getD i 0<0\/r<C.getD i 0):jL r C=true:=by
 unfold jL;rw[fT];refine⟨C.getD i 0,by simp[hi],?_⟩
 simp only[fw,bE];exact h
theorem Fy(h:∀j,j<C.length->0<=C.getD j 0/\C.getD j 0<=r):jL r C=false:=by
 unfold jL;rw[gz];intro c f;obtain⟨i,b,e⟩:=List.getElem_of_mem f;have:=h i b;have d:C.getD i 0=c:=by simp[b,e]
 rw[d] at this;simp only[fw,bE];omega
theorem uw{g:Int->Option Pg}(hi:i<C.length)(b:0<C.getD i 0)(d:(g ((i:Int)+1)).isSome=false):lk C g=true:=by
 unfold lk;rw[fT];refine⟨i,cw.2 hi,?_⟩;rw[ax b];simpa using d
theorem Do{C:List Int}{g:Int->Option Pg}(h:∀i,i<C.length->0<C.getD i 0->(g ((i:Int)+1)).isSome=true):lk C g=false:=by
 unfold lk;rw[gz];intro i b;have:=h i (cw.1 b);simp only[bO,bE];rintro⟨k1,k2⟩;have:=this k1;cases e:g ((i:Int)+1) with
 |none=>rw[e] at this;cases this
 |some v=>rw[e] at k2;cases k2
theorem vJ{L:List (Int×Pv)}{j:Nat}(b:j<L.length):nmg (L.drop j)=((L.getD j nm0).1,(L.getD j nm0).2.pg)::nmg (L.drop (j+1)):=by
 unfold nmg;have e:L.getD j nm0=L[j]:=by simp[b]
 rw[cF b,e,bL]
end Go.Proofs.YtbdkogimlbnlmaaGreat
