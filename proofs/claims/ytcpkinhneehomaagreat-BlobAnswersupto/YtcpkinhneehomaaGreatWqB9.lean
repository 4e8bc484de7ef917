import Derived.Test.YtcpkinhneehomaaGreatWqB1
import Derived.Test.YtcpkinhneehomaaGreatWqB2
import Derived.Test.YtcpkinhneehomaaGreatWqB8
import Derived.Deep.RegionHeld
set_option linter.unusedVariables false
set_option linter.unusedSimpArgs false
set_option maxHeartbeats 8000000
set_option maxRecDepth 8000
namespace Go.Proofs.YtcpkinhneehomaaGreat
open Go.RowKit
variable {fl m:Nat}{col pc:Nat->Nat}{C S:Nat->Prop}{p:Pv}{P:Q.Po}{w w':World}
def Pz(C:Nat->Prop)(w:World)(p:Pv):Prop:=∀w',But (fun k=>¬C k) w w'->Pi w' p
theorem Pz.pi(h:Pz C w p):Pi w p:=h w (But.refl _ _)
theorem Pz.but(h:Pz C w p)(hb:But S w w')(hn:∀k,k<w.heap.size->C k->¬S k):Pz C w' p:=fun v hv=>
 h v ((hb.mono (T:=fun k=>¬C k) fun k hk hs hc=>hn k hk hc hs).trans hv fun _ _ e=>e)
theorem Pz.keep(h:Pz C w p)(hb:Below w.heap.size w w'):Pz C w' p:=h.but (S:=fun _=>False) (But.ofBelow hb) (fun _ _ _ h=>h)
theorem Pz.mono{C':Nat->Prop}(h:Pz C w p)(hc:∀k,k<w.heap.size->C k->C' k):Pz C' w p:=fun v hv=>h v (hv.mono fun k hk hn e=>hn (hc k hk e))
theorem Pz.zero(C:Nat->Prop)(w:World):Pz C w Pv.zero:=fun v _=>Pi.zero v
structure Vd where
 pb:Nat
 mb:Nat
 f:Int->Option Pv
 ac:Option Addr
 cc:Nat
 ch:List (Int×Pv)
 aa:Option Addr
 ca:Nat
 al:List (Nat×Nat)
def vboxC(fl:Nat)(D:Vd):Array Value:=#[.pointer (some ⟨D.pb,0,none⟩),.map (some D.mb),.slice D.ac D.ch.length D.cc,.slice D.aa D.al.length D.ca,.int .i64 ((fl:Nat):Int)]
def chc(L:List (Int×Pv)):List Value:=(L.map fun x=>Value.int .i64 x.1::x.2.cs.toList).flatten
def plc(L:List (Nat×Nat)):List Value:=(L.map fun x=>[Value.int .i64 ((x.1:Nat):Int),Value.int .i64 ((x.2:Nat):Int)]).flatten
theorem chc_append(A B:List (Int×Pv)):chc (A++B)=chc A++chc B:=by simp[chc]
theorem plc_append(A B:List (Nat×Nat)):plc (A++B)=plc A++plc B:=by simp[plc]
theorem chc_length:∀(L:List (Int×Pv)),(chc L).length=L.length*6
 | []=>rfl
 |x::L=>by
  have:=chc_length L;simp only[chc,List.map_cons,List.flatten_cons,List.length_append,List.length_cons,Pv.cs] at this ⊢;simp only[List.length_nil] at this ⊢;omega
theorem plc_length:∀(L:List (Nat×Nat)),(plc L).length=L.length*2
 | []=>rfl
 |x::L=>by
  have:=plc_length L;simp only[plc,List.map_cons,List.flatten_cons,List.length_append,List.length_cons,List.length_nil] at this ⊢;omega
structure Vq(w:World)(b:Nat)(P:Q.Po)(fl:Nat)(D:Vd)(pc col:Nat->Nat):Prop where
 box:w.heap[b]?=some (.cells (vboxC fl D) 85 (0,0))
 mp:Mp w D.mb (fun k=>(D.f k).map Pv.vl)
 chr:Q.Gw 187 6 w D.ac D.cc D.ch.length (chc D.ch)
 acr:Q.Gw 137 2 w D.aa D.ca D.al.length (plc D.al)
 pool:Q.Pl w D.pb P pc
 fz:∀k p,D.f k=some p->Pz (fun k=>col k=6) w p
 cz:∀x∈D.ch,Pz (fun k=>col k=6) w x.2
 cb:col b=1
 cm:col D.mb=2
 cc:∀x,D.ac=some x->col x.block=3
 ca:∀x,D.aa=some x->col x.block=4
 cp:∀k,pc k≠0->col k=5
 lt:∀k,col k≠0->k<w.heap.size
theorem Vq.but{b:Nat}{D:Vd}(h:Vq w b P fl D pc col)(hb:But S w w')(hn:∀k,col k≠0->¬S k):Vq w' b P fl D pc col:=by
 have nz:∀{k c:Nat},col k=c+1->¬S k:=fun e=>hn _ (by omega)
 exact⟨hb.same h.box (nz (c:=0) h.cb),h.mp.but hb (nz (c:=1) h.cm),h.chr.but hb (fun x hx=>nz (c:=2) (h.cc x hx)),h.acr.but hb (fun x hx=>nz (c:=3) (h.ca x hx)),h.pool.but hb (fun k hk=>nz (c:=4) (h.cp k hk)),fun k p hp=>(h.fz k p hp).but hb (fun k _ e=>nz (c:=5) e),fun x hx=>(h.cz x hx).but hb (fun k _ e=>nz (c:=5) e),h.cb,h.cm,h.cc,h.ca,h.cp,fun k hk=>Nat.lt_of_lt_of_le (h.lt k hk) hb.size⟩
theorem Vq.keep{b:Nat}{D:Vd}(h:Vq w b P fl D pc col)(hb:Below w.heap.size w w'):Vq w' b P fl D pc col:=h.but (S:=fun _=>False) (But.ofBelow hb) (fun _ _ h=>h)
theorem Vq.lb{b:Nat}{D:Vd}(h:Vq w b P fl D pc col):b<w.heap.size:=(Array.getElem?_eq_some_iff.1 h.box).1
theorem Vq.cells{b:Nat}{D:Vd}(h:Vq w b P fl D pc col):w.cell? ⟨b,0,none⟩=some (.pointer (some ⟨D.pb,0,none⟩))/\w.cell? ⟨b,1,none⟩=some (.map (some D.mb))/\w.cell? ⟨b,2,none⟩=some (.slice D.ac D.ch.length D.cc)/\w.cell? ⟨b,3,none⟩=some (.slice D.aa D.al.length D.ca)/\w.cell? ⟨b,4,none⟩=some (.int .i64 ((fl:Nat):Int)):=by
 rw[cell_of_row _ _ _ _ _ _ h.box,cell_of_row _ _ _ _ _ _ h.box,cell_of_row _ _ _ _ _ _ h.box,cell_of_row _ _ _ _ _ _ h.box,cell_of_row _ _ _ _ _ _ h.box];exact⟨rfl,rfl,rfl,rfl,rfl⟩
theorem Vq.free{b:Nat}{D:Vd}(h:Vq w b P fl D pc col)(i:Nat):w.frozen? ⟨b,i,none⟩=false:=by simp[World.frozen?,h.box]
structure Vf(w:World)(col:Nat->Nat)(w':World)(col':Nat->Nat):Prop where
 b:But (fun k=>1<=col k/\col k<=5) w w'
 c:∀k,k<w.heap.size->col' k=col k
theorem Vf.refl(w:World)(col:Nat->Nat):Vf w col w col:=⟨But.refl _ _,fun _ _=>rfl⟩
theorem Vf.trans{w1 w2:World}{c c1 c2:Nat->Nat}(h:Vf w c w1 c1)(k:Vf w1 c1 w2 c2):Vf w c w2 c2:=
 ⟨h.b.trans k.b (fun x hx hn=>by rw[h.c x hx] at hn;exact hn),fun x hx=>(k.c x (Nat.lt_of_lt_of_le hx h.b.size)).trans (h.c x hx)⟩
theorem Vf.keep{c:Nat->Nat}(h:Below w.heap.size w w'):Vf w c w' c:=⟨But.ofBelow h,fun _ _=>rfl⟩
def paint(col:Nat->Nat)(w w':World)(c k:Nat):Nat:=if k<w.heap.size then col k else if k<w'.heap.size then c else 0
theorem paint_old{c k:Nat}(h:k<w.heap.size):paint col w w' c k=col k:=if_pos h
theorem paint_new{c k:Nat}(h:w.heap.size<=k)(h2:k<w'.heap.size):paint col w w' c k=c:=by unfold paint;rw[if_neg (by omega),if_pos h2]
theorem paint_lt{c k:Nat}(hs:w.heap.size<=w'.heap.size)(h:paint col w w' c k≠0):k<w'.heap.size:=by
 unfold paint at h;split at h
 · omega
 · split at h
   · assumption
   · exact absurd rfl h
theorem Vq.pooled{b:Nat}{P':Q.Po}{D:Vd}{pc':Nat->Nat}(h:Vq w b P fl D pc col)(hp:Q.Pl w' D.pb P' pc')(hf:Q.Fr w pc w' pc'):
 Vq w' b P' fl D pc' (paint col w w' 5)/\Vf w col w' (paint col w w' 5):=by
 have old:∀{k:Nat},col k≠0->paint col w w' 5 k=col k:=fun hk=>paint_old (h.lt _ hk)
 have nz:∀{k c:Nat},col k=c->c≠5->¬(pc k≠0):=fun e h5 hk=>h5 (by rw[<-e];exact h.cp _ hk)
 have sz:=hf.b.size;have cont:∀{p:Pv},Pz (fun k=>col k=6) w p->Pz (fun k=>paint col w w' 5 k=6) w' p:=fun hz=>(hz.but hf.b (fun k _ e=>nz e (by decide))).mono (fun k hk e=>by rw[old (by omega)];exact e)
 refine⟨⟨hf.b.same h.box (nz h.cb (by decide)),h.mp.but hf.b (nz h.cm (by decide)),h.chr.but hf.b (fun x hx=>nz (h.cc x hx) (by decide)),h.acr.but hf.b (fun x hx=>nz (h.ca x hx) (by decide)),hp,fun k p hp=>cont (h.fz k p hp),fun x hx=>cont (h.cz x hx),(old (by rw[h.cb];decide)).trans h.cb,(old (by rw[h.cm];decide)).trans h.cm,fun x hx=>(old (by rw[h.cc x hx];decide)).trans (h.cc x hx),fun x hx=>(old (by rw[h.ca x hx];decide)).trans (h.ca x hx),fun k hk=>?_,fun k hk=>paint_lt sz hk⟩,hf.b.mono (fun k _ hk=>by rw[h.cp k hk];decide),fun k hk=>paint_old hk⟩
 by_cases hk2:k<w.heap.size
 · rw[paint_old hk2];exact h.cp k (by rw[<-hf.c k hk2];exact hk)
 · exact paint_new (by omega) (hp.lt k hk)
theorem isThere_any(w:World)(b:Nat)(P:Q.Po)(fl:Nat)(D:Vd)(pc col:Nat->Nat)(h:Vq w b P fl D pc col)(n:Int):
 Calls Tryz.prog 95 #[.pointer (some ⟨b,0,none⟩),.int .i64 n] w fun e w'=>e=.returned (.bool (decide (0<P.count n)))/\w'=w:=by
 obtain⟨c0,-,-,-,-⟩:=h.cells;have CO:=hide (Q.Count_pl w D.pb P pc h.pool n);clear h;generalize P.count n=c at *;go_enter Tryz.func95,Tryz.ntmps95;go_wp2_with fail
 refine CO.out.mono ?_;rintro _ wq ⟨rfl,hwq⟩;obtain rfl:=hwq.symm;go_wp2;go_ret;exact⟨rfl,rfl⟩
theorem isOwn_any(w:World)(b:Nat)(P:Q.Po)(fl:Nat)(D:Vd)(pc col:Nat->Nat)(h:Vq w b P fl D pc col)(n:Int):
 Calls Tryz.prog 96 #[.pointer (some ⟨b,0,none⟩),.int .i64 n] w fun e w'=>e=.returned (.bool (decide (P.state n=3)&&decide (P.count n=1)))/\Below w.heap.size w w':=by
 obtain⟨c0,-,-,-,-⟩:=h.cells;have ST:=hide (Q.State_pl w D.pb P pc h.pool n);have CO:=hide fun(W:World)(hb:Below w.heap.size w W)=>Q.Count_pl W D.pb P pc (h.pool.keep hb) n
 have C0:=hide fun(W:World)(hb:Below w.heap.size w W)=>(hb.cell (p:=⟨b,0,none⟩) (block_lt_of_cell c0)).trans c0
 clear h;generalize P.count n=c at *;generalize P.state n=s at *;by_cases hs:s=3
 · subst hs;rw[decide_eq_true rfl,Bool.true_and];by_cases hc:c=1
   · subst hc;rw[decide_eq_true rfl];go_enter Tryz.func96,Tryz.ntmps96;go_wp2_with fail
     refine ST.out.mono ?_;rintro _ w1 ⟨rfl,hb⟩;have HB:=hide hb;have c1:=C0.out _ hb;clear hb;go_wp2_with fail
     refine(CO.out _ HB.out).mono ?_;rintro _ wq ⟨rfl,hwq⟩;obtain rfl:=hwq.symm;go_wp2;go_ret;exact⟨rfl,HB.out⟩
   · have e:(c==1)=false:=by simp[hc]
     rw[decide_eq_false hc];go_enter Tryz.func96,Tryz.ntmps96;go_wp2_with fail
     refine ST.out.mono ?_;rintro _ w1 ⟨rfl,hb⟩;have HB:=hide hb;have c1:=C0.out _ hb;clear hb;go_wp2_with fail
     refine(CO.out _ HB.out).mono ?_;rintro _ wq ⟨rfl,hwq⟩;obtain rfl:=hwq.symm;go_wp2;go_ret;exact⟨rfl,HB.out⟩
 · have e:((s:Int)==3)=false:=by simp;omega
   rw[decide_eq_false hs,Bool.false_and];clear hs;go_enter Tryz.func96,Tryz.ntmps96;go_wp2_with fail
   refine ST.out.mono ?_;rintro _ w1 ⟨rfl,hb⟩;have HB:=hide hb;clear hb;go_wp2;go_ret;exact⟨rfl,HB.out⟩
def fput(f:Int->Option Pv)(n:Int)(p:Pv):Int->Option Pv:=fun k=>if k=n then (if p.kind=0 then none else some p) else f k
theorem Vq.mapped{b:Nat}{D:Vd}(h:Vq w b P fl D pc col){f':Int->Option Pv}(hm:Mp w' D.mb (fun k=>(f' k).map Pv.vl))(hb:But (fun k=>k=D.mb) w w')(hz:∀k p,f' k=some p->Pz (fun k=>col k=6) w p):Vq w' b P fl {D with f:=f'} pc col:=by
 have ne:∀{k:Nat},col k≠2->¬(k=D.mb):=fun h1 e=>h1 (by rw[e];exact h.cm)
 exact⟨hb.same h.box (ne (by rw[h.cb];decide)),hm,h.chr.but hb (fun x hx=>ne (by rw[h.cc x hx];decide)),h.acr.but hb (fun x hx=>ne (by rw[h.ca x hx];decide)),h.pool.but hb (fun k hk=>ne (by rw[h.cp k hk];decide)),fun k p hp=>(hz k p hp).but hb (fun k _ e=>ne (by omega)),fun x hx=>(h.cz x hx).but hb (fun k _ e=>ne (by omega)),h.cb,h.cm,h.cc,h.ca,h.cp,fun k hk=>Nat.lt_of_lt_of_le (h.lt k hk) hb.size⟩
theorem fput_vl(f:Int->Option Pv)(n:Int)(p:Pv)(hp:p.kind≠0):(fun k=>(fput f n p k).map Pv.vl)=mput (fun k=>(f k).map Pv.vl) n p.vl:=by
 funext k
 unfold fput mput;split
 · simp
 · rfl
theorem fput_no(f:Int->Option Pv)(n:Int)(p:Pv)(hp:p.kind=0):(fun k=>(fput f n p k).map Pv.vl)=mdel (fun k=>(f k).map Pv.vl) n:=by
 funext k
 unfold fput mdel;split
 · simp
 · rfl
theorem fput_z{f:Int->Option Pv}{n:Int}(hf:∀k p,f k=some p->Pz C w p)(hp:Pz C w p):∀k q,fput f n p k=some q->Pz C w q:=fun k q e=>by
 unfold fput at e;split at e
 · split at e
   · cases e
   · cases e;exact hp
 · exact hf k q e
theorem undMapp:Tryz.prog.underlying 81=some (.map 3 31):=Tryz.underlying81
theorem undInt:Tryz.prog.underlying 3=some (.int .i64):=Tryz.underlying3
theorem vset_any(w:World)(b:Nat)(P:Q.Po)(fl:Nat)(D:Vd)(pc col:Nat->Nat)(h:Vq w b P fl D pc col)(n:Int)(p:Pv)(hp:Pz (fun k=>col k=6) w p):
 Calls Tryz.prog 161 #[.pointer (some ⟨b,0,none⟩),.int .i64 n,p.vl] w fun e w'=>e=.returned (.tuple #[])/\Vq w' b P fl {D with f:=fput D.f n p} pc col/\Vf w col w' col:=by
 have aB:=al w (.cells p.cs 31);have hk:=h.keep aB;obtain⟨c0,c1,-,-,-⟩:=hk.cells;by_cases h0:p.kind=0
 · obtain⟨w2,hr,hm,hb,hs⟩:=hk.mp.drop undMapp undInt n 3
   have FIN:Hid (Vq w2 b P fl {D with f:=fput D.f n p} pc col/\Vf w col w2 col):=by
    rw[<-fput_no D.f n p h0] at hm;refine⟨hk.mapped hm hb (fput_z hk.fz (hp.keep aB)),((But.ofBelow (S:=fun k=>1<=col k/\col k<=5) aB).trans hb (fun k _ e=>?_)),fun _ _=>rfl⟩
    rw[show k=D.mb from e,h.cm];decide
   have hx:=World.alloc_heap_new w (.cells p.cs 31);obtain⟨kind,level,aI,cI,items,aD,cD,data,next⟩:=p
   simp only at h0;subst h0;unfold Pv.vl;simp only[Pv.cs] at *;clear h hk hp hm hb hs aB;go_enter Tryz.func161,Tryz.ntmps161;go_wp2;go_end0
   exact⟨rfl,FIN.out⟩
 · have aD:=bt aB (Q.drw _);have hkd:=h.keep aD;obtain⟨d0,d1,-,-,-⟩:=hkd.cells;obtain⟨w2,hr,hm,hb,hs⟩:=hkd.mp.store undMapp undInt n p.vl
   have FIN:Hid (Vq w2 b P fl {D with f:=fput D.f n p} pc col/\Vf w col w2 col):=by
    rw[<-fput_vl D.f n p h0] at hm;refine⟨hkd.mapped hm hb (fput_z hkd.fz (hp.keep aD)),((But.ofBelow (S:=fun k=>1<=col k/\col k<=5) aD).trans hb (fun k _ e=>?_)),fun _ _=>rfl⟩
    rw[show k=D.mb from e,h.cm];decide
   have hx:=World.alloc_heap_new w (.cells p.cs 31);obtain⟨kind,level,aI,cI,items,aD',cD,data,next⟩:=p
   simp only at h0;have e0:(kind==0)=false:=by simp[h0]
   unfold Pv.vl at *;simp only[Pv.cs] at *;clear h hk hkd hp hm hb hs aB aD;go_enter Tryz.func161,Tryz.ntmps161;go_wp2_with fail
   go_region
   all_goals
    go_wp2;go_end0
    exact⟨rfl,FIN.out⟩
theorem infoChg:(Tryz.prog.info? 187).map (fun i=>(i.zero,i.size,i.bytes))=some (some (.agg #[.int .i64 0,.int .i64 0,.int .i64 0,.slice none 0 0,.slice none 0 0,.int .i64 0]),6,80):=by kernel_rfl
def chv(x:Int×Pv):List Value:=.int .i64 x.1::x.2.cs.toList
theorem chc_snoc(L:List (Int×Pv))(x:Int×Pv):chc (L++[x])=chc L++chv x:=by rw[chc_append];simp[chc,chv]
theorem run_apC(w:World)(ty:TypeId)(a:Option Addr)(n cap:Nat)(L:List (Int×Pv))(hR:Q.Gw 187 6 w a cap n (chc L))(ad:Addr)(c:Nat)(x:Int×Pv)(hc:∀j u,(chv x)[j]?=some u->w.cell? (ad.add j)=some u)(hlen:n+1<=1759218604441):
 ∃g cap' w',(Builtin.append_ #[82,82] ty #[.slice a n cap,.slice (some ad) 1 c]).run Tryz.prog w=.ok (.slice (some ⟨g,0,none⟩) (n+1) cap') w'/\
  Q.Gw 187 6 w' (some ⟨g,0,none⟩) cap' (n+1) (chc (L++[x]))/\New w a (some ⟨g,0,none⟩)/\But (Q.InA a) w w':=by
 obtain⟨i0,hi,hz0,hz1,hz2⟩:=info_parts infoChg;have hb:(n+1)*80<=140737488355328:=by omega
 obtain⟨g,cap',w',hr,k1,k2,k3,k4⟩:=run_append_lies (P:=Tryz.prog) w 82 ty 0 187 i0 (.agg #[.int .i64 0,.int .i64 0,.int .i64 0,.slice none 0 0,.slice none 0 0,.int .i64 0]) 6 80 Tryz.underlying82 hi hz0 hz1 hz2 rfl (by decide) (.slice a n cap) n (chc L) hR ad 1 c (chv x) rfl hc (by intro u hu;simp[chv,Pv.cs] at hu;rcases hu with rfl|rfl|rfl|rfl|rfl|rfl<;>rfl) (by decide) (by unfold maxLen;omega) hb (Nat.zero_le _) w.heap.size rfl
 rw[ob_eq] at k2 k3;refine⟨g,cap',w',hr,by rw[chc_snoc];exact k1,?_,But.inA k2⟩
 intro y hy;simp only[Option.some.injEq] at hy;subst hy;rcases k3 with k3|k3
 · obtain⟨z,hz,e⟩:=map_some k3;exact .inl ⟨z,hz,e⟩
 · exact .inr (by show _<=g;omega)
theorem step_apC{w:World}{ops:Array Oper}{o:Oper}{a:Act}{K:Act->World->Prop}{Q':Exit->Act->World->Prop}{E:Prop}(hgd:o.guard=none)(s x:Operand)
 (ho:o.op=.call {callee:=.builtin .append,args:=#[s,x],argTypes:=#[82,82]}) (ao:Option Addr) (n cap:Nat) (L:List (Int×Pv)) (hs:a.eval s=.slice ao n cap) (hR:Q.Gw 187 6 w ao cap n (chc L))
 (ad:Addr) (c:Nat) (t:Int×Pv) (hx:a.eval x=.slice (some ad) 1 c) (hc:∀j u,(chv t)[j]?=some u->w.cell? (ad.add j)=some u) (hlen:n+1<=1759218604441)
 (h:∀g cap' w',Q.Gw 187 6 w' (some ⟨g,0,none⟩) cap' (n+1) (chc (L++[t]))->New w ao (some ⟨g,0,none⟩)->But (Q.InA ao) w w'->K (a.put o.dst (.slice (some ⟨g,0,none⟩) (n+1) cap')) w'):
 if Region.wanted o (yielded ops a.tmps)=true then Oper.wp Tryz.prog o a w K Q' else E:=by
 have hw:Region.wanted o (yielded ops a.tmps)=true:=by simp[Region.wanted,hgd]
 rw[if_pos hw];obtain⟨g,cap',w',hr,h1,h2,h3⟩:=run_apC w o.type ao n cap L hR ad c t hc hlen;unfold Oper.wp execOp;simp only[ho,resolve,invoke,builtin,Sem.run_bind,Sem.run_pure,Result.andThen_ok,List.map_toArray,List.map_cons,List.map_nil,hs,hx,hr];exact h g cap' w' h1 h2 h3
theorem Vq.grew{w W w5:World}{b:Nat}{P:Q.Po}{fl:Nat}{D:Vd}{pc col:Nat->Nat}(h:Vq w b P fl D pc col)(hW:Below w.heap.size w W){g cap':Nat}{x:Int×Pv}(hx:Pz (fun k=>col k=6) w x.2)
 (hR:Q.Gw 187 6 w5 (some ⟨g,0,none⟩) cap' (D.ch.length+1) (chc (D.ch++[x]))) (hN:New W D.ac (some ⟨g,0,none⟩)) (hB:But (Q.InA D.ac) W w5):
 Vq (w5.setCell ⟨b,2,none⟩ (.slice (some ⟨g,0,none⟩) (D.ch.length+1) cap')) b P fl {D with ac:=some ⟨g,0,none⟩,cc:=cap',ch:=D.ch++[x]} pc (paint col w w5 3)/\Vf w col (w5.setCell ⟨b,2,none⟩ (.slice (some ⟨g,0,none⟩) (D.ch.length+1) cap')) (paint col w w5 3):=by
 have B5:But (Q.InA D.ac) w w5:=(But.ofBelow (S:=Q.InA D.ac) hW).trans hB (fun _ _ e=>e)
 have bw:But (fun k=>k=b\/Q.InA D.ac k) w (w5.setCell ⟨b,2,none⟩ (.slice (some ⟨g,0,none⟩) (D.ch.length+1) cap')):=(B5.mono (T:=fun k=>k=b\/Q.InA D.ac k) fun _ _ e=>.inr e).setCell (p:=⟨b,2,none⟩) (fun _=>.inl rfl) _
 have bs:But (fun k=>k=b) w5 (w5.setCell ⟨b,2,none⟩ (.slice (some ⟨g,0,none⟩) (D.ch.length+1) cap')):=(But.refl (fun k=>k=b) w5).setCell (p:=⟨b,2,none⟩) (fun _=>rfl) _
 have ne:∀{k:Nat},col k≠1->col k≠3->¬(k=b\/Q.InA D.ac k):=fun h1 h3 e=>by
  rcases e with rfl|⟨y,hy,rfl⟩
  · exact h1 h.cb
  · exact h3 (h.cc y hy)
 have old:∀{k:Nat},col k≠0->paint col w w5 3 k=col k:=fun hk=>paint_old (h.lt _ hk)
 have s5:=B5.size
 have gc:paint col w w5 3 g=3:=by
  rcases hN ⟨g,0,none⟩ rfl with⟨y,hy,e⟩|h2
  · have e:y.block=g:=e;rw[<-e,old (by rw[h.cc y hy];decide)];exact h.cc y hy
  · have h2:W.heap.size<=g:=h2;exact paint_new (Nat.le_trans hW.size h2) (hR.lt rfl)
 have gb:g≠b:=fun e=>by rw[e,old (by rw[h.cb];decide),h.cb] at gc;cases gc
 have b5:w5.heap[b]?=_:=B5.same h.box (fun⟨y,hy,e⟩=>by have:=h.cc y hy;rw[e,h.cb] at this;cases this)
 have cont:∀{p:Pv},Pz (fun k=>col k=6) w p->Pz (fun k=>paint col w w5 3 k=6) (w5.setCell ⟨b,2,none⟩ (.slice (some ⟨g,0,none⟩) (D.ch.length+1) cap')) p:=fun hz=>(hz.but bw (fun k _ e=>ne (by omega) (by omega))).mono (fun k hk e=>by rw[old (by omega)];exact e)
 refine⟨⟨?_,h.mp.but bw (ne (by rw[h.cm];decide) (by rw[h.cm];decide)),?_,h.acr.but bw (fun x hx=>ne (by rw[h.ca x hx];decide) (by rw[h.ca x hx];decide)),h.pool.but bw (fun k hk=>ne (by rw[h.cp k hk];decide) (by rw[h.cp k hk];decide)),fun k p hp=>cont (h.fz k p hp),fun y hy=>?_,(old (by rw[h.cb];decide)).trans h.cb,(old (by rw[h.cm];decide)).trans h.cm,fun y hy=>?_,fun y hy=>(old (by rw[h.ca y hy];decide)).trans (h.ca y hy),fun k hk=>(old (by rw[h.cp k hk];decide)).trans (h.cp k hk),fun k hk=>Nat.lt_of_lt_of_le (paint_lt s5 hk) bs.size⟩,bw.mono (fun k _ e=>?_),fun k hk=>paint_old hk⟩
 · rw[heap_setCell_same _ _ _ _ _ _ b5];show some (Obj.cells _ _ _)=some (Obj.cells (vboxC fl _) _ _);unfold vboxC;rw[List.length_append];rfl
 · show Q.Gw _ _ _ _ _ (D.ch++[x]).length _;rw[List.length_append];exact hR.but bs (fun y hy=>by cases hy;exact gb)
 · rcases List.mem_append.1 hy with hy|hy
   · exact cont (h.cz y hy)
   · rw[List.mem_singleton] at hy;subst hy;exact cont hx
 · cases hy;exact gc
 · rcases e with rfl|⟨y,hy,rfl⟩
   · rw[h.cb];decide
   · rw[h.cc y hy];decide
def wasOn(D:Vd)(n:Int):Pv:=(D.f n).getD Pv.zero
theorem wasOn_z{w:World}{b:Nat}{P:Q.Po}{fl:Nat}{D:Vd}{pc col:Nat->Nat}(h:Vq w b P fl D pc col)(n:Int):Pz (fun k=>col k=6) w (wasOn D n):=by
 unfold wasOn;cases e:D.f n with
 |none=>exact Pz.zero _ _
 |some p=>exact h.fz n p e
theorem look_on{w:World}{b:Nat}{P:Q.Po}{fl:Nat}{D:Vd}{pc col:Nat->Nat}(h:Vq w b P fl D pc col)(n:Int):(Instr.lookup 81 (.map (some D.mb)) (.int .i64 n) false).run Tryz.prog w=.ok (wasOn D n).vl w:=by
 have k:=h.mp.look (P:=Tryz.prog) undMapp undInt (Pv.zero).vl (Tryz.zeroValue31 w) n false;rw[k];unfold wasOn;cases e:D.f n with
 |none=>simp
 |some p=>simp
theorem five_cells{W:World}{g:Nat}{v0 v1 v2 v3 v4:Value}{t:TypeId}(h:W.heap[g]?=some (.cells #[v0,v1,v2,v3,v4] t (0,0))):W.cell? ⟨g,0,none⟩=some v0/\W.cell? ⟨g,1,none⟩=some v1/\W.cell? ⟨g,2,none⟩=some v2/\W.cell? ⟨g,3,none⟩=some v3/\W.cell? ⟨g,4,none⟩=some v4:=by
 rw[cell_of_row _ _ _ _ _ _ h,cell_of_row _ _ _ _ _ _ h,cell_of_row _ _ _ _ _ _ h,cell_of_row _ _ _ _ _ _ h,cell_of_row _ _ _ _ _ _ h];exact⟨rfl,rfl,rfl,rfl,rfl⟩
theorem lay_any(w:World)(b:Nat)(P:Q.Po)(fl:Nat)(D:Vd)(pc col:Nat->Nat)(h:Vq w b P fl D pc col)(n:Int)(p:Pv)(hp:Pz (fun k=>col k=6) w p)(hlen:D.ch.length+1<=1759218604441):
 Calls Tryz.prog 131 #[.pointer (some ⟨b,0,none⟩),.int .i64 n,p.vl] w fun e w'=>e=.returned (.tuple #[])/\∃ac' cc' col',Vq w' b P fl {D with f:=fput D.f n p,ch:=D.ch++[(n,wasOn D n)],ac:=ac',cc:=cc'} pc col'/\Vf w col w' col':=by
 have aB:=al w (.cells p.cs 31);have aD:=bt aB (Q.drw _);have hkd:=h.keep aD;obtain⟨-,d1,d2,-,-⟩:=hkd.cells;obtain⟨-,e1,e2,-,-⟩:=h.cells;have hl:=look_on hkd n;have hx:=World.alloc_heap_new w (.cells p.cs 31);have hbl:=h.lb;obtain⟨q,hq⟩:∃q,wasOn D n=q:=⟨_,rfl⟩;have QZ:Hid (Pz (fun k=>col k=6) w q):=by show Pz _ _ _;rw[<-hq];exact wasOn_z h n
 rw[hq] at hl;obtain⟨nn,hnn⟩:∃nn,D.ch.length=nn:=⟨_,rfl⟩;have SZ:Hid (((w.alloc (.cells p.cs 31)).drew).heap.size=w.heap.size+1):=size_alloc w _;have aC:=bt (bt aB (al (w.alloc (.cells p.cs 31)) (.cells (chv (n,q)).toArray 187))) (Q.drw _);have G5:=hide (h.keep aC).chr
 have NW:Hid (∀j u,(chv (n,q))[j]?=some u->((w.alloc (.cells p.cs 31)).alloc (.cells (chv (n,q)).toArray 187)).drew.cell? ((⟨w.heap.size+1,0,none⟩:Addr).add j)=some u):=fun j u hj=>by
  have hc:=World.alloc_heap_new (w.alloc (.cells p.cs 31)) (.cells (chv (n,q)).toArray 187);rw[size_alloc] at hc;have hc:((w.alloc (.cells p.cs 31)).alloc (.cells (chv (n,q)).toArray 187)).drew.heap[w.heap.size+1]?=_:=hc;rw[show((⟨w.heap.size+1,0,none⟩:Addr).add j)=⟨w.heap.size+1,j,none⟩ by simp[Addr.add];omega,cell_of_row _ _ _ _ _ _ hc,List.getElem?_toArray]
  exact hj
 have FIN:Hid (∀(g cap':Nat)(w5:World),Q.Gw 187 6 w5 (some ⟨g,0,none⟩) cap' (nn+1) (chc (D.ch++[(n,q)]))->New ((w.alloc (.cells p.cs 31)).alloc (.cells (chv (n,q)).toArray 187)).drew D.ac (some ⟨g,0,none⟩)->But (Q.InA D.ac) ((w.alloc (.cells p.cs 31)).alloc (.cells (chv (n,q)).toArray 187)).drew w5->
  (w5.cell? ⟨b,2,none⟩=some (.slice D.ac nn D.cc)/\w5.frozen? ⟨b,2,none⟩=false)/\w5.heap[w.heap.size]?=some (.cells p.cs 31 (0,0))/\Vq (w5.setCell ⟨b,2,none⟩ (.slice (some ⟨g,0,none⟩) (nn+1) cap')) b P fl {D with ac:=some ⟨g,0,none⟩,cc:=cap',ch:=D.ch++[(n,q)]} pc (paint col w w5 3)/\Vf w col (w5.setCell ⟨b,2,none⟩ (.slice (some ⟨g,0,none⟩) (nn+1) cap')) (paint col w w5 3)):=by
  intro g cap' w5 hR hN hB;rw[<-hnn] at hR ⊢;obtain⟨v1,v2⟩:=h.grew aC QZ.out hR hN hB;have hcb:=(h.keep aC).box;have ni:¬Q.InA D.ac b:=fun⟨y,hy,e⟩=>by have:=h.cc y hy;rw[e,h.cb] at this;cases this
  have b5:=hB.same hcb ni;refine⟨⟨by rw[cell_of_row _ _ _ _ _ _ b5];rfl,by simp[World.frozen?,b5]⟩,?_,v1,v2⟩
  have hx2:((w.alloc (.cells p.cs 31)).alloc (.cells (chv (n,q)).toArray 187)).drew.heap[w.heap.size]?=some (.cells p.cs 31 (0,0)):=((al (w.alloc (.cells p.cs 31)) (.cells (chv (n,q)).toArray 187)).block w.heap.size (by rw[size_alloc];omega)).trans hx
  refine hB.same hx2 (fun⟨y,hy,e⟩=>?_)
  have:=h.lt y.block (by rw[h.cc y hy];decide)
  omega
 have PZ:Hid (∀(w5 W:World),Vf w col W (paint col w w5 3)->Pz (fun k=>paint col w w5 3 k=6) W p):=fun w5 W hf=>(hp.but hf.b (fun k _ e hk=>by omega)).mono (fun k hk e=>by rw[paint_old (h.lt k (by omega))];exact e)
 rw[hnn] at d2 e2 G5 hlen;have HLEN:=hide hlen;have HQ:=hide hq;clear h hkd hp aB aD aC hnn hq hx hlen;obtain⟨k2,l2,aI2,cI2,it2,aD2,cD2,da2,nx2⟩:=q;unfold chv at NW FIN;unfold Pv.vl at hl;simp only[Pv.cs] at hl NW FIN;have VS:=hide fun(W:World)(D':Vd)(c':Nat->Nat)(hV:Vq W b P fl D' pc c')(hz:Pz (fun k=>c' k=6) W p)=>vset_any W b P fl D' pc c' hV n p hz
 obtain⟨kp,lp,aIp,cIp,itp,aDp,cDp,dap,nxp⟩:=p;unfold Pv.vl at *;simp only[Pv.cs] at *;go_enter Tryz.func131,Tryz.ntmps131;go_wp2_with fail
 go_region_law
  (refine step_apC rfl _ _ rfl D.ac nn D.cc D.ch (by first|(simp[Act.eval];done)|simp[Act.eval,Act.put]) G5.out ⟨w.heap.size+1,0,none⟩ 1 (n,⟨k2,l2,aI2,cI2,it2,aD2,cD2,da2,nx2⟩) (by first|(simp[Act.eval];done)|simp[Act.eval,Act.put]) NW.out HLEN.out ?_
   intro g cap' w5 hR hN hB;obtain⟨⟨cS,fS⟩,hbx,v1,v2⟩:=FIN.out g cap' w5 hR hN hB;have V1:=hide v1;have V2:=hide v2;have HBX:=hide hbx;clear hR hN hB v1 v2 hbx)
 all_goals
  have hb6:=(Below.heap_setCell w5 ⟨b,2,none⟩ (.slice (some ⟨g,0,none⟩) (nn+1) cap') w.heap.size (show w.heap.size≠b by omega)).trans HBX.out
  obtain⟨x0,x1,x2,x3,x4⟩:=five_cells hb6;have ZP:=hide (PZ.out w5 _ V2.out);clear hb6 cS fS e1 e2 HBX FIN PZ;generalize w5.setCell ⟨b,2,none⟩ (.slice (some ⟨g,0,none⟩) (nn+1) cap')=w6 at *;go_wp2_with fail
  refine(VS.out _ _ _ V1.out ZP.out).mono ?_;rintro _ w7 ⟨rfl,hv,hf⟩;have HV:=hide hv;have HF:=hide (V2.out.trans hf);clear hv hf x0 x1 x2 x3 x4;go_wp2;go_end0
  exact⟨rfl,_,_,_,by rw[HQ.out];exact HV.out,HF.out⟩
theorem sizePlc:(Tryz.prog.info? 137).map (·.size)=some 2:=by kernel_rfl
theorem setRow_butv(w:World)(g:Nat)(cs:Array Value):But (fun k=>k=g) w (w.setRow g cs):=Q.setRow_but w g cs
theorem vMark_any(w:World)(b:Nat)(P:Q.Po)(fl:Nat)(D:Vd)(pc col:Nat->Nat)(h:Vq w b P fl D pc col)(hm:fl+D.al.length<=9223372036854775807):
 Calls Tryz.prog 54 #[.pointer (some ⟨b,0,none⟩)] w fun e w'=>e=.returned (.int .i64 ((fl+D.al.length:Nat):Int))/\Below w.heap.size w w':=by
 obtain⟨-,-,-,c3,c4⟩:=h.cells;clear h;generalize D.al.length=n at *;have e:IntKind.i64.wrap ((fl:Int)+(n:Int))=((fl+n:Nat):Int):=by rw[wrapI (by omega) (by omega)];omega
 go_enter Tryz.func54,Tryz.ntmps54;go_wp2;go_quiet (fail)
 go_wp2;go_ret;exact⟨rfl,drN _ _⟩
theorem here_any(w:World)(b:Nat)(P:Q.Po)(fl:Nat)(D:Vd)(pc col:Nat->Nat)(h:Vq w b P fl D pc col)(hm:P.mark<=9223372036854775807):
 Calls Tryz.prog 97 #[.pointer (some ⟨b,0,none⟩)] w fun e w'=>e=.returned (.agg #[.int .i64 ((P.mark:Nat):Int),.int .i64 ((D.ch.length:Nat):Int)])/\Below w.heap.size w w':=by
 obtain⟨c0,-,c2,-,-⟩:=h.cells;have MK:=hide fun(W:World)(hb:Below w.heap.size w W)=>Q.Mark_pl W D.pb P pc (h.pool.keep hb) hm
 have SK:Hid (∀W:World,Below w.heap.size w W->W.cell? ⟨b,0,none⟩=some (.pointer (some ⟨D.pb,0,none⟩))/\W.cell? ⟨b,2,none⟩=some (.slice D.ac D.ch.length D.cc)):=fun W hb=>⟨(hb.cell (p:=⟨b,0,none⟩) (block_lt_of_cell c0)).trans c0,(hb.cell (p:=⟨b,2,none⟩) (block_lt_of_cell c2)).trans c2⟩
 have M1:=hide (World.alloc_heap_new w (.cells #[.int .i64 0,.int .i64 0] 137));have A1:=hide (al w (.cells #[.int .i64 0,.int .i64 0] 137));clear h c0 c2;generalize D.ch.length=n at *;generalize P.mark=mk at *;go_enter Tryz.func97,Tryz.ntmps97;go_wp2_with fail
 refine wp_region_held_drew (S:=fun W=>W.cell? ⟨b,0,none⟩=some (.pointer (some ⟨D.pb,0,none⟩))/\W.cell? ⟨b,2,none⟩=some (.slice D.ac n D.cc)) (by kernel_rfl) (SK.out _ (bt A1.out (Q.drw _))) (fun hHeld=>?_)
 refine tk 0 ?_;refine tk 1 ?_;refine tk 2 ?_;refine tk 3 ?_;refine tk 5 ?_;refine tk 6 ?_;refine tk 7 ?_;refine tk 8 ?_;refine tk 9 ?_;refine tw 4 fun K hK=>?_
 go_simp;refine(MK.out _ (bt A1.out (Q.drw _))).mono ?_;rintro _ w2 ⟨rfl,hb⟩;have B1:=hide (bt (bt A1.out (Q.drw _)) hb);have M2:Hid (w2.heap[w.heap.size]?=some (.cells #[.int .i64 0,.int .i64 0] 137 (0,0))):=(hb.block w.heap.size (Array.getElem?_eq_some_iff.1 M1.out).1).trans M1.out;clear hb;go_wp2_with fail
 refine hK.out _ _ (SK.out _ B1.out) (fun hHeld=>?_)
 clear hK K;try simp only[pt]
 refine tk 10 ?_;have B2:Hid (Below w.heap.size w (w2.setRow w.heap.size #[.int .i64 ((mk:Nat):Int),.int .i64 ((n:Nat):Int)])):=((But.ofBelow (S:=fun _=>False) B1.out).trans (setRow_butv w2 w.heap.size _) (fun k hk e=>by omega)).below (fun _ _ h=>h)
 refine tw 11 fun K hK=>?_
 rw[if_pos (by rfl)]
 refine wp_store_row 137 _ _ rfl w.heap.size _ rfl rfl 137 _ M2.out sizePlc rfl (by simp[Value.oneCell']) ?_
 refine hK.out _ _ (SK.out _ B2.out) (fun hHeld=>?_)
 clear hK K;try simp only[pt]
 refine td ?_;go_wp2_with fail
 refine bodyPost_ret (v:=.agg _) (results_cell_row Tryz.results97 _ _ w.heap.size 137 _ (0,0) _ rfl (setRow_heap _ _ _ _ _ _ M2.out) Tryz.underlying137 rfl sizePlc) rfl ?_;exact⟨rfl,B2.out⟩
theorem infoPlc:(Tryz.prog.info? 137).map (fun i=>(i.zero,i.size,i.bytes))=some (some (.agg #[.int .i64 0,.int .i64 0]),2,16):=by kernel_rfl
theorem run_apP(w:World)(ty:TypeId)(a:Option Addr)(n cap:Nat)(L:List (Nat×Nat))(hR:Q.Gw 137 2 w a cap n (plc L))(ad:Addr)(c:Nat)(x:Nat×Nat)(h0:w.cell? ad=some (.int .i64 ((x.1:Nat):Int)))(h1:w.cell? (ad.add 1)=some (.int .i64 ((x.2:Nat):Int)))(hlen:n+1<=8796093022208):
 ∃g cap' w',(Builtin.append_ #[83,83] ty #[.slice a n cap,.slice (some ad) 1 c]).run Tryz.prog w=.ok (.slice (some ⟨g,0,none⟩) (n+1) cap') w'/\
  Q.Gw 137 2 w' (some ⟨g,0,none⟩) cap' (n+1) (plc (L++[x]))/\New w a (some ⟨g,0,none⟩)/\But (Q.InA a) w w':=by
 obtain⟨i0,hi,hz0,hz1,hz2⟩:=info_parts infoPlc;have hb:(n+1)*16<=140737488355328:=by omega
 obtain⟨g,cap',w',hr,k1,k2,k3,k4⟩:=run_append_lies (P:=Tryz.prog) w 83 ty 0 137 i0 (.agg #[.int .i64 0,.int .i64 0]) 2 16 Tryz.underlying83 hi hz0 hz1 hz2 rfl (by decide) (.slice a n cap) n (plc L) hR ad 1 c [.int .i64 ((x.1:Nat):Int),.int .i64 ((x.2:Nat):Int)] rfl
  (by intro j u hj
      match j,hj with
      |0,hj=>simp at hj;subst hj;simpa[Addr.add] using h0
      |1,hj=>simp at hj;subst hj;exact h1
      |j+2,hj=>simp at hj) (by intro u hu;simp at hu;rcases hu with rfl|rfl<;>rfl) (by decide) (by unfold maxLen;omega) hb (Nat.zero_le _) w.heap.size rfl
 rw[ob_eq] at k2 k3;refine⟨g,cap',w',hr,by rw[plc_append];exact k1,?_,But.inA k2⟩
 intro y hy;simp only[Option.some.injEq] at hy;subst hy;rcases k3 with k3|k3
 · obtain⟨z,hz,e⟩:=map_some k3;exact .inl ⟨z,hz,e⟩
 · exact .inr (by show _<=g;omega)
theorem step_apP{w:World}{ops:Array Oper}{o:Oper}{a:Act}{K:Act->World->Prop}{Q':Exit->Act->World->Prop}{E:Prop}(hgd:o.guard=none)(s x:Operand)
 (ho:o.op=.call {callee:=.builtin .append,args:=#[s,x],argTypes:=#[83,83]}) (ao:Option Addr) (n cap:Nat) (L:List (Nat×Nat)) (hs:a.eval s=.slice ao n cap) (hR:Q.Gw 137 2 w ao cap n (plc L))
 (ad:Addr) (c:Nat) (t:Nat×Nat) (hx:a.eval x=.slice (some ad) 1 c) (h0:w.cell? ad=some (.int .i64 ((t.1:Nat):Int))) (h1:w.cell? (ad.add 1)=some (.int .i64 ((t.2:Nat):Int))) (hlen:n+1<=8796093022208)
 (h:∀g cap' w',Q.Gw 137 2 w' (some ⟨g,0,none⟩) cap' (n+1) (plc (L++[t]))->New w ao (some ⟨g,0,none⟩)->But (Q.InA ao) w w'->K (a.put o.dst (.slice (some ⟨g,0,none⟩) (n+1) cap')) w'):
 if Region.wanted o (yielded ops a.tmps)=true then Oper.wp Tryz.prog o a w K Q' else E:=by
 have hw:Region.wanted o (yielded ops a.tmps)=true:=by simp[Region.wanted,hgd]
 rw[if_pos hw];obtain⟨g,cap',w',hr,k1,k2,k3⟩:=run_apP w o.type ao n cap L hR ad c t h0 h1 hlen;unfold Oper.wp execOp;simp only[ho,resolve,invoke,builtin,Sem.run_bind,Sem.run_pure,Result.andThen_ok,List.map_toArray,List.map_cons,List.map_nil,hs,hx,hr];exact h g cap' w' k1 k2 k3
theorem Vq.acted{w W w5:World}{b:Nat}{P:Q.Po}{fl:Nat}{D:Vd}{pc col:Nat->Nat}(h:Vq w b P fl D pc col)(hW:Below w.heap.size w W){g cap':Nat}{x:Nat×Nat}
 (hR:Q.Gw 137 2 w5 (some ⟨g,0,none⟩) cap' (D.al.length+1) (plc (D.al++[x]))) (hN:New W D.aa (some ⟨g,0,none⟩)) (hB:But (Q.InA D.aa) W w5):
 Vq (w5.setCell ⟨b,3,none⟩ (.slice (some ⟨g,0,none⟩) (D.al.length+1) cap')) b P fl {D with aa:=some ⟨g,0,none⟩,ca:=cap',al:=D.al++[x]} pc (paint col w w5 4)/\Vf w col (w5.setCell ⟨b,3,none⟩ (.slice (some ⟨g,0,none⟩) (D.al.length+1) cap')) (paint col w w5 4):=by
 have B5:But (Q.InA D.aa) w w5:=(But.ofBelow (S:=Q.InA D.aa) hW).trans hB (fun _ _ e=>e)
 have bw:But (fun k=>k=b\/Q.InA D.aa k) w (w5.setCell ⟨b,3,none⟩ (.slice (some ⟨g,0,none⟩) (D.al.length+1) cap')):=(B5.mono (T:=fun k=>k=b\/Q.InA D.aa k) fun _ _ e=>.inr e).setCell (p:=⟨b,3,none⟩) (fun _=>.inl rfl) _
 have bs:But (fun k=>k=b) w5 (w5.setCell ⟨b,3,none⟩ (.slice (some ⟨g,0,none⟩) (D.al.length+1) cap')):=(But.refl (fun k=>k=b) w5).setCell (p:=⟨b,3,none⟩) (fun _=>rfl) _
 have ne:∀{k:Nat},col k≠1->col k≠4->¬(k=b\/Q.InA D.aa k):=fun h1 h3 e=>by
  rcases e with rfl|⟨y,hy,rfl⟩
  · exact h1 h.cb
  · exact h3 (h.ca y hy)
 have old:∀{k:Nat},col k≠0->paint col w w5 4 k=col k:=fun hk=>paint_old (h.lt _ hk)
 have s5:=B5.size
 have gc:paint col w w5 4 g=4:=by
  rcases hN ⟨g,0,none⟩ rfl with⟨y,hy,e⟩|h2
  · have e:y.block=g:=e;rw[<-e,old (by rw[h.ca y hy];decide)];exact h.ca y hy
  · have h2:W.heap.size<=g:=h2;exact paint_new (Nat.le_trans hW.size h2) (hR.lt rfl)
 have gb:g≠b:=fun e=>by rw[e,old (by rw[h.cb];decide),h.cb] at gc;cases gc
 have b5:w5.heap[b]?=_:=B5.same h.box (fun⟨y,hy,e⟩=>by have:=h.ca y hy;rw[e,h.cb] at this;cases this)
 have cont:∀{p:Pv},Pz (fun k=>col k=6) w p->Pz (fun k=>paint col w w5 4 k=6) (w5.setCell ⟨b,3,none⟩ (.slice (some ⟨g,0,none⟩) (D.al.length+1) cap')) p:=fun hz=>(hz.but bw (fun k _ e=>ne (by omega) (by omega))).mono (fun k hk e=>by rw[old (by omega)];exact e)
 refine⟨⟨?_,h.mp.but bw (ne (by rw[h.cm];decide) (by rw[h.cm];decide)),h.chr.but bw (fun x hx=>ne (by rw[h.cc x hx];decide) (by rw[h.cc x hx];decide)),?_,h.pool.but bw (fun k hk=>ne (by rw[h.cp k hk];decide) (by rw[h.cp k hk];decide)),fun k p hp=>cont (h.fz k p hp),fun y hy=>cont (h.cz y hy),(old (by rw[h.cb];decide)).trans h.cb,(old (by rw[h.cm];decide)).trans h.cm,fun y hy=>(old (by rw[h.cc y hy];decide)).trans (h.cc y hy),fun y hy=>?_,fun k hk=>(old (by rw[h.cp k hk];decide)).trans (h.cp k hk),fun k hk=>Nat.lt_of_lt_of_le (paint_lt s5 hk) bs.size⟩,bw.mono (fun k _ e=>?_),fun k hk=>paint_old hk⟩
 · rw[heap_setCell_same _ _ _ _ _ _ b5];show some (Obj.cells _ _ _)=some (Obj.cells (vboxC fl _) _ _);unfold vboxC;rw[List.length_append];rfl
 · show Q.Gw _ _ _ _ _ (D.al++[x]).length _;rw[List.length_append];exact hR.but bs (fun y hy=>by cases hy;exact gb)
 · cases hy;exact gc
 · rcases e with rfl|⟨y,hy,rfl⟩
   · rw[h.cb];decide
   · rw[h.ca y hy];decide
theorem end_ok(w:World)(b:Nat)(P:Q.Po)(fl:Nat)(D:Vd)(pc col:Nat->Nat)(h:Vq w b P fl D pc col)(x:Nat×Nat)(hlen:D.al.length+1<=8796093022208):
 Calls Tryz.prog 99 #[.pointer (some ⟨b,0,none⟩),.agg #[.int .i64 ((x.1:Nat):Int),.int .i64 ((x.2:Nat):Int)],.int .i64 0] w fun e w'=>e=.returned (.int .i64 0)/\∃aa' ca' col',Vq w' b P fl {D with al:=D.al++[x],aa:=aa',ca:=ca'} pc col'/\Vf w col w' col':=by
 obtain⟨u,v⟩:=x;simp only;have aB:=al w (.cells #[.int .i64 ((u:Nat):Int),.int .i64 ((v:Nat):Int)] 137);obtain⟨-,-,-,e3,-⟩:=h.cells;have hbl:=h.lb;have aC:=bt (bt aB (al (w.alloc (.cells #[.int .i64 ((u:Nat):Int),.int .i64 ((v:Nat):Int)] 137)) (.cells #[.int .i64 ((u:Nat):Int),.int .i64 ((v:Nat):Int)] 137))) (Q.drw _);have G5:=hide (h.keep aC).acr;have hc:=World.alloc_heap_new (w.alloc (.cells #[.int .i64 ((u:Nat):Int),.int .i64 ((v:Nat):Int)] 137)) (.cells #[.int .i64 ((u:Nat):Int),.int .i64 ((v:Nat):Int)] 137);rw[size_alloc] at hc;have N0:Hid (((w.alloc (.cells #[.int .i64 ((u:Nat):Int),.int .i64 ((v:Nat):Int)] 137)).alloc (.cells #[.int .i64 ((u:Nat):Int),.int .i64 ((v:Nat):Int)] 137)).drew.cell? ⟨w.heap.size+1,0,none⟩=some (.int .i64 ((u:Nat):Int))):=cell_of_row _ _ 0 _ _ _ hc;have N1:Hid (((w.alloc (.cells #[.int .i64 ((u:Nat):Int),.int .i64 ((v:Nat):Int)] 137)).alloc (.cells #[.int .i64 ((u:Nat):Int),.int .i64 ((v:Nat):Int)] 137)).drew.cell? ((⟨w.heap.size+1,0,none⟩:Addr).add 1)=some (.int .i64 ((v:Nat):Int))):=cell_of_row _ _ 1 _ _ _ hc;obtain⟨nn,hnn⟩:∃nn,D.al.length=nn:=⟨_,rfl⟩
 have FIN:Hid (∀(g cap':Nat)(w5:World),Q.Gw 137 2 w5 (some ⟨g,0,none⟩) cap' (nn+1) (plc (D.al++[(u,v)]))->New ((w.alloc (.cells #[.int .i64 ((u:Nat):Int),.int .i64 ((v:Nat):Int)] 137)).alloc (.cells #[.int .i64 ((u:Nat):Int),.int .i64 ((v:Nat):Int)] 137)).drew D.aa (some ⟨g,0,none⟩)->But (Q.InA D.aa) ((w.alloc (.cells #[.int .i64 ((u:Nat):Int),.int .i64 ((v:Nat):Int)] 137)).alloc (.cells #[.int .i64 ((u:Nat):Int),.int .i64 ((v:Nat):Int)] 137)).drew w5->
  (w5.cell? ⟨b,3,none⟩=some (.slice D.aa nn D.ca)/\w5.frozen? ⟨b,3,none⟩=false)/\Vq (w5.setCell ⟨b,3,none⟩ (.slice (some ⟨g,0,none⟩) (nn+1) cap')) b P fl {D with aa:=some ⟨g,0,none⟩,ca:=cap',al:=D.al++[(u,v)]} pc (paint col w w5 4)/\Vf w col (w5.setCell ⟨b,3,none⟩ (.slice (some ⟨g,0,none⟩) (nn+1) cap')) (paint col w w5 4)):=by
  intro g cap' w5 hR hN hB;rw[<-hnn] at hR ⊢;obtain⟨v1,v2⟩:=h.acted aC hR hN hB;have hcb:=(h.keep aC).box;have ni:¬Q.InA D.aa b:=fun⟨y,hy,e⟩=>by have:=h.ca y hy;rw[e,h.cb] at this;cases this
  have b5:=hB.same hcb ni;exact⟨⟨by rw[cell_of_row _ _ _ _ _ _ b5];rfl,by simp[World.frozen?,b5]⟩,v1,v2⟩
 rw[hnn] at e3 G5 hlen;have HLEN:=hide hlen;clear h aB aC hnn hc hlen;go_enter Tryz.func99,Tryz.ntmps99;go_wp2_with fail
 go_region_law
  (refine step_apP rfl _ _ rfl D.aa nn D.ca D.al (by first|(simp[Act.eval];done)|simp[Act.eval,Act.put]) G5.out ⟨w.heap.size+1,0,none⟩ 1 (u,v) (by first|(simp[Act.eval];done)|simp[Act.eval,Act.put]) N0.out N1.out HLEN.out ?_
   intro g cap' w5 hR hN hB;obtain⟨⟨cS,fS⟩,v1,v2⟩:=FIN.out g cap' w5 hR hN hB;have V1:=hide v1;have V2:=hide v2;clear hR hN hB v1 v2)
 all_goals
  clear cS fS e3 FIN;generalize w5.setCell ⟨b,3,none⟩ (.slice (some ⟨g,0,none⟩) (nn+1) cap')=w6 at *;go_wp2;go_ret;exact⟨rfl,_,_,_,V1.out,V2.out⟩
def unl(f:Int->Option Pv)(L:List (Int×Pv)):Int->Option Pv:=L.foldr (fun x g=>fput g x.1 x.2) f
theorem unl_snoc(f:Int->Option Pv)(L:List (Int×Pv))(x:Int×Pv):unl f (L++[x])=unl (fput f x.1 x.2) L:=by simp[unl]
def czero:Int×Pv:=(0,Pv.zero)
theorem chv_length(x:Int×Pv):(chv x).length=6:=by simp[chv,Pv.cs]
theorem chc_cons(x:Int×Pv)(L:List (Int×Pv)):chc (x::L)=chv x++chc L:=by simp[chc,chv]
theorem chc_get:∀(L:List (Int×Pv))(i j:Nat),i<L.length->j<6->(chc L)[i*6+j]?=(chv (L.getD i czero))[j]?
 | [],i,j,h,_=>absurd h (by simp)
 |x::L,0,j,h,hj=>by
  rw[chc_cons,Nat.zero_mul,Nat.zero_add,List.getElem?_append_left (by rw[chv_length];exact hj)]
  rfl
 |x::L,i+1,j,h,hj=>by
  rw[chc_cons,List.getElem?_append_right (by rw[chv_length];omega),chv_length,show(i+1)*6+j-6=i*6+j by omega]
  exact chc_get L i j (by simpa using h) hj
theorem chc_take(L:List (Int×Pv))(m:Nat)(h:m<=L.length):(chc L).take (m*6)=chc (L.take m):=by
 have e:chc L=chc (L.take m)++chc (L.drop m):=by rw[<-chc_append,List.take_append_drop]
 rw[e,List.take_append_of_le_length (by rw[chc_length,List.length_take];omega),List.take_of_length_le (by rw[chc_length,List.length_take];omega)]
theorem chc_one(L:List (Int×Pv)):∀v∈chc L,v.oneCell'=true:=by
 intro v hv;unfold chc at hv;obtain⟨l,hl,hv⟩:=List.mem_flatten.1 hv;obtain⟨x,hx,rfl⟩:=List.mem_map.1 hl;simp[Pv.cs] at hv;rcases hv with rfl|rfl|rfl|rfl|rfl|rfl<;>rfl
theorem zeroCells_chg(n:Nat):(Builtin.zeroCells (chv czero).toArray n).toList=chc (List.replicate n czero):=by
 apply List.ext_getElem?;intro i;have hs:(chv czero).toArray.size=6:=rfl;simp only[Builtin.zeroCells,Array.toList_map,Array.toList_range,hs,List.getElem?_map];by_cases hi:i<n*6
 · rw[List.getElem?_range hi];have hr:=chc_get (List.replicate n czero) (i/6) (i%6) (by simp;omega) (by omega)
   rw[show i/6*6+i%6=i by omega] at hr
   have e:(List.replicate n czero).getD (i/6) czero=czero:=by
    rw[List.getD_eq_getElem?_getD,List.getElem?_replicate];split<;>rfl
   rw[hr,e];show some ((chv czero).toArray[i%6]!)=_;have hj:i%6<6:=by omega
   generalize i%6=j at *;rcases (by omega:j=0\/j=1\/j=2\/j=3\/j=4\/j=5) with rfl|rfl|rfl|rfl|rfl|rfl<;>rfl
 · rw[List.getElem?_eq_none (by simp;omega),List.getElem?_eq_none (by rw[chc_length];simp;omega)]
   rfl
theorem run_clearC(w:World)(ty:TypeId)(g n cap m c:Nat)(L:List (Int×Pv))(hR:Q.Gw 187 6 w (some ⟨g,0,none⟩) cap n (chc L))(hn:n=L.length)(hm:m<n):
 ∃w',(Builtin.clear_ #[82] ty #[.slice (some ⟨g,m*6,none⟩) (n-m) c]).run Tryz.prog w=.ok (.tuple #[]) w'/\Q.Gw 187 6 w' (some ⟨g,0,none⟩) cap n (chc (L.take m++List.replicate (n-m) czero))/\But (fun k=>k=g) w w':=by
 rcases hR.cases with⟨h0,_⟩|⟨g',cur,ha,hg,h1,h2,h3,h4⟩
 · cases h0
 · cases ha;have hl:(chc (List.replicate (n-m) czero)).length=(n-m)*6:=by rw[chc_length,List.length_replicate]
   have hst:=run_storeCells_at Tryz.prog g (m*6) 187 (chc (List.replicate (n-m) czero)) 0 cur w hg (by rw[hl];omega) (chc_one _)
   refine⟨w.setRow g (cur.toList.take (m*6+0)++chc (List.replicate (n-m) czero)++cur.toList.drop (m*6+0+(chc (List.replicate (n-m) czero)).length)).toArray,?_,?_,Q.setRow_but w g _⟩
   · obtain⟨d,hd⟩:∃d,n-m=d+1:=⟨n-m-1,by omega⟩
     rw[hd] at hst ⊢;have hz:(Builtin.zeroCells (Value.agg #[.int .i64 0,.int .i64 0,.int .i64 0,.slice none 0 0,.slice none 0 0,.int .i64 0]).cells (d+1)).toList=chc (List.replicate (d+1) czero):=zeroCells_chg (d+1);have hz0:=Tryz.zeroValue187 w;simp[Builtin.clear_,run_underlying Tryz.underlying82,hz0,hz,hst]
   · refine Q.Gw.mk (by rw[chc_length];simp;omega) (setRow_heap w g _ _ _ _ hg) h1 h2 ?_ ?_
     · have:=cur.size_eq_length_toList;simp only[List.size_toArray,List.length_append,List.length_take,List.length_drop,hl];omega
     · have e:cur.toList.take (m*6)=chc (L.take m):=by
        rw[<-chc_take L m (by omega),<-h4,List.take_take,Nat.min_eq_left (by omega)]
       rw[List.toList_toArray,Nat.add_zero,e,chc_append,List.take_append_of_le_length (by rw[List.length_append,hl,chc_length,List.length_take];omega),List.take_of_length_le (by rw[List.length_append,hl,chc_length,List.length_take];omega)]
theorem cut_gw{a:Option Addr}{cap n:Nat}{L:List (Int×Pv)}(h:Q.Gw 187 6 w a cap n (chc L))(hn:n=L.length)(hm:m<=n):Q.Gw 187 6 w a cap m (chc (L.take m)):=by
 rcases h.cases with⟨rfl,rfl,rfl,h4⟩|⟨g,cur,rfl,hg,h1,h2,h3,h4⟩
 · obtain rfl:m=0:=by omega
   exact Q.Gw.nil _ _ _
 · refine Q.Gw.mk (by rw[chc_length,List.length_take];omega) hg (by omega) h2 h3 ?_
   rw[<-chc_take L m (by omega),<-h4,List.take_take,Nat.min_eq_left (by omega)]
theorem Vq.cleared{b:Nat}{D:Vd}(h:Vq w b P fl D pc col)(hm:m<D.ch.length):
 ∃g,D.ac=some ⟨g,0,none⟩/\g≠b/\col g=3/\∃w',(Builtin.clear_ #[82] 0 #[.slice (some ⟨g,m*6,none⟩) (D.ch.length-m) (D.cc-m)]).run Tryz.prog w=.ok (.tuple #[]) w'/\Vq w' b P fl {D with ch:=D.ch.take m++List.replicate (D.ch.length-m) czero} pc col/\But (fun k=>k=g) w w':=by
 obtain⟨g,ha⟩:=h.chr.addr (by omega)
 have hR:=h.chr;rw[ha] at hR;have c3:col g=3:=h.cc _ ha;have gb:g≠b:=fun e=>by rw[e,h.cb] at c3;cases c3
 obtain⟨w',hr,hG,hb⟩:=run_clearC w 0 g D.ch.length D.cc m (D.cc-m) D.ch hR rfl hm;have ne:∀{k:Nat},col k≠3->¬(k=g):=fun h1 e=>h1 (by rw[e];exact c3)
 have hl:(D.ch.take m++List.replicate (D.ch.length-m) czero).length=D.ch.length:=by simp;omega
 refine⟨g,ha,gb,c3,w',hr,⟨?_,h.mp.but hb (ne (by rw[h.cm];decide)),?_,h.acr.but hb (fun x hx=>ne (by rw[h.ca x hx];decide)),h.pool.but hb (fun k hk=>ne (by rw[h.cp k hk];decide)),fun k p hp=>(h.fz k p hp).but hb (fun k _ e=>ne (by omega)),fun x hx=>?_,h.cb,h.cm,h.cc,h.ca,h.cp,fun k hk=>Nat.lt_of_lt_of_le (h.lt k hk) hb.size⟩,hb⟩
 · have:=hb.same h.box (ne (by rw[h.cb];decide))
   rw[this];unfold vboxC;rw[hl]
 · show Q.Gw _ _ _ D.ac D.cc (D.ch.take m++List.replicate (D.ch.length-m) czero).length _;rw[hl,ha];exact hG
 · rcases List.mem_append.1 hx with hx|hx
   · exact(h.cz x (List.mem_of_mem_take hx)).but hb (fun k _ e=>ne (by omega))
   · rw[(List.mem_replicate.1 hx).2];exact Pz.zero _ _
theorem Vq.cut{b:Nat}{D:Vd}(h:Vq w b P fl D pc col)(hm:m<=D.ch.length):
 Vq (w.setCell ⟨b,2,none⟩ (.slice D.ac m D.cc)) b P fl {D with ch:=D.ch.take m} pc col/\Vf w col (w.setCell ⟨b,2,none⟩ (.slice D.ac m D.cc)) col:=by
 have hb:But (fun k=>k=b) w (w.setCell ⟨b,2,none⟩ (.slice D.ac m D.cc)):=(But.refl (fun k=>k=b) w).setCell (p:=⟨b,2,none⟩) (fun _=>rfl) _
 have ne:∀{k:Nat},col k≠1->¬(k=b):=fun h1 e=>h1 (by rw[e];exact h.cb)
 have hl:(D.ch.take m).length=m:=by rw[List.length_take];omega
 refine⟨⟨?_,h.mp.but hb (ne (by rw[h.cm];decide)),?_,h.acr.but hb (fun x hx=>ne (by rw[h.ca x hx];decide)),h.pool.but hb (fun k hk=>ne (by rw[h.cp k hk];decide)),fun k p hp=>(h.fz k p hp).but hb (fun k _ e=>ne (by omega)),fun x hx=>(h.cz x (List.mem_of_mem_take hx)).but hb (fun k _ e=>ne (by omega)),h.cb,h.cm,h.cc,h.ca,h.cp,fun k hk=>Nat.lt_of_lt_of_le (h.lt k hk) hb.size⟩,hb.mono (fun k _ e=>by rw[e,h.cb];decide),fun _ _=>rfl⟩
 · rw[heap_setCell_same _ _ _ _ _ _ h.box];show some (Obj.cells _ _ _)=some (Obj.cells (vboxC fl _) _ _);unfold vboxC;rw[hl];rfl
 · show Q.Gw _ _ _ D.ac D.cc (D.ch.take m).length _;rw[hl];exact(cut_gw h.chr rfl hm).but hb (fun x hx=>ne (by rw[h.cc x hx];decide))
theorem Vq.change{b:Nat}{D:Vd}(h:Vq w b P fl D pc col){i:Nat}(hi:i<D.ch.length):
 ∃g,D.ac=some ⟨g,0,none⟩/\w.cell? ⟨g,i*6,none⟩=some (.int .i64 (D.ch.getD i czero).1)/\w.cell? ⟨g,i*6+1,none⟩=some (.int .i64 (D.ch.getD i czero).2.kind)/\w.cell? ⟨g,i*6+2,none⟩=some (.int .i64 (D.ch.getD i czero).2.level)/\
  w.cell? ⟨g,i*6+3,none⟩=some (.slice (D.ch.getD i czero).2.aI (D.ch.getD i czero).2.items.length (D.ch.getD i czero).2.cI)/\w.cell? ⟨g,i*6+4,none⟩=some (.slice (D.ch.getD i czero).2.aD (D.ch.getD i czero).2.data.length (D.ch.getD i czero).2.cD)/\w.cell? ⟨g,i*6+5,none⟩=some (.int .i64 (D.ch.getD i czero).2.next):=by
 obtain⟨g,ha⟩:=h.chr.addr (by omega)
 have hR:=h.chr;rw[ha] at hR;have k:∀{j:Nat}{u:Value},j<6->(chv (D.ch.getD i czero))[j]?=some u->w.cell? ⟨g,i*6+j,none⟩=some u:=fun hj hu=>hR.cell (by rw[chc_get _ _ _ hi hj];exact hu)
 exact⟨g,ha,k (j:=0) (by decide) rfl,k (by decide) rfl,k (by decide) rfl,k (by decide) rfl,k (by decide) rfl,k (by decide) rfl⟩
end Go.Proofs.YtcpkinhneehomaaGreat
