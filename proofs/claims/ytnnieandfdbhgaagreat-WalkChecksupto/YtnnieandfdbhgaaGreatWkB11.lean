import Derived.Test.YtnnieandfdbhgaaGreatWkB10
set_option linter.all false
set_option maxHeartbeats 8000000
set_option maxRecDepth 10000
namespace Go.Proofs.YtnnieandfdbhgaaGreat
open Go.Proofs.Tryz
open Go.RowKit Go.Shelf
attribute [local go_sem] Oper.semAt_some
variable {wlb:Array Value}{o:Bool}{rd:Int->Option Pg}{b mb tb:Nat}{S XV XW:Nat->Prop}{p:Pg}{w w':World}
theorem pY{a:Int}:lvl p a=true↔p.kind≠3/\p.level=a:=by unfold lvl;simp
theorem kind'(h:Sound p):p.kind=1\/p.kind=2\/p.kind=3:=Pg.kindOk_iff.1 h.k
theorem idx'(h:Sound p)(c:p.kind=2):1<=p.level/\p.level<=11/\2<=p.items.length:=by
 have a:=h.f;unfold Pg.form at a;rw[if_neg (by omega),if_neg (by omega)] at a
 simp at a;omega
theorem kR{α β σ:Type}(f:σ->β->σ)(a:σ->Bool)(g:α->β):∀(L:List α)(s:σ),flw (λs x=>f s (g x)) a L s=flw f a (L.map g) s
 | [],_=>rfl
 |x::L,s=>by
  rw[bE,iI,iI];split
  . rfl
  . exact kR f a g L _
theorem lS{α β:Type}(o:Bool)(g:α->β)(L:List α):ga o (L.map g)=(ga o L).map g:=by
 unfold ga;split
 . rfl
 . rw[List.map_reverse]
theorem But.around{a g j c:World}{l:Nat}(s:But S a g)(t:Below g.heap.size g j)(v:But (λk=>k=l) j c)(n:l<a.heap.size)(x:¬S l):∃i:World,But (λk=>k=l) a i/\But S i c/\i.heap.size=a.heap.size:=by
 have d:But (λk=>S k\/k=l) a c:=((s.mono (T:=λk=>S k\/k=l) λk _ e=>.inl e).andBelow t).trans v (λk _ e=>.inr e)
 have q:l<c.heap.size:=aE n d.size;have f:=(But.refl (λk=>k=l) a).putObj (λ_=>rfl) c.heap[l]
 have sz:(a.putObj l c.heap[l]).heap.size=a.heap.size:=by simp[World.putObj]
 refine⟨a.putObj l c.heap[l],f,⟨d.os.trans f.os.symm,d.tape.trans f.tape.symm,d.output.trans f.output.symm,by rw[sz];exact d.size,λk m r=>?_⟩,sz⟩
 rw[sz] at m;by_cases e:k=l
 . subst e;rw[dd n];simp[q]
 . rw[d.block k m (λh=>h.elim r e),cJ e]
theorem Bs.loop{a:Option Addr}{l:List Nat}{k:Nat}{r:Loop}(h:Bs w a l)(hb:But (λj=>j=k) w w')(i:w.heap[k]?=some (.loop r)):Bs w' a l:=by
 refine h.but hb (λx m f e=>?_)
 obtain⟨_,_,c⟩:=h;rcases c with c|⟨b,n,d,g⟩
 . exact f c
 . rw[m] at d;cases d;have e:b=k:=e;subst e;have:=g 0 (a7.2 f);simp[World.cell?,i] at this
theorem iD{W:World}{t:TypeId}{v0 a c v3 v4 v5 d e f v9:Value}(h:W.heap[b]?=some (.cells #[v0,a,c,v3,v4,v5,d,e,f,v9] t (0,0))):W.cell? ⟨b,0,none⟩=some v0/\W.cell? ⟨b,1,none⟩=some a/\W.cell? ⟨b,2,none⟩=some c/\W.cell? ⟨b,3,none⟩=some v3/\W.cell? ⟨b,4,none⟩=some v4/\W.cell? ⟨b,5,none⟩=some v5/\W.cell? ⟨b,6,none⟩=some d/\W.cell? ⟨b,7,none⟩=some e/\W.cell? ⟨b,8,none⟩=some f/\W.cell? ⟨b,9,none⟩=some v9:=by
 refine⟨?_,?_,?_,?_,?_,?_,?_,?_,?_,?_⟩<;>(rw[ah _ _ _ _ _ _ h];rfl)
theorem jJ{α:Type}{L:List α}{x:α}:x∈ga o L↔x∈L:=by
 unfold ga;split
 . rfl
 . exact List.mem_reverse
def bkP(q:Pv)(k:Nat):Prop:=(∃x,q.aI=some x/\x.block=k)\/∃t∈fI q.items,∃x,t.a=some x/\x.block=k
def fZ:Array Value:=#[.int .i64 0,.int .i64 0,.slice none 0 0,.slice none 0 0,.bool false,.int .i64 0,.int .i64 0,.slice none 0 0,.slice none 0 0,.int .i64 0]
def il(p:Plv)(q:Pv):Array Value:=#[.int .i64 p.no,.int .i64 p.lv,.slice p.r.aL p.r.lo.length p.r.cL,.slice p.r.aH p.r.hi.length p.r.cH,.bool p.r.op,.int .i64 q.kind,.int .i64 q.level,.slice q.aI q.items.length q.cI,.slice q.aD q.data.length q.cD,.int .i64 q.next]
def EnS{σ:Type}(M:Mc σ)(rd:Int->Option Pg)(mb:Nat)(s:σ)(W0 W1:World)(vals:Array Value)(s':σ)(er:Bool)(Gv:Nat->Prop):Prop:=
 (∃(p:Plv)(q:Pv),vals=#[.agg (il p q),.int .i64 0]/\Ri W1 p.r/\Rb p.r/\Pn W0 W1 q/\rd p.no=some q.pg/\lvl q.pg p.lv=true/\p.no∉M.gone s/\Mp W1 mb (gnf (p.no::M.gone s))/\s'=M.tel (M.ent s p.no) p.px q.pg/\er=false/\∀k,Gv k↔(q.kind=1/\bkP q k))\/
 (vals=#[.agg fZ,.int .i64 15]/\((s'=M.bad s/\Mp W1 mb (gnf (M.gone s)))\/∃n,s'=M.bad (M.ent s n)/\Mp W1 mb (gnf (n::M.gone s)))/\er=true/\∀k,¬Gv k)
def qb(wf:FuncId)(wlb:Array Value)(wants:Rg->Bool)(X:Nat->Prop)(w:World):Prop:=∀W,But (λk=>¬X k) w W->∀r:Rv,Ri W r->Rb r->Calls prog wf (#[r.val]++wlb) W λe w'=>e=.returned (.bool (wants r.rg))/\Below W.heap.size W w'
structure Tou(w:World)(tb mb b:Nat)(wf:FuncId)(wlb:Array Value)(o:Bool)(rd:Int->Option Pg)(XV:Nat->Prop)(wants:Rg->Bool)(XW:Nat->Prop):Prop where
 tt:w.heap[tb]?=some (.cells (kW b mb (.func (.func wf) #[] wlb) o) 143 (0,0))
 rr:gu 52 (.pointer (some ⟨b,0,none⟩)) rd XV w
 wn:qb wf wlb wants XW w
 lV:∀k,XV k->k<w.heap.size
 lW:∀k,XW k->k<w.heap.size
theorem Tou.but{c:FuncId}{wants:Rg->Bool}(h:Tou w tb mb b c wlb o rd XV wants XW)(hb:But S w w')(a:∀k,S k->k≠tb/\¬XV k/\¬XW k):Tou w' tb mb b c wlb o rd XV wants XW:=
 ⟨hb.same h.tt (λe=>(a _ e).1 rfl),h.rr.but hb (λk e=>(a k e).2.1),λW d r=>h.wn W ((hb.mono (T:=λk=>¬XW k) λk _ e=>(a k e).2.2).trans d λ_ _ e=>e) r,λk e=>aE (h.lV k e) hb.size,λk e=>aE (h.lW k e) hb.size⟩
theorem Tou.keep{a:FuncId}{wants:Rg->Bool}(h:Tou w tb mb b a wlb o rd XV wants XW)(hb:Below w.heap.size w w'):Tou w' tb mb b a wlb o rd XV wants XW:=h.but (S:=λ_=>False) (But.ofBelow hb) (λ_ e=>e.elim)
def XS(tb t1 t2:Nat)(p:Plv)(XV XW:Nat->Prop)(k:Nat):Prop:=k=t1\/k=t2\/k=tb\/XV k\/XW k\/(∃x,p.r.aL=some x/\x.block=k)\/∃x,p.r.aH=some x/\x.block=k
def wP(W W':World)(e:Ending)(p:Plv)(q:Pv):Prop:=∃(a:Option Addr)(c:Nat)(L:List Plv),e=.returned (.slice a L.length c)/\L.map Plv.px=ben p.px q.pg/\gz W' a Plv.cs 5 L/\(∀x,a=some x->W.heap.size<=x.block/\x.block<W'.heap.size)/\(∀x∈L,Ri W' x.r/\Rb x.r/\∀y,(x.r.aL=some y\/x.r.aH=some y)->W.heap.size<=y.block/\y.block<W'.heap.size)/\Below W.heap.size W W'
def mY:Prop:=∀(W:World)(p:Plv)(q:Pv),Ri W p.r->Rb p.r->Pi W q->Sound q.pg->q.kind=2->1<=p.lv->p.lv<=11->Calls prog 119 #[p.vl,q.vl] W λe W'=>wP W W' e p q
theorem mJ{bI:Type}(M:Mc bI)(rd:Int->Option Pg)(hA:gc rd)(b tb mb:Nat)(wf:FuncId)(wlb:Array Value)(en:∀args w,(callFunc wf args).run prog w=.ok (.enter wf args) w)(o:Bool)(XV:Nat->Prop)(wants:Rg->Bool)(XW:Nat->Prop)(dQ:∀s n,M.gone (M.ent s n)=n::M.gone s)(dp:∀s,M.stp (M.bad s)=true)(BE:mY)(f:Nat)(IH:∀k,f=k+1->∀(w:World)(C t2:Nat)(p:Plv)(I:bI),p.lv<=(k:Int)->w.cell? ⟨C,0,none⟩=some (.pointer (some ⟨tb,0,none⟩))->w.heap[t2]?=some (.cells p.cs 148 (0,0))->Ri w p.r->Rb p.r->N64 p.lv->Tou w tb mb b wf wlb o rd XV wants XW->M.stp I=false->(∀k,XS tb C t2 p XV XW k->k<w.heap.size)->jE prog 116 #[.pointer (some ⟨C,0,none⟩),.pointer (some ⟨t2,0,none⟩)] M.stp (EnS M rd mb) (λk=>k=mb) (λs W=>Mp W mb (gnf (M.gone s))) I (λs=>s=fs M rd wants o k I p.px) w (XS tb C t2 p XV XW)):∀(w:World)(C t2:Nat)(p:Plv)(I:bI),p.lv<=(f:Int)->w.cell? ⟨C,0,none⟩=some (.pointer (some ⟨tb,0,none⟩))->w.heap[t2]?=some (.cells p.cs 148 (0,0))->Ri w p.r->Rb p.r->N64 p.lv->Tou w tb mb b wf wlb o rd XV wants XW->M.stp I=false->(∀k,XS tb C t2 p XV XW k->k<w.heap.size)->jE prog 116 #[.pointer (some ⟨C,0,none⟩),.pointer (some ⟨t2,0,none⟩)] M.stp (EnS M rd mb) (λk=>k=mb) (λs W=>Mp W mb (gnf (M.gone s))) I (λs=>s=fs M rd wants o f I p.px) w (XS tb C t2 p XV XW):=by
 intro w C t2 p I dJ bW cy a3 bA hN hT dK cw;intro ao bf Jx W q hW hS aJ sJ cm cP hR hY h0;have cr:Tou W tb mb b wf wlb o rd XV wants XW:=hT.but hW (λk hk=>⟨λe=>hk (.inr (.inr (.inl e))),λe=>hk (.inr (.inr (.inr (.inl e)))),λe=>hk (.inr (.inr (.inr (.inr (.inl e)))))⟩)
 have cS:W.cell? ⟨C,0,none⟩=some (.pointer (some ⟨tb,0,none⟩)):=(hW.cell (p:=⟨C,0,none⟩) (block_lt_of_cell bW) (λh=>h (.inl rfl))).trans bW
 have cT:=hW.same cy (λh=>h (.inr (.inl rfl)))
 have cp:Ri W p.r:=⟨a3.bl.but hW (λx d _ h=>h (.inr (.inr (.inr (.inr (.inr (.inl ⟨x,d,rfl⟩))))))),a3.cl,a3.bh.but hW (λx d _ h=>h (.inr (.inr (.inr (.inr (.inr (.inr ⟨x,d,rfl⟩))))))),a3.ch⟩
 have ct:∀k,XS tb C t2 p XV XW k->k<W.heap.size:=λk hk=>aE (cw k hk) hW.size
 have HT:=e7 cr;have C1:=e7 cS;have C2:=e7 cT;have RI:=e7 cp;have XL:=e7 ct;have aM:=e7 hY;have AJ:=e7 aJ;have SJ:=e7 sJ;have bJ:=e7 cm;have cj:=e7 cP;have HR:=e7 hR;have HS:=e7 hS;have H0:=e7 h0;have am:=e7 (sJ _ _ _ h0);have aA:=(hR _ _ _ h0).2 mb rfl;clear hW hS aJ sJ cm cP hR hY h0 cr cS cT cp ct bW cy hT cw a3;have A1:=e7 (al W (.cells #[.func (.yield ao) #[] #[]] 199));have X1:=e7 (Q.fq W (.func (.yield ao) #[] #[]) 199);have s1:=size_alloc W (.cells #[.func (.yield ao) #[] #[]] 199);obtain⟨V1,dd⟩:∃V1,W.alloc (.cells #[.func (.yield ao) #[] #[]] 199)=V1:=⟨_,rfl⟩;rw[dd] at A1 X1 s1;have WA:=e7 λ(U:World)(hb:Below W.heap.size W U)=>HT.o.wn U (But.ofBelow hb) p.r (RI.o.keep hb) bA
 obtain⟨z,hz⟩:∃z,wants p.r.rg=z:=⟨_,rfl⟩;rw[hz] at WA
 have SS:Hid (∀U:World,Below V1.heap.size V1 U->(U.cell? ⟨C,0,none⟩=some (.pointer (some ⟨tb,0,none⟩))/\U.cell? ⟨tb,2,none⟩=some (.func (.func wf) #[] wlb)/\U.cell? ⟨t2,2,none⟩=some (.slice p.r.aL p.r.lo.length p.r.cL)/\U.cell? ⟨t2,3,none⟩=some (.slice p.r.aH p.r.hi.length p.r.cH)/\U.cell? ⟨t2,4,none⟩=some (.bool p.r.op))):=λU hb=>by
  have aF:=bt A1.o hb;obtain⟨_,_,q2,_⟩:=fO (show U.heap[tb]?=some (.cells #[.pointer (some ⟨b,0,none⟩),.map (some mb),.func (.func wf) #[] wlb,.int .i64 (if o=true then 0 else 1)] 143 (0,0)) from((HT.o.keep aF).tt))
  obtain⟨_,_,k2,k3,k4⟩:=fC (show U.heap[t2]?=some (.cells #[.int .i64 p.no,.int .i64 p.lv,.slice p.r.aL p.r.lo.length p.r.cL,.slice p.r.aH p.r.hi.length p.r.cH,.bool p.r.op] 148 (0,0)) from(aF.block t2 (ae.1 C2.o).1).trans C2.o)
  exact⟨(aF.cell (p:=⟨C,0,none⟩) (block_lt_of_cell C1.o)).trans C1.o,q2,k2,k3,k4⟩
 refine dg func116 rfl trivial ?_ rfl;simp only[ntmps116,bM,aR,aO,Nat.reduceAdd,Nat.reduceSub,bT,bX,cG,b7,cu,cM];refine dW.2 ?_;go_upto_region 1 with fail
 have DR:=e7 (dr2 V1);refine wp_region_noPanic ?_;refine wrd SS DR.o λhHeld=>?_
 refine tkd 0 1 2 3 ?_;refine tkb 4 5 ?_;refine tw 6 λKx hK=>?_
 go_simp;refine(WA.o _ (bt A1.o DR.o)).mono ?_;rintro _ l ⟨rfl,aF⟩;have σ:=e7 (bt DR.o aF);clear aF WA;go_wp2_with fail
 refine hK.o _ _ (SS.o _ σ.o) (λhHeld=>?_)
 refine tk 7 ?_;refine td ?_;clear hHeld SS;refine NoPanic.normal ?_;have D2:=σ;have σ:=e7 (bt A1.o σ.o);cases z with
 |false=>
  go_wp2_with fail
  exact⟨_,bm rfl _ _ _,q,I,⟨_,rfl⟩,But.ofBelow σ.o,λk hk=>.inl hk,(xm hz).symm,.inl (AJ.o _ _ _ _ H0.o (But.ofBelow σ.o))⟩
 |true=>
  have EN:=e7 (oD l tb mb b (.func (.func wf) #[] wlb) o rd XV (M.gone I) p.no (HT.o.keep σ.o).tt ((HR.o _ _ _ H0.o).1.keep σ.o) (HT.o.keep σ.o).rr);obtain⟨k0,k1,k2,k3,k4⟩:=fC (show l.heap[t2]?=some (.cells #[.int .i64 p.no,.int .i64 p.lv,.slice p.r.aL p.r.lo.length p.r.cL,.slice p.r.aH p.r.hi.length p.r.cH,.bool p.r.op] 148 (0,0)) from(σ.o.block t2 (ae.1 C2.o).1).trans C2.o)
  have c1:=(σ.o.cell (p:=⟨C,0,none⟩) (block_lt_of_cell C1.o)).trans C1.o;clear k2 k3 k4;go_wp2_with fail
  refine EN.o.mono ?_;rintro e H (⟨rfl,cZ,ay⟩|⟨c3,cB,cz,rfl,hP,ay,co⟩)
  . simp only[Pv.vl,Pv.cs,Pv.zero,aO];have B3:=e7 (bt σ.o ay);have E3:=e7 ay;clear ay EN k0 k1 c1;have A4:=al H (.cells #[.int .i64 0,.int .i64 0,.slice none 0 0,.slice none 0 0,.int .i64 0] 77);have B4:=e7 (bt B3.o A4);have bj:Hid (But q W (H.alloc (.cells #[.int .i64 0,.int .i64 0,.slice none 0 0,.slice none 0 0,.int .i64 0] 77))):=But.ofBelow B4.o;have J4:=AJ.o q I W _ H0.o (But.ofBelow B4.o);clear A4;go_upto_region 4 with fail
    have cY:=((bt D2.o (bt E3.o (al H (.cells #[.int .i64 0,.int .i64 0,.slice none 0 0,.slice none 0 0,.int .i64 0] 77)))).cell (p:=⟨W.heap.size,0,none⟩) (block_lt_of_cell X1.o)).trans X1.o;obtain⟨fn,bG,bH,bE,j,a⟩:=aM.o q I (H.alloc (.cells #[.int .i64 0,.int .i64 0,.slice none 0 0,.slice none 0 0,.int .i64 0] 77)) (H.alloc (.cells #[.int .i64 0,.int .i64 0,.slice none 0 0,.slice none 0 0,.int .i64 0] 77)) #[.agg fZ,.int .i64 15] (M.bad I) true (λ_=>False) J4 (But.refl _ _) (.inr ⟨rfl,.inl ⟨rfl,(HR.o _ _ _ J4).1⟩,rfl,λ_ h=>h⟩) (λ_ h=>h.elim) B4.o.size (λk hk=>.inl hk)
    simp only[fZ] at j a;refine(dW (n:=0)).1 ?_;gi_wp2
    refine⟨rfl,a.mono ?_⟩;rintro e V5 ⟨G,h5,hG,⟨rfl,ac,L⟩|⟨rfl,ac,L⟩⟩
    . gi_wp2
      go_wp2_with fail
      exact⟨_,bm rfl _ _ _,G,(M.bad I),⟨_,rfl⟩,bj.o.trans h5.nog (λ_ _ h=>h),λk hk=>(hG k hk).imp id (λh=>h.elim (λh=>h.elim) (λh=>az bj.o.size h)),(jZ hz cZ).symm,.inl L⟩
    . gi_wp2
      go_wp2_with fail
      exact⟨_,bm rfl _ _ _,G,(M.bad I),⟨_,rfl⟩,bj.o.trans h5.nog (λ_ _ h=>h),λk hk=>(hG k hk).imp id (λh=>h.elim (λh=>h.elim) (λh=>az bj.o.size h)),(jZ hz cZ).symm,.inr L⟩
  . obtain⟨g,i,O,P,K,X,Z,R,nq⟩:=c3;have bB:∀k,XS tb C t2 p XV XW k->k≠mb:=λk hk e=>HS.o mb aA (e▸hk)
    simp only[Pv.vl,Pv.cs];have A4:=e7 (al H (.cells #[.int .i64 g,.int .i64 i,.slice O K.length P,.slice X R.length Z,.int .i64 nq] 77));have X4:=e7 (ag H (.cells #[.int .i64 g,.int .i64 i,.slice O K.length P,.slice X R.length Z,.int .i64 nq] 77));have LV:=e7 (pD (H.alloc (.cells #[.int .i64 g,.int .i64 i,.slice O K.length P,.slice X R.length Z,.int .i64 nq] 77)) ⟨g,i,O,P,K,X,Z,R,nq⟩ p.lv);have bP:But (λk=>k=mb) l (H.alloc (.cells #[.int .i64 g,.int .i64 i,.slice O K.length P,.slice X R.length Z,.int .i64 nq] 77)):=ay.andBelow A4.o
    have bg:Hid (But (λk=>k=mb) W (H.alloc (.cells #[.int .i64 g,.int .i64 i,.slice O K.length P,.slice X R.length Z,.int .i64 nq] 77))):=(But.ofBelow (S:=λk=>k=mb) σ.o).trans bP (λ_ _ e=>e)
    have b9:∀k,k=C\/k=t2->k≠mb:=λk hk=>bB k (hk.elim .inl λh=>.inr (.inl h))
    obtain⟨m0,m1,m2,m3,m4⟩:=fC (show(H.alloc (.cells #[.int .i64 g,.int .i64 i,.slice O K.length P,.slice X R.length Z,.int .i64 nq] 77)).heap[t2]?=some (.cells #[.int .i64 p.no,.int .i64 p.lv,.slice p.r.aL p.r.lo.length p.r.cL,.slice p.r.aH p.r.hi.length p.r.cH,.bool p.r.op] 148 (0,0)) from bg.o.same C2.o (b9 t2 (.inr rfl)))
    obtain⟨n0,n1,n2,n3,n4⟩:=fC X4.o;have c1:=(bg.o.cell (p:=⟨C,0,none⟩) (block_lt_of_cell C1.o) (b9 C (.inl rfl))).trans C1.o;have M4:Hid (Mp (H.alloc (.cells #[.int .i64 g,.int .i64 i,.slice O K.length P,.slice X R.length Z,.int .i64 nq] 77)) mb (gnf (p.no::M.gone I))):=co.keep A4.o;have P4:=e7 (hP.keep A4.o);have av:=e7 bP;have ap:=e7 cB;have ax:=e7 cz;have J2:=e7 (AJ.o q I W l H0.o (But.ofBelow σ.o));have dn:=e7 ay.size
    have bo:Hid (∀k,bkP ⟨g,i,O,P,K,X,Z,R,nq⟩ k->l.heap.size<=k/\k<H.heap.size):=λk hk=>by
     have nw:∀{aN:Option Addr},New l none aN->∀x,aN=some x->l.heap.size<=x.block:=λhn x d=>by
      rcases hn x d with⟨z,hz,_⟩|h2
      . cases hz
      . exact h2
     rcases hk with⟨x,d,rfl⟩|⟨aj,ht,x,d,rfl⟩
     . exact⟨nw hP.itn x d,hP.it.lt d⟩
     . exact⟨nw (hP.fr aj ht).2.1 x d,(hP.fr aj ht).1.lt d⟩
    clear hP ay co EN k0 k1 cB cz bP b9;unfold Pv.vl at LV;simp only[Pv.cs] at LV;have br:=e7 (hA _ _ ap.o);cases hlq:lvl (Pv.pg ⟨g,i,O,P,K,X,Z,R,nq⟩) p.lv with
    |false=>
     rw[hlq] at LV;go_upto_region 4 with(go_at_call 80;refine LV.o.mono ?_;rintro _ V6 ⟨rfl,a4⟩)
     have B6:=e7 a4;have ak:Hid (But q W V6):=(bg.o.mono (λk _ e=>by rw[e];exact aA)).andBelow B6.o
     clear a4 LV m0 m1 m2 m3 m4 n0 n1 n2 n3 n4 c1;have cY:V6.cell? ⟨W.heap.size,0,none⟩=some (.func (.yield ao) #[] #[]):=(B6.o.cell (p:=⟨W.heap.size,0,none⟩) (by have:=block_lt_of_cell X1.o;have e:W.heap.size<V1.heap.size:=this;have:=D2.o.size;have:=av.o.size;show W.heap.size<_;omega)).trans ((av.o.cell (p:=⟨W.heap.size,0,none⟩) (by have:=block_lt_of_cell X1.o;have e:W.heap.size<V1.heap.size:=this;have:=D2.o.size;show W.heap.size<l.heap.size;omega) (λe=>by have:=am.o mb aA;have e:W.heap.size=mb:=e;omega)).trans ((D2.o.cell (p:=⟨W.heap.size,0,none⟩) (block_lt_of_cell X1.o)).trans X1.o))
     obtain⟨fn,bG,bH,bE,j,a⟩:=aM.o q I l V6 #[.agg fZ,.int .i64 15] (M.bad (M.ent I p.no)) true (λ_=>False) J2.o (av.o.andBelow B6.o) (.inr ⟨rfl,.inr ⟨p.no,rfl,M4.o.keep B6.o⟩,rfl,λ_ h=>h⟩) (λ_ h=>h.elim) σ.o.size (λk hk=>.inl hk)
     simp only[fZ] at j a;refine(dW (n:=0)).1 ?_;gi_wp2
     refine⟨rfl,a.mono ?_⟩;rintro e V5 ⟨G,h5,hG,⟨rfl,ac,L⟩|⟨rfl,ac,L⟩⟩
     . gi_wp2
       go_wp2_with fail
       exact⟨_,bm rfl _ _ _,G,_,⟨_,rfl⟩,ak.o.trans h5.nog (λ_ _ h=>h),λk hk=>(hG k hk).imp id (λh=>h.elim (λh=>h.elim) (λh=>az ak.o.size h)),(jy hz ap.o ax.o hlq).symm,.inl L⟩
     . gi_wp2
       go_wp2_with fail
       exact⟨_,bm rfl _ _ _,G,_,⟨_,rfl⟩,ak.o.trans h5.nog (λ_ _ h=>h),λk hk=>(hG k hk).imp id (λh=>h.elim (λh=>h.elim) (λh=>az ak.o.size h)),(jy hz ap.o ax.o hlq).symm,.inr L⟩
    |true=>
     rw[hlq] at LV;go_upto_region 5 with(go_at_call 80;refine LV.o.mono ?_;rintro _ V6 ⟨rfl,a4⟩)
     have B6:=e7 a4;have bi:Hid (But (λk=>k=mb) W V6):=bg.o.andBelow B6.o
     have ak:Hid (But q W V6):=bi.o.mono (λk _ e=>by rw[e];exact aA)
     clear a4 LV m0 m1 m2 m3 m4 n0 n1 n2 n3 n4 c1;obtain⟨m0,m1,m2,m3,m4⟩:=fC (show V6.heap[t2]?=some (.cells #[.int .i64 p.no,.int .i64 p.lv,.slice p.r.aL p.r.lo.length p.r.cL,.slice p.r.aH p.r.hi.length p.r.cH,.bool p.r.op] 148 (0,0)) from bi.o.same C2.o (bB t2 (.inr (.inl rfl))))
     have X6:=e7 ((B6.o.block H.heap.size (ae.1 X4.o).1).trans X4.o);obtain⟨n0,n1,n2,n3,n4⟩:=fC X6.o;have cY:V6.cell? ⟨W.heap.size,0,none⟩=some (.func (.yield ao) #[] #[]):=(B6.o.cell (p:=⟨W.heap.size,0,none⟩) (by have:=block_lt_of_cell X1.o;have e:W.heap.size<V1.heap.size:=this;have:=D2.o.size;have:=av.o.size;show W.heap.size<_;omega)).trans ((av.o.cell (p:=⟨W.heap.size,0,none⟩) (by have:=block_lt_of_cell X1.o;have e:W.heap.size<V1.heap.size:=this;have:=D2.o.size;show W.heap.size<l.heap.size;omega) (λe=>by have:=am.o mb aA;have e:W.heap.size=mb:=e;omega)).trans ((D2.o.cell (p:=⟨W.heap.size,0,none⟩) (block_lt_of_cell X1.o)).trans X1.o))
     have P6:=e7 (P4.o.keep B6.o);have R6:Hid (Ri V6 p.r):=⟨RI.o.bl.but bi.o (λx d _=>bB _ (.inr (.inr (.inr (.inr (.inr (.inl ⟨x,d,rfl⟩))))))),RI.o.cl,RI.o.bh.but bi.o (λx d _=>bB _ (.inr (.inr (.inr (.inr (.inr (.inr ⟨x,d,rfl⟩))))))),RI.o.ch⟩
     have GN:Hid (∀k,bkP ⟨g,i,O,P,K,X,Z,R,nq⟩ k->l.heap.size<=k/\k<V6.heap.size):=λk hk=>by
      have nw:∀{aN:Option Addr},New l none aN->∀x,aN=some x->l.heap.size<=x.block:=λhn x d=>by
       rcases hn x d with⟨z,hz,_⟩|h2
       . cases hz
       . exact h2
      rcases hk with⟨x,d,rfl⟩|⟨aj,ht,x,d,rfl⟩
      . exact⟨nw P6.o.itn x d,P6.o.it.lt d⟩
      . exact⟨nw (P6.o.fr aj ht).2.1 x d,(P6.o.fr aj ht).1.lt d⟩
     have cC:=σ.o.size;have du:W.heap.size<=H.heap.size:=az cC dn.o;obtain⟨fn,bG,bH,bE,j,a⟩:=aM.o q I l V6 #[.agg (il p ⟨g,i,O,P,K,X,Z,R,nq⟩),.int .i64 0] (M.tel (M.ent I p.no) p.px (Pv.pg ⟨g,i,O,P,K,X,Z,R,nq⟩)) false (λk=>g=1/\bkP ⟨g,i,O,P,K,X,Z,R,nq⟩ k) J2.o (av.o.andBelow B6.o) (.inl ⟨p,⟨g,i,O,P,K,X,Z,R,nq⟩,rfl,R6.o,bA,P6.o,ap.o,hlq,ax.o,M4.o.keep B6.o,rfl,rfl,λk=>df⟩) (λk hk=>⟨λh=>by have:=am.o k h;have:=(GN.o k hk.2).1;omega,by have:=(GN.o k hk.2).1;omega,(GN.o k hk.2).2⟩) cC (λk hk=>.inl hk)
     simp only[il] at j a;refine(dW (n:=0)).1 ?_;gi_wp2
     refine⟨rfl,a.mono ?_⟩;have cd:=e7 cY;clear m0 m1 m2 m3 m4 n1 n2 n3 n4 cY j a;rintro e V7 ⟨G,h7,hG,⟨rfl,ac,aC⟩|⟨rfl,ac,aC⟩⟩
     . have bq:=e7 (ac rfl);clear ac
       have X7:=e7 (h7.same X6.o (λe=>by
        rcases e with e|e
        . have h1:=am.o _ e;have h2:=du;omega
        . have:=(bo.o _ e.2).2;omega))
       obtain⟨n0,n1,n2,n3,n4⟩:=fC X7.o;clear n1 n2 n3 n4
       have GW:Hid (¬G W.heap.size):=λhk=>by
        have dh:W.heap.size<V1.heap.size:=block_lt_of_cell X1.o;have dL:=D2.o.size;rcases hG _ hk with h|h|h
        . have:=am.o _ h;omega
        . have:=(GN.o _ h.2).1;omega
        . have:=av.o.size;have:=B6.o.size;have:=A4.o.size;omega
       have bn:=e7 ((h7.cell (p:=⟨W.heap.size,0,none⟩) (block_lt_of_cell cd.o) (λh=>by
        rcases h with h|h
        . have:=am.o _ h;have e:W.heap.size<W.heap.size:=this;omega
        . have h9:=(bo.o _ h.2).1;have h9:l.heap.size<=W.heap.size:=h9;have dh:W.heap.size<V1.heap.size:=block_lt_of_cell X1.o;have:=D2.o.size;omega)).trans cd.o)
       have G7:Hid (∀k,G k->q k\/W.heap.size<=k):=λk hk=>by
        rcases hG k hk with h|h|h
        . exact .inl h
        . exact .inr (by have:=(GN.o k h.2).1;omega)
        . exact .inr (az ak.o.size h)
       have aa:Hid (But q W V7):=ak.o.trans h7 (λk hk h=>h.elim id (λh=>by have:=(bo.o _ h.2).1;omega))
       by_cases b0:g=1
       . subst b0;gi_wp2
         go_wp2_with fail
         exact⟨_,bm rfl _ _ _,G,_,⟨_,rfl⟩,aa.o,G7.o,(kf hz ap.o ax.o hlq (.inr rfl)).symm,.inl aC⟩
       . gi_wp2
         go_upto_region 6 with fail
         have b1:g=2:=by
          rcases kind' br.o with h|h|h
          . exact absurd h b0
          . exact h
          . exact absurd h (pY.1 hlq).1
         obtain⟨i1,i2,i3⟩:=idx' br.o b1;have e5:i=p.lv:=(pY.1 hlq).2;have I1:=e7 (show 1<=i from i1)
         have I2:=e7 (show i<=11 from i2)
         have I3:=e7 i3;have K2:=e7 b1;clear i1 i2 i3 b0;subst b1;subst e5;have ar:∀k,XS tb C t2 p XV XW k->¬q k:=λk hk h=>HS.o k h hk
         have T7:=e7 (HT.o.but aa.o (λk hk=>⟨λe=>ar _ (.inr (.inr (.inl e))) hk,λe=>ar _ (.inr (.inr (.inr (.inl e)))) hk,λe=>ar _ (.inr (.inr (.inr (.inr (.inl e))))) hk⟩))
         have R7:Hid (Ri V7 p.r):=⟨RI.o.bl.but aa.o (λx d _=>ar _ (.inr (.inr (.inr (.inr (.inr (.inl ⟨x,d,rfl⟩))))))),RI.o.cl,RI.o.bh.but aa.o (λx d _=>ar _ (.inr (.inr (.inr (.inr (.inr (.inr ⟨x,d,rfl⟩))))))),RI.o.ch⟩
         have P7:=e7 (P6.o.old (h7.mono (T:=q) λk _ e=>e.elim id (λc2=>absurd c2.1 (by decide))) (λk hk=>by have:=am.o k hk;omega))
         have dI:K.length<=8:=by have:=(br.o.node (.inr rfl)).2.2.1;simpa[Pv.pg] using this
         have Q7:=e7 (P7.o.pi (show K.length<=2199023255520 by omega))
         have cc:=e7 (aa.o.same C2.o (ar _ (.inr (.inl rfl))));have bk:=e7 ((aa.o.cell (p:=⟨C,0,none⟩) (block_lt_of_cell C1.o) (ar _ (.inl rfl))).trans C1.o);obtain⟨ov,cA⟩:∃ov:Int,(if o=true then (0:Int) else 1)=ov:=⟨_,rfl⟩
         have cf:=e7 cA;clear cA
         have bs:Hid (∀U:World,Below V7.heap.size V7 U->(U.cell? ⟨t2,0,none⟩=some (.int .i64 p.no)/\U.cell? ⟨t2,1,none⟩=some (.int .i64 p.lv)/\U.cell? ⟨t2,2,none⟩=some (.slice p.r.aL p.r.lo.length p.r.cL)/\U.cell? ⟨t2,3,none⟩=some (.slice p.r.aH p.r.hi.length p.r.cH)/\U.cell? ⟨t2,4,none⟩=some (.bool p.r.op)/\U.cell? ⟨H.heap.size,0,none⟩=some (.int .i64 2)/\U.cell? ⟨H.heap.size,1,none⟩=some (.int .i64 p.lv)/\U.cell? ⟨H.heap.size,2,none⟩=some (.slice O K.length P)/\U.cell? ⟨H.heap.size,3,none⟩=some (.slice X R.length Z)/\U.cell? ⟨H.heap.size,4,none⟩=some (.int .i64 nq)/\U.cell? ⟨C,0,none⟩=some (.pointer (some ⟨tb,0,none⟩))/\U.cell? ⟨tb,3,none⟩=some (.int .i64 ov))):=λU hb=>by
          obtain⟨_,_,_,q3⟩:=fO (show U.heap[tb]?=some (.cells #[.pointer (some ⟨b,0,none⟩),.map (some mb),.func (.func wf) #[] wlb,.int .i64 (if o=true then 0 else 1)] 143 (0,0)) from((T7.o.keep hb).tt))
          obtain⟨k0,k1,k2,k3,k4⟩:=fC (show U.heap[t2]?=some (.cells #[.int .i64 p.no,.int .i64 p.lv,.slice p.r.aL p.r.lo.length p.r.cL,.slice p.r.aH p.r.hi.length p.r.cH,.bool p.r.op] 148 (0,0)) from(hb.block t2 (ae.1 cc.o).1).trans cc.o)
          obtain⟨j0,j1,j2,j3,j4⟩:=fC ((hb.block H.heap.size (ae.1 X7.o).1).trans X7.o);exact⟨k0,k1,k2,k3,k4,j0,j1,j2,j3,j4,(hb.cell (p:=⟨C,0,none⟩) (block_lt_of_cell bk.o)).trans bk.o,by rw[<-cf.o];exact q3⟩
         have BN:=e7 λ(U:World)(hb:Below V7.heap.size V7 U)=>BE U p ⟨2,p.lv,O,P,K,X,Z,R,nq⟩ (R7.o.keep hb) bA (Q7.o.keep hb) br.o rfl I1.o I2.o
         unfold Plv.vl Pv.vl at BN;simp only[Plv.cs,Pv.cs] at BN;have J7:=e7 aC;have L7:=e7 (SJ.o _ _ _ aC);clear aC h7 hG n0 bA;have bK:=e7 (dr2 V7);refine wp_region_noPanic ?_;refine aX (S:=λU=>U.cell? ⟨t2,0,none⟩=some (.int .i64 p.no)/\U.cell? ⟨t2,1,none⟩=some (.int .i64 p.lv)/\U.cell? ⟨t2,2,none⟩=some (.slice p.r.aL p.r.lo.length p.r.cL)/\U.cell? ⟨t2,3,none⟩=some (.slice p.r.aH p.r.hi.length p.r.cH)/\U.cell? ⟨t2,4,none⟩=some (.bool p.r.op)/\U.cell? ⟨H.heap.size,0,none⟩=some (.int .i64 2)/\U.cell? ⟨H.heap.size,1,none⟩=some (.int .i64 p.lv)/\U.cell? ⟨H.heap.size,2,none⟩=some (.slice O K.length P)/\U.cell? ⟨H.heap.size,3,none⟩=some (.slice X R.length Z)/\U.cell? ⟨H.heap.size,4,none⟩=some (.int .i64 nq)/\U.cell? ⟨C,0,none⟩=some (.pointer (some ⟨tb,0,none⟩))/\U.cell? ⟨tb,3,none⟩=some (.int .i64 ov)) (by kernel_rfl) (bs.o _ bK.o) (λhHeld=>?_)
         refine tkd 0 1 3 4 ?_;refine tkb 5 6 ?_;refine tw 2 λKx hK=>?_
         go_simp;refine(BN.o _ bK.o).mono ?_;rintro _ V8 ⟨a8,c8,aL,rfl,hL,cs,bU,cH,cx⟩;have B8:=e7 (bt bK.o cx)
         have dc:aL.length=K.length:=by
          have:=aU List.length hL;simpa[ben,Pv.pg] using this
         have IN:=e7 (wa V8 a8 c8 aL cs (by omega) (λx d=>(bU x d).2) o)
         rw[cf.o] at IN;have c4:=e7 bU;have c5:=e7 cH;have bL:=e7 hL;clear cs cx bU cH hL BN dc;go_wp2_with fail
         refine hK.o _ _ (bs.o _ B8.o) (λhHeld=>?_)
         refine tw 7 λKx hK=>?_
         go_simp;refine IN.o.mono ?_;rintro _ V9 ⟨gf,lb,XX,rfl,de,bV,cv,dv⟩;have B9:=e7 (bt B8.o bV);have C9:=e7 bV;clear IN bV;go_wp2_with fail
         refine hK.o _ _ (bs.o _ B9.o) (λhHeld=>?_)
         refine td ?_;clear hHeld bs;refine NoPanic.normal ?_;go_wp2_with fail
         refine(dW (n:=0)).1 ?_;obtain⟨f',rfl⟩:∃f',f=f'+1:=⟨f-1,by have:=I1.o;omega⟩
         obtain⟨s2,bd⟩:∃s2,M.tel (M.ent I p.no) p.px (Pv.pg ⟨2,p.lv,O,P,K,X,Z,R,nq⟩)=s2:=⟨_,rfl⟩;rw[bd] at bq J7;have T9:=e7 (T7.o.keep B9.o);have dm:V7.drew.heap.size=V7.heap.size:=rfl
         refine iO (gf:=gf) (lb:=lb) rfl de (dv (λs x=>fs M rd wants o f' s x.px) M.stp s2) (But.refl _ _) (λk hk=>(cv k hk).2) (by rintro s W0 W1 cb s' er Gv ⟨x,c0,_,rfl,_⟩;rfl)
          G (λk hk d=>by
            have h1:=L7.o k hk;rcases (cv k d).1 with h|⟨x,d,e⟩
            . have:=B8.o.size;omega
            . have:=(c4.o x d).1;omega)
          (λF s V=>bf F s.2 V/\M.stp s.2=false/\∀y∈s.1,y∈aL)
          (λab F s V=>ab=.ret/\M.stp s.2=true/\(bf F s.2 V\/Jx F s.2 V))
          (λF s A ah E hb=>⟨AJ.o F _ A ah E.1 (hb.mono λk _ h=>⟨h.1,by have:=h.2;have:=B9.o.size;have:=aa.o.size;omega⟩),E.2⟩)
          (λF s A E=>SJ.o _ _ _ E.1)
          (λab F s A ah E hb=>⟨E.1,E.2.1,E.2.2.imp (λh=>AJ.o F _ A ah h (hb.mono λk _ h=>⟨h.1,by have:=h.2;have:=B9.o.size;have:=aa.o.size;omega⟩)) (λh=>bJ.o F _ A ah h (hb.mono λk _ h=>⟨h.1,by have:=h.2;have:=B9.o.size;have:=aa.o.size;omega⟩))⟩)
          (λab F s A E=>E.2.2.elim (λh=>SJ.o _ _ _ h) (λh=>cj.o _ _ _ h))
          (λF s A E=>⟨trivial,λk h=>h.elim⟩)
          ⟨AJ.o G _ V7 V9 J7.o (But.ofBelow B9.o),bq.o,λy j=>jJ.1 j⟩ ?round ?done ?stop
         case round=>
          rintro l2 F s bO aB cb s' er Gv ⟨hJ,ac,bZ⟩ cR ⟨x,c0,E,rfl,rfl,rfl,dB⟩ dC dP an db dG dH cn _;obtain⟨r0,aj⟩:=s;obtain rfl:r0=x::c0:=E;obtain⟨cJ,di,aG⟩:=c5.o x (bZ x cU);have bv:Below bO.heap.size bO aB:=cR.below (λ_ _ h=>h)
          simp only[mW,Plv.cs];gi_wp2
          refine⟨al _ _,λD aV dj cX=>?_⟩
          have aw:=al aB (.cells #[.int .i64 x.no,.int .i64 x.lv,.slice x.r.aL x.r.lo.length x.r.cL,.slice x.r.aH x.r.hi.length x.r.cH,.bool x.r.op] 148);have nw:=ag aB (.cells #[.int .i64 x.no,.int .i64 x.lv,.slice x.r.aL x.r.lo.length x.r.cL,.slice x.r.aH x.r.hi.length x.r.cH,.bool x.r.op] 148);have sw:=size_alloc aB (.cells #[.int .i64 x.no,.int .i64 x.lv,.slice x.r.aL x.r.lo.length x.r.cL,.slice x.r.aH x.r.hi.length x.r.cH,.bool x.r.op] 148);generalize aB.alloc (.cells #[.int .i64 x.no,.int .i64 x.lv,.slice x.r.aL x.r.lo.length x.r.cL,.slice x.r.aH x.r.hi.length x.r.cH,.bool x.r.op] 148)=dy at *;have dN:=bv.size;have cE:V7.heap.size<=V9.heap.size:=B9.o.size;have cF:W.heap.size<=V7.heap.size:=aa.o.size;have Y:But (λk=>G k\/k=l2) V9 D:=(((cn.mono (T:=λk=>G k\/k=l2) λk _ e=>.inl e).andBelow bv).andBelow aw).trans aV (λk _ e=>.inr e)
          have aZ:∀k,(G k\/k=l2)->¬XS tb C t2 p XV XW k:=λk hk d=>by
           have h1:=XL.o k d;rcases hk with hk|rfl
           . rcases G7.o k hk with h|h
             . exact ar k d h
             . omega
           . omega
          have c7:=e7 (T9.o.but Y (λk hk=>⟨λe=>aZ k hk (.inr (.inr (.inl e))),λe=>aZ k hk (.inr (.inr (.inr (.inl e)))),λe=>aZ k hk (.inr (.inr (.inr (.inr (.inl e)))))⟩))
          have dz:D.cell? ⟨C,0,none⟩=some (.pointer (some ⟨tb,0,none⟩)):=(Y.cell (p:=⟨C,0,none⟩) (by have:=XL.o C (.inl rfl);show C<V9.heap.size;omega) (λh=>aZ C h (.inl rfl))).trans ((B9.o.cell (p:=⟨C,0,none⟩) (block_lt_of_cell bk.o)).trans bk.o)
          have ca:∀y,(x.r.aL=some y\/x.r.aH=some y)->¬(G y.block\/y.block=l2):=λy j hk=>by
           obtain⟨h1,h2⟩:=aG y j;have h3:=C9.o.size;have c:=dm;rcases hk with hk|hk
           . have:=L7.o _ hk;omega
           . omega
          have a7:Ri V9 x.r:=cJ.keep C9.o;have c6:Hid (Ri D x.r):=⟨a7.bl.but Y (λy j _=>ca y (.inl j)),a7.cl,a7.bh.but Y (λy j _=>ca y (.inr j)),a7.ch⟩
          have cL:=aV.same nw (λe=>by have e:aB.heap.size=l2:=e;omega)
          obtain⟨k0,k1,k2,k3,k4⟩:=fC cL;have ci:=e7 (AJ.o F _ bO D hJ (((But.ofBelow (S:=λk=>¬F k/\W.heap.size<=k) bv).andBelow aw).trans aV (λk _ e=>by have e:k=l2:=e;rw[e];exact⟨db,by omega⟩)))
          have dO:=aV.size;have SO:=e7 (kx D tb x);unfold Plv.vl at SO;simp only[Plv.cs] at SO;clear hJ cn cR bv aV aw nw cJ a7 cL;gi_wp2_with (refine⟨trivial,rfl,?_⟩;refine CallsIn.mono (CallsIn.inRound l2 (cW.2 SO.o)) ?_;rintro _ _ ⟨rfl,rfl⟩)
          have a1:=al D (.cells #[.pointer (some ⟨tb,0,none⟩)] 198);have x1:=Q.fq D (.pointer (some ⟨tb,0,none⟩)) 198;have z1:=size_alloc D (.cells #[.pointer (some ⟨tb,0,none⟩)] 198);generalize D.alloc (.cells #[.pointer (some ⟨tb,0,none⟩)] 198)=bu at *;have a2:=al bu (.cells #[.int .i64 x.no,.int .i64 x.lv,.slice x.r.aL x.r.lo.length x.r.cL,.slice x.r.aH x.r.hi.length x.r.cH,.bool x.r.op] 148);have x2:=ag bu (.cells #[.int .i64 x.no,.int .i64 x.lv,.slice x.r.aL x.r.lo.length x.r.cL,.slice x.r.aH x.r.hi.length x.r.cH,.bool x.r.op] 148);have z2:=size_alloc bu (.cells #[.int .i64 x.no,.int .i64 x.lv,.slice x.r.aL x.r.lo.length x.r.cL,.slice x.r.aH x.r.hi.length x.r.cH,.bool x.r.op] 148);generalize bu.alloc (.cells #[.int .i64 x.no,.int .i64 x.lv,.slice x.r.aL x.r.lo.length x.r.cL,.slice x.r.aH x.r.hi.length x.r.cH,.bool x.r.op] 148)=ck at *;rw[z1] at x2;have N:=e7 (bt a1 a2);have c9:=(a2.cell (p:=⟨D.heap.size,0,none⟩) (block_lt_of_cell x1)).trans x1;have dt:=(N.o.block l2 (ae.1 cX).1).trans cX;have cK:x.px∈ben p.px (Pv.pg ⟨2,p.lv,O,P,K,X,Z,R,nq⟩):=bL.o▸List.mem_map_of_mem (bZ x cU)
          have dM:x.lv=p.lv-1:=by
           unfold ben at cK;obtain⟨dx,_,e⟩:=bN.1 cK;exact(aU Plx.lv e).symm
          have FL:=e7 (SJ.o _ _ _ ci.o);have dD:=I1.o;have dE:=I2.o
          refine mK (l₀:=l2) (r₀:=dj) dt (gf:=116) (lb:=#[.pointer (some ⟨D.heap.size,0,none⟩),.pointer (some ⟨D.heap.size+1,0,none⟩)]) rfl (enters_of func116 (by kernel_rfl) rfl)
           (IH f' rfl ck D.heap.size (D.heap.size+1) x aj (by omega) c9 x2 (c6.o.keep N.o) di ⟨by omega,by omega⟩ (c7.o.keep N.o) ac (λk hk=>by
             have h0:=Y.size;rcases hk with rfl|rfl|rfl|h|h|⟨y,j,rfl⟩|⟨y,j,rfl⟩
             . omega
             . omega
             . have:=XL.o k (.inr (.inr (.inl rfl)));omega
             . have:=XL.o k (.inr (.inr (.inr (.inl h))));omega
             . have:=XL.o k (.inr (.inr (.inr (.inr (.inl h)))));omega
             . have:=(aG y (.inl j)).2;have:=C9.o.size;omega
             . have:=(aG y (.inr j)).2;have:=C9.o.size;omega)) (But.refl _ _)
           (λk hk=>by
             have h0:=Y.size;rcases hk with rfl|rfl|rfl|h|h|⟨y,j,rfl⟩|⟨y,j,rfl⟩
             . omega
             . omega
             . have:=XL.o k (.inr (.inr (.inl rfl)));omega
             . have:=XL.o k (.inr (.inr (.inr (.inl h))));omega
             . have:=XL.o k (.inr (.inr (.inr (.inr (.inl h)))));omega
             . have:=(aG y (.inl j)).2;have:=C9.o.size;omega
             . have:=(aG y (.inr j)).2;have:=C9.o.size;omega)
           (by rintro s W0 W1 cb s' er Gv (⟨m,v,rfl,_⟩|⟨rfl,_⟩)<;>rfl)
           F (λk hk d=>by
             have h1:=FL.o k hk;have h2:=an k hk
             have old:∀k,XS tb C t2 p XV XW k->(G k\/V9.heap.size<=k)->False:=λk d h=>by
              rcases h with h|h
              . exact aZ k (.inl h) d
              . have:=XL.o k d;omega
             have cN:∀y,(x.r.aL=some y\/x.r.aH=some y)->(G y.block\/V9.heap.size<=y.block)->False:=λy j h=>by
              rcases h with h|h
              . exact ca y j (.inl h)
              . have:=(aG y j).2;have:=C9.o.size;omega
             rcases d with rfl|rfl|rfl|h|h|⟨y,j,rfl⟩|⟨y,j,rfl⟩
             . omega
             . omega
             . exact old k (.inr (.inr (.inl rfl))) h2
             . exact old k (.inr (.inr (.inr (.inl h)))) h2
             . exact old k (.inr (.inr (.inr (.inr (.inl h))))) h2
             . exact cN y (.inl j) h2
             . exact cN y (.inr j) h2)
           (λF s V=>bf F s V/\M.stp s=false)
           (λab F s V=>ab=.ret/\M.stp s=true/\(bf F s V\/Jx F s V))
           (λF s A ah E hb=>⟨AJ.o F _ A ah E.1 (hb.mono λk _ h=>⟨h.1,by have:=h.2;have:=N.o.size;have:=Y.size;omega⟩),E.2⟩)
           (λF s A E=>SJ.o _ _ _ E.1)
           (λab F s A ah E hb=>⟨E.1,E.2.1,E.2.2.imp (λh=>AJ.o F _ A ah h (hb.mono λk _ h=>⟨h.1,by have:=h.2;have:=N.o.size;have:=Y.size;omega⟩)) (λh=>bJ.o F _ A ah h (hb.mono λk _ h=>⟨h.1,by have:=h.2;have:=N.o.size;have:=Y.size;omega⟩))⟩)
           (λab F s A E=>E.2.2.elim (λh=>SJ.o _ _ _ h) (λh=>cj.o _ _ _ h))
           (λF s A E=>HR.o _ _ _ E.1)
           ⟨AJ.o F _ D ck ci.o (But.ofBelow N.o),ac⟩ ?round2 ?done2 ?stop2
          case round2=>
           rintro J F3 s3 U0 U1 cb cO dA bp ⟨bz,dS⟩ au dr aH dF bF cQ dR cV bw ⟨r1,bC⟩;rcases dr with⟨m,v,rfl,hR',hRb',hP',hrd',hlv',hng',hM',rfl,rfl,hGv'⟩|⟨rfl,hM',rfl,hGv'⟩
           . simp only[il];gi_wp2
             refine⟨al _ _,λU4 c b2=>?_⟩
             have B:=al U1 (.cells #[.int .i64 m.no,.int .i64 m.lv,.slice m.r.aL m.r.lo.length m.r.cL,.slice m.r.aH m.r.hi.length m.r.cH,.bool m.r.op,.int .i64 v.kind,.int .i64 v.level,.slice v.aI v.items.length v.cI,.slice v.aD v.data.length v.cD,.int .i64 v.next] 151);have a9:=ag U1 (.cells #[.int .i64 m.no,.int .i64 m.lv,.slice m.r.aL m.r.lo.length m.r.cL,.slice m.r.aH m.r.hi.length m.r.cH,.bool m.r.op,.int .i64 v.kind,.int .i64 v.level,.slice v.aI v.items.length v.cI,.slice v.aD v.data.length v.cD,.int .i64 v.next] 151);have dk:=size_alloc U1 (.cells #[.int .i64 m.no,.int .i64 m.lv,.slice m.r.aL m.r.lo.length m.r.cL,.slice m.r.aH m.r.hi.length m.r.cH,.bool m.r.op,.int .i64 v.kind,.int .i64 v.level,.slice v.aI v.items.length v.cI,.slice v.aD v.data.length v.cD,.int .i64 v.next] 151);generalize U1.alloc (.cells #[.int .i64 m.no,.int .i64 m.lv,.slice m.r.aL m.r.lo.length m.r.cL,.slice m.r.aH m.r.hi.length m.r.cH,.bool m.r.op,.int .i64 v.kind,.int .i64 v.level,.slice v.aI v.items.length v.cI,.slice v.aD v.data.length v.cD,.int .i64 v.next] 151)=U3 at *;have b8:=(ae.1 bC).1;obtain⟨k0,k1,k2,k3,k4,k5,k6,k7,k8,k9⟩:=iD (c.same a9 (λe=>by have e:U1.heap.size=J:=e;omega))
             have ds:mb<W.heap.size:=am.o mb aA;have w9:=(B9.o.cell (p:=⟨W.heap.size,0,none⟩) (block_lt_of_cell bn.o)).trans bn.o;have l9:W.heap.size<V9.heap.size:=block_lt_of_cell w9
             have b3:¬F W.heap.size:=λh=>by
              rcases an _ h with h|h
              . exact GW.o h
              . omega
             have aT:U4.cell? ⟨W.heap.size,0,none⟩=some (.func (.yield ao) #[] #[]):=by
              have ba:=(Y.cell (p:=⟨W.heap.size,0,none⟩) l9 (λh=>by
               rcases h with h|h
               . exact GW.o h
               . have h:W.heap.size=l2:=h;omega)).trans w9
              have bb:=(N.o.cell (p:=⟨W.heap.size,0,none⟩) (block_lt_of_cell ba)).trans ba;have u0:=(bw.cell (p:=⟨W.heap.size,0,none⟩) (block_lt_of_cell bb) b3).trans bb;have u1:=(au.cell (p:=⟨W.heap.size,0,none⟩) (block_lt_of_cell u0) (λe=>by have e:W.heap.size=mb:=e;omega)).trans u0
              have u3:=(B.cell (p:=⟨W.heap.size,0,none⟩) (block_lt_of_cell u1)).trans u1;exact(c.cell (p:=⟨W.heap.size,0,none⟩) (block_lt_of_cell u3) (λe=>by have e:W.heap.size=J:=e;have:=N.o.size;have:=Y.size;omega)).trans u3
             have b6:W.heap.size<=J:=by have:=N.o.size;have:=Y.size;omega
             have aK:¬J=mb:=by omega
             obtain⟨aS,g1,g2,g3⟩:=But.around au B c cV aK;have aP:=AJ.o F3 _ U0 aS bz (g1.mono λk _ e=>by have e:k=J:=e;rw[e];exact⟨cQ,b6⟩)
             have bc:∀k,F3 k->q k\/W.heap.size<=k:=λk hk=>by
              rcases bF k hk with h|h
              . rcases an k h with h|h
                . exact G7.o k h
                . exact .inr (by omega)
              . exact .inr (by have:=N.o.size;have:=Y.size;omega)
             have a6:U3.heap[J]?=some (.loop r1):=(B.block J b8).trans bC;have dl:=c.size;have dw:=au.size;have a5:∀k,bp k->¬F3 k/\W.heap.size<=k/\k<U4.heap.size:=λk hk=>⟨(aH k hk).1,by have:=(aH k hk).2.1;have:=N.o.size;have:=Y.size;omega,by have:=(aH k hk).2.2;omega⟩
             obtain⟨fn,bG,bH,bE,j,a⟩:=aM.o F3 s3 aS U4 #[.agg (il m v),.int .i64 0] _ false bp aP g2 (.inl ⟨m,v,rfl,⟨(hR'.bl.keep B).loop c a6,hR'.cl,(hR'.bh.keep B).loop c a6,hR'.ch⟩,hRb',((hP'.pre (by rw[g3];exact ai _)).keep B).old c (λk e=>by have e:k=J:=e;omega),hrd',hlv',hng',(hM'.keep B).but c (λe=>aK e.symm),rfl,rfl,hGv'⟩) a5 (by omega) bc
             simp only[il] at j a;have aQ:=e7 (show U1.heap.size<=U4.heap.size by omega)
             clear w9 l9 aP g1 g2 g3 a5 bc a6 b2 bz au c B a9 bw bF;gi_wp2
             refine⟨rfl,RoundIn.mono (F:=Fence.wide.inRound J) a ?_⟩;rintro e U5 ⟨G5,h5,aW,⟨rfl,af,L⟩|⟨rfl,af,L⟩⟩
             . have cg:=e7 (af rfl);clear k0 k1 k2 k3 k4 k5 k6 k7 k8 k9 aT j a af;gi_wp2
               exact⟨G5,h5,λk hk=>(aW k hk).imp id (λh=>h.imp id (λh=>by have:=aQ.o;omega)),λ_=>cg.o,L,cg.o⟩
             . clear k0 k1 k2 k3 k4 k5 k6 k7 k8 k9 aT j a;gi_wp2
               exact⟨G5,h5,λk hk=>(aW k hk).imp id (λh=>h.imp id (λh=>by have:=aQ.o;omega)),af,rfl,af,.inr L⟩
           . simp only[fZ];gi_wp2
             refine⟨al _ _,λU4 c b2=>?_⟩
             have B:=al U1 (.cells #[.int .i64 0,.int .i64 0,.slice none 0 0,.slice none 0 0,.bool false,.int .i64 0,.int .i64 0,.slice none 0 0,.slice none 0 0,.int .i64 0] 151);have a9:=ag U1 (.cells #[.int .i64 0,.int .i64 0,.slice none 0 0,.slice none 0 0,.bool false,.int .i64 0,.int .i64 0,.slice none 0 0,.slice none 0 0,.int .i64 0] 151);have dk:=size_alloc U1 (.cells #[.int .i64 0,.int .i64 0,.slice none 0 0,.slice none 0 0,.bool false,.int .i64 0,.int .i64 0,.slice none 0 0,.slice none 0 0,.int .i64 0] 151);generalize U1.alloc (.cells #[.int .i64 0,.int .i64 0,.slice none 0 0,.slice none 0 0,.bool false,.int .i64 0,.int .i64 0,.slice none 0 0,.slice none 0 0,.int .i64 0] 151)=U3 at *;have b8:=(ae.1 bC).1;obtain⟨k0,k1,k2,k3,k4,k5,k6,k7,k8,k9⟩:=iD (c.same a9 (λe=>by have e:U1.heap.size=J:=e;omega))
             have ds:mb<W.heap.size:=am.o mb aA;have w9:=(B9.o.cell (p:=⟨W.heap.size,0,none⟩) (block_lt_of_cell bn.o)).trans bn.o;have l9:W.heap.size<V9.heap.size:=block_lt_of_cell w9
             have b3:¬F W.heap.size:=λh=>by
              rcases an _ h with h|h
              . exact GW.o h
              . omega
             have aT:U4.cell? ⟨W.heap.size,0,none⟩=some (.func (.yield ao) #[] #[]):=by
              have ba:=(Y.cell (p:=⟨W.heap.size,0,none⟩) l9 (λh=>by
               rcases h with h|h
               . exact GW.o h
               . have h:W.heap.size=l2:=h;omega)).trans w9
              have bb:=(N.o.cell (p:=⟨W.heap.size,0,none⟩) (block_lt_of_cell ba)).trans ba;have u0:=(bw.cell (p:=⟨W.heap.size,0,none⟩) (block_lt_of_cell bb) b3).trans bb;have u1:=(au.cell (p:=⟨W.heap.size,0,none⟩) (block_lt_of_cell u0) (λe=>by have e:W.heap.size=mb:=e;omega)).trans u0
              have u3:=(B.cell (p:=⟨W.heap.size,0,none⟩) (block_lt_of_cell u1)).trans u1;exact(c.cell (p:=⟨W.heap.size,0,none⟩) (block_lt_of_cell u3) (λe=>by have e:W.heap.size=J:=e;have:=N.o.size;have:=Y.size;omega)).trans u3
             have b6:W.heap.size<=J:=by have:=N.o.size;have:=Y.size;omega
             have aK:¬J=mb:=by omega
             obtain⟨aS,g1,g2,g3⟩:=But.around au B c cV aK;have aP:=AJ.o F3 _ U0 aS bz (g1.mono λk _ e=>by have e:k=J:=e;rw[e];exact⟨cQ,b6⟩)
             have bc:∀k,F3 k->q k\/W.heap.size<=k:=λk hk=>by
              rcases bF k hk with h|h
              . rcases an k h with h|h
                . exact G7.o k h
                . exact .inr (by omega)
              . exact .inr (by have:=N.o.size;have:=Y.size;omega)
             have a6:U3.heap[J]?=some (.loop r1):=(B.block J b8).trans bC;have dl:=c.size;have dw:=au.size;have a5:∀k,bp k->¬F3 k/\W.heap.size<=k/\k<U4.heap.size:=λk hk=>⟨(aH k hk).1,by have:=(aH k hk).2.1;have:=N.o.size;have:=Y.size;omega,by have:=(aH k hk).2.2;omega⟩
             obtain⟨fn,bG,bH,bE,j,a⟩:=aM.o F3 s3 aS U4 #[.agg fZ,.int .i64 15] cO true bp aP g2 (.inr ⟨rfl,hM'.imp (λh=>⟨h.1,(h.2.keep B).but c (λe=>aK e.symm)⟩) (λ⟨n,h⟩=>⟨n,h.1,(h.2.keep B).but c (λe=>aK e.symm)⟩),rfl,hGv'⟩) a5 (by omega) bc
             have ce:Hid (M.stp cO=true):=by
              rcases hM' with⟨rfl,_⟩|⟨n,rfl,_⟩<;>exact dp _
             simp only[fZ] at j a;have aQ:=e7 (show U1.heap.size<=U4.heap.size by omega)
             clear w9 l9 aP g1 g2 g3 a5 bc a6 b2 bz au c B a9 bw bF;gi_wp2
             refine⟨rfl,RoundIn.mono (F:=Fence.wide.inRound J) a ?_⟩;rintro e U5 ⟨G5,h5,aW,⟨rfl,af,L⟩|⟨rfl,af,L⟩⟩
             . clear k0 k1 k2 k3 k4 k5 k6 k7 k8 k9 aT j a af;gi_wp2
               exact⟨G5,h5,λk hk=>(aW k hk).imp id (λh=>h.imp id (λh=>by have:=aQ.o;omega)),ce.o,rfl,ce.o,.inl L⟩
             . clear k0 k1 k2 k3 k4 k5 k6 k7 k8 k9 aT j a;gi_wp2
               exact⟨G5,h5,λk hk=>(aW k hk).imp id (λh=>h.imp id (λh=>by have:=aQ.o;omega)),af,rfl,af,.inr L⟩
          case done2=>
           rintro F2 b4 V ⟨bS,be⟩ t bR b5;gi_wp2
           have t:b4=fs M rd wants o f' aj x.px:=t;subst t;exact⟨F2,((But.ofBelow (S:=F) N.o).trans bR (λ_ _ h=>h)).ing,λk hk=>(b5 k hk).imp id (λh=>.inr (by have:=N.o.size;omega)),λ_=>be,bS,be,λy j=>bZ y (aY _ j)⟩
          case stop2=>
           rintro ab F2 b4 V ⟨rfl,be,bS⟩ t bR b5;gi_wp2
           have t:b4=fs M rd wants o f' aj x.px:=t;subst t;exact⟨F2,((But.ofBelow (S:=F) N.o).trans bR (λ_ _ h=>h)).ing,λk hk=>(b5 k hk).imp id (λh=>.inr (by have:=N.o.size;omega)),be,rfl,be,bS⟩
         case done=>
          rintro ad F s V hD bx ⟨hJ,E,_⟩ t hB an a0;go_wp2_with fail
          refine⟨by simp,.inl ⟨_,_,rfl,bQ a0,?_⟩⟩
          have bD:=(But.refl (λk=>k=ad) V).putObj (λ_=>rfl) (.deferred none)
          have da:ad<V.heap.size:=(ae.1 a0).1;have cE:=B9.o.size;have cF:=aa.o.size
          have bY:s.2=fs M rd wants o (f'+1) I p.px:=by
           have t:s.2=flw (λs x=>fs M rd wants o f' s x.px) M.stp (ga o aL) s2:=t
           rw[t,nE hz ap.o ax.o hlq (by have:=bq.o;rw[<-bd] at this;exact this) (by show ¬((2:Int)=1);decide),kR (λs ab=>fs M rd wants o f' s ab) M.stp Plv.px,<-lS,bL.o,<-bd]<;>rfl
          refine⟨_,bm rfl _ _ _,F,s.2,⟨_,rfl⟩,((aa.o.andBelow B9.o).trans hB (λk hk h=>by
           rcases G7.o k h with h|h
           . exact h
           . omega)).trans bD (λk hk e=>by have e:k=ad:=e;omega),λk hk=>by
           rcases an k hk with h|h
           . exact G7.o k h
           . exact .inr (by omega),bY,.inl (AJ.o F _ V _ hJ (bD.mono λk _ e=>by have e:k=ad:=e;rw[e];exact⟨bx,by omega⟩))⟩
         case stop=>
          rintro ad ab F s V hD bx ⟨rfl,E,hJ⟩ t hB an a0;gi_wp2
          refine⟨by simp,.inl ⟨_,_,rfl,bQ a0,?_⟩⟩
          have bD:=(But.refl (λk=>k=ad) V).putObj (λ_=>rfl) (.deferred none)
          have da:ad<V.heap.size:=(ae.1 a0).1;have cE:=B9.o.size;have cF:=aa.o.size
          have bY:s.2=fs M rd wants o (f'+1) I p.px:=by
           have t:s.2=flw (λs x=>fs M rd wants o f' s x.px) M.stp (ga o aL) s2:=t
           rw[t,nE hz ap.o ax.o hlq (by have:=bq.o;rw[<-bd] at this;exact this) (by show ¬((2:Int)=1);decide),kR (λs ab=>fs M rd wants o f' s ab) M.stp Plv.px,<-lS,bL.o,<-bd]<;>rfl
          refine⟨_,bm rfl _ _ _,F,s.2,⟨_,rfl⟩,((aa.o.andBelow B9.o).trans hB (λk hk h=>by
           rcases G7.o k h with h|h
           . exact h
           . omega)).trans bD (λk hk e=>by have e:k=ad:=e;omega),λk hk=>by
           rcases an k hk with h|h
           . exact G7.o k h
           . exact .inr (by omega),bY,hJ.imp (λhJ=>AJ.o F _ V _ hJ (bD.mono λk _ e=>by have e:k=ad:=e;rw[e];exact⟨bx,by omega⟩)) (λhJ=>bJ.o F _ V _ hJ (bD.mono λk _ e=>by have e:k=ad:=e;rw[e];exact⟨bx,by omega⟩))⟩
     . gi_wp2
       go_wp2_with fail
       exact⟨_,bm rfl _ _ _,G,_,⟨_,rfl⟩,ak.o.trans h7 (λk hk h=>h.elim id (λh=>by have:=(bo.o _ h.2).1;omega)),λk hk=>by
        rcases hG k hk with h|h|h
        . exact .inl h
        . exact .inr (by have:=(GN.o k h.2).1;omega)
        . exact .inr (az ak.o.size h),(kf hz ap.o ax.o hlq (.inl ac)).symm,.inr aC⟩
end Go.Proofs.YtnnieandfdbhgaaGreat
