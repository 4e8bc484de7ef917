import Derived.Test.YteaogidofpfmmaaGreatWaB10
set_option linter.all false
set_option maxHeartbeats 8000000
set_option maxRecDepth 10000
namespace Go.Proofs.YteaogidofpfmmaaGreat
open Go.Proofs.Tryz
open Go.RowKit Go.Shelf
attribute [local go_sem] Oper.semAt_some
variable {wlb:Array Value}{o:Bool}{rd:Int->Option Pg}{b mb tb:Nat}{S XV XW:Nat->Prop}{p:Pg}{w w':World}
theorem vR{a:Int}:lvl p a=true↔p.kind≠3/\p.level=a:=by unfold lvl;simp
theorem Hr(h:Sound p):p.kind=1\/p.kind=2\/p.kind=3:=Pg.kindOk_iff.1 h.k
theorem idx'(h:Sound p)(hk:p.kind=2):1<=p.level/\p.level<=11/\2<=p.items.length:=by
 have a:=h.f;unfold Pg.form at a;rw[if_neg (by omega),if_neg (by omega)] at a
 simp at a;omega
theorem pJ{α β σ:Type}(f:σ->β->σ)(a:σ->Bool)(g:α->β):∀(L:List α)(s:σ),flw (λs x=>f s (g x)) a L s=flw f a (L.map g) s
 | [],_=>rfl
 |x::L,s=>by
  rw[bT,jB,jB];split
  . rfl
  . exact pJ f a g L _
theorem oy{α β:Type}(o:Bool)(g:α->β)(L:List α):iW o (L.map g)=(iW o L).map g:=by
 unfold iW;split
 . rfl
 . rw[gY]
theorem But.around{a g j c:World}{l:Nat}(r:But S a g)(s:Below g.heap.size g j)(t:But (λk=>k=l) j c)(m:l<a.heap.size)(v:¬S l):∃i:World,But (λk=>k=l) a i/\But S i c/\i.heap.size=a.heap.size:=by
 have d:But (λk=>S k\/k=l) a c:=((r.mono (T:=λk=>S k\/k=l) λk _ e=>.inl e).andBelow s).trans t (λk _ e=>.inr e)
 have n:l<c.heap.size:=a6 m d.size;have f:=(But.refl (λk=>k=l) a).putObj (λ_=>rfl) c.heap[l]
 have sz:(a.putObj l c.heap[l]).heap.size=a.heap.size:=by simp[World.putObj]
 refine⟨a.putObj l c.heap[l],f,⟨d.os.trans f.os.symm,d.tape.trans f.tape.symm,d.output.trans f.output.symm,by rw[sz];exact d.size,λk hk q=>?_⟩,sz⟩
 rw[sz] at hk;by_cases e:k=l
 . subst e;rw[ec m];simp[n]
 . rw[d.block k hk (λh=>h.elim q e),dJ e]
theorem Bs.loop{a:Option Addr}{l:List Nat}{k:Nat}{r:Loop}(h:Bs w a l)(hb:But (λj=>j=k) w w')(hk:w.heap[k]?=some (.loop r)):Bs w' a l:=by
 refine h.but hb (λx i f e=>?_)
 obtain⟨_,_,c⟩:=h;rcases c with c|⟨b,m,d,g⟩
 . exact f c
 . rw[i] at d;cases d;have e:b=k:=e;subst e;have:=g 0 (bY.2 f);simp[World.cell?,hk] at this
theorem lg{W:World}{t:TypeId}{v0 a c v3 v4 v5 d e f v9:Value}(h:W.heap[b]?=some (.cells #[v0,a,c,v3,v4,v5,d,e,f,v9] t (0,0))):W.cell? ⟨b,0,none⟩=some v0/\W.cell? ⟨b,1,none⟩=some a/\W.cell? ⟨b,2,none⟩=some c/\W.cell? ⟨b,3,none⟩=some v3/\W.cell? ⟨b,4,none⟩=some v4/\W.cell? ⟨b,5,none⟩=some v5/\W.cell? ⟨b,6,none⟩=some d/\W.cell? ⟨b,7,none⟩=some e/\W.cell? ⟨b,8,none⟩=some f/\W.cell? ⟨b,9,none⟩=some v9:=by
 refine⟨?_,?_,?_,?_,?_,?_,?_,?_,?_,?_⟩<;>(rw[ai _ _ _ _ _ _ h];rfl)
theorem nQ{α:Type}{L:List α}{x:α}:x∈iW o L↔x∈L:=by
 unfold iW;split
 . rfl
 . exact gZ
def bkP(q:Pv)(k:Nat):Prop:=(∃x,q.aI=some x/\x.block=k)\/∃t∈ji q.items,∃x,t.a=some x/\x.block=k
def jZ:Array Value:=#[.int .i64 0,.int .i64 0,.slice none 0 0,.slice none 0 0,.bool false,.int .i64 0,.int .i64 0,.slice none 0 0,.slice none 0 0,.int .i64 0]
def kU(p:Plv)(q:Pv):Array Value:=#[.int .i64 p.no,.int .i64 p.lv,.slice p.r.aL p.r.lo.length p.r.cL,.slice p.r.aH p.r.hi.length p.r.cH,.bool p.r.op,.int .i64 q.kind,.int .i64 q.level,.slice q.aI q.items.length q.cI,.slice q.aD q.data.length q.cD,.int .i64 q.next]
def EnS{σ:Type}(M:Mc σ)(rd:Int->Option Pg)(mb:Nat)(s:σ)(W0 W1:World)(vals:Array Value)(s':σ)(er:Bool)(Gv:Nat->Prop):Prop:=
 (∃(p:Plv)(q:Pv),vals=#[.agg (kU p q),.int .i64 0]/\Ri W1 p.r/\Rb p.r/\Pn W0 W1 q/\rd p.no=some q.pg/\lvl q.pg p.lv=true/\p.no∉M.gone s/\Mp W1 mb (gnf (p.no::M.gone s))/\s'=M.tel (M.ent s p.no) p.px q.pg/\er=false/\∀k,Gv k↔(q.kind=1/\bkP q k))\/
 (vals=#[.agg jZ,.int .i64 15]/\((s'=M.bad s/\Mp W1 mb (gnf (M.gone s)))\/∃n,s'=M.bad (M.ent s n)/\Mp W1 mb (gnf (n::M.gone s)))/\er=true/\∀k,¬Gv k)
def vT(wf:FuncId)(wlb:Array Value)(wants:Rg->Bool)(X:Nat->Prop)(w:World):Prop:=∀W,But (λk=>¬X k) w W->∀r:Rv,Ri W r->Rb r->Calls prog wf (#[r.val]++wlb) W λe w'=>e=.returned (.bool (wants r.rg))/\Below W.heap.size W w'
structure Tou(w:World)(tb mb b:Nat)(wf:FuncId)(wlb:Array Value)(o:Bool)(rd:Int->Option Pg)(XV:Nat->Prop)(wants:Rg->Bool)(XW:Nat->Prop):Prop where
 tt:w.heap[tb]?=some (.cells (pE b mb (.func (.func wf) #[] wlb) o) 143 (0,0))
 rr:i9 52 (.pointer (some ⟨b,0,none⟩)) rd XV w
 wn:vT wf wlb wants XW w
 lV:∀k,XV k->k<w.heap.size
 lW:∀k,XW k->k<w.heap.size
theorem Tou.but{c:FuncId}{wants:Rg->Bool}(h:Tou w tb mb b c wlb o rd XV wants XW)(hb:But S w w')(a:∀k,S k->k≠tb/\¬XV k/\¬XW k):Tou w' tb mb b c wlb o rd XV wants XW:=
 ⟨hb.same h.tt (λe=>(a _ e).1 rfl),h.rr.but hb (λk e=>(a k e).2.1),λW d r=>h.wn W ((hb.mono (T:=λk=>¬XW k) λk _ e=>(a k e).2.2).trans d λ_ _ e=>e) r,λk e=>a6 (h.lV k e) hb.size,λk e=>a6 (h.lW k e) hb.size⟩
theorem Tou.keep{a:FuncId}{wants:Rg->Bool}(h:Tou w tb mb b a wlb o rd XV wants XW)(hb:Below w.heap.size w w'):Tou w' tb mb b a wlb o rd XV wants XW:=h.but (S:=λ_=>False) (But.ofBelow hb) (λ_ e=>e.elim)
def XS(tb t1 t2:Nat)(p:Plv)(XV XW:Nat->Prop)(k:Nat):Prop:=k=t1\/k=t2\/k=tb\/XV k\/XW k\/(∃x,p.r.aL=some x/\x.block=k)\/∃x,p.r.aH=some x/\x.block=k
def Ex(W W':World)(e:Ending)(p:Plv)(q:Pv):Prop:=∃(a:Option Addr)(c:Nat)(L:List Plv),e=.returned (.slice a L.length c)/\L.map Plv.px=ben p.px q.pg/\kg W' a Plv.cs 5 L/\(∀x,a=some x->W.heap.size<=x.block/\x.block<W'.heap.size)/\(∀x∈L,Ri W' x.r/\Rb x.r/\∀y,(x.r.aL=some y\/x.r.aH=some y)->W.heap.size<=y.block/\y.block<W'.heap.size)/\Below W.heap.size W W'
def rX:Prop:=∀(W:World)(p:Plv)(q:Pv),Ri W p.r->Rb p.r->Pi W q->Sound q.pg->q.kind=2->1<=p.lv->p.lv<=11->Calls prog 119 #[p.vl,q.vl] W λe W'=>Ex W W' e p q
theorem ru{bJ:Type}(M:Mc bJ)(rd:Int->Option Pg)(hA:iF rd)(b tb mb:Nat)(wf:FuncId)(wlb:Array Value)(en:∀args w,(callFunc wf args).run prog w=.ok (.enter wf args) w)(o:Bool)(XV:Nat->Prop)(wants:Rg->Bool)(XW:Nat->Prop)(dP:∀s n,M.gone (M.ent s n)=n::M.gone s)(dm:∀s,M.stp (M.bad s)=true)(BE:rX)(f:Nat)(IH:∀k,f=k+1->∀(w:World)(C t2:Nat)(p:Plv)(I:bJ),p.lv<=(k:Int)->w.cell? ⟨C,0,none⟩=some (.pointer (some ⟨tb,0,none⟩))->w.heap[t2]?=some (.cells p.cs 148 (0,0))->Ri w p.r->Rb p.r->N64 p.lv->Tou w tb mb b wf wlb o rd XV wants XW->M.stp I=false->(∀k,XS tb C t2 p XV XW k->k<w.heap.size)->mh prog 116 #[.pointer (some ⟨C,0,none⟩),.pointer (some ⟨t2,0,none⟩)] M.stp (EnS M rd mb) (λk=>k=mb) (λs W=>Mp W mb (gnf (M.gone s))) I (λs=>s=iE M rd wants o k I p.px) w (XS tb C t2 p XV XW)):∀(w:World)(C t2:Nat)(p:Plv)(I:bJ),p.lv<=(f:Int)->w.cell? ⟨C,0,none⟩=some (.pointer (some ⟨tb,0,none⟩))->w.heap[t2]?=some (.cells p.cs 148 (0,0))->Ri w p.r->Rb p.r->N64 p.lv->Tou w tb mb b wf wlb o rd XV wants XW->M.stp I=false->(∀k,XS tb C t2 p XV XW k->k<w.heap.size)->mh prog 116 #[.pointer (some ⟨C,0,none⟩),.pointer (some ⟨t2,0,none⟩)] M.stp (EnS M rd mb) (λk=>k=mb) (λs W=>Mp W mb (gnf (M.gone s))) I (λs=>s=iE M rd wants o f I p.px) w (XS tb C t2 p XV XW):=by
 intro w C t2 p I dH bT cv aV bz hN hT dI ct;intro ao bb Jx W q hW hS aJ sJ ci cN hR hY h0;have cn:Tou W tb mb b wf wlb o rd XV wants XW:=hT.but hW (λk hk=>⟨λe=>hk (.inr (.inr (.inl e))),λe=>hk (.inr (.inr (.inr (.inl e)))),λe=>hk (.inr (.inr (.inr (.inr (.inl e)))))⟩)
 have cQ:W.cell? ⟨C,0,none⟩=some (.pointer (some ⟨tb,0,none⟩)):=(hW.cell (p:=⟨C,0,none⟩) (block_lt_of_cell bT) (λh=>h (.inl rfl))).trans bT
 have cS:=hW.same cv (λh=>h (.inr (.inl rfl)))
 have cm:Ri W p.r:=⟨aV.bl.but hW (λx d _ h=>h (.inr (.inr (.inr (.inr (.inr (.inl ⟨x,d,rfl⟩))))))),aV.cl,aV.bh.but hW (λx d _ h=>h (.inr (.inr (.inr (.inr (.inr (.inr ⟨x,d,rfl⟩))))))),aV.ch⟩
 have cr:∀k,XS tb C t2 p XV XW k->k<W.heap.size:=λk hk=>a6 (ct k hk) hW.size
 have HT:=ix cn;have C1:=ix cQ;have C2:=ix cS;have RI:=ix cm;have XL:=ix cr;have aL:=ix hY;have AJ:=ix aJ;have SJ:=ix sJ;have bK:=ix ci;have cf:=ix cN;have HR:=ix hR;have HS:=ix hS;have H0:=ix h0;have ak:=ix (sJ _ _ _ h0);have aA:=(hR _ _ _ h0).2 mb rfl;clear hW hS aJ sJ ci cN hR hY h0 cn cQ cS cm cr bT cv hT ct aV;have A1:=ix (al W (.cells #[.func (.yield ao) #[] #[]] 199));have X1:=ix (Q.iT W (.func (.yield ao) #[] #[]) 199);have s1:=size_alloc W (.cells #[.func (.yield ao) #[] #[]] 199);obtain⟨V1,db⟩:∃V1,W.alloc (.cells #[.func (.yield ao) #[] #[]] 199)=V1:=⟨_,rfl⟩;rw[db] at A1 X1 s1;have WA:=ix λ(U:World)(hb:Below W.heap.size W U)=>HT.o.wn U (But.ofBelow hb) p.r (RI.o.keep hb) bz
 obtain⟨z,hz⟩:∃z,wants p.r.rg=z:=⟨_,rfl⟩;rw[hz] at WA
 have SS:Hid (∀U:World,Below V1.heap.size V1 U->(U.cell? ⟨C,0,none⟩=some (.pointer (some ⟨tb,0,none⟩))/\U.cell? ⟨tb,2,none⟩=some (.func (.func wf) #[] wlb)/\U.cell? ⟨t2,2,none⟩=some (.slice p.r.aL p.r.lo.length p.r.cL)/\U.cell? ⟨t2,3,none⟩=some (.slice p.r.aH p.r.hi.length p.r.cH)/\U.cell? ⟨t2,4,none⟩=some (.bool p.r.op))):=λU hb=>by
  have aE:=bt A1.o hb;obtain⟨_,_,q2,_⟩:=jJ (show U.heap[tb]?=some (.cells #[.pointer (some ⟨b,0,none⟩),.map (some mb),.func (.func wf) #[] wlb,.int .i64 (if o=true then 0 else 1)] 143 (0,0)) from((HT.o.keep aE).tt))
  obtain⟨_,_,k2,k3,k4⟩:=i6 (show U.heap[t2]?=some (.cells #[.int .i64 p.no,.int .i64 p.lv,.slice p.r.aL p.r.lo.length p.r.cL,.slice p.r.aH p.r.hi.length p.r.cH,.bool p.r.op] 148 (0,0)) from(aE.block t2 (ae.1 C2.o).1).trans C2.o)
  exact⟨(aE.cell (p:=⟨C,0,none⟩) (block_lt_of_cell C1.o)).trans C1.o,q2,k2,k3,k4⟩
 refine dM func116 rfl trivial ?_ rfl;simp only[ntmps116,cR,a7,bg,Nat.reduceAdd,Nat.reduceSub,cx,cM,dg,c7,b9,b7];refine d6.2 ?_;go_upto_region 1 with fail
 have DR:=ix (dr2 V1);refine wp_region_noPanic ?_;refine wrd SS DR.o λhHeld=>?_
 refine tkd 0 1 2 3 ?_;refine tkb 4 5 ?_;refine tw 6 λKx hK=>?_
 go_simp;refine(WA.o _ (bt A1.o DR.o)).mono ?_;rintro _ l ⟨rfl,aE⟩;have σ:=ix (bt DR.o aE);clear aE WA;go_wp2_with fail
 refine hK.o _ _ (SS.o _ σ.o) (λhHeld=>?_)
 refine tk 7 ?_;refine td ?_;clear hHeld SS;refine NoPanic.normal ?_;have D2:=σ;have σ:=ix (bt A1.o σ.o);cases z with
 |false=>
  go_wp2_with fail
  exact⟨_,co rfl _ _ _,q,I,⟨_,rfl⟩,But.ofBelow σ.o,λk hk=>.inl hk,(FG hz).symm,.inl (AJ.o _ _ _ _ H0.o (But.ofBelow σ.o))⟩
 |true=>
  have EN:=ix (tx l tb mb b (.func (.func wf) #[] wlb) o rd XV (M.gone I) p.no (HT.o.keep σ.o).tt ((HR.o _ _ _ H0.o).1.keep σ.o) (HT.o.keep σ.o).rr);obtain⟨k0,k1,k2,k3,k4⟩:=i6 (show l.heap[t2]?=some (.cells #[.int .i64 p.no,.int .i64 p.lv,.slice p.r.aL p.r.lo.length p.r.cL,.slice p.r.aH p.r.hi.length p.r.cH,.bool p.r.op] 148 (0,0)) from(σ.o.block t2 (ae.1 C2.o).1).trans C2.o)
  have c1:=(σ.o.cell (p:=⟨C,0,none⟩) (block_lt_of_cell C1.o)).trans C1.o;clear k2 k3 k4;go_wp2_with fail
  refine EN.o.mono ?_;rintro e H (⟨rfl,cV,az⟩|⟨cZ,cA,cy,rfl,hP,az,ck⟩)
  . simp only[Pv.vl,Pv.cs,Pv.zero,bg];have B3:=ix (bt σ.o az);have E3:=ix az;clear az EN k0 k1 c1;have A4:=al H (.cells #[.int .i64 0,.int .i64 0,.slice none 0 0,.slice none 0 0,.int .i64 0] 77);have B4:=ix (bt B3.o A4);have bi:Hid (But q W (H.alloc (.cells #[.int .i64 0,.int .i64 0,.slice none 0 0,.slice none 0 0,.int .i64 0] 77))):=But.ofBelow B4.o;have J4:=AJ.o q I W _ H0.o (But.ofBelow B4.o);clear A4;go_upto_region 4 with fail
    have cY:=((bt D2.o (bt E3.o (al H (.cells #[.int .i64 0,.int .i64 0,.slice none 0 0,.slice none 0 0,.int .i64 0] 77)))).cell (p:=⟨W.heap.size,0,none⟩) (block_lt_of_cell X1.o)).trans X1.o;obtain⟨fn,bH,bI,bC,j,a⟩:=aL.o q I (H.alloc (.cells #[.int .i64 0,.int .i64 0,.slice none 0 0,.slice none 0 0,.int .i64 0] 77)) (H.alloc (.cells #[.int .i64 0,.int .i64 0,.slice none 0 0,.slice none 0 0,.int .i64 0] 77)) #[.agg jZ,.int .i64 15] (M.bad I) true (λ_=>False) J4 (But.refl _ _) (.inr ⟨rfl,.inl ⟨rfl,(HR.o _ _ _ J4).1⟩,rfl,λ_ h=>h⟩) (λ_ h=>h.elim) B4.o.size (λk hk=>.inl hk)
    simp only[jZ] at j a;refine(d6 (n:=0)).1 ?_;gi_wp2
    refine⟨rfl,a.mono ?_⟩;rintro e V5 ⟨G,h5,hG,⟨rfl,ac,L⟩|⟨rfl,ac,L⟩⟩
    . gi_wp2
      go_wp2_with fail
      exact⟨_,co rfl _ _ _,G,(M.bad I),⟨_,rfl⟩,bi.o.trans h5.nog (λ_ _ h=>h),λk hk=>(hG k hk).imp id (λh=>h.elim (λh=>h.elim) (λh=>ay bi.o.size h)),(oM hz cV).symm,.inl L⟩
    . gi_wp2
      go_wp2_with fail
      exact⟨_,co rfl _ _ _,G,(M.bad I),⟨_,rfl⟩,bi.o.trans h5.nog (λ_ _ h=>h),λk hk=>(hG k hk).imp id (λh=>h.elim (λh=>h.elim) (λh=>ay bi.o.size h)),(oM hz cV).symm,.inr L⟩
  . obtain⟨g,i,O,P,K,X,Z,R,nq⟩:=cZ;have bA:∀k,XS tb C t2 p XV XW k->k≠mb:=λk hk e=>HS.o mb aA (e▸hk)
    simp only[Pv.vl,Pv.cs];have A4:=ix (al H (.cells #[.int .i64 g,.int .i64 i,.slice O K.length P,.slice X R.length Z,.int .i64 nq] 77));have X4:=ix (ag H (.cells #[.int .i64 g,.int .i64 i,.slice O K.length P,.slice X R.length Z,.int .i64 nq] 77));have LV:=ix (vB (H.alloc (.cells #[.int .i64 g,.int .i64 i,.slice O K.length P,.slice X R.length Z,.int .i64 nq] 77)) ⟨g,i,O,P,K,X,Z,R,nq⟩ p.lv);have bO:But (λk=>k=mb) l (H.alloc (.cells #[.int .i64 g,.int .i64 i,.slice O K.length P,.slice X R.length Z,.int .i64 nq] 77)):=az.andBelow A4.o
    have bc:Hid (But (λk=>k=mb) W (H.alloc (.cells #[.int .i64 g,.int .i64 i,.slice O K.length P,.slice X R.length Z,.int .i64 nq] 77))):=(But.ofBelow (S:=λk=>k=mb) σ.o).trans bO (λ_ _ e=>e)
    have b4:∀k,k=C\/k=t2->k≠mb:=λk hk=>bA k (hk.elim .inl λh=>.inr (.inl h))
    obtain⟨m0,m1,m2,m3,m4⟩:=i6 (show(H.alloc (.cells #[.int .i64 g,.int .i64 i,.slice O K.length P,.slice X R.length Z,.int .i64 nq] 77)).heap[t2]?=some (.cells #[.int .i64 p.no,.int .i64 p.lv,.slice p.r.aL p.r.lo.length p.r.cL,.slice p.r.aH p.r.hi.length p.r.cH,.bool p.r.op] 148 (0,0)) from bc.o.same C2.o (b4 t2 (.inr rfl)))
    obtain⟨n0,n1,n2,n3,n4⟩:=i6 X4.o;have c1:=(bc.o.cell (p:=⟨C,0,none⟩) (block_lt_of_cell C1.o) (b4 C (.inl rfl))).trans C1.o;have M4:Hid (Mp (H.alloc (.cells #[.int .i64 g,.int .i64 i,.slice O K.length P,.slice X R.length Z,.int .i64 nq] 77)) mb (gnf (p.no::M.gone I))):=ck.keep A4.o;have P4:=ix (hP.keep A4.o);have av:=ix bO;have ap:=ix cA;have ax:=ix cy;have J2:=ix (AJ.o q I W l H0.o (But.ofBelow σ.o));have dl:=ix az.size
    have bm:Hid (∀k,bkP ⟨g,i,O,P,K,X,Z,R,nq⟩ k->l.heap.size<=k/\k<H.heap.size):=λk hk=>by
     have nw:∀{aM:Option Addr},New l none aM->∀x,aM=some x->l.heap.size<=x.block:=λhn x d=>by
      rcases hn x d with⟨z,hz,_⟩|h2
      . cases hz
      . exact h2
     rcases hk with⟨x,d,rfl⟩|⟨ai,ht,x,d,rfl⟩
     . exact⟨nw hP.itn x d,hP.it.lt d⟩
     . exact⟨nw (hP.fr ai ht).2.1 x d,(hP.fr ai ht).1.lt d⟩
    clear hP az ck EN k0 k1 cA cy bO b4;unfold Pv.vl at LV;simp only[Pv.cs] at LV;have bp:=ix (hA _ _ ap.o);cases hlq:lvl (Pv.pg ⟨g,i,O,P,K,X,Z,R,nq⟩) p.lv with
    |false=>
     rw[hlq] at LV;go_upto_region 4 with(go_at_call 80;refine LV.o.mono ?_;rintro _ V6 ⟨rfl,aW⟩)
     have B6:=ix aW;have aj:Hid (But q W V6):=(bc.o.mono (λk _ e=>by rw[e];exact aA)).andBelow B6.o
     clear aW LV m0 m1 m2 m3 m4 n0 n1 n2 n3 n4 c1;have cY:V6.cell? ⟨W.heap.size,0,none⟩=some (.func (.yield ao) #[] #[]):=(B6.o.cell (p:=⟨W.heap.size,0,none⟩) (by have:=block_lt_of_cell X1.o;have e:W.heap.size<V1.heap.size:=this;have:=D2.o.size;have:=av.o.size;show W.heap.size<_;omega)).trans ((av.o.cell (p:=⟨W.heap.size,0,none⟩) (by have:=block_lt_of_cell X1.o;have e:W.heap.size<V1.heap.size:=this;have:=D2.o.size;show W.heap.size<l.heap.size;omega) (λe=>by have:=ak.o mb aA;have e:W.heap.size=mb:=e;omega)).trans ((D2.o.cell (p:=⟨W.heap.size,0,none⟩) (block_lt_of_cell X1.o)).trans X1.o))
     obtain⟨fn,bH,bI,bC,j,a⟩:=aL.o q I l V6 #[.agg jZ,.int .i64 15] (M.bad (M.ent I p.no)) true (λ_=>False) J2.o (av.o.andBelow B6.o) (.inr ⟨rfl,.inr ⟨p.no,rfl,M4.o.keep B6.o⟩,rfl,λ_ h=>h⟩) (λ_ h=>h.elim) σ.o.size (λk hk=>.inl hk)
     simp only[jZ] at j a;refine(d6 (n:=0)).1 ?_;gi_wp2
     refine⟨rfl,a.mono ?_⟩;rintro e V5 ⟨G,h5,hG,⟨rfl,ac,L⟩|⟨rfl,ac,L⟩⟩
     . gi_wp2
       go_wp2_with fail
       exact⟨_,co rfl _ _ _,G,_,⟨_,rfl⟩,aj.o.trans h5.nog (λ_ _ h=>h),λk hk=>(hG k hk).imp id (λh=>h.elim (λh=>h.elim) (λh=>ay aj.o.size h)),(mT hz ap.o ax.o hlq).symm,.inl L⟩
     . gi_wp2
       go_wp2_with fail
       exact⟨_,co rfl _ _ _,G,_,⟨_,rfl⟩,aj.o.trans h5.nog (λ_ _ h=>h),λk hk=>(hG k hk).imp id (λh=>h.elim (λh=>h.elim) (λh=>ay aj.o.size h)),(mT hz ap.o ax.o hlq).symm,.inr L⟩
    |true=>
     rw[hlq] at LV;go_upto_region 5 with(go_at_call 80;refine LV.o.mono ?_;rintro _ V6 ⟨rfl,aW⟩)
     have B6:=ix aW;have bd:Hid (But (λk=>k=mb) W V6):=bc.o.andBelow B6.o
     have aj:Hid (But q W V6):=bd.o.mono (λk _ e=>by rw[e];exact aA)
     clear aW LV m0 m1 m2 m3 m4 n0 n1 n2 n3 n4 c1;obtain⟨m0,m1,m2,m3,m4⟩:=i6 (show V6.heap[t2]?=some (.cells #[.int .i64 p.no,.int .i64 p.lv,.slice p.r.aL p.r.lo.length p.r.cL,.slice p.r.aH p.r.hi.length p.r.cH,.bool p.r.op] 148 (0,0)) from bd.o.same C2.o (bA t2 (.inr (.inl rfl))))
     have X6:=ix ((B6.o.block H.heap.size (ae.1 X4.o).1).trans X4.o);obtain⟨n0,n1,n2,n3,n4⟩:=i6 X6.o;have cY:V6.cell? ⟨W.heap.size,0,none⟩=some (.func (.yield ao) #[] #[]):=(B6.o.cell (p:=⟨W.heap.size,0,none⟩) (by have:=block_lt_of_cell X1.o;have e:W.heap.size<V1.heap.size:=this;have:=D2.o.size;have:=av.o.size;show W.heap.size<_;omega)).trans ((av.o.cell (p:=⟨W.heap.size,0,none⟩) (by have:=block_lt_of_cell X1.o;have e:W.heap.size<V1.heap.size:=this;have:=D2.o.size;show W.heap.size<l.heap.size;omega) (λe=>by have:=ak.o mb aA;have e:W.heap.size=mb:=e;omega)).trans ((D2.o.cell (p:=⟨W.heap.size,0,none⟩) (block_lt_of_cell X1.o)).trans X1.o))
     have P6:=ix (P4.o.keep B6.o);have R6:Hid (Ri V6 p.r):=⟨RI.o.bl.but bd.o (λx d _=>bA _ (.inr (.inr (.inr (.inr (.inr (.inl ⟨x,d,rfl⟩))))))),RI.o.cl,RI.o.bh.but bd.o (λx d _=>bA _ (.inr (.inr (.inr (.inr (.inr (.inr ⟨x,d,rfl⟩))))))),RI.o.ch⟩
     have GN:Hid (∀k,bkP ⟨g,i,O,P,K,X,Z,R,nq⟩ k->l.heap.size<=k/\k<V6.heap.size):=λk hk=>by
      have nw:∀{aM:Option Addr},New l none aM->∀x,aM=some x->l.heap.size<=x.block:=λhn x d=>by
       rcases hn x d with⟨z,hz,_⟩|h2
       . cases hz
       . exact h2
      rcases hk with⟨x,d,rfl⟩|⟨ai,ht,x,d,rfl⟩
      . exact⟨nw P6.o.itn x d,P6.o.it.lt d⟩
      . exact⟨nw (P6.o.fr ai ht).2.1 x d,(P6.o.fr ai ht).1.lt d⟩
     have cB:=σ.o.size;have ds:W.heap.size<=H.heap.size:=ay cB dl.o;obtain⟨fn,bH,bI,bC,j,a⟩:=aL.o q I l V6 #[.agg (kU p ⟨g,i,O,P,K,X,Z,R,nq⟩),.int .i64 0] (M.tel (M.ent I p.no) p.px (Pv.pg ⟨g,i,O,P,K,X,Z,R,nq⟩)) false (λk=>g=1/\bkP ⟨g,i,O,P,K,X,Z,R,nq⟩ k) J2.o (av.o.andBelow B6.o) (.inl ⟨p,⟨g,i,O,P,K,X,Z,R,nq⟩,rfl,R6.o,bz,P6.o,ap.o,hlq,ax.o,M4.o.keep B6.o,rfl,rfl,λk=>dT⟩) (λk hk=>⟨λh=>by have:=ak.o k h;have:=(GN.o k hk.2).1;omega,by have:=(GN.o k hk.2).1;omega,(GN.o k hk.2).2⟩) cB (λk hk=>.inl hk)
     simp only[kU] at j a;refine(d6 (n:=0)).1 ?_;gi_wp2
     refine⟨rfl,a.mono ?_⟩;have ca:=ix cY;clear m0 m1 m2 m3 m4 n1 n2 n3 n4 cY j a;rintro e V7 ⟨G,h7,hG,⟨rfl,ac,aC⟩|⟨rfl,ac,aC⟩⟩
     . have bo:=ix (ac rfl);clear ac
       have X7:=ix (h7.same X6.o (λe=>by
        rcases e with e|e
        . have h1:=ak.o _ e;have h2:=ds;omega
        . have:=(bm.o _ e.2).2;omega))
       obtain⟨n0,n1,n2,n3,n4⟩:=i6 X7.o;clear n1 n2 n3 n4
       have GW:Hid (¬G W.heap.size):=λhk=>by
        have de:W.heap.size<V1.heap.size:=block_lt_of_cell X1.o;have dJ:=D2.o.size;rcases hG _ hk with h|h|h
        . have:=ak.o _ h;omega
        . have:=(GN.o _ h.2).1;omega
        . have:=av.o.size;have:=B6.o.size;have:=A4.o.size;omega
       have bk:=ix ((h7.cell (p:=⟨W.heap.size,0,none⟩) (block_lt_of_cell ca.o) (λh=>by
        rcases h with h|h
        . have:=ak.o _ h;have e:W.heap.size<W.heap.size:=this;omega
        . have h9:=(bm.o _ h.2).1;have h9:l.heap.size<=W.heap.size:=h9;have de:W.heap.size<V1.heap.size:=block_lt_of_cell X1.o;have:=D2.o.size;omega)).trans ca.o)
       have G7:Hid (∀k,G k->q k\/W.heap.size<=k):=λk hk=>by
        rcases hG k hk with h|h|h
        . exact .inl h
        . exact .inr (by have:=(GN.o k h.2).1;omega)
        . exact .inr (ay aj.o.size h)
       have aa:Hid (But q W V7):=aj.o.trans h7 (λk hk h=>h.elim id (λh=>by have:=(bm.o _ h.2).1;omega))
       by_cases bW:g=1
       . subst bW;gi_wp2
         go_wp2_with fail
         exact⟨_,co rfl _ _ _,G,_,⟨_,rfl⟩,aa.o,G7.o,(oR hz ap.o ax.o hlq (.inr rfl)).symm,.inl aC⟩
       . gi_wp2
         go_upto_region 6 with fail
         have bX:g=2:=by
          rcases Hr bp.o with h|h|h
          . exact absurd h bW
          . exact h
          . exact absurd h (vR.1 hlq).1
         obtain⟨i1,i2,i3⟩:=idx' bp.o bX;have e5:i=p.lv:=(vR.1 hlq).2;have I1:=ix (show 1<=i from i1)
         have I2:=ix (show i<=11 from i2)
         have I3:=ix i3;have K2:=ix bX;clear i1 i2 i3 bW;subst bX;subst e5;have ar:∀k,XS tb C t2 p XV XW k->¬q k:=λk hk h=>HS.o k h hk
         have T7:=ix (HT.o.but aa.o (λk hk=>⟨λe=>ar _ (.inr (.inr (.inl e))) hk,λe=>ar _ (.inr (.inr (.inr (.inl e)))) hk,λe=>ar _ (.inr (.inr (.inr (.inr (.inl e))))) hk⟩))
         have R7:Hid (Ri V7 p.r):=⟨RI.o.bl.but aa.o (λx d _=>ar _ (.inr (.inr (.inr (.inr (.inr (.inl ⟨x,d,rfl⟩))))))),RI.o.cl,RI.o.bh.but aa.o (λx d _=>ar _ (.inr (.inr (.inr (.inr (.inr (.inr ⟨x,d,rfl⟩))))))),RI.o.ch⟩
         have P7:=ix (P6.o.old (h7.mono (T:=q) λk _ e=>e.elim id (λcX=>absurd cX.1 (by decide))) (λk hk=>by have:=ak.o k hk;omega))
         have dG:K.length<=8:=by have:=(bp.o.node (.inr rfl)).2.2.1;simpa[Pv.pg] using this
         have Q7:=ix (P7.o.pi (show K.length<=2199023255520 by omega))
         have b8:=ix (aa.o.same C2.o (ar _ (.inr (.inl rfl))));have bj:=ix ((aa.o.cell (p:=⟨C,0,none⟩) (block_lt_of_cell C1.o) (ar _ (.inl rfl))).trans C1.o);obtain⟨ov,cz⟩:∃ov:Int,(if o=true then (0:Int) else 1)=ov:=⟨_,rfl⟩
         have cc:=ix cz;clear cz
         have bq:Hid (∀U:World,Below V7.heap.size V7 U->(U.cell? ⟨t2,0,none⟩=some (.int .i64 p.no)/\U.cell? ⟨t2,1,none⟩=some (.int .i64 p.lv)/\U.cell? ⟨t2,2,none⟩=some (.slice p.r.aL p.r.lo.length p.r.cL)/\U.cell? ⟨t2,3,none⟩=some (.slice p.r.aH p.r.hi.length p.r.cH)/\U.cell? ⟨t2,4,none⟩=some (.bool p.r.op)/\U.cell? ⟨H.heap.size,0,none⟩=some (.int .i64 2)/\U.cell? ⟨H.heap.size,1,none⟩=some (.int .i64 p.lv)/\U.cell? ⟨H.heap.size,2,none⟩=some (.slice O K.length P)/\U.cell? ⟨H.heap.size,3,none⟩=some (.slice X R.length Z)/\U.cell? ⟨H.heap.size,4,none⟩=some (.int .i64 nq)/\U.cell? ⟨C,0,none⟩=some (.pointer (some ⟨tb,0,none⟩))/\U.cell? ⟨tb,3,none⟩=some (.int .i64 ov))):=λU hb=>by
          obtain⟨_,_,_,q3⟩:=jJ (show U.heap[tb]?=some (.cells #[.pointer (some ⟨b,0,none⟩),.map (some mb),.func (.func wf) #[] wlb,.int .i64 (if o=true then 0 else 1)] 143 (0,0)) from((T7.o.keep hb).tt))
          obtain⟨k0,k1,k2,k3,k4⟩:=i6 (show U.heap[t2]?=some (.cells #[.int .i64 p.no,.int .i64 p.lv,.slice p.r.aL p.r.lo.length p.r.cL,.slice p.r.aH p.r.hi.length p.r.cH,.bool p.r.op] 148 (0,0)) from(hb.block t2 (ae.1 b8.o).1).trans b8.o)
          obtain⟨j0,j1,j2,j3,j4⟩:=i6 ((hb.block H.heap.size (ae.1 X7.o).1).trans X7.o);exact⟨k0,k1,k2,k3,k4,j0,j1,j2,j3,j4,(hb.cell (p:=⟨C,0,none⟩) (block_lt_of_cell bj.o)).trans bj.o,by rw[<-cc.o];exact q3⟩
         have BN:=ix λ(U:World)(hb:Below V7.heap.size V7 U)=>BE U p ⟨2,p.lv,O,P,K,X,Z,R,nq⟩ (R7.o.keep hb) bz (Q7.o.keep hb) bp.o rfl I1.o I2.o
         unfold Plv.vl Pv.vl at BN;simp only[Plv.cs,Pv.cs] at BN;have J7:=ix aC;have L7:=ix (SJ.o _ _ _ aC);clear aC h7 hG n0 bz;have bL:=ix (dr2 V7);refine wp_region_noPanic ?_;refine be (S:=λU=>U.cell? ⟨t2,0,none⟩=some (.int .i64 p.no)/\U.cell? ⟨t2,1,none⟩=some (.int .i64 p.lv)/\U.cell? ⟨t2,2,none⟩=some (.slice p.r.aL p.r.lo.length p.r.cL)/\U.cell? ⟨t2,3,none⟩=some (.slice p.r.aH p.r.hi.length p.r.cH)/\U.cell? ⟨t2,4,none⟩=some (.bool p.r.op)/\U.cell? ⟨H.heap.size,0,none⟩=some (.int .i64 2)/\U.cell? ⟨H.heap.size,1,none⟩=some (.int .i64 p.lv)/\U.cell? ⟨H.heap.size,2,none⟩=some (.slice O K.length P)/\U.cell? ⟨H.heap.size,3,none⟩=some (.slice X R.length Z)/\U.cell? ⟨H.heap.size,4,none⟩=some (.int .i64 nq)/\U.cell? ⟨C,0,none⟩=some (.pointer (some ⟨tb,0,none⟩))/\U.cell? ⟨tb,3,none⟩=some (.int .i64 ov)) (by kernel_rfl) (bq.o _ bL.o) (λhHeld=>?_)
         refine tkd 0 1 3 4 ?_;refine tkb 5 6 ?_;refine tw 2 λKx hK=>?_
         go_simp;refine(BN.o _ bL.o).mono ?_;rintro _ V8 ⟨a8,c8,aK,rfl,hL,cp,bR,cF,cu⟩;have B8:=ix (bt bL.o cu)
         have da:aK.length=K.length:=by
          have:=bf List.length hL;simpa[ben,Pv.pg] using this
         have IN:=ix (CX V8 a8 c8 aK cp (by omega) (λx d=>(bR x d).2) o)
         rw[cc.o] at IN;have c0:=ix bR;have c2:=ix cF;have bM:=ix hL;clear cp cu bR cF hL BN da;go_wp2_with fail
         refine hK.o _ _ (bq.o _ B8.o) (λhHeld=>?_)
         refine tw 7 λKx hK=>?_
         go_simp;refine IN.o.mono ?_;rintro _ V9 ⟨gf,lb,XX,rfl,dd,bS,cs,dt⟩;have B9:=ix (bt B8.o bS);have C9:=ix bS;clear IN bS;go_wp2_with fail
         refine hK.o _ _ (bq.o _ B9.o) (λhHeld=>?_)
         refine td ?_;clear hHeld bq;refine NoPanic.normal ?_;go_wp2_with fail
         refine(d6 (n:=0)).1 ?_;obtain⟨f',rfl⟩:∃f',f=f'+1:=⟨f-1,by have:=I1.o;omega⟩
         obtain⟨s2,a9⟩:∃s2,M.tel (M.ent I p.no) p.px (Pv.pg ⟨2,p.lv,O,P,K,X,Z,R,nq⟩)=s2:=⟨_,rfl⟩;rw[a9] at bo J7;have T9:=ix (T7.o.keep B9.o);have dk:V7.drew.heap.size=V7.heap.size:=rfl
         refine jX (gf:=gf) (lb:=lb) rfl dd (dt (λs x=>iE M rd wants o f' s x.px) M.stp s2) (But.refl _ _) (λk hk=>(cs k hk).2) (by rintro s W0 W1 b6 s' er Gv ⟨x,cW,_,rfl,_⟩;rfl)
          G (λk hk d=>by
            have h1:=L7.o k hk;rcases (cs k d).1 with h|⟨x,d,e⟩
            . have:=B8.o.size;omega
            . have:=(c0.o x d).1;omega)
          (λF s V=>bb F s.2 V/\M.stp s.2=false/\∀y∈s.1,y∈aK)
          (λab F s V=>ab=.ret/\M.stp s.2=true/\(bb F s.2 V\/Jx F s.2 V))
          (λF s A ah E hb=>⟨AJ.o F _ A ah E.1 (hb.mono λk _ h=>⟨h.1,by have:=h.2;have:=B9.o.size;have:=aa.o.size;omega⟩),E.2⟩)
          (λF s A E=>SJ.o _ _ _ E.1)
          (λab F s A ah E hb=>⟨E.1,E.2.1,E.2.2.imp (λh=>AJ.o F _ A ah h (hb.mono λk _ h=>⟨h.1,by have:=h.2;have:=B9.o.size;have:=aa.o.size;omega⟩)) (λh=>bK.o F _ A ah h (hb.mono λk _ h=>⟨h.1,by have:=h.2;have:=B9.o.size;have:=aa.o.size;omega⟩))⟩)
          (λab F s A E=>E.2.2.elim (λh=>SJ.o _ _ _ h) (λh=>cf.o _ _ _ h))
          (λF s A E=>⟨trivial,λk h=>h.elim⟩)
          ⟨AJ.o G _ V7 V9 J7.o (But.ofBelow B9.o),bo.o,λy j=>nQ.1 j⟩ ?round ?done ?stop
         case round=>
          rintro l2 F s bN aB b6 s' er Gv ⟨hJ,ac,bV⟩ cP ⟨x,cW,E,rfl,rfl,rfl,dz⟩ dA dO an c9 dE dF cj _;obtain⟨r0,ai⟩:=s;obtain rfl:r0=x::cW:=E;obtain⟨cG,df,aF⟩:=c2.o x (bV x bG);have bu:Below bN.heap.size bN aB:=cP.below (λ_ _ h=>h)
          simp only[rW,Plv.cs];gi_wp2
          refine⟨al _ _,λD aR dh cU=>?_⟩
          have aw:=al aB (.cells #[.int .i64 x.no,.int .i64 x.lv,.slice x.r.aL x.r.lo.length x.r.cL,.slice x.r.aH x.r.hi.length x.r.cH,.bool x.r.op] 148);have nw:=ag aB (.cells #[.int .i64 x.no,.int .i64 x.lv,.slice x.r.aL x.r.lo.length x.r.cL,.slice x.r.aH x.r.hi.length x.r.cH,.bool x.r.op] 148);have sw:=size_alloc aB (.cells #[.int .i64 x.no,.int .i64 x.lv,.slice x.r.aL x.r.lo.length x.r.cL,.slice x.r.aH x.r.hi.length x.r.cH,.bool x.r.op] 148);generalize aB.alloc (.cells #[.int .i64 x.no,.int .i64 x.lv,.slice x.r.aL x.r.lo.length x.r.cL,.slice x.r.aH x.r.hi.length x.r.cH,.bool x.r.op] 148)=dw at *;have dL:=bu.size;have cC:V7.heap.size<=V9.heap.size:=B9.o.size;have cE:W.heap.size<=V7.heap.size:=aa.o.size;have Y:But (λk=>G k\/k=l2) V9 D:=(((cj.mono (T:=λk=>G k\/k=l2) λk _ e=>.inl e).andBelow bu).andBelow aw).trans aR (λk _ e=>.inr e)
          have aT:∀k,(G k\/k=l2)->¬XS tb C t2 p XV XW k:=λk hk d=>by
           have h1:=XL.o k d;rcases hk with hk|rfl
           . rcases G7.o k hk with h|h
             . exact ar k d h
             . omega
           . omega
          have c4:=ix (T9.o.but Y (λk hk=>⟨λe=>aT k hk (.inr (.inr (.inl e))),λe=>aT k hk (.inr (.inr (.inr (.inl e)))),λe=>aT k hk (.inr (.inr (.inr (.inr (.inl e)))))⟩))
          have dx:D.cell? ⟨C,0,none⟩=some (.pointer (some ⟨tb,0,none⟩)):=(Y.cell (p:=⟨C,0,none⟩) (by have:=XL.o C (.inl rfl);show C<V9.heap.size;omega) (λh=>aT C h (.inl rfl))).trans ((B9.o.cell (p:=⟨C,0,none⟩) (block_lt_of_cell bj.o)).trans bj.o)
          have b5:∀y,(x.r.aL=some y\/x.r.aH=some y)->¬(G y.block\/y.block=l2):=λy j hk=>by
           obtain⟨h1,h2⟩:=aF y j;have h3:=C9.o.size;have c:=dk;rcases hk with hk|hk
           . have:=L7.o _ hk;omega
           . omega
          have aZ:Ri V9 x.r:=cG.keep C9.o;have c3:Hid (Ri D x.r):=⟨aZ.bl.but Y (λy j _=>b5 y (.inl j)),aZ.cl,aZ.bh.but Y (λy j _=>b5 y (.inr j)),aZ.ch⟩
          have cJ:=aR.same nw (λe=>by have e:aB.heap.size=l2:=e;omega)
          obtain⟨k0,k1,k2,k3,k4⟩:=i6 cJ;have ce:=ix (AJ.o F _ bN D hJ (((But.ofBelow (S:=λk=>¬F k/\W.heap.size<=k) bu).andBelow aw).trans aR (λk _ e=>by have e:k=l2:=e;rw[e];exact⟨c9,by omega⟩)))
          have dN:=aR.size;have SO:=ix (pk D tb x);unfold Plv.vl at SO;simp only[Plv.cs] at SO;clear hJ cj cP bu aR aw nw cG aZ cJ;gi_wp2_with (refine⟨trivial,rfl,?_⟩;refine CallsIn.mono (CallsIn.inRound l2 (dc.2 SO.o)) ?_;rintro _ _ ⟨rfl,rfl⟩)
          have a1:=al D (.cells #[.pointer (some ⟨tb,0,none⟩)] 198);have x1:=Q.iT D (.pointer (some ⟨tb,0,none⟩)) 198;have z1:=size_alloc D (.cells #[.pointer (some ⟨tb,0,none⟩)] 198);generalize D.alloc (.cells #[.pointer (some ⟨tb,0,none⟩)] 198)=bs at *;have a2:=al bs (.cells #[.int .i64 x.no,.int .i64 x.lv,.slice x.r.aL x.r.lo.length x.r.cL,.slice x.r.aH x.r.hi.length x.r.cH,.bool x.r.op] 148);have x2:=ag bs (.cells #[.int .i64 x.no,.int .i64 x.lv,.slice x.r.aL x.r.lo.length x.r.cL,.slice x.r.aH x.r.hi.length x.r.cH,.bool x.r.op] 148);have z2:=size_alloc bs (.cells #[.int .i64 x.no,.int .i64 x.lv,.slice x.r.aL x.r.lo.length x.r.cL,.slice x.r.aH x.r.hi.length x.r.cH,.bool x.r.op] 148);generalize bs.alloc (.cells #[.int .i64 x.no,.int .i64 x.lv,.slice x.r.aL x.r.lo.length x.r.cL,.slice x.r.aH x.r.hi.length x.r.cH,.bool x.r.op] 148)=cg at *;rw[z1] at x2;have N:=ix (bt a1 a2);have c5:=(a2.cell (p:=⟨D.heap.size,0,none⟩) (block_lt_of_cell x1)).trans x1;have dr:=(N.o.block l2 (ae.1 cU).1).trans cU;have cH:x.px∈ben p.px (Pv.pg ⟨2,p.lv,O,P,K,X,Z,R,nq⟩):=bM.o▸List.mem_map_of_mem (bV x bG)
          have dK:x.lv=p.lv-1:=by
           unfold ben at cH;obtain⟨dv,_,e⟩:=bE.1 cH;exact(bf Plx.lv e).symm
          have FL:=ix (SJ.o _ _ _ ce.o);have dB:=I1.o;have dC:=I2.o
          refine rz (l₀:=l2) (r₀:=dh) dr (gf:=116) (lb:=#[.pointer (some ⟨D.heap.size,0,none⟩),.pointer (some ⟨D.heap.size+1,0,none⟩)]) rfl (enters_of func116 (by kernel_rfl) rfl)
           (IH f' rfl cg D.heap.size (D.heap.size+1) x ai (by omega) c5 x2 (c3.o.keep N.o) df ⟨by omega,by omega⟩ (c4.o.keep N.o) ac (λk hk=>by
             have h0:=Y.size;rcases hk with rfl|rfl|rfl|h|h|⟨y,j,rfl⟩|⟨y,j,rfl⟩
             . omega
             . omega
             . have:=XL.o k (.inr (.inr (.inl rfl)));omega
             . have:=XL.o k (.inr (.inr (.inr (.inl h))));omega
             . have:=XL.o k (.inr (.inr (.inr (.inr (.inl h)))));omega
             . have:=(aF y (.inl j)).2;have:=C9.o.size;omega
             . have:=(aF y (.inr j)).2;have:=C9.o.size;omega)) (But.refl _ _)
           (λk hk=>by
             have h0:=Y.size;rcases hk with rfl|rfl|rfl|h|h|⟨y,j,rfl⟩|⟨y,j,rfl⟩
             . omega
             . omega
             . have:=XL.o k (.inr (.inr (.inl rfl)));omega
             . have:=XL.o k (.inr (.inr (.inr (.inl h))));omega
             . have:=XL.o k (.inr (.inr (.inr (.inr (.inl h)))));omega
             . have:=(aF y (.inl j)).2;have:=C9.o.size;omega
             . have:=(aF y (.inr j)).2;have:=C9.o.size;omega)
           (by rintro s W0 W1 b6 s' er Gv (⟨m,v,rfl,_⟩|⟨rfl,_⟩)<;>rfl)
           F (λk hk d=>by
             have h1:=FL.o k hk;have h2:=an k hk
             have old:∀k,XS tb C t2 p XV XW k->(G k\/V9.heap.size<=k)->False:=λk d h=>by
              rcases h with h|h
              . exact aT k (.inl h) d
              . have:=XL.o k d;omega
             have cK:∀y,(x.r.aL=some y\/x.r.aH=some y)->(G y.block\/V9.heap.size<=y.block)->False:=λy j h=>by
              rcases h with h|h
              . exact b5 y j (.inl h)
              . have:=(aF y j).2;have:=C9.o.size;omega
             rcases d with rfl|rfl|rfl|h|h|⟨y,j,rfl⟩|⟨y,j,rfl⟩
             . omega
             . omega
             . exact old k (.inr (.inr (.inl rfl))) h2
             . exact old k (.inr (.inr (.inr (.inl h)))) h2
             . exact old k (.inr (.inr (.inr (.inr (.inl h))))) h2
             . exact cK y (.inl j) h2
             . exact cK y (.inr j) h2)
           (λF s V=>bb F s V/\M.stp s=false)
           (λab F s V=>ab=.ret/\M.stp s=true/\(bb F s V\/Jx F s V))
           (λF s A ah E hb=>⟨AJ.o F _ A ah E.1 (hb.mono λk _ h=>⟨h.1,by have:=h.2;have:=N.o.size;have:=Y.size;omega⟩),E.2⟩)
           (λF s A E=>SJ.o _ _ _ E.1)
           (λab F s A ah E hb=>⟨E.1,E.2.1,E.2.2.imp (λh=>AJ.o F _ A ah h (hb.mono λk _ h=>⟨h.1,by have:=h.2;have:=N.o.size;have:=Y.size;omega⟩)) (λh=>bK.o F _ A ah h (hb.mono λk _ h=>⟨h.1,by have:=h.2;have:=N.o.size;have:=Y.size;omega⟩))⟩)
           (λab F s A E=>E.2.2.elim (λh=>SJ.o _ _ _ h) (λh=>cf.o _ _ _ h))
           (λF s A E=>HR.o _ _ _ E.1)
           ⟨AJ.o F _ D cg ce.o (But.ofBelow N.o),ac⟩ ?round2 ?done2 ?stop2
          case round2=>
           rintro J F3 s3 U0 U1 b6 cL dy bn ⟨bx,dR⟩ au dn aG dD bF cO dQ cT bv ⟨r1,bB⟩;rcases dn with⟨m,v,rfl,hR',hRb',hP',hrd',hlv',hng',hM',rfl,rfl,hGv'⟩|⟨rfl,hM',rfl,hGv'⟩
           . simp only[kU];gi_wp2
             refine⟨al _ _,λU4 c bY=>?_⟩
             have B:=al U1 (.cells #[.int .i64 m.no,.int .i64 m.lv,.slice m.r.aL m.r.lo.length m.r.cL,.slice m.r.aH m.r.hi.length m.r.cH,.bool m.r.op,.int .i64 v.kind,.int .i64 v.level,.slice v.aI v.items.length v.cI,.slice v.aD v.data.length v.cD,.int .i64 v.next] 151);have a0:=ag U1 (.cells #[.int .i64 m.no,.int .i64 m.lv,.slice m.r.aL m.r.lo.length m.r.cL,.slice m.r.aH m.r.hi.length m.r.cH,.bool m.r.op,.int .i64 v.kind,.int .i64 v.level,.slice v.aI v.items.length v.cI,.slice v.aD v.data.length v.cD,.int .i64 v.next] 151);have di:=size_alloc U1 (.cells #[.int .i64 m.no,.int .i64 m.lv,.slice m.r.aL m.r.lo.length m.r.cL,.slice m.r.aH m.r.hi.length m.r.cH,.bool m.r.op,.int .i64 v.kind,.int .i64 v.level,.slice v.aI v.items.length v.cI,.slice v.aD v.data.length v.cD,.int .i64 v.next] 151);generalize U1.alloc (.cells #[.int .i64 m.no,.int .i64 m.lv,.slice m.r.aL m.r.lo.length m.r.cL,.slice m.r.aH m.r.hi.length m.r.cH,.bool m.r.op,.int .i64 v.kind,.int .i64 v.level,.slice v.aI v.items.length v.cI,.slice v.aD v.data.length v.cD,.int .i64 v.next] 151)=U3 at *;have b3:=(ae.1 bB).1;obtain⟨k0,k1,k2,k3,k4,k5,k6,k7,k8,k9⟩:=lg (c.same a0 (λe=>by have e:U1.heap.size=J:=e;omega))
             have dp:mb<W.heap.size:=ak.o mb aA;have w9:=(B9.o.cell (p:=⟨W.heap.size,0,none⟩) (block_lt_of_cell bk.o)).trans bk.o;have l9:W.heap.size<V9.heap.size:=block_lt_of_cell w9
             have bZ:¬F W.heap.size:=λh=>by
              rcases an _ h with h|h
              . exact GW.o h
              . omega
             have aQ:U4.cell? ⟨W.heap.size,0,none⟩=some (.func (.yield ao) #[] #[]):=by
              have a3:=(Y.cell (p:=⟨W.heap.size,0,none⟩) l9 (λh=>by
               rcases h with h|h
               . exact GW.o h
               . have h:W.heap.size=l2:=h;omega)).trans w9
              have a4:=(N.o.cell (p:=⟨W.heap.size,0,none⟩) (block_lt_of_cell a3)).trans a3;have u0:=(bv.cell (p:=⟨W.heap.size,0,none⟩) (block_lt_of_cell a4) bZ).trans a4;have u1:=(au.cell (p:=⟨W.heap.size,0,none⟩) (block_lt_of_cell u0) (λe=>by have e:W.heap.size=mb:=e;omega)).trans u0
              have u3:=(B.cell (p:=⟨W.heap.size,0,none⟩) (block_lt_of_cell u1)).trans u1;exact(c.cell (p:=⟨W.heap.size,0,none⟩) (block_lt_of_cell u3) (λe=>by have e:W.heap.size=J:=e;have:=N.o.size;have:=Y.size;omega)).trans u3
             have b2:W.heap.size<=J:=by have:=N.o.size;have:=Y.size;omega
             have aH:¬J=mb:=by omega
             obtain⟨aP,g1,g2,g3⟩:=But.around au B c cT aH;have aN:=AJ.o F3 _ U0 aP bx (g1.mono λk _ e=>by have e:k=J:=e;rw[e];exact⟨cO,b2⟩)
             have a5:∀k,F3 k->q k\/W.heap.size<=k:=λk hk=>by
              rcases bF k hk with h|h
              . rcases an k h with h|h
                . exact G7.o k h
                . exact .inr (by omega)
              . exact .inr (by have:=N.o.size;have:=Y.size;omega)
             have aY:U3.heap[J]?=some (.loop r1):=(B.block J b3).trans bB;have dj:=c.size;have du:=au.size;have aX:∀k,bn k->¬F3 k/\W.heap.size<=k/\k<U4.heap.size:=λk hk=>⟨(aG k hk).1,by have:=(aG k hk).2.1;have:=N.o.size;have:=Y.size;omega,by have:=(aG k hk).2.2;omega⟩
             obtain⟨fn,bH,bI,bC,j,a⟩:=aL.o F3 s3 aP U4 #[.agg (kU m v),.int .i64 0] _ false bn aN g2 (.inl ⟨m,v,rfl,⟨(hR'.bl.keep B).loop c aY,hR'.cl,(hR'.bh.keep B).loop c aY,hR'.ch⟩,hRb',((hP'.pre (by rw[g3];exact am _)).keep B).old c (λk e=>by have e:k=J:=e;omega),hrd',hlv',hng',(hM'.keep B).but c (λe=>aH e.symm),rfl,rfl,hGv'⟩) aX (by omega) a5
             simp only[kU] at j a;have aO:=ix (show U1.heap.size<=U4.heap.size by omega)
             clear w9 l9 aN g1 g2 g3 aX a5 aY bY bx au c B a0 bv bF;gi_wp2
             refine⟨rfl,RoundIn.mono (F:=Fence.wide.inRound J) a ?_⟩;rintro e U5 ⟨G5,h5,aS,⟨rfl,af,L⟩|⟨rfl,af,L⟩⟩
             . have cd:=ix (af rfl);clear k0 k1 k2 k3 k4 k5 k6 k7 k8 k9 aQ j a af;gi_wp2
               exact⟨G5,h5,λk hk=>(aS k hk).imp id (λh=>h.imp id (λh=>by have:=aO.o;omega)),λ_=>cd.o,L,cd.o⟩
             . clear k0 k1 k2 k3 k4 k5 k6 k7 k8 k9 aQ j a;gi_wp2
               exact⟨G5,h5,λk hk=>(aS k hk).imp id (λh=>h.imp id (λh=>by have:=aO.o;omega)),af,rfl,af,.inr L⟩
           . simp only[jZ];gi_wp2
             refine⟨al _ _,λU4 c bY=>?_⟩
             have B:=al U1 (.cells #[.int .i64 0,.int .i64 0,.slice none 0 0,.slice none 0 0,.bool false,.int .i64 0,.int .i64 0,.slice none 0 0,.slice none 0 0,.int .i64 0] 151);have a0:=ag U1 (.cells #[.int .i64 0,.int .i64 0,.slice none 0 0,.slice none 0 0,.bool false,.int .i64 0,.int .i64 0,.slice none 0 0,.slice none 0 0,.int .i64 0] 151);have di:=size_alloc U1 (.cells #[.int .i64 0,.int .i64 0,.slice none 0 0,.slice none 0 0,.bool false,.int .i64 0,.int .i64 0,.slice none 0 0,.slice none 0 0,.int .i64 0] 151);generalize U1.alloc (.cells #[.int .i64 0,.int .i64 0,.slice none 0 0,.slice none 0 0,.bool false,.int .i64 0,.int .i64 0,.slice none 0 0,.slice none 0 0,.int .i64 0] 151)=U3 at *;have b3:=(ae.1 bB).1;obtain⟨k0,k1,k2,k3,k4,k5,k6,k7,k8,k9⟩:=lg (c.same a0 (λe=>by have e:U1.heap.size=J:=e;omega))
             have dp:mb<W.heap.size:=ak.o mb aA;have w9:=(B9.o.cell (p:=⟨W.heap.size,0,none⟩) (block_lt_of_cell bk.o)).trans bk.o;have l9:W.heap.size<V9.heap.size:=block_lt_of_cell w9
             have bZ:¬F W.heap.size:=λh=>by
              rcases an _ h with h|h
              . exact GW.o h
              . omega
             have aQ:U4.cell? ⟨W.heap.size,0,none⟩=some (.func (.yield ao) #[] #[]):=by
              have a3:=(Y.cell (p:=⟨W.heap.size,0,none⟩) l9 (λh=>by
               rcases h with h|h
               . exact GW.o h
               . have h:W.heap.size=l2:=h;omega)).trans w9
              have a4:=(N.o.cell (p:=⟨W.heap.size,0,none⟩) (block_lt_of_cell a3)).trans a3;have u0:=(bv.cell (p:=⟨W.heap.size,0,none⟩) (block_lt_of_cell a4) bZ).trans a4;have u1:=(au.cell (p:=⟨W.heap.size,0,none⟩) (block_lt_of_cell u0) (λe=>by have e:W.heap.size=mb:=e;omega)).trans u0
              have u3:=(B.cell (p:=⟨W.heap.size,0,none⟩) (block_lt_of_cell u1)).trans u1;exact(c.cell (p:=⟨W.heap.size,0,none⟩) (block_lt_of_cell u3) (λe=>by have e:W.heap.size=J:=e;have:=N.o.size;have:=Y.size;omega)).trans u3
             have b2:W.heap.size<=J:=by have:=N.o.size;have:=Y.size;omega
             have aH:¬J=mb:=by omega
             obtain⟨aP,g1,g2,g3⟩:=But.around au B c cT aH;have aN:=AJ.o F3 _ U0 aP bx (g1.mono λk _ e=>by have e:k=J:=e;rw[e];exact⟨cO,b2⟩)
             have a5:∀k,F3 k->q k\/W.heap.size<=k:=λk hk=>by
              rcases bF k hk with h|h
              . rcases an k h with h|h
                . exact G7.o k h
                . exact .inr (by omega)
              . exact .inr (by have:=N.o.size;have:=Y.size;omega)
             have aY:U3.heap[J]?=some (.loop r1):=(B.block J b3).trans bB;have dj:=c.size;have du:=au.size;have aX:∀k,bn k->¬F3 k/\W.heap.size<=k/\k<U4.heap.size:=λk hk=>⟨(aG k hk).1,by have:=(aG k hk).2.1;have:=N.o.size;have:=Y.size;omega,by have:=(aG k hk).2.2;omega⟩
             obtain⟨fn,bH,bI,bC,j,a⟩:=aL.o F3 s3 aP U4 #[.agg jZ,.int .i64 15] cL true bn aN g2 (.inr ⟨rfl,hM'.imp (λh=>⟨h.1,(h.2.keep B).but c (λe=>aH e.symm)⟩) (λ⟨n,h⟩=>⟨n,h.1,(h.2.keep B).but c (λe=>aH e.symm)⟩),rfl,hGv'⟩) aX (by omega) a5
             have cb:Hid (M.stp cL=true):=by
              rcases hM' with⟨rfl,_⟩|⟨n,rfl,_⟩<;>exact dm _
             simp only[jZ] at j a;have aO:=ix (show U1.heap.size<=U4.heap.size by omega)
             clear w9 l9 aN g1 g2 g3 aX a5 aY bY bx au c B a0 bv bF;gi_wp2
             refine⟨rfl,RoundIn.mono (F:=Fence.wide.inRound J) a ?_⟩;rintro e U5 ⟨G5,h5,aS,⟨rfl,af,L⟩|⟨rfl,af,L⟩⟩
             . clear k0 k1 k2 k3 k4 k5 k6 k7 k8 k9 aQ j a af;gi_wp2
               exact⟨G5,h5,λk hk=>(aS k hk).imp id (λh=>h.imp id (λh=>by have:=aO.o;omega)),cb.o,rfl,cb.o,.inl L⟩
             . clear k0 k1 k2 k3 k4 k5 k6 k7 k8 k9 aQ j a;gi_wp2
               exact⟨G5,h5,λk hk=>(aS k hk).imp id (λh=>h.imp id (λh=>by have:=aO.o;omega)),af,rfl,af,.inr L⟩
          case done2=>
           rintro F2 b0 V ⟨bQ,ba⟩ t bP b1;gi_wp2
           have t:b0=iE M rd wants o f' ai x.px:=t;subst t;exact⟨F2,((But.ofBelow (S:=F) N.o).trans bP (λ_ _ h=>h)).ing,λk hk=>(b1 k hk).imp id (λh=>.inr (by have:=N.o.size;omega)),λ_=>ba,bQ,ba,λy j=>bV y (br _ j)⟩
          case stop2=>
           rintro ab F2 b0 V ⟨rfl,ba,bQ⟩ t bP b1;gi_wp2
           have t:b0=iE M rd wants o f' ai x.px:=t;subst t;exact⟨F2,((But.ofBelow (S:=F) N.o).trans bP (λ_ _ h=>h)).ing,λk hk=>(b1 k hk).imp id (λh=>.inr (by have:=N.o.size;omega)),ba,rfl,ba,bQ⟩
         case done=>
          rintro ad F s V hD bw ⟨hJ,E,_⟩ t hB an aU;go_wp2_with fail
          refine⟨by simp,.inl ⟨_,_,rfl,cw aU,?_⟩⟩
          have bD:=(But.refl (λk=>k=ad) V).putObj (λ_=>rfl) (.deferred none)
          have c6:ad<V.heap.size:=(ae.1 aU).1;have cC:=B9.o.size;have cE:=aa.o.size
          have bU:s.2=iE M rd wants o (f'+1) I p.px:=by
           have t:s.2=flw (λs x=>iE M rd wants o f' s x.px) M.stp (iW o aK) s2:=t
           rw[t,sX hz ap.o ax.o hlq (by have:=bo.o;rw[<-a9] at this;exact this) (by show ¬((2:Int)=1);decide),pJ (λs ab=>iE M rd wants o f' s ab) M.stp Plv.px,<-oy,bM.o,<-a9]<;>rfl
          refine⟨_,co rfl _ _ _,F,s.2,⟨_,rfl⟩,((aa.o.andBelow B9.o).trans hB (λk hk h=>by
           rcases G7.o k h with h|h
           . exact h
           . omega)).trans bD (λk hk e=>by have e:k=ad:=e;omega),λk hk=>by
           rcases an k hk with h|h
           . exact G7.o k h
           . exact .inr (by omega),bU,.inl (AJ.o F _ V _ hJ (bD.mono λk _ e=>by have e:k=ad:=e;rw[e];exact⟨bw,by omega⟩))⟩
         case stop=>
          rintro ad ab F s V hD bw ⟨rfl,E,hJ⟩ t hB an aU;gi_wp2
          refine⟨by simp,.inl ⟨_,_,rfl,cw aU,?_⟩⟩
          have bD:=(But.refl (λk=>k=ad) V).putObj (λ_=>rfl) (.deferred none)
          have c6:ad<V.heap.size:=(ae.1 aU).1;have cC:=B9.o.size;have cE:=aa.o.size
          have bU:s.2=iE M rd wants o (f'+1) I p.px:=by
           have t:s.2=flw (λs x=>iE M rd wants o f' s x.px) M.stp (iW o aK) s2:=t
           rw[t,sX hz ap.o ax.o hlq (by have:=bo.o;rw[<-a9] at this;exact this) (by show ¬((2:Int)=1);decide),pJ (λs ab=>iE M rd wants o f' s ab) M.stp Plv.px,<-oy,bM.o,<-a9]<;>rfl
          refine⟨_,co rfl _ _ _,F,s.2,⟨_,rfl⟩,((aa.o.andBelow B9.o).trans hB (λk hk h=>by
           rcases G7.o k h with h|h
           . exact h
           . omega)).trans bD (λk hk e=>by have e:k=ad:=e;omega),λk hk=>by
           rcases an k hk with h|h
           . exact G7.o k h
           . exact .inr (by omega),bU,hJ.imp (λhJ=>AJ.o F _ V _ hJ (bD.mono λk _ e=>by have e:k=ad:=e;rw[e];exact⟨bw,by omega⟩)) (λhJ=>bK.o F _ V _ hJ (bD.mono λk _ e=>by have e:k=ad:=e;rw[e];exact⟨bw,by omega⟩))⟩
     . gi_wp2
       go_wp2_with fail
       exact⟨_,co rfl _ _ _,G,_,⟨_,rfl⟩,aj.o.trans h7 (λk hk h=>h.elim id (λh=>by have:=(bm.o _ h.2).1;omega)),λk hk=>by
        rcases hG k hk with h|h|h
        . exact .inl h
        . exact .inr (by have:=(GN.o k h.2).1;omega)
        . exact .inr (ay aj.o.size h),(oR hz ap.o ax.o hlq (.inl ac)).symm,.inr aC⟩
end Go.Proofs.YteaogidofpfmmaaGreat
