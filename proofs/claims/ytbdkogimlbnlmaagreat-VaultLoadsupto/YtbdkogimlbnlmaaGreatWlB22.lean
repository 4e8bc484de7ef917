import Derived.Test.YtbdkogimlbnlmaaGreatWlB21
set_option linter.all false
set_option maxHeartbeats 16000000
set_option maxRecDepth 8000
namespace Go.Proofs.YtbdkogimlbnlmaaGreat
open Go.Proofs.Tryz
open Go.RowKit
variable {M mb pb wb:Nat}{col:Nat->Nat}{aW:Option Addr}{S:Vs}{w:World}
structure Va(v w:World)(b rb pb mb:Nat)(S:Vs)(D:Rd)(H:List Sn)(pc col colR:Nat->Nat):Prop where
 V:Vw w b S pb mb pc col
 R:Ra w rb D H colR
 dj:∀k,col k≠0->colR k=0
 vn:∀k,col k≠0->v.heap.size<=k
 rn:∀k,colR k≠0->v.heap.size<=k
 bl:Below v.heap.size v w
section
variable {T:Nat->Prop} {v w w':World} {b rb pb mb:Nat} {S S':Vs} {D D':Rd} {H H':List Sn} {pc pc' col col' colR colR':Nat->Nat}
theorem Ah.but{T:Nat->Prop}(h:Ah w D H col)(hb:But T w w')(d:∀k,col k≠0->¬T k):Ah w' D H col:=
 ⟨h.ar.but hb (λx g=>d _ (by rw[h.ca x g];decide)),h.na,h.ca,λs f=>(h.sv s f).but hb (λk _ e=>d k (by omega))⟩
theorem Va.keep(h:Va v w b rb pb mb S D H pc col colR)(hb:Below w.heap.size w w'):Va v w' b rb pb mb S D H pc col colR:=⟨h.V.keep hb,h.R.keep hb,h.dj,h.vn,h.rn,bt h.bl hb⟩
theorem Va.z(h:Va v w b rb pb mb S D H pc col colR){k:Nat}(d:w.heap.size<=k):col k=0/\colR k=0:=⟨h.V.z d,by
 by_cases e:colR k=0
 . exact e
 . have:=h.R.q.lt k e;omega⟩
theorem Va.but(h:Va v w b rb pb mb S D H pc col colR)(hb:But T w w')(f:∀k,T k->col k=0/\colR k=0/\v.heap.size<=k):Va v w' b rb pb mb S D H pc col colR:=
 ⟨h.V.but13 hb (λk d e=>d (f k e).1),⟨h.R.q.but hb (λk d e=>d (f k e).2.1),h.R.a.but hb (λk d e=>d (f k e).2.1)⟩,h.dj,h.vn,h.rn,((But.ofBelow (S:=λ_=>False) h.bl).trans hb (λk d e=>by have:=(f k e).2.2;omega)).below (λ_ _ e=>e)⟩
theorem Va.prog(h:Va v w b rb pb mb S D H pc col colR)(i:Vw w' b S' pb mb pc' col')(f:Vf w col w' col'):Va v w' b rb pb mb S' D H pc' col' colR:=by
 have ne:∀k,colR k≠0->¬(1<=col k/\col k<=5):=λk d e=>d (h.dj k (by omega))
 refine⟨i,⟨h.R.q.but f.b ne,h.R.a.but f.b ne⟩,λk d=>?_,λk d=>?_,h.rn,?_⟩
 . by_cases g:k<w.heap.size
   . rw[f.c k g] at d;exact h.dj k d
   . exact(h.z (by omega)).2
 . by_cases g:k<w.heap.size
   . rw[f.c k g] at d;exact h.vn k d
   . have:=h.bl.size;omega
 . exact((But.ofBelow (S:=λ_=>False) h.bl).trans f.b (λk d e=>by have:=h.vn k (by omega);omega)).below (λ_ _ e=>e)
theorem Va.doc(h:Va v w b rb pb mb S D H pc col colR)(i:Ra w' rb D' H' colR')(f:Vf w colR w' colR'):Va v w' b rb pb mb S D' H' pc col colR':=by
 refine⟨h.V.but13 f.b (λk d e=>by have:=h.dj k d;omega),i,λk d=>?_,h.vn,λk d=>?_,?_⟩
 . by_cases g:k<w.heap.size
   . rw[f.c k g];exact h.dj k d
   . exact absurd (h.z (by omega)).1 d
 . by_cases g:k<w.heap.size
   . rw[f.c k g] at d;exact h.rn k d
   . have:=h.bl.size;omega
 . exact((But.ofBelow (S:=λ_=>False) h.bl).trans f.b (λk d e=>by have:=h.rn k (by omega);omega)).below (λ_ _ e=>e)
end
structure Wl where
 tb:Nat
 a:Option Addr
 c:Nat
 L:List (Int×Pv)
 aN:Option Addr
 cN:Nat
 N:List (Int×Pv)
def Wl.fn(k:Wl):Value:=.func (.func 116) #[] #[.pointer (some ⟨k.tb,0,none⟩)]
def Wl.cs(k:Wl):List Value:=[k.fn,.slice k.aN k.N.length k.cN]
def wlv(W:List Wl):List Value:=(W.map Wl.cs).flatten
theorem yl(A B:List Wl):wlv (A++B)=wlv A++wlv B:=by simp[wlv]
theorem EF(x:Wl):wlv [x]=x.cs:=by simp[wlv]
structure Wt(v w:World)(col colR:Nat->Nat)(tb:Nat)(a:Option Addr)(c:Nat)(L:List (Int×Pv)):Prop where
 bx:w.heap[tb]?=some (.cells #[.slice a L.length c] 36 (0,0))
 tc:col tb=0/\colR tb=0/\v.heap.size<=tb
 lr:Q.Gw 39 6 w a c L.length (nms L)
 la:Ou v col colR a
 lp:∀x∈L,Pz (λj=>col j=6) w x.2
 ls:∀x∈L,Smi x.2
structure Wn(v w:World)(col colR:Nat->Nat)(a:Option Addr)(c:Nat)(N:List (Int×Pv)):Prop where
 nr:Q.Gw 39 6 w a c N.length (nms N)
 na:Ou v col colR a
 np:∀x∈N,Pw1 v w col colR x.2
section
variable {T:Nat->Prop} {v w w':World} {col col' colR colR':Nat->Nat} {tb:Nat} {a:Option Addr} {c:Nat} {L:List (Int×Pv)}
theorem Wt.but(h:Wt v w col colR tb a c L)(hb:But T w w')(d:¬T tb)(f:∀y,a=some y->¬T y.block)(g:∀k,col k=6->¬T k):Wt v w' col colR tb a c L:=⟨hb.same h.bx d,h.tc,h.lr.but hb f,h.la,λx i=>(h.lp x i).but hb (λk _ e=>g k e),h.ls⟩
theorem Wt.keep(h:Wt v w col colR tb a c L)(hb:Below w.heap.size w w'):Wt v w' col colR tb a c L:=h.but (T:=λ_=>False) (But.ofBelow hb) (λe=>e) (λ_ _ e=>e) (λ_ _ e=>e)
theorem Wt.lb(h:Wt v w col colR tb a c L):tb<w.heap.size:=(af.1 h.bx).1
theorem Wt.recol(h:Wt v w col colR tb a c L)(d:∀k,k<w.heap.size->col' k=col k)(f:∀k,k<w.heap.size->colR' k=colR k):Wt v w col' colR' tb a c L:=
 ⟨h.bx,by rw[d _ h.lb,f _ h.lb];exact h.tc,h.lr,h.la.go (λy j=>h.lr.lt j) d f,λx i=>(h.lp x i).mono (λk g e=>by rw[d k g];exact e),h.ls⟩
theorem Wt.vf(h:Wt v w col colR tb a c L)(d:Vf w col w' col'):Wt v w' col' colR tb a c L:=by
 have i:=h.but d.b (λe=>by have:=h.tc;omega) (λy n e=>by have:=h.la y n;omega) (λk g j=>by omega)
 have f:=h.recol (col':=col') (colR':=colR) d.c (λ_ _=>rfl)
 exact⟨i.bx,f.tc,i.lr,f.la,λx m=>((f.lp x m).but d.b (λk l g j=>by rw[d.c k l] at g;omega)),h.ls⟩
theorem Wt.vfR(h:Wt v w col colR tb a c L)(i:∀k,col k≠0->colR k=0)(g:Vf w colR w' colR'):Wt v w' col colR' tb a c L:=by
 have d:=h.but g.b (λe=>by have:=h.tc;omega) (λy j e=>by have:=h.la y j;omega) (λk l m=>by have:=i k (by omega);omega)
 have f:=h.recol (col':=col) (colR':=colR') (λ_ _=>rfl) g.c
 exact⟨d.bx,f.tc,d.lr,f.la,d.lp,h.ls⟩
theorem Wn.but(h:Wn v w col colR a c L)(hb:But T w w')(e:∀y,a=some y->¬T y.block)(f:∀x∈L,∀k,Blk x.2 k->¬T k):Wn v w' col colR a c L:=⟨h.nr.but hb e,h.na,λx d=>(h.np x d).but hb (f x d)⟩
theorem Wn.keep(h:Wn v w col colR a c L)(hb:Below w.heap.size w w'):Wn v w' col colR a c L:=h.but (T:=λ_=>False) (But.ofBelow hb) (λ_ _ e=>e) (λ_ _ _ _ e=>e)
theorem Wn.recol(h:Wn v w col colR a c L)(d:∀k,k<w.heap.size->col' k=col k)(e:∀k,k<w.heap.size->colR' k=colR k):Wn v w col' colR' a c L:=⟨h.nr,h.na.go (λy g=>h.nr.lt g) d e,λx f=>(h.np x f).recol d e⟩
theorem Wn.vf(h:Wn v w col colR a c L)(i:Vf w col w' col'):Wn v w' col' colR a c L:=by
 have f:=h.but i.b (λy m e=>by have:=h.na y m;omega) (λx d k j e=>by have:=(h.np x d).c k j;omega)
 have g:=h.recol (col':=col') (colR':=colR) i.c (λ_ _=>rfl)
 exact⟨f.nr,g.na,λx d=>⟨(f.np x d).n,(h.np x d).l,(g.np x d).c⟩⟩
theorem Wn.vfR(h:Wn v w col colR a c L)(i:Vf w colR w' colR'):Wn v w' col colR' a c L:=by
 have f:=h.but i.b (λy m e=>by have:=h.na y m;omega) (λx d k j e=>by have:=(h.np x d).c k j;omega)
 have g:=h.recol (col':=col) (colR':=colR') (λ_ _=>rfl) i.c
 exact⟨f.nr,g.na,λx d=>⟨(f.np x d).n,(h.np x d).l,(g.np x d).c⟩⟩
end
theorem qh{p q:Pv}(h:Smi p)(e:q.pg=p.pg):Smi q:=by
 have g:q.data=p.data:=a7 Pg.data e;have d:q.items.map Iv.it=p.items.map Iv.it:=a7 Pg.items e;refine⟨⟨by rw[g];exact h.1.1,λx j=>?_⟩,by have:=a7 List.length d;rw[aZ,aZ] at this;rw[this];exact h.2⟩
 have i:x.it∈p.items.map Iv.it:=d▸bH.2 ⟨x,j,rfl⟩;obtain⟨y,k,f⟩:=bH.1 i;have l:y.key=x.key:=a7 It.key f;have m:y.val=x.val:=a7 It.val f;rw[<-l,<-m];exact h.1.2 y k
structure Wo(v w:World)(wb b rb pb mb:Nat)(S:Vs)(D:Rd)(H:List Sn)(pc col colR:Nat->Nat)(aW:Option Addr)(cW:Nat)(W:List Wl)(K:Bkk)(M:Nat):Prop where
 va:Va v w b rb pb mb S D H pc col colR
 bo:Bo v w wb b rb col colR (.slice aW W.length cW) K
 gw:Q.Gw 107 2 w aW cW W.length (wlv W)
 oW:Ou v col colR aW
 wt:∀k∈W,Wt v w col colR k.tb k.a k.c k.L
 wn:∀k∈W,Wn v w col colR k.aN k.cN k.N
 we:∀k∈W,nmg k.L=nmg k.N
 tn:∀p∈K.T,∀k∈W,∀x∈k.N,Bdj p x.2
 tw:Tw S D H M
 eq:K.T.map Pv.pg=K.X.map Pv.pg
 l4:K.T.length<=40
 wl:W.length<=M
 sm:∀p∈K.T,Smi p
section
variable {T:Nat->Prop} {v w w':World} {wb b rb pb mb:Nat} {S S':Vs} {D D':Rd} {H H':List Sn} {pc pc' col col' colR colR':Nat->Nat} {aW:Option Addr} {cW:Nat} {W:List Wl} {K K':Bkk} {M N:Nat}
theorem Wo.keep(h:Wo v w wb b rb pb mb S D H pc col colR aW cW W K M)(hb:Below w.heap.size w w'):Wo v w' wb b rb pb mb S D H pc col colR aW cW W K M:=
 ⟨h.va.keep hb,h.bo.keep hb,h.gw.keep hb,h.oW,λk d=>(h.wt k d).keep hb,λk d=>(h.wn k d).keep hb,h.we,h.tn,h.tw,h.eq,h.l4,h.wl,h.sm⟩
structure Wr(v w:World)(wb b rb:Nat)(col colR:Nat->Nat)(aW:Option Addr)(cW:Nat)(W:List Wl)(K:Bkk):Prop where
 bo:Bo v w wb b rb col colR (.slice aW W.length cW) K
 gw:Q.Gw 107 2 w aW cW W.length (wlv W)
 oW:Ou v col colR aW
 wt:∀k∈W,Wt v w col colR k.tb k.a k.c k.L
 wn:∀k∈W,Wn v w col colR k.aN k.cN k.N
theorem Wo.wr(h:Wo v w wb b rb pb mb S D H pc col colR aW cW W K M):Wr v w wb b rb col colR aW cW W K:=⟨h.bo,h.gw,h.oW,h.wt,h.wn⟩
theorem Wr.keep(h:Wr v w wb b rb col colR aW cW W K)(hb:Below w.heap.size w w'):Wr v w' wb b rb col colR aW cW W K:=⟨h.bo.keep hb,h.gw.keep hb,h.oW,λk d=>(h.wt k d).keep hb,λk d=>(h.wn k d).keep hb⟩
theorem Wr.vf(h:Wr v w wb b rb col colR aW cW W K)(d:Vf w col w' col'):Wr v w' wb b rb col' colR aW cW W K:=
 ⟨h.bo.vf d,h.gw.but d.b (λy g e=>by have:=h.oW y g;omega),h.oW.go (λy g=>h.gw.lt g) d.c (λ_ _=>rfl),λk f=>(h.wt k f).vf d,λk f=>(h.wn k f).vf d⟩
theorem Wr.vfR(h:Wr v w wb b rb col colR aW cW W K)(i:∀k,col k≠0->colR k=0)(d:Vf w colR w' colR'):Wr v w' wb b rb col colR' aW cW W K:=
 ⟨h.bo.vfR d,h.gw.but d.b (λy g e=>by have:=h.oW y g;omega),h.oW.go (λy g=>h.gw.lt g) (λ_ _=>rfl) d.c,λk f=>(h.wt k f).vfR i d,λk f=>(h.wn k f).vfR d⟩
end
structure Oq where
 kind:Int
 n:Int
 k:Int
 p:Pv
def Oq.cs(o:Oq):Array Value:=#[.int .i64 o.kind,.int .i64 o.n,.int .i64 o.k,.int .i64 o.p.kind,.int .i64 o.p.level,.slice o.p.aI o.p.items.length o.p.cI,.slice o.p.aD o.p.data.length o.p.cD,.int .i64 o.p.next]
def Oq.vl(o:Oq):Value:=.agg o.cs
theorem iK{W:World}{b:Nat}{t:TypeId}{v0 d e v3 v4 v5 f g:Value}(h:W.heap[b]?=some (.cells #[v0,d,e,v3,v4,v5,f,g] t (0,0))):W.cell? ⟨b,0,none⟩=some v0/\W.cell? ⟨b,1,none⟩=some d/\W.cell? ⟨b,2,none⟩=some e/\W.cell? ⟨b,3,none⟩=some v3/\W.cell? ⟨b,4,none⟩=some v4/\W.cell? ⟨b,5,none⟩=some v5/\W.cell? ⟨b,6,none⟩=some f/\W.cell? ⟨b,7,none⟩=some g:=by
 refine⟨?_,?_,?_,?_,?_,?_,?_,?_⟩<;>(rw[ay _ _ _ _ _ _ h];rfl)
structure Po2(w:World)(col colR:Nat->Nat)(p:Pv):Prop where
 z:Pz (λk=>¬(1<=col k/\col k<=5)/\¬(1<=colR k/\colR k<=5)) w p
 s:Smi p
def ot(wb:Nat)(aW:Option Addr)(K:Bkk)(k:Nat):Prop:=K.own wb k\/Q.InA aW k\/∃p∈K.T,Blk p k
structure Fx(w:World)(col colR:Nat->Nat)(own:Nat->Prop)(w':World)(col' colR':Nat->Nat):Prop where
 b:But (λk=>(1<=col k/\col k<=5)\/(1<=colR k/\colR k<=5)\/own k) w w'
 c:∀k,k<w.heap.size->col' k=col k
 r:∀k,k<w.heap.size->colR' k=colR k
structure Ws(v w:World)(wb b rb pb mb:Nat)(S:Vs)(D:Rd)(H:List Sn)(pc col colR:Nat->Nat)(aW:Option Addr)(cW:Nat)(W:List Wl)(K:Bkk):Prop where
 va:Va v w b rb pb mb S D H pc col colR
 wr:Wr v w wb b rb col colR aW cW W K
section
variable {v w w' w2:World} {wb b rb pb mb:Nat} {S S':Vs} {D D':Rd} {H H':List Sn} {pc pc' col col' colR colR':Nat->Nat} {aW:Option Addr} {cW:Nat} {W:List Wl} {K K':Bkk} {M N:Nat} {own:Nat->Prop} {p:Pv}
theorem Po2.keep(h:Po2 w col colR p)(hb:Below w.heap.size w w'):Po2 w' col colR p:=⟨h.z.keep hb,h.s⟩
theorem Po2.vf(h:Po2 w col colR p)(d:Vf w col w' col'):Po2 w' col' colR p:=⟨(h.z.mono (λk f e=>⟨by rw[d.c k f];exact e.1,e.2⟩)).but d.b (λk f e g=>e.1 (by rw[d.c k f];exact g)),h.s⟩
theorem Po2.vfR(h:Po2 w col colR p)(d:Vf w colR w' colR'):Po2 w' col colR' p:=⟨(h.z.mono (λk f e=>⟨e.1,by rw[d.c k f];exact e.2⟩)).but d.b (λk f e g=>e.2 (by rw[d.c k f];exact g)),h.s⟩
theorem Po2.pfR(h:Po2 w col colR p):Pf colR w p:=h.z.mono (λk _ e=>e.2)
theorem Fx.keep(hb:Below w.heap.size w w'):Fx w col colR own w' col colR:=⟨But.ofBelow hb,λ_ _=>rfl,λ_ _=>rfl⟩
theorem Fx.vf(d:Vf w col w' col'):Fx w col colR own w' col' colR:=⟨d.b.mono (λ_ _ e=>.inl e),d.c,λ_ _=>rfl⟩
theorem Fx.vfR(d:Vf w colR w' colR'):Fx w col colR own w' col colR':=⟨d.b.mono (λ_ _ e=>.inr (.inl e)),λ_ _=>rfl,d.c⟩
theorem Fx.trans{f i:Nat->Nat}{g:Nat->Prop}(h:Fx w col colR own w' col' colR')(k:Fx w' col' colR' g w2 f i)(l:∀j,j<w.heap.size->g j->own j):Fx w col colR own w2 f i:=by
 have s:=h.b.size;exact⟨h.b.trans k.b (λj d e=>by rw[h.c j d,h.r j d] at e;exact e.imp id (λe=>e.imp id (l j d))),λj d=>(k.c j (by omega)).trans (h.c j d),λj d=>(k.r j (by omega)).trans (h.r j d)⟩
theorem Ws.keep(h:Ws v w wb b rb pb mb S D H pc col colR aW cW W K)(hb:Below w.heap.size w w'):Ws v w' wb b rb pb mb S D H pc col colR aW cW W K:=⟨h.va.keep hb,h.wr.keep hb⟩
theorem Ws.prog(h:Ws v w wb b rb pb mb S D H pc col colR aW cW W K)(e:Vw w' b S' pb mb pc' col')(d:Vf w col w' col'):Ws v w' wb b rb pb mb S' D H pc' col' colR aW cW W K:=⟨h.va.prog e d,h.wr.vf d⟩
theorem Ws.doc(h:Ws v w wb b rb pb mb S D H pc col colR aW cW W K)(e:Ra w' rb D' H' colR')(d:Vf w colR w' colR'):Ws v w' wb b rb pb mb S D' H' pc col colR' aW cW W K:=⟨h.va.doc e d,h.wr.vfR h.va.dj d⟩
theorem Ws.cells(h:Ws v w wb b rb pb mb S D H pc col colR aW cW W K):w.cell? ⟨wb,0,none⟩=some (.pointer (some ⟨b,0,none⟩))/\w.cell? ⟨wb,1,none⟩=some (.pointer (some ⟨rb,0,none⟩))/\w.cell? ⟨wb,2,none⟩=some (.slice aW W.length cW)/\w.cell? ⟨wb,3,none⟩=some (.slice K.aT K.T.length K.cT)/\w.cell? ⟨wb,4,none⟩=some (.slice K.aX K.X.length K.cX):=iR h.wr.bo.box
theorem Wo.ws(h:Wo v w wb b rb pb mb S D H pc col colR aW cW W K M):Ws v w wb b rb pb mb S D H pc col colR aW cW W K:=⟨h.va,h.wr⟩
theorem Ws.wo(h:Ws v w' wb b rb pb mb S' D' H' pc' col' colR' aW cW W K)(d:Wo v w wb b rb pb mb S D H pc col colR aW cW W K M)(f:Tw S' D' H' N)(e:M<=N):Wo v w' wb b rb pb mb S' D' H' pc' col' colR' aW cW W K N:=
 ⟨h.va,h.wr.bo,h.wr.gw,h.wr.oW,h.wr.wt,h.wr.wn,d.we,d.tn,f,d.eq,d.l4,aO d.wl e,d.sm⟩
end
def NxV(v w:World)(wb b rb pb mb:Nat)(col colR:Nat->Nat)(aW:Option Addr)(cW:Nat)(W:List Wl)(K:Bkk)(M:Nat)(P:Vs->Prop)(e:Ending)(w':World):Prop:=
 e=.returned (.bool true)/\∃S' D' H' pc' col' colR',P S'/\Wo v w' wb b rb pb mb S' D' H' pc' col' colR' aW cW W K (M+20)/\Fx w col colR (ot wb aW K) w' col' colR'
def qr(wb:Nat)(aW:Option Addr)(W:List Wl)(K:Bkk)(k:Nat):Prop:=ot wb aW K k\/(∃q∈K.X,Blk q k)\/∃x∈W,k=x.tb\/Q.InA x.a k\/Q.InA x.aN k\/∃y∈x.N,Blk y.2 k
def Sb(n wb:Nat)(aW:Option Addr)(W:List Wl)(K:Bkk)(aW':Option Addr)(W':List Wl)(K':Bkk):Prop:=∀k,k<n->qr wb aW' W' K' k->qr wb aW W K k
theorem Sb.book{n:Nat}{W:List Wl}{K K':Bkk}(f:∀q∈K'.T,q∈K.T\/∀k,k<n->Blk q k->qr wb aW W K k)(g:∀q∈K'.X,q∈K.X\/∀k,k<n->Blk q k->qr wb aW W K k)(e:∀k,K'.own wb k->K.own wb k\/n<=k):Sb n wb aW W K aW W K':=λk d h=>by
 rcases h with(h|h|⟨p,hp,h⟩)|⟨q,hq,h⟩|h
 . rcases e k h with h|h
   . exact .inl (.inl h)
   . omega
 . exact .inl (.inr (.inl h))
 . rcases f p hp with h2|h2
   . exact .inl (.inr (.inr ⟨p,h2,h⟩))
   . exact h2 k d h
 . rcases g q hq with h2|h2
   . exact .inr (.inl ⟨q,h2,h⟩)
   . exact h2 k d h
 . exact .inr (.inr h)
def Nx(v w:World)(wb b rb pb mb:Nat)(col colR:Nat->Nat)(aW:Option Addr)(W:List Wl)(K:Bkk)(M:Nat)(e:Ending)(w':World):Prop:=
 e=.returned (.bool true)/\∃S' D' H' pc' col' colR' aW' cW' W' K',Wo v w' wb b rb pb mb S' D' H' pc' col' colR' aW' cW' W' K' (M+20)/\Fx w col colR (ot wb aW K) w' col' colR'/\Sb w.heap.size wb aW W K aW' W' K'
theorem NxV.nx{v:World}{b rb:Nat}{colR:Nat->Nat}{cW:Nat}{W:List Wl}{K:Bkk}{P:Vs->Prop}{e:Ending}{w':World}(h:NxV v w wb b rb pb mb col colR aW cW W K M P e w'):Nx v w wb b rb pb mb col colR aW W K M e w':=by
 obtain⟨d,S',D',H',pc',col',colR',_,f,g⟩:=h;exact⟨d,S',D',H',pc',col',colR',aW,cW,W,K,f,g,λ_ _ e=>e⟩
theorem Aj(w:World)(b:Nat)(S:Vs)(pb mb:Nat)(pc col:Nat->Nat)(h:Vw w b S pb mb pc col)(z:Int)(hs:Sml (S.X.on z))(hm:S.X.P.mark+(S.X.on z).pg.kids.length+1<=17592186044416)(hc:S.X.ch.length+1<=1759218604441)(hl:S.al.length+1<=8796093022208):
 Calls prog 37 #[.pointer (some ⟨b,0,none⟩),.int .i64 z] w λx w'=>∃q:Pv,x=.returned (.tuple #[q.vl,.int .i64 (S.X.leave z).1.2])/\q.pg=(S.X.leave z).1.1.pg/\Pn w w' q/\∃pc' col',Vw w' b (S.done (S.X.leave z).1.2 (S.X.leave z).2) pb mb pc' col'/\Vf w col w' col'/\∀k,Blk q k->col' k=0:=by
 have aB:=al w (.cells Pv.zero.cs 31);have m:=iJ (aF w (.cells Pv.zero.cs 31));have l:=iJ (mu _ b S pb mb pc col (h.keep aB) (by omega))
 obtain⟨aa,ca,hx⟩:=h.vx;have aj:S.X.P.ac.length+(S.X.on z).pg.kids.length+1<=17592186044416:=by unfold Q.Po.mark at hm;omega
 have i:=iJ λ(W:World)(hb:Below w.heap.size w W)=>t8 W b S.X S.fl (vd0 pb mb aa ca S.al) pc col z (hx.keep hb) aj hc
 have n:=iJ λ(W:World)(col':Nat->Nat)(hf:Vf w col W col')=>kH W (S.X.leave z).1.1 (Vm.leave_pz hx hf z) (Vm.leave_sml hs).1 (Vm.leave_sml hs).2
 have s:=Ve.leave S.X z;have ab:(S.X.leave z).2.P.ac.length<=S.X.P.ac.length+(S.X.on z).pg.kids.length+1:=Vm.left_ac S.X z;obtain⟨r,hr⟩:∃r,S.X.leave z=r:=⟨_,rfl⟩;rw[hr] at s ab ⊢;simp only[hr] at i n;obtain⟨⟨p,e⟩,X1⟩:=r;simp only at i n s ab ⊢;have EN:=iJ λ(W:World)(pc' col':Nat->Nat)(hv:Vx W b X1 S.fl (vd0 pb mb aa ca S.al) pc' col')=>mF W b S X1 pb mb aa ca pc' col' hv e s.ch (s.p.mark_le (by unfold Q.Po.mark at hm;omega)) hl
 obtain⟨S2,ad⟩:∃S2,S.done e X1=S2:=⟨_,rfl⟩;obtain⟨mk,am⟩:∃mk,S.X.P.mark=mk:=⟨_,rfl⟩;obtain⟨y,ak⟩:∃y,S.X.ch.length=y:=⟨_,rfl⟩;simp only[am,ak,ad] at l EN;rw[ad];have HV:=iJ h;have B:=iJ aB;clear h hx aB hs hm hc hl aj s ab hr ad am ak;obtain⟨E,G,J,P,V,I,O,R,X⟩:=p;unfold Pv.vl at i n;simp only[Pv.cs] at i n m B l;simp only[Pv.zero,bj] at m B l;go_enter func37,ntmps37;go_wp2_with fail
 refine l.o.mono ?_;rintro _ d ⟨rfl,hb⟩;have a1:=al d (.cells #[.int .i64 ((mk:Nat):Int),.int .i64 ((y:Nat):Int)] 137);have B1:=iJ (bt (bt B.o hb) a1);have ac:=iJ (((bt hb a1).block w.heap.size (af.1 m.o).1).trans m.o);have Z:=iJ (aF d (.cells #[.int .i64 ((mk:Nat):Int),.int .i64 ((y:Nat):Int)] 137));have ZX:Hid (col w.heap.size=0):=HV.o.z (ai _);have ZT:Hid (col d.heap.size=0):=HV.o.z (bt B.o hb).size;have av:Hid (w.heap.size<d.heap.size):=be (af.1 m.o).1 hb.size;clear hb l a1;go_wp2_with fail
 refine(i.o _ B1.o).mono ?_;rintro _ w2 ⟨rfl,aJ,ap,v2,j⟩;have C:=j.b.same ac.o (λe=>by rw[ZX.o] at e;omega)
 have T2:=j.b.same Z.o (λe=>by rw[ZT.o] at e;omega)
 have ao:=(j.c w.heap.size (af.1 ac.o).1).trans ZX.o;have an:=(j.c d.heap.size (af.1 Z.o).1).trans ZT.o;have t:=bt (al w2 (.cells #[.int .i64 E,.int .i64 G,.slice J V.length P,.slice I R.length O,.int .i64 X] 31)) (Q.drw _);have U3:=iJ (aF w2 (.cells #[.int .i64 E,.int .i64 G,.slice J V.length P,.slice I R.length O,.int .i64 X] 31));have X3:=iJ ((t.block w.heap.size (af.1 C).1).trans C);have T3:=iJ ((t.block d.heap.size (af.1 T2).1).trans T2);have V3:=iJ (v2.keep t);have Y:=iJ (((Vf.keep B1.o).trans j).trans (Vf.keep t));have ah:=iJ ao;have ar:Hid (w.heap.size<d.heap.size):=av.o;have au:Hid (w.heap.size<w2.heap.size):=(af.1 C).1;have ag:=iJ an;have aw:Hid (ap w2.heap.size=0):=v2.z (ai _);clear v2 j C T2 ao an t i ac Z ZX ZT;go_wp2_with fail
 refine bC (S:=λW=>(W.cell? ⟨d.heap.size,0,none⟩=some (.int .i64 ((mk:Nat):Int))/\W.cell? ⟨d.heap.size,1,none⟩=some (.int .i64 ((y:Nat):Int)))/\(W.cell? ⟨w2.heap.size,0,none⟩=some (.int .i64 E)/\W.cell? ⟨w2.heap.size,1,none⟩=some (.int .i64 G)/\W.cell? ⟨w2.heap.size,2,none⟩=some (.slice J V.length P)/\W.cell? ⟨w2.heap.size,3,none⟩=some (.slice I R.length O)/\W.cell? ⟨w2.heap.size,4,none⟩=some (.int .i64 X))) (by kernel_rfl) (⟨iX T3.o,iS U3.o⟩) (λhHeld=>?_)
 refine tkd 0 2 3 4 ?_;refine tw 1 λK A=>?_
 go_simp;refine(n.o _ _ Y.o).mono ?_;rintro _ w4 ⟨q,rfl,U,hq,hb⟩;have V4:=iJ (V3.o.keep hb);have F4:=iJ (Y.o.trans (Vf.keep hb));have Q4:=iJ hq;have P4:=iJ U;have ae:=iJ (λk (g:(w2.alloc (.cells #[.int .i64 E,.int .i64 G,.slice J V.length P,.slice I R.length O,.int .i64 X] 31)).drew.heap.size<=k)=>V3.o.z g)
 have BK:Hid (∀k,Blk q k->ap k=0/\k<w4.heap.size):=λk g=>⟨ae.o k (U.blk_new g),U.blk_lt g⟩
 have X4:=iJ ((hb.block w.heap.size (af.1 X3.o).1).trans X3.o);have T4:=iJ ((hb.block d.heap.size (af.1 T3.o).1).trans T3.o);have U4:=iJ ((hb.block w2.heap.size (af.1 U3.o).1).trans U3.o);clear U hq hb;obtain⟨kq,lq,az,aC,aE,ay,aA,aD,aG⟩:=q;try unfold Pv.vl
 try simp only[Pv.cs]
 go_wp2_with fail
 refine A.o _ _ (⟨iX T4.o,iS U4.o⟩) (λhHeld=>?_)
 refine tw 5 λK A=>?_
 go_simp;refine(EN.o _ _ _ V4.o).mono ?_;rintro _ w5 ⟨rfl,aK,aH,v5,f⟩;have V5:=iJ v5;have F5:=iJ (F4.o.trans f);have X5:=iJ (f.b.same X4.o (λe=>by rw[ah.o] at e;omega))
 have T5:=iJ (f.b.same T4.o (λe=>by rw[ag.o] at e;omega))
 have U5:=iJ (f.b.same U4.o (λe=>by rw[aw.o] at e;omega))
 have ax:=iJ ((f.c w.heap.size (af.1 X4.o).1).trans ah.o);have aI:=iJ ((f.c d.heap.size (af.1 T4.o).1).trans ag.o);have P5:=iJ ((P4.o.free f.b (λk g e=>by rw[ae.o k g] at e;omega)).pre Y.o.b.size)
 have aq:Hid (∀k,Blk ⟨kq,lq,az,aC,aE,ay,aA,aD,aG⟩ k->aH k=0):=λk g=>(f.c k (BK.o k g).2).trans (BK.o k g).1
 clear v5 f;go_wp2_with fail
 refine A.o _ _ (⟨iX T5.o,iS U5.o⟩) (λhHeld=>?_)
 try simp only[pt]
 have T6:=iJ λ(cs:Array Value)=>((Q.jg w5 w.heap.size cs).same T5.o (by have:=ar.o;omega))
 have U6:=iJ λ(cs:Array Value)=>((Q.jg w5 w.heap.size cs).same U5.o (by have:=au.o;omega))
 refine tw 6 λK A=>?_
 rw[if_pos (by rfl)]
 refine g9 31 _ _ rfl w.heap.size _ rfl rfl 31 _ X5.o iP rfl (by simp[Value.oneCell']) ?_
 refine A.o _ _ ⟨iX (T6.o _),iS (U6.o _)⟩ (λhHeld=>?_)
 refine tk 7 ?_;refine td ?_;clear hHeld;go_wp2_with fail
 refine bZ (v:=.tuple #[.agg _,_]) (je results37 _ _ w.heap.size 31 _ (0,0) _ rfl (dc _ _ _ _ _ _ X5.o) underlying31 rfl iP) rfl ?_;exact⟨_,rfl,Q4.o,P5.o.row X5.o (by decide) (by decide) _,_,_,V5.o.row ax.o _,F5.o.row (ai _) _,aq.o⟩
structure Bnn(S:Vs)(D:Rd)(H:List Sn):Prop where
 m:S.X.P.mark+tot S.X.P<=1000000000000
 c:S.X.ch.length+tot S.X.P<=1000000000000
 a:S.fl+S.al.length<=1000000000000
 h:H.length<=1000000000000
 f:0<=D.fl/\D.fl<=1000000000000
 r:D.R<=65536
 z:∀z,D.count z<=65536
 n:0<D.C.length
 k:∀c∈D.C,c<=65536
 d:∀z,(S.X.on z).pg.kids.length<=1048577
theorem Fu(p:Pg):p.kids.length<=p.items.length+1:=by
 unfold Pg.kids;split
 . rw[aZ];omega
 split
 . refine aO (fK _ _) ?_;rw[aZ];omega
 split
 all_goals
  simp
theorem Tw.bnd{D:Rd}{H:List Sn}(h:Tw S D H M)(r:M<=1000000000000):Bnn S D H:=by
 have g:=h.now.m;have i:=h.now.c;have j:=h.a;have l:=h.ln;have m:=h.fl;have ok:=h.now.r.rel.ok;have n:=h.now.r.rel.rf;have q:=ok.r2;refine⟨by omega,by omega,by omega,by omega,⟨by omega,by omega⟩,by omega,λz=>?_,?_,λc d=>?_,λz=>?_⟩
 . rw[<-h.now.r.rel.count];have:=(jJ ok z).2;omega
 . rw[<-h.now.r.rel.len];exact ok.l1
 . rw[<-h.now.r.rel.counts] at d;obtain⟨y,f,rfl⟩:=bH.1 d;have:=(ok.cs y f).2;omega
 . have k:=Fu (S.X.on z).pg;have e:(S.X.on z).pg.items.length=(S.X.on z).items.length:=aZ _;have:=(h.now.sm z).2;omega
def PrI(w:World)(b pb mb:Nat)(col:Nat->Nat)(er:Int)(S':Vs)(e:Ending)(w':World):Prop:=e=.returned (.int .i64 er)/\∃pc' col',Vw w' b S' pb mb pc' col'/\Vf w col w' col'
def PrT(w:World)(b pb mb:Nat)(col:Nat->Nat)(r1 r2:Int)(S':Vs)(e:Ending)(w':World):Prop:=e=.returned (.tuple #[.int .i64 r1,.int .i64 r2])/\∃pc' col',Vw w' b S' pb mb pc' col'/\Vf w col w' col'
def DcI(w:World)(rb:Nat)(col:Nat->Nat)(er:Int)(S':Vs)(N:Nat)(e:Ending)(w':World):Prop:=e=.returned (.int .i64 er)/\∃D' H' col',Ra w' rb D' H' col'/\Vf w col w' col'/\Tw S' D' H' N
def DcT(w:World)(rb:Nat)(col:Nat->Nat)(r1 r2:Int)(S':Vs)(N:Nat)(e:Ending)(w':World):Prop:=e=.returned (.tuple #[.int .i64 r1,.int .i64 r2])/\∃D' H' col',Ra w' rb D' H' col'/\Vf w col w' col'/\Tw S' D' H' N
def Vs.keepS(S:Vs)(z:Int):Vs:=S.done (S.X.P.inc z).1 ⟨(S.X.P.inc z).2,S.X.f,S.X.ch⟩
def Vs.dropE(S:Vs)(z:Int):Int:=(dropM (tot S.X.P+1) S.X z).1
def Vs.dropS(S:Vs)(z:Int):Vs:=S.done (dropM (tot S.X.P+1) S.X z).1 (dropM (tot S.X.P+1) S.X z).2
def Vs.undoB(S:Vs)(z:Int):Bool:=decide ((S.fl:Int)<=z)&&decide (z<=((S.fl+S.al.length:Nat):Int))
def Vs.undoT(S:Vs)(t:Nat):Vs:=⟨S.X.back (S.al.getD t (0,0)).1 (S.al.getD t (0,0)).2,S.al.take t,S.fl⟩
def Vs.undoS(S:Vs)(z:Int):Vs:=if (S.fl:Int)<=z/\z<((S.fl+S.al.length:Nat):Int) then S.undoT (z-(S.fl:Int)).toNat else S
section
variable {S:Vs} {D:Rd} {H:List Sn} {M:Nat}
theorem GV(i:Tw S D H M)(G:M<=1000000000000)(w:World)(b pb mb:Nat)(pc col:Nat->Nat)(h:Vw w b S pb mb pc col)(z:Int):Calls prog 117 #[.pointer (some ⟨b,0,none⟩),.int .i64 z] w λe w'=>e=.returned (.bool (S.undoB z))/\∃pc' col',Vw w' b (S.undoS z) pb mb pc' col'/\Vf w col w' col':=by
 obtain⟨R,U,V,X,Y,Z,b7,b8,b9,P⟩:=i.bnd G;have j:=h;obtain⟨r,y,q,x,g⟩:=h;by_cases l:(S.fl:Int)<=z/\z<((S.fl+S.al.length:Nat):Int)
 . obtain⟨t,O,rfl⟩:∃t:Nat,t<S.al.length/\z=((S.fl+t:Nat):Int):=⟨(z-(S.fl:Int)).toNat,by omega,by omega⟩
   obtain⟨s,J⟩:∃s,H[t]?=some s:=⟨_,aR (by have:=i.ln;omega)⟩
   obtain⟨k,m,A,B,_⟩:=i.undo J (Rd.Al.refl _);have d:S.undoB ((S.fl+t:Nat):Int)=true:=by unfold Vs.undoB;rw[ax (by omega),ax (by omega)];rfl
   have f:S.undoS ((S.fl+t:Nat):Int)=S.undoT t:=by unfold Vs.undoS;rw[if_pos l,show(((S.fl+t:Nat):Int)-(S.fl:Int)).toNat=t by omega]
   rw[d,f];refine(zJ w b S.X.P S.fl _ pc col g t (by show S.fl+S.al.length<=_;omega) O (by show(S.al.getD t (0,0)).2<=S.X.ch.length;rw[A];exact B) (by omega)).mono ?_
   rintro _ w' ⟨rfl,pc',col',I,E⟩;exact⟨rfl,pc',col',⟨r,y,q,x,I⟩,E⟩
 . have f:S.undoS z=S:=by unfold Vs.undoS;rw[if_neg l]
   rw[f];by_cases C:z=((S.fl+S.al.length:Nat):Int)
   . have d:S.undoB z=true:=by unfold Vs.undoB;rw[ax (by omega),ax (by omega)];rfl
     rw[d,C];refine(zF w b S.X.P S.fl _ pc col g (by show S.fl+S.al.length<=_;omega)).mono ?_
     rintro _ w' ⟨rfl,hb⟩;exact⟨rfl,pc,col,j.keep hb,Vf.keep hb⟩
   . have d:S.undoB z=false:=by
      unfold Vs.undoB;by_cases n:(S.fl:Int)<=z
      . rw[ax n,au (by omega)];rfl
      . rw[au n];rfl
     rw[d];refine(Ed w b S.X.P S.fl _ pc col g z (by show S.fl+S.al.length<=_;omega) (by show z<(S.fl:Int)\/((S.fl+S.al.length:Nat):Int)<z;omega)).mono ?_
     rintro _ w' ⟨rfl,hb⟩;exact⟨rfl,pc,col,j.keep hb,Vf.keep hb⟩
theorem Hr(d:Tw S D H M)(A:M<=1000000000000)(w:World)(rb:Nat)(col:Nat->Nat)(h:Ra w rb D H col)(z:Int):Calls prog 118 #[.pointer (some ⟨rb,0,none⟩),.int .i64 z] w λe w'=>e=.returned (.bool (S.undoB z))/\∃D' H' col',Ra w' rb D' H' col'/\Vf w col w' col'/\Tw (S.undoS z) D' H' M:=by
 obtain⟨I,J,O,g,i,P,R,U,V,G⟩:=d.bnd A;have C:=d.mark;have Y:=d.fl;have Z:=d.ln;by_cases l:(S.fl:Int)<=z/\z<((S.fl+S.al.length:Nat):Int)
 . obtain⟨t,aa,rfl⟩:∃t:Nat,t<S.al.length/\z=((S.fl+t:Nat):Int):=⟨(z-(S.fl:Int)).toNat,by omega,by omega⟩
   have q:t<H.length:=by omega
   have f:S.undoB ((S.fl+t:Nat):Int)=true:=by unfold Vs.undoB;rw[ax (by omega),ax (by omega)];rfl
   have j:S.undoS ((S.fl+t:Nat):Int)=S.undoT t:=by unfold Vs.undoS;rw[if_pos l,show(((S.fl+t:Nat):Int)-(S.fl:Int)).toNat=t by omega]
   rw[f,j,show((S.fl+t:Nat):Int)=D.fl+(t:Int) by omega]
   refine(A6 w rb D H col h i g t q).mono ?_;rintro _ w' ⟨D',col',rfl,B,y,x⟩;obtain⟨k,m,r,X,E⟩:=d.undo (aR q) x;refine⟨rfl,D',_,col',B,y,?_⟩;unfold Vs.undoT;rw[r];exact E
 . have j:S.undoS z=S:=by unfold Vs.undoS;rw[if_neg l]
   rw[j];by_cases s:z=((S.fl+S.al.length:Nat):Int)
   . have f:S.undoB z=true:=by unfold Vs.undoB;rw[ax (by omega),ax (by omega)];rfl
     rw[f,s,C];refine(yD w rb D H col h i g).mono ?_;rintro _ w' ⟨rfl,hb⟩;exact⟨rfl,D,H,col,h.keep hb,Vf.keep hb,d⟩
   . have f:S.undoB z=false:=by
      unfold Vs.undoB;by_cases n:(S.fl:Int)<=z
      . rw[ax n,au (by omega)];rfl
      . rw[au n];rfl
     rw[f];refine(Db w rb D H col h i g z (by omega)).mono ?_
     rintro _ w' ⟨rfl,hb⟩;exact⟨rfl,D,H,col,h.keep hb,Vf.keep hb,d⟩
theorem GT(i:Tw S D H M)(f:M<=1000000000000)(w:World)(b pb mb:Nat)(pc col:Nat->Nat)(h:Vw w b S pb mb pc col)(z:Int):Calls prog 40 #[.pointer (some ⟨b,0,none⟩),.int .i64 z] w λe w'=>PrI w b pb mb col (S.X.P.inc z).1 (S.keepS z) e w':=by
 obtain⟨k,l,m,n,q,r,s,t,x,j⟩:=i.bnd f;refine(Bl w b S pb mb pc col h z (by omega) (by omega)).mono ?_
 rintro _ w' ⟨rfl,pc',col',g,d⟩;exact⟨rfl,pc',col',g,d⟩
theorem GF(d:Tw S D H M)(m:M<=1000000000000)(w:World)(rb:Nat)(col:Nat->Nat)(h:Ra w rb D H col)(z:Int):Calls prog 41 #[.pointer (some ⟨rb,0,none⟩),.int .i64 z] w λe w'=>DcI w rb col (S.X.P.inc z).1 (S.keepS z) (M+20) e w':=by
 obtain⟨s,t,x,f,y,g,A,B,C,r⟩:=d.bnd m;obtain⟨i,q⟩:=d.keep z;refine(Ds w rb D H col h d.hh f z g).mono ?_;rintro _ w' ⟨D',H',col',rfl,n,l,j,k⟩;exact⟨by rw[i],D',H',col',n,l,q D' H' j k⟩
theorem Gl(i:Tw S D H M)(f:M<=1000000000000)(w:World)(b pb mb:Nat)(pc col:Nat->Nat)(h:Vw w b S pb mb pc col)(z:Int):Calls prog 42 #[.pointer (some ⟨b,0,none⟩),.int .i64 z] w λe w'=>PrI w b pb mb col (S.dropE z) (S.dropS z) e w':=by
 obtain⟨k,l,m,n,q,r,s,t,x,j⟩:=i.bnd f;refine(Dx w b S pb mb pc col h z (tot S.X.P+1) (fU _) (by omega) (by omega) (by omega)).mono ?_
 rintro _ w' ⟨rfl,pc',col',g,d⟩;exact⟨rfl,pc',col',g,d⟩
theorem He(d:Tw S D H M)(m:M<=1000000000000)(w:World)(rb:Nat)(col:Nat->Nat)(h:Ra w rb D H col)(z:Int):Calls prog 43 #[.pointer (some ⟨rb,0,none⟩),.int .i64 z] w λe w'=>DcI w rb col (S.dropE z) (S.dropS z) (M+20) e w':=by
 obtain⟨q,r,s,j,t,x,y,k,l,n⟩:=d.bnd m;refine(DJ w rb D H col h d.hh j k l z).mono ?_;rintro e w' ⟨D',H',col',g,f,i⟩;rcases d.drop z with⟨e1,D2,e2,t1⟩|⟨e1,e2,t1⟩
 . rcases i with⟨q1,D3,q2,q3,q4⟩|⟨q1,q2,_⟩
   . rw[e2] at q2;cases q2;exact⟨by rw[q1];show _=Ending.returned (.int .i64 (dropM _ _ _).1);rw[e1],D',H',col',g,f,t1 D' H' q3 q4⟩
   . rw[e2] at q2;cases q2
 . rcases i with⟨q1,D3,q2,_⟩|⟨q1,q2,q3,q4⟩
   . rw[e2] at q2;cases q2
   . refine⟨by rw[q1];show _=Ending.returned (.int .i64 (dropM _ _ _).1);rw[e1],D',H',col',g,f,?_⟩
     rw[q4];exact t1 D' q3
theorem Cn(j:Tw S D H M)(g:M<=1000000000000)(w:World)(b pb mb:Nat)(pc col:Nat->Nat)(h:Vw w b S pb mb pc col)(z:Int):Calls prog 35 #[.pointer (some ⟨b,0,none⟩),.int .i64 z] w λe w'=>PrT w b pb mb col (S.shadow z).1.1 (S.shadow z).1.2 (S.shadow z).2 e w':=by
 obtain⟨k,l,m,n,q,r,s,t,x,d⟩:=j.bnd g;have:=d z;refine(yK w b S pb mb pc col h z (by omega) (by omega) (by omega)).mono ?_
 rintro _ w' ⟨rfl,pc',col',i,f⟩;exact⟨rfl,pc',col',i,f⟩
theorem Ci(d:Tw S D H M)(n:M<=1000000000000)(w:World)(rb:Nat)(col:Nat->Nat)(h:Ra w rb D H col)(z:Int):Calls prog 36 #[.pointer (some ⟨rb,0,none⟩),.int .i64 z] w λe w'=>DcT w rb col (S.shadow z).1.1 (S.shadow z).1.2 (S.shadow z).2 (M+20) e w':=by
 obtain⟨t,x,y,f,A,g,i,B,C,s⟩:=d.bnd n;obtain⟨j,r⟩:=d.shadow z;refine(zl w rb D H col h d.hh f z g (i z)).mono ?_;rintro _ w' ⟨D',H',col',rfl,q,m,k,l⟩;exact⟨by rw[j],D',H',col',q,m,r D' H' k l⟩
theorem BY(f:Tw S D H M)(d:M<=1000000000000)(w:World)(b pb mb:Nat)(pc col:Nat->Nat)(h:Vw w b S pb mb pc col):Calls prog 57 #[.pointer (some ⟨b,0,none⟩)] w λe w'=>e=.returned (.tuple #[])/\∃pc' col',Vw w' b S.settle pb mb pc' col'/\Vf w col w' col':=by
 obtain⟨i,j,k,l,m,n,q,r,s,g⟩:=f.bnd d;exact wZ w b S pb mb pc col h (by omega) (by omega)
theorem CU(d:Tw S D H M)(k:M<=1000000000000)(w:World)(rb:Nat)(col:Nat->Nat)(h:Ra w rb D H col):Calls prog 58 #[.pointer (some ⟨rb,0,none⟩)] w λe w'=>e=.returned (.tuple #[])/\∃D' col',Ra w' rb D' [] col'/\Vf w col w' col'/\Tw S.settle D' [] M:=by
 obtain⟨r,s,t,f,g,x,y,A,B,q⟩:=d.bnd k;refine(yq w rb D H col h g f).mono ?_;rintro _ w' ⟨rfl,n,D',col',m,l,j,i⟩;exact⟨rfl,D',col',l,j,d.settle m i⟩
theorem Hg(l:Tw S D H M)(g:M<=1000000000000)(w:World)(b pb mb:Nat)(pc col:Nat->Nat)(h:Vw w b S pb mb pc col)(p:Pv)(i:Pf col w p)(d:Smi p):Calls prog 73 #[.pointer (some ⟨b,0,none⟩),p.vl] w λe w'=>∃q:Pv,q.pg=p.pg/\PrT w b pb mb col (S.makeR p.pg).1 (S.makeR p.pg).2 (S.makeS p.pg q) e w':=by
 obtain⟨n,r,s,t,x,y,A,B,C,m⟩:=l.bnd g;refine(Bh w b S pb mb pc col h p i d.1 (aO d.2 (by decide)) (by omega) (by omega) (by omega)).mono ?_
 rintro _ w' ⟨q,k,rfl,pc',col',j,f⟩;exact⟨q,k,rfl,pc',col',j,f⟩
theorem GU(d:Tw S D H M)(l:M<=1000000000000)(w:World)(rb:Nat)(col:Nat->Nat)(h:Ra w rb D H col)(p q:Pv)(m:Pf col w p)(r:q.pg=p.pg):Calls prog 92 #[.pointer (some ⟨rb,0,none⟩),p.vl] w λe w'=>DcT w rb col (S.makeR p.pg).1 (S.makeR p.pg).2 (S.makeS p.pg q) (M+20) e w':=by
 obtain⟨A,B,C,f,E,G,I,J,O,y⟩:=d.bnd l;obtain⟨g,t⟩:=d.make p.pg;refine(Ea w rb D H col h d.hh f p m).mono ?_;rintro _ w' ⟨s,D',H',col',x,rfl,n,k,i,j⟩;exact⟨by rw[g],D',H',col',n,k,t q s D' H' r x i j⟩
theorem FV(l:Tw S D H M)(g:M<=1000000000000)(w:World)(b pb mb:Nat)(pc col:Nat->Nat)(h:Vw w b S pb mb pc col)(z:Int)(p:Pv)(i:Pi w p)(d:Smi p):Calls prog 93 #[.pointer (some ⟨b,0,none⟩),.int .i64 z,p.vl] w λe w'=>∃q:Pv,q.pg=p.pg/\PrI w b pb mb col (S.writeE z p.pg) (if S.writeE z p.pg=0 then S.done 0 (S.X.lay z q) else S) e w':=by
 obtain⟨n,r,s,t,x,y,A,B,C,m⟩:=l.bnd g;refine(Ac w b S pb mb pc col h z p i d.1 (aO d.2 (by decide)) (by omega) (by omega) (by omega)).mono ?_
 rintro _ w' ⟨q,rfl,k,pc',col',j,f⟩;exact⟨q,k,rfl,pc',col',j,f⟩
theorem EU(d:Tw S D H M)(l:M<=1000000000000)(w:World)(rb:Nat)(col:Nat->Nat)(h:Ra w rb D H col)(z:Int)(p q:Pv)(m:Pf col w p)(r:q.pg=p.pg):Calls prog 94 #[.pointer (some ⟨rb,0,none⟩),.int .i64 z,p.vl] w λe w'=>DcI w rb col (S.writeE z p.pg) (if S.writeE z p.pg=0 then S.done 0 (S.X.lay z q) else S) (M+20) e w':=by
 obtain⟨A,B,C,f,E,G,I,J,O,y⟩:=d.bnd l;obtain⟨g,t⟩:=d.write z p.pg;refine(Ad w rb D H col h d.hh f z p m).mono ?_;rintro _ w' ⟨s,D',H',col',x,rfl,n,k,i,j⟩;exact⟨by rw[g],D',H',col',n,k,t q s D' H' r x i j⟩
theorem GC(d:Tw S D H M)(n:M<=1000000000000)(w:World)(b pb mb:Nat)(pc col:Nat->Nat)(h:Vw w b S pb mb pc col)(z:Int):Calls prog 37 #[.pointer (some ⟨b,0,none⟩),.int .i64 z] w λe w'=>∃q:Pv,e=.returned (.tuple #[q.vl,.int .i64 (S.X.leave z).1.2])/\q.pg=(S.X.leave z).1.1.pg/\Pn w w' q/\q.items.length<=1048576/\∃pc' col',Vw w' b (S.done (S.X.leave z).1.2 (S.X.leave z).2) pb mb pc' col'/\Vf w col w' col'/\∀k,Blk q k->col' k=0:=by
 obtain⟨x,y,A,B,C,E,G,I,J,j⟩:=d.bnd n;have:=j z;refine(Aj w b S pb mb pc col h z (d.now.sm z).1 (by omega) (by omega) (by omega)).mono ?_
 rintro e w' ⟨q,s,i,t,pc',col',r,m,l⟩;refine⟨q,s,i,t,?_,pc',col',r,m,l⟩;have f:=a7 (λg:Pg=>g.items.length) i
 simp only[Pv.pg,aZ] at f;rw[f];show(if (S.X.left z).1=0 then S.X.on z else Pv.zero).items.length<=_
 split
 . exact(d.now.sm z).2
 . exact az _
theorem Gx(d:Tw S D H M)(t:M<=1000000000000)(w:World)(rb:Nat)(col:Nat->Nat)(h:Ra w rb D H col)(z:Int):Calls prog 38 #[.pointer (some ⟨rb,0,none⟩),.int .i64 z] w λe w'=>∃q:Pv,e=.returned (.tuple #[q.vl,.int .i64 (S.X.leave z).1.2])/\q.pg=(S.X.leave z).1.1.pg/\Pn w w' q/\q.items.length<=1048576/\∃D' H' col',Ra w' rb D' H' col'/\Vf w col w' col'/\(∀k,Blk q k->col' k=0)/\Tw (S.done (S.X.leave z).1.2 (S.X.leave z).2) D' H' (M+20):=by
 obtain⟨J,O,P,g,R,i,j,U,V,I⟩:=d.bnd t;obtain⟨l,m,G⟩:=d.take z
 have k:∀(e:Ending)(w':World),RTk w rb D H col z e w'->∃q:Pv,e=.returned (.tuple #[q.vl,.int .i64 (S.X.leave z).1.2])/\q.pg=(S.X.leave z).1.1.pg/\Pn w w' q/\q.items.length<=1048576/\∃D' H' col',Ra w' rb D' H' col'/\Vf w col w' col'/\(∀k,Blk q k->col' k=0)/\Tw (S.done (S.X.leave z).1.2 (S.X.leave z).2) D' H' (M+20):=by
  rintro e w' ⟨q,D',H',col',y,E,B,A,C,x,s,n,r⟩;exact⟨q,by rw[y,l],by rw[E,m],B,A,D',H',col',x,s,C,G D' H' n r⟩
 by_cases f:0<D.count z
 . exact(zL w rb D H col h d.hh g z i f (j z)).mono k
 . exact(y9 w rb D H col h z f).mono k
end
section
variable (v w:World) (wb b rb pb mb:Nat) (S:Vs) (D:Rd) (H:List Sn) (pc col colR:Nat->Nat) (aW:Option Addr) (cW:Nat) (W:List Wl) (K:Bkk) (M:Nat)
theorem Eo(h:Wo v w wb b rb pb mb S D H pc col colR aW cW W K M)(hM:M<=100000000000)(o:Oq)(J:o.kind=2):
 Calls prog 10 #[.pointer (some ⟨wb,0,none⟩),o.vl] w λe w'=>NxV v w wb b rb pb mb col colR aW cW W K M (λS'=>S'=(S.shadow o.n).2) e w':=by
 have OV:Hid (o.vl=.agg o.cs):=rfl;rw[OV.o];have C:=iJ (al w (.cells o.cs 33));have l:=iJ (aH w (.cells o.cs 33));have y:=iJ (h.va.z (ai w.heap.size));have s:=iJ (h.ws.keep C.o);have t:=iJ h;have R:M<=1000000000000:=by omega
 clear h;go_enter func10,ntmps10;obtain⟨c0,c1,c2,c3,c4,c5,I,c7⟩:=iK l.o;rw[J] at c0;go_upto_region 6 with fail
 generalize w.alloc (.cells o.cs 33)=n at *;clear J;obtain⟨m,Y⟩:∃m,w.heap.size=m:=⟨_,rfl⟩;simp only[Y] at l y c0 c1 c2 c3 c4 c5 I c7 ⊢;clear Y;have d:=iJ (dr2 n);have f:Hid (∀W:World,Below n.heap.size n W->W.cell? ⟨wb,0,none⟩=some (.pointer (some ⟨b,0,none⟩))/\W.cell? ⟨m,1,none⟩=some (.int .i64 o.n)):=λW hb=>⟨((s.o.keep hb).cells).1,(iK (iQ l.o hb)).2.1⟩
 clear c0 c1 c2 c3 c4 c5 I c7;have i:=iJ (Cn t.o.tw R n.drew b pb mb pc col (s.o.keep d.o).va.V o.n);have j:=iJ λ(w2:World)(hR:Ra w2 rb D H colR)=>Ci t.o.tw R w2 rb colR hR o.n
 obtain⟨B,ab⟩:∃B,(S.shadow o.n).1=B:=⟨_,rfl⟩;rw[ab] at i j;obtain⟨O,P⟩:=B;simp only at i j;have af:(O==O)=true:=by simp
 have ag:(P==P)=true:=by simp
 refine wrd f d.o λhHeld=>?_
 refine tkd 0 1 2 3 ?_;refine tkb 4 5 ?_;refine tw 6 λKx A=>?_
 go_simp;refine(i.o).mono ?_;rintro _ w2 ⟨rfl,ac,ad,X,q⟩;have F2:=iJ ((Vf.keep (c:=col) d.o).trans q);have k:=iJ ((s.o.keep d.o).prog X q);have x:=iJ (q.b.same (iQ l.o d.o) (λe=>by have:=y.o.1;omega))
 clear X q i;go_wp2_with fail
 refine A.o _ _ (⟨k.o.cells.1,(iK x.o).2.1⟩) (λhHeld=>?_)
 refine tkd 7 8 9 10 ?_;refine tk 11 ?_;refine td ?_;clear hHeld f;go_upto_region 7 with fail
 have g:=iJ (dr2 w2);have f:Hid (∀W:World,Below w2.heap.size w2 W->W.cell? ⟨wb,1,none⟩=some (.pointer (some ⟨rb,0,none⟩))/\W.cell? ⟨m,1,none⟩=some (.int .i64 o.n)):=λW hb=>⟨((k.o.keep hb).cells).2.1,(iK (iQ x.o hb)).2.1⟩
 have E:=iJ (j.o w2.drew (k.o.keep g.o).va.R);clear j;refine wrd f g.o λhHeld=>?_
 refine tkd 0 1 2 3 ?_;refine tkb 4 5 ?_;refine tw 6 λKx A=>?_
 go_simp;refine(E.o).mono ?_;rintro _ w3 ⟨rfl,Z,aa,ae,U,r,V⟩;have F3:=iJ ((Vf.keep (c:=colR) g.o).trans r);have G:=iJ ((k.o.keep g.o).doc U r);have TW:=iJ V;have X3:=iJ (r.b.same (iQ x.o g.o) (λe=>by have:=y.o.2;omega))
 clear U r V E;go_wp2_with fail
 refine A.o _ _ (⟨G.o.cells.2.1,(iK X3.o).2.1⟩) (λhHeld=>?_)
 refine tkd 7 8 9 10 ?_;refine tk 11 ?_;refine td ?_;clear hHeld f;go_wp2_with fail
 go_ret;exact⟨rfl,_,Z,aa,ac,ad,ae,rfl,G.o.wo t.o TW.o (by omega),((Fx.keep C.o).trans (Fx.vf F2.o) (λ_ _ e=>e)).trans (Fx.vfR F3.o) (λ_ _ e=>e)⟩
theorem Ej(h:Wo v w wb b rb pb mb S D H pc col colR aW cW W K M)(hM:M<=100000000000)(o:Oq)(J:o.kind=4):
 Calls prog 10 #[.pointer (some ⟨wb,0,none⟩),o.vl] w λe w'=>NxV v w wb b rb pb mb col colR aW cW W K M (λS'=>S'=S.keepS o.n) e w':=by
 have OV:Hid (o.vl=.agg o.cs):=rfl;rw[OV.o];have C:=iJ (al w (.cells o.cs 33));have j:=iJ (aH w (.cells o.cs 33));have A:=iJ (h.va.z (ai w.heap.size));have t:=iJ (h.ws.keep C.o);have x:=iJ h;have O:M<=1000000000000:=by omega
 clear h;go_enter func10,ntmps10;obtain⟨c0,c1,c2,c3,c4,c5,I,c7⟩:=iK j.o;rw[J] at c0;go_upto_region 14 with fail
 generalize w.alloc (.cells o.cs 33)=m at *;clear J;obtain⟨l,V⟩:∃l,w.heap.size=l:=⟨_,rfl⟩;simp only[V] at j A c0 c1 c2 c3 c4 c5 I c7 ⊢;clear V;have d:=iJ (dr2 m);have f:Hid (∀W:World,Below m.heap.size m W->W.cell? ⟨wb,0,none⟩=some (.pointer (some ⟨b,0,none⟩))/\W.cell? ⟨l,1,none⟩=some (.int .i64 o.n)):=λW hb=>⟨((t.o.keep hb).cells).1,(iK (iQ j.o hb)).2.1⟩
 clear c0 c1 c2 c3 c4 c5 I c7;have r:=iJ (GT x.o.tw O m.drew b pb mb pc col (t.o.keep d.o).va.V o.n);have s:=iJ λ(w2:World)(hR:Ra w2 rb D H colR)=>GF x.o.tw O w2 rb colR hR o.n
 obtain⟨k,ab⟩:∃k,(S.X.P.inc o.n).1=k:=⟨_,rfl⟩;rw[ab] at r s;have af:(k==k)=true:=by simp
 refine wrd f d.o λhHeld=>?_
 refine tkd 0 1 2 3 ?_;refine tkb 4 5 ?_;refine tw 6 λKx B=>?_
 go_simp;refine(r.o).mono ?_;rintro _ w2 ⟨rfl,ac,ad,U,n⟩;have Y:=iJ ((Vf.keep (c:=col) d.o).trans n);have i:=iJ ((t.o.keep d.o).prog U n);have y:=iJ (n.b.same (iQ j.o d.o) (λe=>by have:=A.o.1;omega))
 clear U n r;go_wp2_with fail
 refine B.o _ _ (⟨i.o.cells.1,(iK y.o).2.1⟩) (λhHeld=>?_)
 refine tk 7 ?_;refine td ?_;clear hHeld f;go_upto_region 15 with fail
 have g:=iJ (dr2 w2);have f:Hid (∀W:World,Below w2.heap.size w2 W->W.cell? ⟨wb,1,none⟩=some (.pointer (some ⟨rb,0,none⟩))/\W.cell? ⟨l,1,none⟩=some (.int .i64 o.n)):=λW hb=>⟨((i.o.keep hb).cells).2.1,(iK (iQ y.o hb)).2.1⟩
 have E:=iJ (s.o w2.drew (i.o.keep g.o).va.R);clear s;refine wrd f g.o λhHeld=>?_
 refine tkd 0 1 2 3 ?_;refine tkb 4 5 ?_;refine tk 6 ?_;refine tw 7 λKx B=>?_
 go_simp;refine(E.o).mono ?_;rintro _ w3 ⟨rfl,X,aa,ae,P,q,R⟩;have Z:=iJ ((Vf.keep (c:=colR) g.o).trans q);have G:=iJ ((i.o.keep g.o).doc P q);have TW:=iJ R;have X3:=iJ (q.b.same (iQ y.o g.o) (λe=>by have:=A.o.2;omega))
 clear P q R E;go_wp2_with fail
 refine B.o _ _ (⟨G.o.cells.2.1,(iK X3.o).2.1⟩) (λhHeld=>?_)
 refine tkb 8 9 ?_;refine td ?_;clear hHeld f;go_wp2_with fail
 go_ret;exact⟨rfl,_,X,aa,ac,ad,ae,rfl,G.o.wo x.o TW.o (by omega),((Fx.keep C.o).trans (Fx.vf Y.o) (λ_ _ e=>e)).trans (Fx.vfR Z.o) (λ_ _ e=>e)⟩
theorem Il(h:Wo v w wb b rb pb mb S D H pc col colR aW cW W K M)(hM:M<=100000000000)(o:Oq)(J:o.kind=5):
 Calls prog 10 #[.pointer (some ⟨wb,0,none⟩),o.vl] w λe w'=>NxV v w wb b rb pb mb col colR aW cW W K M (λS'=>True) e w':=by
 have OV:Hid (o.vl=.agg o.cs):=rfl;rw[OV.o];have C:=iJ (al w (.cells o.cs 33));have j:=iJ (aH w (.cells o.cs 33));have A:=iJ (h.va.z (ai w.heap.size));have t:=iJ (h.ws.keep C.o);have x:=iJ h;have O:M<=1000000000000:=by omega
 clear h;go_enter func10,ntmps10;obtain⟨c0,c1,c2,c3,c4,c5,I,c7⟩:=iK j.o;rw[J] at c0;go_upto_region 17 with fail
 generalize w.alloc (.cells o.cs 33)=m at *;clear J;obtain⟨l,V⟩:∃l,w.heap.size=l:=⟨_,rfl⟩;simp only[V] at j A c0 c1 c2 c3 c4 c5 I c7 ⊢;clear V;have d:=iJ (dr2 m);have f:Hid (∀W:World,Below m.heap.size m W->W.cell? ⟨wb,0,none⟩=some (.pointer (some ⟨b,0,none⟩))/\W.cell? ⟨l,1,none⟩=some (.int .i64 o.n)):=λW hb=>⟨((t.o.keep hb).cells).1,(iK (iQ j.o hb)).2.1⟩
 clear c0 c1 c2 c3 c4 c5 I c7;have r:=iJ (Gl x.o.tw O m.drew b pb mb pc col (t.o.keep d.o).va.V o.n);have s:=iJ λ(w2:World)(hR:Ra w2 rb D H colR)=>He x.o.tw O w2 rb colR hR o.n
 obtain⟨k,ab⟩:∃k,S.dropE o.n=k:=⟨_,rfl⟩;rw[ab] at r s;have af:(k==k)=true:=by simp
 refine wrd f d.o λhHeld=>?_
 refine tkd 0 1 2 3 ?_;refine tkb 4 5 ?_;refine tw 6 λKx B=>?_
 go_simp;refine(r.o).mono ?_;rintro _ w2 ⟨rfl,ac,ad,U,n⟩;have Y:=iJ ((Vf.keep (c:=col) d.o).trans n);have i:=iJ ((t.o.keep d.o).prog U n);have y:=iJ (n.b.same (iQ j.o d.o) (λe=>by have:=A.o.1;omega))
 clear U n r;go_wp2_with fail
 refine B.o _ _ (⟨i.o.cells.1,(iK y.o).2.1⟩) (λhHeld=>?_)
 refine tk 7 ?_;refine td ?_;clear hHeld f;go_upto_region 18 with fail
 have g:=iJ (dr2 w2);have f:Hid (∀W:World,Below w2.heap.size w2 W->W.cell? ⟨wb,1,none⟩=some (.pointer (some ⟨rb,0,none⟩))/\W.cell? ⟨l,1,none⟩=some (.int .i64 o.n)):=λW hb=>⟨((i.o.keep hb).cells).2.1,(iK (iQ y.o hb)).2.1⟩
 have E:=iJ (s.o w2.drew (i.o.keep g.o).va.R);clear s;refine wrd f g.o λhHeld=>?_
 refine tkd 0 1 2 3 ?_;refine tkb 4 5 ?_;refine tk 6 ?_;refine tw 7 λKx B=>?_
 go_simp;refine(E.o).mono ?_;rintro _ w3 ⟨rfl,X,aa,ae,P,q,R⟩;have Z:=iJ ((Vf.keep (c:=colR) g.o).trans q);have G:=iJ ((i.o.keep g.o).doc P q);have TW:=iJ R;have X3:=iJ (q.b.same (iQ y.o g.o) (λe=>by have:=A.o.2;omega))
 clear P q R E;go_wp2_with fail
 refine B.o _ _ (⟨G.o.cells.2.1,(iK X3.o).2.1⟩) (λhHeld=>?_)
 refine tkb 8 9 ?_;refine td ?_;clear hHeld f;go_wp2_with fail
 go_ret;exact⟨rfl,_,X,aa,ac,ad,ae,trivial,G.o.wo x.o TW.o (by omega),((Fx.keep C.o).trans (Fx.vf Y.o) (λ_ _ e=>e)).trans (Fx.vfR Z.o) (λ_ _ e=>e)⟩
end
theorem Dy(w:World)(rb:Nat)(D:Rd)(col:Nat->Nat)(h:Rq w rb D col)(n:Int):Calls prog 46 #[.pointer (some ⟨rb,0,none⟩),.int .i64 n] w λe w'=>e=.returned (.int .i64 (D.count n))/\w'=w:=by
 obtain⟨c0,c1,c2,c3,s⟩:=h.cells;have j:=iJ (sM w rb D col h n);by_cases d:D.has n=true
 . obtain⟨y,A⟩:=Rd.has_iff.1 d;obtain⟨i,k⟩:∃i:Nat,n=(i:Int)+1:=⟨(n-1).toNat,by omega⟩
   subst k;have k:i<D.C.length:=by omega
   obtain⟨g,e,t⟩:=h.cAt k;have f:D.count ((i:Int)+1)=D.C.getD i 0:=by unfold Rd.count;rw[if_pos d];simp
   rw[f];rw[d] at j;rw[e] at c1;have C:(i:Int)+1-1=(i:Int):=by omega
   have E:(i:Int)<(D.C.length:Int):=by omega
   have B:=h.n6;clear h f d;generalize D.C.length=m at *;generalize D.C.getD i 0=x at *;go_enter func46,ntmps46;go_wp2_with fail
   refine j.o.mono ?_;rintro _ r ⟨rfl,l⟩;obtain rfl:=l.symm;go_wp2;go_ret;exact⟨rfl,rfl⟩
 . have q:D.has n=false:=by simpa using d
   have f:D.count n=0:=by unfold Rd.count;rw[if_neg d]
   rw[f];rw[q] at j;clear h f d q;go_enter func46,ntmps46;go_wp2_with fail
   refine j.o.mono ?_;rintro _ r ⟨rfl,l⟩;obtain rfl:=l.symm;go_wp2;go_ret;exact⟨rfl,rfl⟩
theorem zr(w:World)(rb:Nat)(D:Rd)(col:Nat->Nat)(h:Rq w rb D col)(s:Int)(E:s<0):
 Calls prog 50 #[.pointer (some ⟨rb,0,none⟩),.int .i64 s] w λe w'=>e=.returned (.int .i64 0)/\w'=w:=by
 obtain⟨c0,c1,c2,c3,q⟩:=h.cells;have n:=iJ λ(z:Int)=>lz w rb D col h z
 have r:=h.n6;clear h c0 c2 c3 q;obtain⟨m,g⟩:∃m,D.C.length=m:=⟨_,rfl⟩;simp only[g] at c1 r;clear g;go_enter func50,ntmps50;go_wp2_with fail
 go_loopw [5,6] (λt d y=>∃k:Nat,k<=m/\t=.int .i64 0/\d=.int .i64 ((k:Int)+1)/\y=w) (λ_ d _=>m+1-(intOf d).toNat)
 case atStart=>exact⟨0,az _,rfl,rfl,rfl⟩
 case round=>
  obtain⟨k,C,rfl,rfl,rfl⟩:=hrel;by_cases I:k<m
  . have A:decide ((k:Int)+1<=(m:Int))=true:=ax (by omega)
    have j:(k:Int)+1<=(m:Int):=by omega
    have f:=iJ (n.o ((k:Int)+1));obtain⟨x,i⟩:∃x,D.state ((k:Int)+1)=x:=⟨_,rfl⟩;rw[i] at f;clear i;have B:((x:Int)==s)=false:=by simp;omega
    go_wp2_with fail
    refine f.o.mono ?_;rintro _ G ⟨rfl,l⟩;rw[l];clear l;go_wp2_with fail
    go_roundw
    case rel=>exact⟨k+1,by omega,rfl,by go_num,trivial⟩
    case measure=>simp[intOf];omega
  . have j:¬((k:Int)+1<=(m:Int)):=by omega
    have A:decide ((k:Int)+1<=(m:Int))=false:=au j;go_wp2_with fail
    go_ret;exact⟨rfl,rfl⟩
section
variable {S:Vs} {D:Rd} {H:List Sn} {M:Nat}
theorem Gc(d:Tw S D H M)(w:World)(rb:Nat)(col:Nat->Nat)(h:Ra w rb D H col)(z:Int):Calls prog 46 #[.pointer (some ⟨rb,0,none⟩),.int .i64 z] w λe w'=>e=.returned (.int .i64 (S.X.P.count z))/\Below w.heap.size w w':=by
 refine(Dy w rb D col h.q z).mono ?_;rintro _ w' ⟨rfl,rfl⟩;exact⟨by rw[d.now.r.rel.count],Below.refl _ _⟩
theorem Ft(d:Tw S D H M)(w:World)(rb:Nat)(col:Nat->Nat)(h:Ra w rb D H col)(z:Int):Calls prog 48 #[.pointer (some ⟨rb,0,none⟩),.int .i64 z] w λe w'=>e=.returned (.int .i64 ((S.X.P.state z:Nat):Int))/\Below w.heap.size w w':=by
 refine(lz w rb D col h.q z).mono ?_;rintro _ w' ⟨rfl,rfl⟩;exact⟨by rw[d.now.r.rel.state2],Below.refl _ _⟩
theorem ER(f:Tw S D H M)(w:World)(rb:Nat)(col:Nat->Nat)(h:Ra w rb D H col)(z:Int):Calls prog 50 #[.pointer (some ⟨rb,0,none⟩),.int .i64 z] w λe w'=>e=.returned (.int .i64 (((S.X.P.pages z).length:Nat):Int))/\Below w.heap.size w w':=by
 by_cases g:z<0
 . refine(zr w rb D col h.q z g).mono ?_;rintro _ w' ⟨rfl,rfl⟩;refine⟨?_,Below.refl _ _⟩;unfold Q.Po.pages;rw[if_neg (by omega)]
   rfl
 . obtain⟨s,rfl⟩:∃s:Nat,z=(s:Int):=⟨z.toNat,by omega⟩
   refine(yy w rb D col h.q s).mono ?_;rintro _ w' ⟨rfl,rfl⟩;refine⟨?_,Below.refl _ _⟩
   have e:(S.X.P.pages (s:Int)).length=(Q.iZ D.pg s).length:=by
    unfold Q.Po.pages;rw[<-f.now.r.rel.pg];by_cases d:1<=(s:Int)/\(s:Int)<=4
    . rw[if_pos d,di]
    . rw[if_neg d];have:Q.iZ S.X.P.pg s=[]:=pB (λj i e=>by have:=Q.nN (S.X.P.pg.getD j Q.Pg.zero);omega)
      rw[this]
   rw[e]
theorem vt(d:Tw S D H M)(f:M<=1000000000000)(w:World)(rb:Nat)(col:Nat->Nat)(h:Ra w rb D H col):Calls prog 55 #[.pointer (some ⟨rb,0,none⟩)] w λe w'=>e=.returned (.int .i64 ((S.fl+S.al.length:Nat):Int))/\Below w.heap.size w w':=by
 have b:=d.bnd f;refine(mI w rb D H col h b.f b.h).mono ?_;rintro _ w' ⟨rfl,hb⟩;exact⟨by rw[d.mark],hb⟩
theorem Gh(d:Tw S D H M)(w:World)(rb:Nat)(col:Nat->Nat)(h:Ra w rb D H col)(z:Int):Calls prog 45 #[.pointer (some ⟨rb,0,none⟩),.int .i64 z] w λe w'=>∃q:Pv,e=.returned (.tuple #[q.vl,.int .i64 (if 0<S.X.P.count z then 0 else 15)])/\Pn w w' q/\q.items.length<=1048576/\q.pg=(if 0<S.X.P.count z then (S.X.on z).pg else Pv.zero.pg)/\Below w.heap.size w w':=by
 refine(AX w rb D col h.q z).mono ?_;rintro _ w' ⟨q,rfl,i,g,f,hb⟩;have e:=d.now.r.rel.count z;refine⟨q,by rw[e],i,g,?_,hb⟩
 rw[f,e];split
 . rename_i j;exact(d.now.r.rel.on z (by omega)).symm
 . rfl
theorem Hk(j:Tw S D H M)(w:World)(b pb mb:Nat)(pc col:Nat->Nat)(h:Vw w b S pb mb pc col)(z:Int):Calls prog 44 #[.pointer (some ⟨b,0,none⟩),.int .i64 z] w λe w'=>∃q:Pv,e=.returned (.tuple #[q.vl,.int .i64 (if 0<S.X.P.count z then 0 else 15)])/\Pn w w' q/\q.items.length<=1048576/\q.pg=(if 0<S.X.P.count z then (S.X.on z).pg else Pv.zero.pg)/\Below w.heap.size w w':=by
 refine(DP w b S pb mb pc col h z (j.now.sm z).1).mono ?_;rintro _ w' ⟨q,rfl,k,i,hb⟩;refine⟨q,rfl,k,?_,i,hb⟩;have d:=a7 (λg:Pg=>g.items.length) i
 by_cases f:0<S.X.P.count z
 . rw[if_pos f] at d;simp only[Pv.pg,aZ] at d;rw[d];exact(j.now.sm z).2
 . rw[if_neg f] at d;simp only[Pv.pg,aZ] at d;rw[d];exact az _
theorem Ak(g:Tw S D H M)(d:M<=1000000000000)(w:World)(b pb mb:Nat)(pc col:Nat->Nat)(h:Vw w b S pb mb pc col):Calls prog 54 #[.pointer (some ⟨b,0,none⟩)] w λe w'=>e=.returned (.int .i64 ((S.fl+S.al.length:Nat):Int))/\Below w.heap.size w w':=by
 have k:=g.bnd d;obtain⟨j,m,i,l,f⟩:=h;exact lU w b S.X.P S.fl _ pc col f (by have:=k.a;show S.fl+S.al.length<=_;omega)
end
theorem Vw.pl{b:Nat}{pc:Nat->Nat}(h:Vw w b S pb mb pc col):Q.Pl w pb S.X.P pc:=by
 obtain⟨f,i,e,g,d⟩:=h;exact d.pool
end Go.Proofs.YtbdkogimlbnlmaaGreat
