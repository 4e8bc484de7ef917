import Derived.Test.YtbdkogimlbnlmaaGreatWlB17
set_option linter.all false
set_option maxHeartbeats 16000000
set_option maxRecDepth 8000
namespace Go.Proofs.YtbdkogimlbnlmaaGreat
open Go.Proofs.Tryz
open Go.RowKit
variable {k rb:Nat}{col:Nat->Nat}{D:Rd}{w w':World}
theorem Ra.snap{H:List Sn}(h:Ra w rb D H col)(hb:Below w.heap.size w w'){aC aP:Option Addr}{cC cP:Nat}(e:Q.Ig w' aC cC D.C)(f:Q.Gw 31 5 w' aP cP D.P.length (vpg D.P))(i:New w none aC)(j:New w none aP):
 Ra w' rb D H (iO col w w' 7)/\Vf w col w' (iO col w w' 7)/\Sv w' (iO col w w' 7) D.C.length ⟨aC,cC,D.C,aP,cP,D.P⟩:=by
 obtain⟨d,g⟩:=h.seven hb;exact⟨d,g,⟨e,f,d.q.pz,d.q.ps,rfl,h.q.nP,λx b=>ke (i8 i b) (e.lt b),λx b=>ke (i8 j b) (f.lt b)⟩⟩
def RAc(w:World)(rb:Nat)(D:Rd)(H:List Sn)(col:Nat->Nat)(e:Ending)(w':World):Prop:=∃(s:Sn)(a':Option Addr)(c':Nat)(col':Nat->Nat),e=.returned (.tuple #[])/\s.C=D.C/\s.P=D.P/\Ra w' rb {D with aA:=a',nA:=H.length+1,cA:=c'} (H++[s]) col'/\Vf w col w' col'
theorem Ra.acted{w W f w5:World}{rb:Nat}{D:Rd}{H:List Sn}{col:Nat->Nat}(h:Ra w rb D H col)(hb:Below w.heap.size w W){aC aP:Option Addr}{cC cP:Nat}(r:Q.Ig W aC cC D.C)(t:Q.Gw 31 5 W aP cP D.P.length (vpg D.P))(B:New w none aC)(C:New w none aP)(j:Below W.heap.size W f)
 {g d:Nat} (m:Q.Gw 163 2 w5 (some ⟨g,0,none⟩) d (H.length+1) (jQ H++(Sn.mk aC cC D.C aP cP D.P).cs.toList)) (s:New f D.aA (some ⟨g,0,none⟩)) (l:But (Q.InA D.aA) f w5):
 (w5.cell? ⟨rb,1,none⟩=some (.slice D.aC D.C.length D.cC)/\w5.cell? ⟨rb,3,none⟩=some (.slice D.aP D.P.length D.cP)/\w5.cell? ⟨rb,4,none⟩=some (.slice D.aA D.nA D.cA)/\w5.frozen? ⟨rb,4,none⟩=false)/\
   (w5.setCell ⟨rb,4,none⟩ (.slice (some ⟨g,0,none⟩) (H.length+1) d)).cell? ⟨rb,1,none⟩=some (.slice D.aC D.C.length D.cC)/\(w5.setCell ⟨rb,4,none⟩ (.slice (some ⟨g,0,none⟩) (H.length+1) d)).cell? ⟨rb,3,none⟩=some (.slice D.aP D.P.length D.cP)/\
   RAc w rb D H col (.returned (.tuple #[])) (w5.setCell ⟨rb,4,none⟩ (.slice (some ⟨g,0,none⟩) (H.length+1) d)):=by
 obtain⟨b,x,A⟩:=h.snap hb r t B C;rw[<-uC,<-m6] at m;obtain⟨n,E⟩:=b.did j A m s l;have q:=b.q.box;have p:But (Q.InA D.aA) W w5:=(But.ofBelow (S:=Q.InA D.aA) j).trans l (λ_ _ e=>e)
 have i:w5.heap[rb]?=some (.cells D.box 99 (0,0)):=p.same q (λ⟨y,v,e⟩=>by have:=b.a.ca y v;rw[e,b.q.cb] at this;cases this)
 have cs:=n.q.cells;refine⟨⟨?_,?_,?_,by simp[World.frozen?,i]⟩,cs.2.1,cs.2.2.2.1,_,_,_,_,rfl,rfl,rfl,n,x.trans E⟩<;>(rw[ay _ _ _ _ _ _ i];rfl)
theorem uO(w:World)(rb:Nat)(D:Rd)(H:List Sn)(col:Nat->Nat)(h:Ra w rb D H col)(V:D.hush=false)(hl:H.length<=1000000000000):
 Calls prog 141 #[.pointer (some ⟨rb,0,none⟩)] w λe w'=>RAc w rb D H col e w':=by
 have U:=iJ h;obtain⟨c0,c1,c2,c3,M⟩:=h.q.cells;rw[V] at M;have E:=iJ (dr2 w);have f:Hid (∀W:World,Below w.heap.size w W->W.cell? ⟨rb,1,none⟩=some (.slice D.aC D.C.length D.cC)/\W.cell? ⟨rb,3,none⟩=some (.slice D.aP D.P.length D.cP)/\W.cell? ⟨rb,4,none⟩=some (.slice D.aA H.length D.cA)):=λW hb=>⟨(h.keep hb).q.cells.2.1,(h.keep hb).q.cells.2.2.2.1,(h.keep hb).c4⟩
 have J:=iJ λ(W:World)(hb:Below w.heap.size w W)=>Q.j9 W D.aC D.C.length D.cC D.C (h.keep hb).q.cr.ir rfl h.q.n6
 have C:=iJ λ(W:World)(hb:Below w.heap.size w W)=>jS W D.aP D.P.length D.cP D.P (h.keep hb).q.pgs rfl (by rw[h.q.nP];exact h.q.n6)
 have B:=iJ λ(W:World)(hb:Below w.heap.size w W)=>h.a.ar.keep hb
 have aa:H.length+1<=maxLen:=by unfold maxLen;omega
 clear h;go_enter func141,ntmps141;go_upto_region 1 with fail
 clear c0 c1 c2 c3 M;refine bC (S:=λW=>W.cell? ⟨rb,1,none⟩=some (.slice D.aC D.C.length D.cC)/\W.cell? ⟨rb,3,none⟩=some (.slice D.aP D.P.length D.cP)) (by kernel_rfl) ⟨(f.o _ E.o).1,(f.o _ E.o).2.1⟩ (λhHeld=>?_)
 refine tkd 0 1 2 3 ?_;refine tkd 5 6 7 8 ?_;refine tkd 10 11 12 13 ?_;have b:=E;refine fh (rs:=[4,9]) (by kernel_rfl) (by simp) ?_
 refine(AllReadyH.cons rfl (λK d=>?_) (AllReadyH.cons rfl (λK d=>?_) AllReadyH.nil))
 all_goals
  first
  |have x:=(f.o _ b.o).2.2
   go_simp;refine d.o _ _ ⟨(f.o _ b.o).1,(f.o _ b.o).2.1⟩ (λhHeld=>?_)
   clear d K;try simp only[pt]
   clear x;refine tw 9 λK d=>?_
   go_simp;refine(J.o _ b.o).mono ?_;rintro _ g ⟨m,n,rfl,r⟩;have s:=iJ r.r;have L:=iJ (r.n.mono b.o.size);have b:=iJ (bt b.o r.b);clear r;go_wp2_with fail
   refine d.o _ _ ⟨(f.o _ b.o).1,(f.o _ b.o).2.1⟩ (λhHeld=>?_)
   clear d K;refine tw 14 λK d=>?_
   go_simp;refine(C.o _ b.o).mono ?_;rintro _ g ⟨j,l,rfl,t,v,hb⟩;have G:=iJ t;have I:=iJ (v.mono b.o.size);have b:=iJ (bt b.o hb);have s:=iJ (s.o.keep hb);clear t v hb;go_wp2_with fail
   refine d.o _ _ ⟨(f.o _ b.o).1,(f.o _ b.o).2.1⟩ (λhHeld=>?_)
   clear d K;refine tk 15 ?_;refine tw 16 λK d=>?_
   have p:=iJ (al g (.cells #[.slice m D.C.length n,.slice j D.P.length l] 163));have A:Hid ((g.alloc (.cells #[.slice m D.C.length n,.slice j D.P.length l] 163)).heap[g.heap.size]?=_):=aH g (.cells #[.slice m D.C.length n,.slice j D.P.length l] 163);have i:=iJ (bt b.o p.o);have y:=iJ (B.o _ i.o);go_simp;refine d.o _ _ ⟨(f.o _ i.o).1,(f.o _ i.o).2.1⟩ (λhHeld=>?_)
   clear d K;try simp only[pt]
  |go_simp
   refine(J.o _ b.o).mono ?_;rintro _ g ⟨m,n,rfl,r⟩;have s:=iJ r.r;have L:=iJ (r.n.mono b.o.size);have b:=iJ (bt b.o r.b);clear r;go_wp2_with fail
   refine d.o _ _ ⟨(f.o _ b.o).1,(f.o _ b.o).2.1⟩ (λhHeld=>?_)
   clear d K;try simp only[pt]
   refine fh (rs:=[4,14]) (by kernel_rfl) (by simp) ?_
   refine(AllReadyH.cons rfl (λK d=>?_) (AllReadyH.cons rfl (λK d=>?_) AllReadyH.nil))
   all_goals
    first
    |have x:=(f.o _ b.o).2.2
     go_simp;refine d.o _ _ ⟨(f.o _ b.o).1,(f.o _ b.o).2.1⟩ (λhHeld=>?_)
     clear d K;try simp only[pt]
     clear x;refine tw 14 λK d=>?_
     go_simp;refine(C.o _ b.o).mono ?_;rintro _ g ⟨j,l,rfl,t,v,hb⟩;have G:=iJ t;have I:=iJ (v.mono b.o.size);have b:=iJ (bt b.o hb);have s:=iJ (s.o.keep hb);clear t v hb;go_wp2_with fail
     refine d.o _ _ ⟨(f.o _ b.o).1,(f.o _ b.o).2.1⟩ (λhHeld=>?_)
     clear d K;refine tk 15 ?_;refine tw 16 λK d=>?_
     have p:=iJ (al g (.cells #[.slice m D.C.length n,.slice j D.P.length l] 163));have A:Hid ((g.alloc (.cells #[.slice m D.C.length n,.slice j D.P.length l] 163)).heap[g.heap.size]?=_):=aH g (.cells #[.slice m D.C.length n,.slice j D.P.length l] 163);have i:=iJ (bt b.o p.o);have y:=iJ (B.o _ i.o);go_simp;refine d.o _ _ ⟨(f.o _ i.o).1,(f.o _ i.o).2.1⟩ (λhHeld=>?_)
     clear d K;try simp only[pt]
    |go_simp
     refine(C.o _ b.o).mono ?_;rintro _ g ⟨j,l,rfl,t,v,hb⟩;have G:=iJ t;have I:=iJ (v.mono b.o.size);have b:=iJ (bt b.o hb);have s:=iJ (s.o.keep hb);clear t v hb;go_wp2_with fail
     refine d.o _ _ ⟨(f.o _ b.o).1,(f.o _ b.o).2.1⟩ (λhHeld=>?_)
     clear d K;refine tk 15 ?_;refine fh (rs:=[4,16]) (by kernel_rfl) (by simp) ?_
     refine(AllReadyH.cons rfl (λK d=>?_) (AllReadyH.cons rfl (λK d=>?_) AllReadyH.nil))
     all_goals
      first
      |have x:=(f.o _ b.o).2.2
       go_simp;refine d.o _ _ ⟨(f.o _ b.o).1,(f.o _ b.o).2.1⟩ (λhHeld=>?_)
       clear d K;try simp only[pt]
       clear x;refine tw 16 λK d=>?_
       have p:=iJ (al g (.cells #[.slice m D.C.length n,.slice j D.P.length l] 163));have A:Hid ((g.alloc (.cells #[.slice m D.C.length n,.slice j D.P.length l] 163)).heap[g.heap.size]?=_):=aH g (.cells #[.slice m D.C.length n,.slice j D.P.length l] 163);have i:=iJ (bt b.o p.o);have y:=iJ (B.o _ i.o);go_simp;refine d.o _ _ ⟨(f.o _ i.o).1,(f.o _ i.o).2.1⟩ (λhHeld=>?_)
       clear d K;try simp only[pt]
      |have p:=iJ (al g (.cells #[.slice m D.C.length n,.slice j D.P.length l] 163))
       have A:Hid ((g.alloc (.cells #[.slice m D.C.length n,.slice j D.P.length l] 163)).heap[g.heap.size]?=_):=aH g (.cells #[.slice m D.C.length n,.slice j D.P.length l] 163);have i:=iJ (bt b.o p.o);have y:=iJ (B.o _ i.o);go_simp;refine d.o _ _ ⟨(f.o _ i.o).1,(f.o _ i.o).2.1⟩ (λhHeld=>?_)
       clear d K;refine tw 4 λK d=>?_
       have x:=(f.o _ i.o).2.2;go_simp;refine d.o _ _ ⟨(f.o _ i.o).1,(f.o _ i.o).2.1⟩ (λhHeld=>?_)
       clear d K;try simp only[pt]
       clear x
 all_goals
  refine tw 17 λK d=>?_
  refine kP underlying97 yb rfl (by decide) rfl _ _ rfl D.aA H.length D.cA (jQ H) (by first|(simp[Act.eval];done)|simp[Act.eval,Act.put]) y.o ⟨g.heap.size,0,none⟩ 1 (Sn.mk m n D.C j l D.P).cs.toList (by first|(simp[Act.eval];done)|simp[Act.eval,Act.put]) rfl (xt A.o) ya aa (by omega) ?_
  intro g5 c5 w5 P R O;obtain⟨⟨Z,y3,y4,z4⟩,X,Y,N⟩:=U.o.acted b.o s.o G.o L.o I.o p.o P R O;have T:=iJ N;clear P R O N A y p i;refine d.o _ _ ⟨Z,y3⟩ (λhHeld=>?_)
  clear d K;refine tkb 18 19 ?_;refine tw 20 λK d=>?_
  go_simp;refine d.o _ _ ⟨X,Y⟩ (λhHeld=>?_)
  clear d K;refine td ?_;clear hHeld;go_wp2_with fail
  go_end0
  exact T.o
def c57(col:Nat->Nat)(k:Nat):Nat:=if col k=5 then 7 else col k
theorem lj{c:Nat}(h:col k=c)(b:c≠5):c57 col k=c:=by unfold c57;rw[h,if_neg b]
theorem GO{c:Nat}(h:c57 col k=c)(b:c≠7):col k=c:=by
 unfold c57 at h;split at h
 . exact absurd h.symm b
 . exact h
def cold(col:Nat->Nat)(w:World)(col1:Nat->Nat)(k:Nat):Nat:=if k<w.heap.size then col k else col1 k
section
variable {w w':World} {rb:Nat} {D D':Rd} {H:List Sn} {col col1:Nat->Nat}
theorem Rq.five(h:Rq w rb D col):Rq w rb D (c57 col):=
 ⟨h.box,h.cr,h.lr,h.pr,λp f=>(h.pz p f).mono (λk _ e=>lj e (by decide)),h.ps,lj h.cb (by decide),λx b=>lj (h.cc x b) (by decide),λx b=>lj (h.cl x b) (by decide),λx b=>lj (h.cp x b) (by decide),λk d=>h.lt k (λe=>d (lj e (by decide))),h.nL,h.nP,h.n6⟩
theorem nh(d:Vf w (c57 col) w' col1){k c:Nat}(h:col1 k=c)(b:c≠7):cold col w col1 k=c:=by
 unfold cold;split
 . rename_i e;rw[d.c k e] at h;exact GO h b
 . exact h
theorem Ra.step(h:Ra w rb D H col)(b:Rq w' rb D' col1)(f:Vf w (c57 col) w' col1)(i:D'.aA=D.aA)(n:D'.nA=D.nA)(l:D'.cA=D.cA)(m:D'.C.length=D.C.length):Ra w' rb D' H (cold col w col1)/\Vf w col w' (cold col w col1):=by
 have lt:∀k,col k≠0->k<w.heap.size:=h.q.lt
 have nb:∀{k:Nat},(col k=5\/col k=6\/col k=7)->¬(1<=c57 col k/\c57 col k<=5):=λ{k} e j=>by
  unfold c57 at j;split at j<;>omega
 refine⟨⟨⟨b.box,b.cr,b.lr,b.pr,λp r=>(b.pz p r).mono (λk _ e=>nh f e (by decide)),b.ps,nh f b.cb (by decide),λx d=>nh f (b.cc x d) (by decide),λx d=>nh f (b.cl x d) (by decide),λx d=>nh f (b.cp x d) (by decide),λk g=>?_,b.nL,b.nP,b.n6⟩,⟨?_,?_,λx d=>?_,λs t=>?_⟩⟩,⟨f.b.mono (λk g e=>?_),λk g=>if_pos g⟩⟩
 . unfold cold at g;split at g
   . rename_i q;exact be q f.b.size
   . exact b.lt k g
 . rw[i,l];exact h.a.ar.but f.b (λx d=>nb (.inl (h.a.ca x d)))
 . rw[n];exact h.a.na
 . rw[i] at d;have:=h.a.ca x d;unfold cold;rw[if_pos (lt _ (by omega))]
   exact this
 . rw[m];exact((h.a.sv s t).but f.b (λk _ e=>nb (.inr e))).recol (λk g e=>by unfold cold;rw[if_pos (lt k (by omega))])
 . unfold c57 at e;split at e<;>omega
end
structure Rd.Al(D' D:Rd):Prop where
 r:D'.R=D.R
 c:D'.C=D.C
 l:D'.L=D.L
 p:D'.P=D.P
 f:D'.fl=D.fl
 h:D'.hush=D.hush
def Dn(D:Rd)(H:List Sn)(r:Int)(H':List Sn):Prop:=(r=0/\∃s:Sn,s.C=D.C/\s.P=D.P/\H'=H++[s])\/(r≠0/\H'=H)
theorem Vf.cold{col1:Nat->Nat}(d:Vf w (c57 col) w' col1):Vf w col w' (Go.Proofs.YtbdkogimlbnlmaaGreat.cold col w col1):=⟨d.b.mono (λk b e=>by unfold c57 at e;split at e<;>omega),λk b=>if_pos b⟩
def RMa(w:World)(rb:Nat)(D:Rd)(H:List Sn)(col:Nat->Nat)(p:Pg)(e:Ending)(w':World):Prop:=∃(q:Pv)(D':Rd)(H':List Sn)(col':Nat->Nat),q.pg=p/\e=.returned (.tuple #[.int .i64 (D.makeR p).1,.int .i64 (D.makeR p).2])/\Ra w' rb D' H' col'/\Vf w col w' col'/\D'.Al (D.makeD p q)/\Dn D H (D.makeR p).2 H'
theorem Ea(w:World)(rb:Nat)(D:Rd)(H:List Sn)(col:Nat->Nat)(R:Ra w rb D H col)(hh:D.hush=false)(hH:H.length<=1000000000000)(p:Pv)(V:Pf col w p):
 Calls prog 92 #[.pointer (some ⟨rb,0,none⟩),p.vl] w λe w'=>RMa w rb D H col p.pg e w':=by
 have h:=R.q;have an:=iJ R;have HQ:=iJ h;have HP:=iJ V;have B:=iJ (al w (.cells p.cs 31));have X0:=iJ (aH w (.cells p.cs 31));have ao:Hid (p.vl=.agg #[.int .i64 p.kind,.int .i64 p.level,.slice p.aI p.items.length p.cI,.slice p.aD p.data.length p.cD,.int .i64 p.next]):=rfl;have aJ:Hid (p.cs=#[.int .i64 p.kind,.int .i64 p.level,.slice p.aI p.items.length p.cI,.slice p.aD p.data.length p.cD,.int .i64 p.next]):=rfl;have J:=iJ λ(W:World)(hb:Below w.heap.size w W)=>oR W p (V.pi.keep hb)
 have S:=iJ λ(W:World)(hb:Below w.heap.size w W)=>qP W rb D col (h.keep hb)
 have AC:=iJ λ(W:World)(hb:Below w.heap.size w W)=>uO W rb D H col (R.keep hb) hh hH
 simp only[ao.o] at J ⊢;simp only[aJ.o] at B X0;by_cases s:p.pg.check=0
 . rw[s] at J;have ak:=iJ s;by_cases E:iW D.pg=0
   . simp only[E] at S
     have j:Hid (D.makeR p.pg=(0,12)/\∀q,D.makeD p.pg q=D):=by
      unfold Rd.makeR Rd.makeD;exact⟨by rw[if_pos s,if_pos E],λq=>if_neg (λY=>Y.2 E)⟩
     clear h R V s E;go_enter func92,ntmps92;go_wp2_with fail
     refine(J.o _ B.o).mono ?_;rintro _ w1 ⟨rfl,A⟩;have v:=iJ (bt B.o A);clear A;go_wp2_with fail
     refine(S.o _ v.o).mono ?_;rintro _ r ⟨rfl,aE⟩;rw[aE];clear aE;go_wp2_with fail
     go_ret2
     exact⟨p,D,H,col,rfl,by rw[j.o.1];rfl,an.o.keep v.o,Vf.keep v.o,by rw[j.o.2];exact⟨rfl,rfl,rfl,rfl,rfl,rfl⟩,.inr ⟨by rw[j.o.1];exact(by decide),rfl⟩⟩
   . have j:Hid (D.makeR p.pg=(iW D.pg,0)/\∀q,D.makeD p.pg q={D with C:=D.C.set (iW D.pg-1).toNat 1,P:=D.P.set (iW D.pg-1).toNat q}):=by
      unfold Rd.makeR Rd.makeD;exact⟨by rw[if_pos s,if_neg E],λq=>if_pos ⟨s,E⟩⟩
     obtain⟨i,hi,ac,_⟩:=m9 E;rw[Rd.pg_len h.nL] at hi;have ei:(iW D.pg-1).toNat=i:=by rw[ac];omega
     rw[ei,ac] at j;rw[ac] at S;obtain⟨g,eg,_⟩:=h.cAt hi;obtain⟨f,au⟩:∃gg,D.aP=some ⟨gg,0,none⟩:=h.pr.addr (by rw[h.nP];omega)
     have GX:Hid (w.heap.size≠g):=λe=>by
      have h1:=h.lt g (by rw[h.cc _ eg];decide)
      rw[<-e] at h1;exact absurd h1 (eG _)
     have N:=iJ eg;have G:=iJ au;have T:=iJ h.nP;have h6:=h.n6;have hs:(i:Int)+1-1=(i:Int):=by omega
     have aK:Hid (IntKind.i64.wrap ((i:Nat):Int)=(i:Int)):=iT (by omega) (by omega)
     have az:(i:Int)<(D.C.length:Int):=by omega
     have n0:(((i:Int)+1)==0)=false:=by simp;omega
     have HI:=iJ hi;clear h R V s E ac ei eg au;go_enter func92,ntmps92;go_wp2_with fail
     refine(J.o _ B.o).mono ?_;rintro _ w1 ⟨rfl,A⟩;have v:=iJ (bt B.o A);have X1:=iJ (iQ X0.o A);clear A B X0;go_wp2_with fail
     refine(S.o _ v.o).mono ?_;rintro _ wq ⟨rfl,aF⟩;rw[aF];clear aF;go_wp2_with fail
     refine(AC.o _ v.o).mono ?_;rintro _ x ⟨sn,a',c',ad,rfl,aC,aD,ah,ab⟩;have RA:=iJ ah;have FA:=iJ ((Vf.keep (c:=col) v.o).trans ab);have SN:=iJ (And.intro aC aD)
     have Z0:Hid (col w.heap.size=0):=by
      show _=_;cases e:col w.heap.size with
      |zero=>rfl
      |succ n=>exact absurd (HQ.o.lt _ (by rw[e];exact Nat.succ_ne_zero n)) (eG _)
     have XA:=iJ (ab.box X1.o Z0.o);have ZL:Hid (∀k,ad k≠0->k<x.heap.size):=ah.q.lt;have XW:Hid (w.heap.size<w1.heap.size):=(af.1 X1.o).1;have ZA:Hid (ad w.heap.size=0):=(ab.c _ XW.o).trans Z0.o;clear aC aD ah ab X1 XW;obtain⟨b,I⟩:∃aI,({D with aA:=a',nA:=H.length+1,cA:=c'}:Rd)=aI:=⟨_,rfl⟩;have N:Hid (b.aC=some ⟨g,0,none⟩):=by show _=_;rw[<-I];exact N.o
     have G:Hid (b.aP=some ⟨f,0,none⟩):=by show _=_;rw[<-I];exact G.o
     have T:Hid (b.P.length=b.C.length):=by show _=_;rw[<-I];exact T.o
     have HI:Hid (i<b.C.length):=by show _<_;rw[<-I];exact HI.o
     have ED:Hid (b.C=D.C/\b.P=D.P/\b.cP=D.cP):=by show _/\_;rw[<-I];exact⟨rfl,rfl,rfl⟩
     rw[<-ED.o.1] at az h6;rw[I] at RA;have aa:=iJ I;clear I;obtain⟨l,aj⟩:∃c,c57 ad=c:=⟨_,rfl⟩;have am:=iJ aj;have O:=iJ RA.o.q.five;rw[aj] at O;clear aj;obtain⟨y0,Z,y2,M,y6⟩:=O.o.cells;rw[N.o] at Z;obtain⟨y,ar,cA⟩:=O.o.cAt HI.o;obtain rfl:y=g:=by have:=ar.symm.trans N.o;simpa using this
     have fA:x.frozen? ⟨y,i,none⟩=false:=by
      have k:=O.o.cr;rw[N.o] at k;exact Q.Gw.free k i
     obtain⟨R2,F2⟩:Hid (Rq (x.setCell ⟨y,i,none⟩ (.int .i64 1)) rb {b with C:=b.C.set i 1} l)/\Hid (Vf x l (x.setCell ⟨y,i,none⟩ (.int .i64 1)) l):=O.o.setC N.o i 1;have X2:Hid ((x.setCell ⟨y,i,none⟩ (.int .i64 1)).heap[w.heap.size]?=_):=((But.refl (λk=>k=y) x).setCell (p:=⟨y,i,none⟩) (λ_=>rfl) (.int .i64 1)).same XA.o GX.o
     have V2:Hid (Vf x (c57 ad) (x.setCell ⟨y,i,none⟩ (.int .i64 1)) l):=by show Vf _ _ _ _;rw[am.o];exact F2.o
     have VP:=iJ (FA.o.trans V2.o.cold);have P2:=iJ (HP.o.vf VP.o);have CX:Hid (b.C.length=b.P.length):=T.o.symm;obtain⟨m,hm⟩:∃m,b.C.length=m:=⟨_,rfl⟩;have ag:Hid (b.P.length=m):=T.o.trans hm;rw[hm] at Z az h6;clear O ar XA CX T hm y0 y2 M y6;go_upto_region 9 with fail
     generalize x.setCell ⟨y,i,none⟩ (.int .i64 1)=r at *;clear cA fA Z F2 S AC J;obtain⟨y0,Z,y2,M,y6⟩:=R2.o.cells;dsimp only at M;rw[G.o,ag.o] at M;clear y0 Z y2 y6;have K:=iJ (dr2 r)
     have SS:Hid (∀W:World,Below r.heap.size r W->W.cell? ⟨rb,3,none⟩=some (.slice (some ⟨f,0,none⟩) m b.cP)/\W.cell? ⟨w.heap.size,0,none⟩=some (.int .i64 p.kind)/\W.cell? ⟨w.heap.size,1,none⟩=some (.int .i64 p.level)/\W.cell? ⟨w.heap.size,2,none⟩=some (.slice p.aI p.items.length p.cI)/\W.cell? ⟨w.heap.size,3,none⟩=some (.slice p.aD p.data.length p.cD)/\W.cell? ⟨w.heap.size,4,none⟩=some (.int .i64 p.next)):=λW hb=>by
      have Y:=iQ X2.o hb;refine⟨(hb.cell (p:=⟨rb,3,none⟩) (block_lt_of_cell M)).trans M,?_,?_,?_,?_,?_⟩<;>(rw[ay _ _ _ _ _ _ Y];rfl)
     obtain⟨sm,si⟩:=jU (p:=p) (.inl ak.o);have CP:=iJ (jX r.drew p (P2.o.keep K.o) sm.1 (by omega) sm.2)
     rw[ao.o] at CP;clear M sm si;refine wrd SS K.o λhHeld=>?_
     refine tkd 0 1 2 3 ?_;refine tkb 4 5 ?_;refine tk 6 ?_;rw[aK.o];refine tw 7 λae U=>?_
     go_simp;refine CP.o.mono ?_;rintro _ d ⟨t,rfl,av,aB,ax,aw⟩;have N5:=iJ (av.pre (v':=r) (ai _));have L5:=iJ aB;have G5:=iJ ax;have X:=iJ (bt K.o aw);clear av aB ax aw;go_wp2_with fail
     refine U.o _ _ (SS.o _ X.o) (λhHeld=>?_)
     clear U ae;refine tk 8 ?_;obtain⟨R5,F5⟩:Hid (Rq d rb _ (iO l r d 6))/\Hid (Vf r l d (iO l r d 6)):=R2.o.page X.o;have CQ:Hid (t.pg.check=0):=by show _=_;rw[G5.o];exact ak.o
     have Z5:=iJ (N5.o.pz (col:=l) (aO (jU (p:=t) (.inl CQ.o)).2 (by decide)))
     have ap:Hid (d.there f (i*5) 5):=by
      have hr:=R5.o.pr;dsimp only at hr;rw[G.o] at hr;exact hr.there5 (by rw[ag.o];omega)
     obtain⟨R6,F6⟩:Hid (Rq (d.setCells f (i*5) t.cs.toList) rb _ (iO l r d 6))/\Hid (Vf d (iO l r d 6) (d.setCells f (i*5) t.cs.toList) (iO l r d 6)):=R5.o.setP (g:=f) G.o i t Z5.o (.inl CQ.o);refine tw 9 λae U=>?_
     rw[if_pos (by rfl)]
     refine wp_store_mid (P:=prog) 31 _ _ rfl f (i*5) t.cs ?hxs ?hys ap.o iP (by simp[Pv.cs,Value.oneCell']) ?_
     case hxs=>simp[Act.eval]
     case hys=>rfl
     have L:Hid ((d.setCells f (i*5) t.cs.toList).cell? ⟨rb,3,none⟩=some (.slice (some ⟨f,0,none⟩) m b.cP)/\(d.setCells f (i*5) t.cs.toList).heap[w.heap.size]?=some (.cells #[.int .i64 p.kind,.int .i64 p.level,.slice p.aI p.items.length p.cI,.slice p.aD p.data.length p.cD,.int .i64 p.next] 31 (0,0))):=by
      refine⟨?_,?_⟩
      . obtain⟨z0,z1,z2,z3,z6⟩:=R6.o.cells;dsimp only at z3;rw[aM,G.o,ag.o] at z3;exact z3
      . refine(jr f t.cs.toList d (i*5)).same (iQ X2.o X.o) (λe=>?_)
        have h1:=R2.o.lt f (by rw[R2.o.cp _ G.o];decide)
        have h2:l f=4:=R2.o.cp _ G.o;rw[<-am.o,<-e,lj ZA.o (by decide)] at h2
        cases h2
     refine U.o _ _ ⟨L.o.1,?t0,?t1,?t2,?t3,?t4⟩ (λhHeld=>?_)
     case t0=>rw[ay _ _ _ _ _ _ L.o.2];rfl
     case t1=>rw[ay _ _ _ _ _ _ L.o.2];rfl
     case t2=>rw[ay _ _ _ _ _ _ L.o.2];rfl
     case t3=>rw[ay _ _ _ _ _ _ L.o.2];rfl
     case t4=>rw[ay _ _ _ _ _ _ L.o.2];rfl
     clear U ae L;refine td ?_;have V6:=iJ (V2.o.trans (F5.o.trans F6.o));clear hHeld SS ap R5 F5 F6 K CP Z5 N5 X X2 P2 R2 V2;generalize d.setCells f (i*5) t.cs.toList=w6 at *;generalize iO l r d 6=aN at *;go_wp2_with fail
     go_ret2
     obtain⟨K1,K2⟩:=RA.o.step R6.o V6.o (by rw[<-aa.o]) (by rw[<-aa.o]) (by rw[<-aa.o]) (by show(b.C.set i 1).length=_;rw[aM])
     refine⟨t,_,_,_,G5.o,by rw[j.o.1];rfl,K1,FA.o.trans K2,?_,.inl ⟨by rw[j.o.1],sn,SN.o.1,SN.o.2,rfl⟩⟩
     rw[j.o.2,<-aa.o];exact⟨rfl,rfl,rfl,rfl,rfl,rfl⟩
 . have j:Hid (D.makeR p.pg=(0,(p.pg.check:Int))/\∀q,D.makeD p.pg q=D):=by
    unfold Rd.makeR Rd.makeD;exact⟨if_neg s,λq=>if_neg (λY=>s Y.1)⟩
   obtain⟨aq,aG⟩:∃c,p.pg.check=c:=⟨_,rfl⟩;simp only[aG] at J s j;have NZ:Hid (((aq:Nat):Int)≠0):=by show _≠_;omega
   have aL:((aq:Int) != 0)=true:=by simpa using s
   clear h R V s;go_enter func92,ntmps92;go_wp2_with fail
   refine(J.o _ B.o).mono ?_;rintro _ w1 ⟨rfl,A⟩;have v:=iJ (bt B.o A);clear A aG;go_wp2_with fail
   go_ret2
   exact⟨p,D,H,col,rfl,by rw[j.o.1];rfl,an.o.keep v.o,Vf.keep v.o,by rw[j.o.2];exact⟨rfl,rfl,rfl,rfl,rfl,rfl⟩,.inr ⟨by rw[j.o.1];exact NZ.o,rfl⟩⟩
def Rd.incs:Rd->List Int->Int×Rd
 |D,[]=>(0,D)
 |D,z::L=>if (D.inc z).1=0 then Rd.incs (D.inc z).2 L else D.inc z
theorem Rd.inc_same(D:Rd)(z:Int):(D.inc z).2.R=D.R/\(D.inc z).2.P=D.P/\(D.inc z).2.C.length=D.C.length/\(D.inc z).2.L=D.L:=by
 unfold Rd.inc Rd.put;split
 . split
   . exact⟨rfl,rfl,rfl,rfl⟩
   . exact⟨rfl,rfl,aM,rfl⟩
 . exact⟨rfl,rfl,rfl,rfl⟩
theorem Rq.new{w W:World}{rb:Nat}{D:Rd}{col:Nat->Nat}(h:Rq w rb D col)(g:w.heap.size<=W.heap.size){a:Option Addr}(b:New W none a){x:Addr}(d:a=some x):col x.block=0:=by
 have f:=i8 b d;cases e:col x.block with
 |zero=>rfl
 |succ n=>
  have:=h.lt x.block (by omega)
  omega
theorem zM(w:World)(rb:Nat)(D:Rd)(col:Nat->Nat)(h:Rq w rb D col)(p:Pv)(g:Pi w p)(Y:D.R<=65536)(r:p.pg.kids.length<=17592186044416):
 Calls prog 144 #[.pointer (some ⟨rb,0,none⟩),p.vl] w λe w'=>e=.returned (.int .i64 (D.incs p.pg.kids).1)/\Rq w' rb (D.incs p.pg.kids).2 col/\Vf w col w' col:=by
 have A:=al w (.cells p.cs 31);have f:=aF w (.cells p.cs 31);have m:=iJ (tF _ p (g.keep A));have s:=iJ A;have v:=iJ h;have HR:=iJ Y;obtain⟨L,W⟩:∃L,p.pg.kids=L:=⟨_,rfl⟩;rw[W] at m r ⊢;obtain⟨n,G⟩:∃n,L.length=n:=⟨_,rfl⟩;have N:=iJ G;rw[G] at m r;have ag:n<=17592186044416:=r;clear h g W A G r Y;obtain⟨ah,aj,aI,cI,items,aD,cD,af,next⟩:=p
 unfold Pv.vl at *;simp only[Pv.cs] at *;obtain⟨x0,x1,x2,x3,x4⟩:=iS f;clear f;go_enter func144,ntmps144;go_wp2_with fail
 refine m.o.mono ?_;rintro _ w1 ⟨a,c,rfl,j⟩;have V1:=iJ (v.o.keep (bt s.o j.b));have I:=iJ (Vf.keep (c:=col) (bt s.o j.b));have HI:=iJ j.r;have HC:=iJ λ(x:Addr)(f:a=some x)=>v.o.new s.o.size j.n f
 clear j m x0 x1 x2 x3 x4 v;go_wp2_with fail
 go_loopw [6] (λi wr=>∃(k:Nat)(D':Rd),k<=n/\i=.int .i64 (k:Int)/\Rq wr rb D' col/\Vf w1 col wr col/\D'.incs (L.drop k)=D.incs L/\D'.R=D.R) (λi _=>n-(intOf i).toNat)
 case atStart=>exact⟨0,D,az _,rfl,V1.o,Vf.refl _ _,by rw[fa],rfl⟩
 case round=>
  obtain⟨k,D',hk,rfl,Z,C,b,V⟩:=hrel;have P:=iJ Z;have J:=iJ C;have t:=iJ b;have M:=iJ V;have R2:=iJ (HI.o.but C.b (λx f e=>by rw[HC.o x f] at e;omega))
  clear Z C b V;by_cases ac:k<n
  . have ab:k<L.length:=by rw[N.o];exact ac
    have ae:(k:Int)<(n:Int):=by omega
    obtain⟨ad,off,rfl,T⟩:=R2.o.ir.at ab;have E:=pV L ab;obtain⟨z,hz⟩:∃z,L.getD k 0=z:=⟨_,rfl⟩;rw[hz] at T E;have b:=t.o;rw[E] at b;have y:=iJ (vA wr rb D' col P.o z (by rw[M.o];exact HR.o))
    have O:=iJ ((D'.inc_same z).1.trans M.o);obtain⟨e,q⟩:∃e,(D'.inc z).1=e:=⟨_,rfl⟩;obtain⟨P2,l⟩:∃P2,(D'.inc z).2=P2:=⟨_,rfl⟩;rw[q,l] at y;rw[l] at O
    have d:(if e=0 then P2.incs (L.drop (k+1)) else (e,P2))=D.incs L:=by
     rw[<-b];show _=(if (D'.inc z).1=0 then (D'.inc z).2.incs (L.drop (k+1)) else D'.inc z)
     rw[q,l];split
     . rfl
     . rw[<-q,<-l]
    have aa:=iJ d;clear d b q l hz E t;go_wp2_with fail
    refine y.o.mono ?_;rintro _ w3 ⟨rfl,v3,U⟩;have S:=iJ v3;have K:=iJ (J.o.trans U);clear v3 U y T;by_cases B:e=0
    . subst B;have d:=aa.o;rw[if_pos rfl] at d;have X:=iJ d;clear d;go_wp2;go_roundw
      case rel=>exact⟨k+1,P2,by omega,by go_num,S.o,K.o,X.o,O.o⟩
      case measure=>simp[intOf];omega
    . have e0:(e==0)=false:=by simp[B]
      have d:=aa.o;rw[if_neg B] at d;have X:=iJ d;clear d;go_wp2;go_ret;rw[<-X.o];exact⟨rfl,S.o,I.o.trans K.o⟩
  . obtain rfl:k=n:=by omega
    have b:=t.o;rw[du (by rw[N.o];exact ai _)] at b
    have X:=iJ b;clear b;go_wp2;go_ret;rw[<-X.o];exact⟨rfl,P.o,I.o.trans J.o⟩
def Rd.leave(D:Rd)(z:Int):Int×Rd:=if D.count z-1=0 then (0,D.put z 0) else (D.put z (D.count z-1)).incs (D.on z).pg.kids
theorem rY(w:World)(rb:Nat)(D:Rd)(col:Nat->Nat)(h:Rq w rb D col)(z:Int)(l:0<D.count z)(U:D.count z<=65536)(hR:D.R<=65536):
 Calls prog 103 #[.pointer (some ⟨rb,0,none⟩),.int .i64 z] w λe w'=>e=.returned (.int .i64 (D.leave z).1)/\Rq w' rb (D.leave z).2 col/\Vf w col w' col:=by
 have A:D.has z=true:=by
  cases e:D.has z with
  |true=>rfl
  |false=>unfold Rd.count at l;rw[e] at l;exact absurd l (by simp)
 obtain⟨h1,h2⟩:=Rd.has_iff.1 A;obtain⟨i,hi⟩:∃i:Nat,z=(i:Int)+1:=⟨(z-1).toNat,by omega⟩
 subst hi;have ad:i<D.C.length:=by omega
 have y:((i:Int)+1-1).toNat=i:=by omega
 have E:Hid (D.count ((i:Int)+1)=D.C.getD i 0):=by show _=_;unfold Rd.count;rw[if_pos A,y]
 have G:Hid (D.on ((i:Int)+1)=D.P.getD i Pv.zero):=by show _=_;unfold Rd.on;rw[y]
 have L:Hid (∀c,D.put ((i:Int)+1) c={D with C:=D.C.set i c}):=λc=>by unfold Rd.put;rw[y]
 have t:=iJ (Rd.on_mem h A);rw[G.o] at t;rw[E.o] at l U
 have R:Hid (D.leave ((i:Int)+1)=if D.C.getD i 0-1=0 then (0,{D with C:=D.C.set i 0}) else ({D with C:=D.C.set i (D.C.getD i 0-1)}:Rd).incs (D.P.getD i Pv.zero).pg.kids):=by
  show _=_;unfold Rd.leave;rw[E.o,G.o,L.o,L.o]
 rw[R.o];obtain⟨g,j,J⟩:=h.cAt ad;have c1:=h.cells.2.1;rw[j] at c1;obtain⟨v,V⟩:∃v,D.C.getD i 0=v:=⟨_,rfl⟩;rw[V] at J l U ⊢;have hs:(i:Int)+1-1=(i:Int):=by omega
 have h6:=h.n6;have af:(i:Int)<(D.C.length:Int):=by omega
 have WK:Hid (IntKind.i64.wrap ((i:Nat):Int)=(i:Int)):=iT (by omega) (by omega)
 have WV:Hid (IntKind.i64.wrap (v-1)=v-1):=iT (by omega) (by omega)
 have S:w.frozen? ⟨g,i,none⟩=false:=by
  have k:=h.cr;rw[j] at k;exact Q.Gw.free k i
 obtain⟨R2,O⟩:Hid (Rq (w.setCell ⟨g,i,none⟩ (.int .i64 (v-1))) rb {D with C:=D.C.set i (v-1)} col)/\Hid (Vf w col (w.setCell ⟨g,i,none⟩ (.int .i64 (v-1))) col):=h.setC j i (v-1);have q:=iJ ad;obtain⟨m,B⟩:∃m,D.C.length=m:=⟨_,rfl⟩;have ae:Hid (D.P.length=m):=h.nP.trans B;have Z:=iJ B;rw[B] at c1 af h6;have s:=iJ j;clear h A h1 h2 V j R L E G B y;by_cases d:v-1=0
 . simp only[if_pos d];have P:=iJ d;clear d;go_enter func103,ntmps103;go_upto_region 2 with fail
   generalize w.setCell ⟨g,i,none⟩ (.int .i64 (v-1))=X at *;clear J S c1;have p:=R2.o.cells.2.1;dsimp only at p;rw[aM,s.o,Z.o] at p;obtain⟨K,r,x⟩:=R2.o.cAt (i:=i) (by show i<(D.C.set i (v-1)).length;rw[aM];exact q.o)
   obtain rfl:K=g:=by have:=r.symm.trans s.o;simpa using this
   have f:(D.C.set i (v-1)).getD i 0=v-1:=by
    have:=q.o;simp[this]
   simp only[f] at x;clear r f;rw[P.o] at x R2;clear P;go_wp2_with fail
   go_ret;exact⟨rfl,R2.o,O.o⟩
 . simp only[if_neg d];have e0:(v-1==0)=false:=by simp[d]
   obtain⟨n,N⟩:∃n,D.P.getD i Pv.zero=n:=⟨_,rfl⟩;have aa:=iJ N;rw[N] at t ⊢;clear N d;go_enter func103,ntmps103;go_upto_region 2 with fail
   generalize w.setCell ⟨g,i,none⟩ (.int .i64 (v-1))=X at *;clear J S c1;have p:=R2.o.cells.2.1;dsimp only at p;rw[aM,s.o,Z.o] at p;obtain⟨K,r,x⟩:=R2.o.cAt (i:=i) (by show i<(D.C.set i (v-1)).length;rw[aM];exact q.o)
   obtain rfl:K=g:=by have:=r.symm.trans s.o;simpa using this
   have f:(D.C.set i (v-1)).getD i 0=v-1:=by
    have:=q.o;simp[this]
   simp only[f] at x;clear r f;obtain⟨gP,M,b⟩:=R2.o.pAt (i:=i) (by show i<(D.C.set i (v-1)).length;rw[aM];exact q.o)
   dsimp only at M b;have Y:=R2.o.cells.2.2.2.1;dsimp only at Y;rw[M,ae.o] at Y;rw[aa.o] at b;have I:=iJ λ(W:World)(T:W=X)=>zM W rb {D with C:=D.C.set i (v-1)} col (by rw[T];exact R2.o) n (by rw[T];exact(R2.o.pz n t.o).pi) hR (aO (tq (R2.o.ps n t.o)) (by decide))
   have z0:=b 0 _ (by decide) rfl
   have z1:=b 1 _ (by decide) rfl
   have z2:=b 2 _ (by decide) rfl
   have z3:=b 3 _ (by decide) rfl
   have z4:=b 4 _ (by decide) rfl
   rw[bY] at z0;unfold Pv.vl at I;simp only[Pv.cs] at I;clear b M aa;go_wp2_with fail
   refine(I.o _ rfl).mono ?_;rintro _ w3 ⟨rfl,ac,ab⟩;have R3:=iJ ac;have F3:=iJ (O.o.trans ab);clear ac ab;go_wp2_with fail
   go_ret;exact⟨rfl,R3.o,F3.o⟩
def RDn(w:World)(rb:Nat)(D:Rd)(H:List Sn)(col:Nat->Nat)(r:Int)(D2:Rd)(e:Ending)(w':World):Prop:=∃(D':Rd)(H':List Sn)(col':Nat->Nat),e=.returned (.int .i64 r)/\Ra w' rb D' H' col'/\Vf w col w' col'/\D'.Al D2/\Dn D H r H'
theorem Rd.inc_mem(D:Rd)(z:Int):(D.inc z).2.aA=D.aA/\(D.inc z).2.nA=D.nA/\(D.inc z).2.cA=D.cA/\(D.inc z).2.fl=D.fl/\(D.inc z).2.hush=D.hush:=by
 unfold Rd.inc Rd.put;split
 . split<;>exact⟨rfl,rfl,rfl,rfl,rfl⟩
 . exact⟨rfl,rfl,rfl,rfl,rfl⟩
theorem Ds(w:World)(rb:Nat)(D:Rd)(H:List Sn)(col:Nat->Nat)(h:Ra w rb D H col)(hh:D.hush=false)(C:H.length<=1000000000000)(z:Int)(r:D.R<=65536):
 Calls prog 41 #[.pointer (some ⟨rb,0,none⟩),.int .i64 z] w λe w'=>RDn w rb D H col (D.inc z).1 (D.inc z).2 e w':=by
 have J:=iJ λ(W:World)(hb:Below w.heap.size w W)=>Q.j9 W D.aC D.C.length D.cC D.C (h.keep hb).q.cr.ir rfl h.q.n6
 have L:=iJ λ(W:World)(hb:Below w.heap.size w W)=>jS W D.aP D.P.length D.cP D.P (h.keep hb).q.pgs rfl (by rw[h.q.nP];exact h.q.n6)
 have m:Hid (∀W:World,Below w.heap.size w W->W.cell? ⟨rb,1,none⟩=some (.slice D.aC D.C.length D.cC)/\W.cell? ⟨rb,3,none⟩=some (.slice D.aP D.P.length D.cP)):=λW hb=>⟨(h.keep hb).q.cells.2.1,(h.keep hb).q.cells.2.2.2.1⟩
 have i:=iJ (dr2 w);have x:=iJ λ(W:World)(c:Nat->Nat)(hq:Rq W rb D c)=>vA W rb D c hq z r
 have y:=iJ (D.inc_same z);have l:=iJ (D.inc_mem z);have P:Hid ((D.inc z).2.hush=false):=(D.inc_mem z).2.2.2.2.trans hh;have HR:=iJ h;have HL:=iJ C;have aa:Hid (∀(W:World)(c:Nat->Nat)(d:Rd)(s:Sn),d.hush=false->Ra W rb d H c->Sv W c d.C.length s->Calls prog 105 #[.pointer (some ⟨rb,0,none⟩),.slice s.aC s.C.length s.cC,.slice s.aP s.P.length s.cP] W λe w'=>∃U V af,e=.returned (.tuple #[])/\Ra w' rb {d with aA:=U,nA:=H.length+1,cA:=V} (H++[s]) af/\Vf W c w' af):=λW c d s e2 h2 hs=>oN W rb d H c h2 e2 s hs C
 clear h hh r C;generalize D.inc z=ag at *;obtain⟨X,d⟩:=ag;dsimp only at x P y l ⊢;go_enter func41,ntmps41;go_upto_region 1 with fail
 refine wrd m i.o λhHeld=>?_
 refine tkd 0 1 2 3 ?_;refine tkd 5 6 7 8 ?_;refine tw 4 λK j=>?_
 go_simp;refine(J.o _ i.o).mono ?_;rintro _ w1 ⟨A,E,rfl,p⟩;have g:=iJ (bt i.o p.b);have R:=iJ p.r;have S:=iJ (p.n.mono (i.o).size);clear p;go_wp2_with fail
 refine j.o _ _ (m.o _ g.o) (λhHeld=>?_)
 clear j K;refine tw 9 λK j=>?_
 go_simp;refine(L.o _ g.o).mono ?_;rintro _ b ⟨B,G,rfl,Y,Z,I⟩;have t:=iJ (bt g.o I);obtain⟨RS,O,T⟩:Hid (Ra b rb D H (iO col w b 7))/\Hid (Vf w col b (iO col w b 7))/\Hid (Sv b (iO col w b 7) D.C.length ⟨A,E,D.C,B,G,D.P⟩):=HR.o.snap t.o (R.o.keep I) Y S.o (Z.mono (g.o).size);clear I Y Z R S;go_wp2_with fail
 refine j.o _ _ (m.o _ t.o) (λhHeld=>?_)
 clear j K;refine tkb 10 11 ?_;refine td ?_;clear hHeld m J L g i;generalize iO col w b 7=f at *;go_wp2_with fail
 refine(x.o _ _ RS.o.q.five).mono ?_;rintro _ w3 ⟨rfl,ad,ab⟩;obtain⟨R3,v⟩:Hid (Ra w3 rb d H (cold f b (c57 f)))/\Hid (Vf b f w3 (cold f b (c57 f))):=RS.o.step ad ab l.o.1 l.o.2.1 l.o.2.2.1 y.o.2.2.1
 have ah:Hid (Sv w3 (cold f b (c57 f)) d.C.length ⟨A,E,D.C,B,G,D.P⟩):=by
  show Sv _ _ _ _;rw[y.o.2.2.1];exact T.o.vf v.o
 have N:=iJ (O.o.trans v.o);clear ad ab x RS O T v t;generalize cold f b (c57 f)=c3 at *;by_cases n:X=0
 . subst n;have M:=iJ (aa.o w3 c3 d ⟨A,E,D.C,B,G,D.P⟩ P.o R3.o ah.o);dsimp only at M;clear aa;go_wp2_with fail
   refine M.o.mono ?_;rintro _ w4 ⟨U,V,ai,rfl,ae,ac⟩;have R4:=iJ ae;have F5:=iJ (N.o.trans ac);clear ae ac;go_wp2_with fail
   go_ret;exact⟨_,_,_,rfl,R4.o,F5.o,⟨rfl,rfl,rfl,rfl,rfl,rfl⟩,.inl ⟨rfl,_,rfl,rfl,rfl⟩⟩
 . have e1:(X==0)=false:=by simp[n]
   have HE:=iJ n;clear n;go_wp2_with fail
   go_ret;exact⟨_,_,_,rfl,R3.o,N.o,⟨rfl,rfl,rfl,rfl,rfl,rfl⟩,.inr ⟨HE.o,rfl⟩⟩
def j5(col:Nat->Nat)(s:Sn)(k:Nat):Nat:=if jY s.aC k=true then 2 else if jY s.aP k=true then 4 else col k
def Rd.back(D:Rd)(s:Sn):Rd:={D with aC:=s.aC,cC:=s.cC,C:=s.C,aP:=s.aP,cP:=s.cP,P:=s.P}
theorem Ra.undone{j:World}{G:Rd}{H:List Sn}{A:Nat->Nat}(J:Ra j rb G H A)(h:Ra w rb D H col)(f:Vf j A w col)(s:Sn)(d:Sv w col D.C.length s)(P:New j none s.aC)(R:New j none s.aP):
 Ra ((w.setCell ⟨rb,1,none⟩ (.slice s.aC s.C.length s.cC)).setCell ⟨rb,3,none⟩ (.slice s.aP s.P.length s.cP)) rb (D.back s) H (j5 col s)/\Vf j A ((w.setCell ⟨rb,1,none⟩ (.slice s.aC s.C.length s.cC)).setCell ⟨rb,3,none⟩ (.slice s.aP s.P.length s.cP)) (j5 col s):=by
 have q:=h.q;have bs:But (λk=>k=rb) w ((w.setCell ⟨rb,1,none⟩ (.slice s.aC s.C.length s.cC)).setCell ⟨rb,3,none⟩ (.slice s.aP s.P.length s.cP)):=((But.refl (λk=>k=rb) w).setCell (p:=⟨rb,1,none⟩) (λ_=>rfl) _).setCell (p:=⟨rb,3,none⟩) (λ_=>rfl) _
 have ne:∀{k c:Nat},col k=c->c≠1->¬k=rb:=λe n m=>n (by rw[<-e,m];exact q.cb)
 have C:∀{k:Nat},col k≠7->j5 col s k=col k:=λ{k} g=>by
  unfold j5;rw[if_neg (λe=>by obtain⟨x,b,e⟩:=i9.1 e;exact g (by rw[<-e];exact d.cc x b)),if_neg (λe=>by obtain⟨x,b,e⟩:=i9.1 e;exact g (by rw[<-e];exact d.cp x b))]
 have v:∀{k:Nat},k<j.heap.size->j5 col s k=col k:=λ{k} g=>by
  unfold j5;rw[if_neg (λe=>by obtain⟨x,b,e⟩:=i9.1 e;have:=i8 P b;omega),if_neg (λe=>by obtain⟨x,b,e⟩:=i9.1 e;have:=i8 R b;omega)]
 have l:∀{k c:Nat},col k=c->c≠7->j5 col s k=c:=λe n=>(C (by rw[e];exact n)).trans e
 have I:=q.box;refine⟨⟨⟨?_,d.cr.but bs (λx b=>ne (d.cc x b) (by decide)),q.lr.but bs (λx b=>ne (q.cl x b) (by decide)),d.pr.but bs (λx b=>ne (d.cp x b) (by decide)),λp r=>((d.pz p r).but bs (λk _ e=>ne e (by decide))).mono (λk _ e=>l e (by decide)),d.ps,l q.cb (by decide),λx b=>?_,λx b=>l (q.cl x b) (by decide),λx b=>?_,λk g=>?_,?_,?_,?_⟩,⟨h.a.ar.but bs (λx b=>ne (h.a.ca x b) (by decide)),h.a.na,λx b=>l (h.a.ca x b) (by decide),λt B=>?_⟩⟩,⟨?_,λk g=>(v g).trans (f.c k g)⟩⟩
 . rw[aY _ _ _ _ _ _ (aY _ _ _ _ _ _ I)];rfl
 . exact if_pos (i9.2 ⟨x,b,rfl⟩)
 . have K:¬jY s.aC x.block=true:=λe=>by
    obtain⟨y,M,e⟩:=i9.1 e;obtain⟨c1,N⟩:=Q.Gw.blk d.cr M;obtain⟨c2,O⟩:=d.pr.blk b;exact jy N O (by decide) e
   show j5 col s x.block=4;unfold j5;rw[if_neg K];exact if_pos (i9.2 ⟨x,b,rfl⟩)
 . by_cases L:col k=7
   . exact be (q.lt k (by omega)) bs.size
   . rw[C L] at g;exact be (q.lt k g) bs.size
 . show D.L.length=s.C.length;rw[q.nL,d.nC]
 . show s.P.length=s.C.length;rw[d.nP,d.nC]
 . show s.C.length<=_;rw[d.nC];exact q.n6
 . have E:=J.a.sv t B;have i:=(h.a.sv t B).but bs (λk _ e m=>by rw[m,q.cb] at e;omega)
   exact⟨i.cr,i.pr,λp r=>(i.pz p r).mono (λk _ e=>l e (by decide)),i.ps,i.nC.trans d.nC.symm,i.nP.trans d.nC.symm,λx b=>(v (E.cr.lt b)).trans (i.cc x b),λx b=>(v (E.pr.lt b)).trans (i.cp x b)⟩
 . refine f.b.trans (bs.mono (T:=λk=>1<=col k/\col k<=5) (λk _ e=>by rw[e,q.cb];decide)) (λk g e=>by rw[f.c k g] at e;exact e)
structure Rd.Sm(D' D:Rd):Prop where
 r:D'.R=D.R
 l:D'.L=D.L
 n:D'.C.length=D.C.length
 a:D'.aA=D.aA
 m:D'.nA=D.nA
 c:D'.cA=D.cA
 f:D'.fl=D.fl
 h:D'.hush=D.hush
 p:D'.P=D.P
 u:D'.aP=D.aP
 v:D'.cP=D.cP
theorem Rd.Sm.trans{A B C:Rd}(h:A.Sm B)(k:B.Sm C):A.Sm C:=⟨h.r.trans k.r,h.l.trans k.l,h.n.trans k.n,h.a.trans k.a,h.m.trans k.m,h.c.trans k.c,h.f.trans k.f,h.h.trans k.h,h.p.trans k.p,h.u.trans k.u,h.v.trans k.v⟩
theorem Rd.inc_sm(D:Rd)(z:Int):(D.inc z).2.Sm D:=by
 unfold Rd.inc Rd.put;split
 . split
   . exact⟨rfl,rfl,rfl,rfl,rfl,rfl,rfl,rfl,rfl,rfl,rfl⟩
   . exact⟨rfl,rfl,aM,rfl,rfl,rfl,rfl,rfl,rfl,rfl,rfl⟩
 . exact⟨rfl,rfl,rfl,rfl,rfl,rfl,rfl,rfl,rfl,rfl,rfl⟩
theorem Rd.incs_sm:∀(L:List Int)(D:Rd),(D.incs L).2.Sm D
 | [],D=>⟨rfl,rfl,rfl,rfl,rfl,rfl,rfl,rfl,rfl,rfl,rfl⟩
 |z::L,D=>by
  unfold Rd.incs;split
  . exact(Rd.incs_sm L _).trans (D.inc_sm z)
  . exact D.inc_sm z
theorem Rd.put_sm(D:Rd)(z c:Int):(D.put z c).Sm D:=⟨rfl,rfl,aM,rfl,rfl,rfl,rfl,rfl,rfl,rfl,rfl⟩
theorem Rd.leave_sm(D:Rd)(z:Int):(D.leave z).2.Sm D:=by
 unfold Rd.leave;split
 . exact D.put_sm z 0
 . exact(Rd.incs_sm _ _).trans (D.put_sm z _)
def Rd.own(D:Rd)(z:Int):Bool:=decide (D.state z=3)&&decide (D.count z=1)
theorem Rd.state_has{D:Rd}{z:Int}(h:D.state z≠0):D.has z=true:=by
 cases e:D.has z with
 |true=>rfl
 |false=>unfold Rd.state at h;rw[e] at h;exact absurd rfl h
theorem vW(w:World)(rb:Nat)(D:Rd)(col:Nat->Nat)(h:Rq w rb D col)(z:Int):Calls prog 100 #[.pointer (some ⟨rb,0,none⟩),.int .i64 z] w λe w'=>e=.returned (.bool (D.own z))/\w'=w:=by
 have f:=iJ (lz w rb D col h z);obtain⟨c0,c1,c2,c3,p⟩:=h.cells;by_cases d:D.state z=3
 . have l:=Rd.state_has (D:=D) (z:=z) (by rw[d];decide)
   obtain⟨y,A⟩:=Rd.has_iff.1 l;obtain⟨i,B⟩:∃i:Nat,z=(i:Int)+1:=⟨(z-1).toNat,by omega⟩
   subst B;have C:i<D.C.length:=by omega
   have r:((i:Int)+1-1).toNat=i:=by omega
   have n:D.count ((i:Int)+1)=D.C.getD i 0:=by unfold Rd.count;rw[if_pos l,r]
   obtain⟨g,q,G⟩:=h.cAt C;rw[q] at c1;have K:=h.n6;have L:(i:Int)<(D.C.length:Int):=by omega
   have M:(i:Int)+1-1=(i:Int):=by omega
   have E:Hid (IntKind.i64.wrap ((i:Nat):Int)=(i:Int)):=iT (by omega) (by omega)
   unfold Rd.own;rw[n,ax d,fZ];rw[d] at f;clear h l y A n q r d c0 c2 c3 p;generalize D.C.getD i 0=v at *;generalize D.C.length=m at *;by_cases j:v=1
   . subst j;go_enter func100,ntmps100;go_wp2_with fail
     refine f.o.mono ?_;rintro _ t ⟨rfl,b⟩;rw[b];clear b;go_wp2_with fail
     go_ret;exact⟨rfl,rfl⟩
   . have I:(v==1)=false:=by simp[j]
     rw[au j];clear j;go_enter func100,ntmps100;go_wp2_with fail
     refine f.o.mono ?_;rintro _ t ⟨rfl,b⟩;rw[b];clear b;go_wp2_with fail
     go_ret;exact⟨rfl,rfl⟩
 . unfold Rd.own;rw[au d,eU];obtain⟨s,x⟩:∃s,D.state z=s:=⟨_,rfl⟩;rw[x] at f d;have J:(((s:Nat):Int)==3)=false:=by simp;omega
   clear d x h c0 c1 c2 c3 p;go_enter func100,ntmps100;go_wp2_with fail
   refine f.o.mono ?_;rintro _ t ⟨rfl,b⟩;rw[b];clear b;go_wp2_with fail
   go_ret;exact⟨rfl,rfl⟩
def Rd.shadow1(D:Rd)(z:Int):Rd:={D with C:=D.C.set (iW D.pg-1).toNat 1,P:=D.P.set (iW D.pg-1).toNat (D.on z)}
def Rd.shadowR(D:Rd)(z:Int):(Int×Int)×Rd:=
 if 0<D.count z then
  (if D.own z=true then ((z,0),D)
   else if iW D.pg=0 then ((0,12),D)
   else if ((D.shadow1 z).leave z).1=0 then ((iW D.pg,0),((D.shadow1 z).leave z).2) else ((0,((D.shadow1 z).leave z).1),D))
 else ((0,15),D)
def Da(D:Rd)(H:List Sn)(b:Prop)(H':List Sn):Prop:=(b/\∃s:Sn,s.C=D.C/\s.P=D.P/\H'=H++[s])\/(¬b/\H'=H)
def RSh(w:World)(rb:Nat)(D:Rd)(H:List Sn)(col:Nat->Nat)(z:Int)(e:Ending)(w':World):Prop:=∃(D':Rd)(H':List Sn)(col':Nat->Nat),e=.returned (.tuple #[.int .i64 (D.shadowR z).1.1,.int .i64 (D.shadowR z).1.2])/\Ra w' rb D' H' col'/\Vf w col w' col'/\D'.Al (D.shadowR z).2/\Da D H ((D.shadowR z).1.2=0/\D.own z=false) H'
theorem Rd.pg_at(h:D.L.length=D.C.length){j:Nat}(b:j<D.C.length):D.pg.getD j Q.Pg.zero=(D.C.getD j 0,D.L.getD j false):=by
 have d:j<D.L.length:=by omega
 have e:j<(D.C.zip D.L).length:=by rw[iG];omega
 unfold Rd.pg;rw[aq,aR e,List.getElem_zip];simp[b,d]
theorem Rd.Al.refl(D:Rd):D.Al D:=⟨rfl,rfl,rfl,rfl,rfl,rfl⟩
theorem zl(w:World)(rb:Nat)(D:Rd)(H:List Sn)(col:Nat->Nat)(h:Ra w rb D H col)(hh:D.hush=false)(hH:H.length<=1000000000000)(z:Int)(hR:D.R<=65536)(ab:D.count z<=65536):
 Calls prog 36 #[.pointer (some ⟨rb,0,none⟩),.int .i64 z] w λe w'=>RSh w rb D H col z e w':=by
 have N:=iJ (kf w rb D col h.q z);have R:=iJ (vW w rb D col h.q z);have LO:=iJ (qP w rb D col h.q);have HR:=iJ h;by_cases t:0<D.count z
 . rw[ax t] at N;cases ho:D.own z with
   |true=>
    rw[ho] at R;have f:Hid (D.shadowR z=((z,0),D)):=by show _=_;unfold Rd.shadowR;rw[if_pos t,if_pos ho]
    have HO:=iJ ho;clear h ho t ab;go_enter func36,ntmps36;go_wp2_with fail
    refine N.o.mono ?_;rintro _ J ⟨rfl,d⟩;rw[d];clear d;go_wp2_with fail
    refine R.o.mono ?_;rintro _ J ⟨rfl,d⟩;rw[d];clear d;go_wp2_with fail
    go_ret2
    exact⟨D,H,col,by rw[f.o];rfl,HR.o,Vf.refl _ _,by rw[f.o];exact Rd.Al.refl D,.inr ⟨λe=>(by have:=e.2;rw[HO.o] at this;cases this),rfl⟩⟩
   |false=>
    rw[ho] at R;have HO:=iJ ho;by_cases U:iW D.pg=0
    . have f:Hid (D.shadowR z=((0,12),D)):=by show _=_;unfold Rd.shadowR;rw[if_pos t,if_neg (by rw[ho];decide),if_pos U]
      rw[U] at LO;clear h ho t ab U;go_enter func36,ntmps36;go_wp2_with fail
      refine N.o.mono ?_;rintro _ J ⟨rfl,d⟩;rw[d];clear d;go_wp2_with fail
      refine R.o.mono ?_;rintro _ J ⟨rfl,d⟩;rw[d];clear d;go_wp2_with fail
      refine LO.o.mono ?_;rintro _ J ⟨rfl,d⟩;rw[d];clear d;go_wp2_with fail
      go_ret2
      exact⟨D,H,col,by rw[f.o];rfl,HR.o,Vf.refl _ _,by rw[f.o];exact Rd.Al.refl D,.inr ⟨λe=>by have:=e.1;rw[f.o] at this;simp at this,rfl⟩⟩
    . have f:Hid (D.shadowR z=if ((D.shadow1 z).leave z).1=0 then ((iW D.pg,0),((D.shadow1 z).leave z).2) else ((0,((D.shadow1 z).leave z).1),D)):=by show _=_;unfold Rd.shadowR;rw[if_pos t,if_neg (by rw[ho];decide),if_neg U]
      have CI:=iJ λ(W:World)(hb:Below w.heap.size w W)=>Q.j9 W D.aC D.C.length D.cC D.C (h.keep hb).q.cr.ir rfl h.q.n6
      have CP:=iJ λ(W:World)(hb:Below w.heap.size w W)=>jS W D.aP D.P.length D.cP D.P (h.keep hb).q.pgs rfl (by rw[h.q.nP];exact h.q.n6)
      have SS:Hid (∀W:World,Below w.heap.size w W->W.cell? ⟨rb,1,none⟩=some (.slice D.aC D.C.length D.cC)/\W.cell? ⟨rb,3,none⟩=some (.slice D.aP D.P.length D.cP)):=λW hb=>⟨(h.keep hb).q.cells.2.1,(h.keep hb).q.cells.2.2.2.1⟩
      have DR:=iJ (dr2 w);obtain⟨j,hj,ae,Z⟩:=m9 U;rw[Rd.pg_len h.q.nL] at hj
      have ah:D.has z=true:=by
       cases e:D.has z with
       |true=>rfl
       |false=>unfold Rd.count at t;rw[e] at t;exact absurd t (by simp)
      obtain⟨z1,z2⟩:=Rd.has_iff.1 ah;obtain⟨i,hi⟩:∃i:Nat,z=(i:Int)+1:=⟨(z-1).toNat,by omega⟩
      subst hi;have ay:i<D.C.length:=by omega
      have ei:((i:Int)+1-1).toNat=i:=by omega
      have ej:(iW D.pg-1).toNat=j:=by rw[ae];omega
      have HC:Hid (D.count ((i:Int)+1)=D.C.getD i 0):=by show _=_;unfold Rd.count;rw[if_pos ah,ei]
      have CJ:Hid (D.C.getD j 0=0):=by
       show _=_;have e1:D.pg.getD j Q.Pg.zero=(D.C.getD j 0,D.L.getD j false):=Rd.pg_at h.q.nL hj;rw[e1] at Z;generalize D.C.getD j 0=c at Z;generalize D.L.getD j false=aD at Z;unfold Q.stt at Z;by_cases e2:c=0
       . exact e2
       . exfalso;cases aD<;>simp[e2] at Z
      have NE:Hid (i≠j):=λe=>by
       rw[HC.o,e,CJ.o] at t;exact absurd t (by decide)
      have LV:Hid (D.shadow1 ((i:Int)+1)={D with C:=D.C.set j 1,P:=D.P.set j (D.P.getD i Pv.zero)}):=by
       show _=_;unfold Rd.shadow1 Rd.on;rw[ej,ei]
      rw[LV.o,ae] at f;rw[ae] at LO;obtain⟨gC,an,_⟩:=h.q.cAt hj;obtain⟨gP,ao⟩:∃gg,D.aP=some ⟨gg,0,none⟩:=h.q.pr.addr (by rw[h.q.nP];omega)
      have EC:=iJ an;have O:=iJ ao;have NP:=iJ h.q.nP
      have HM:Hid (D.P.getD i Pv.zero∈D.P):=by
       show _∈_;have:i<D.P.length:=by rw[h.q.nP];exact ay
       simp[this]
      have HH:=iJ hh;have HL:=iJ hH;have aE:=iJ hR;have aj:Hid (0<D.C.getD i 0/\D.C.getD i 0<=65536):=⟨by rw[<-HC.o];exact t,by rw[<-HC.o];exact ab⟩
      have HI:=iJ ay;have HJ:=iJ hj;have h6:=h.q.n6;have n0:(((j:Int)+1)==0)=false:=by simp;omega
      have sj:(j:Int)+1-1=(j:Int):=by omega
      have si:(i:Int)+1-1=(i:Int):=by omega
      have WJ:Hid (IntKind.i64.wrap ((j:Nat):Int)=(j:Int)):=iT (by omega) (by omega)
      have WI:Hid (IntKind.i64.wrap ((i:Nat):Int)=(i:Int)):=iT (by omega) (by omega)
      clear h hh hH hR ab ho t U ae Z ah z1 z2 ei ej an ao LV HC;go_enter func36,ntmps36;go_wp2_with fail
      refine N.o.mono ?_;rintro _ J ⟨rfl,d⟩;rw[d];clear d;go_wp2_with fail
      refine R.o.mono ?_;rintro _ J ⟨rfl,d⟩;rw[d];clear d;go_wp2_with fail
      refine LO.o.mono ?_;rintro _ J ⟨rfl,d⟩;rw[d];clear d N R LO;go_upto_region 8 with fail
      refine wrd SS DR.o λhHeld=>?_
      refine tkd 0 1 2 3 ?_;refine tkd 5 6 7 8 ?_;refine tw 4 λK I=>?_
      go_simp;refine(CI.o _ DR.o).mono ?_;rintro _ w1 ⟨A,E,rfl,ad⟩;have X:=iJ (bt DR.o ad.b);have IC:=iJ ad.r;have NC:=iJ (ad.n.mono (DR.o).size);clear ad;go_wp2_with fail
      refine I.o _ _ (SS.o _ X.o) (λhHeld=>?_)
      clear I K;refine tw 9 λK I=>?_
      go_simp;refine(CP.o _ X.o).mono ?_;rintro _ s ⟨B,G,rfl,hG,hN,ag⟩;have B2:=iJ (bt X.o ag);have ak:=iJ (hN.mono (X.o).size);obtain⟨RS,FSx,SV⟩:Hid (Ra s rb D H (iO col w s 7))/\Hid (Vf w col s (iO col w s 7))/\Hid (Sv s (iO col w s 7) D.C.length ⟨A,E,D.C,B,G,D.P⟩):=HR.o.snap B2.o (IC.o.keep ag) hG NC.o ak.o;clear ag hG hN IC;go_wp2_with fail
      refine I.o _ _ (SS.o _ B2.o) (λhHeld=>?_)
      clear I K;refine tkb 10 11 ?_;refine td ?_;clear hHeld SS CI CP X DR B2;generalize iO col w s 7=r at *;have Q2:=iJ RS.o.q.five;have y1:=Q2.o.cells.2.1;rw[EC.o] at y1;obtain⟨aa,aA,cA⟩:=Q2.o.cAt HJ.o;obtain rfl:aa=gC:=by have:=aA.symm.trans EC.o;simpa using this
      have fA:s.frozen? ⟨aa,j,none⟩=false:=by
       have k:=Q2.o.cr;rw[EC.o] at k;exact Q.Gw.free k j
      obtain⟨R3,F3⟩:Hid (Rq (s.setCell ⟨aa,j,none⟩ (.int .i64 1)) rb {D with C:=D.C.set j 1} (c57 r))/\Hid (Vf s (c57 r) (s.setCell ⟨aa,j,none⟩ (.int .i64 1)) (c57 r)):=Q2.o.setC EC.o j 1;obtain⟨m,hm⟩:∃m,D.C.length=m:=⟨_,rfl⟩;have aJ:=iJ hm;have af:Hid (D.P.length=m):=NP.o.trans hm;have aL:(j:Int)<(m:Int):=by have:=HJ.o;omega
      have aK:(i:Int)<(m:Int):=by have:=HI.o;omega
      rw[hm] at y1 h6;clear hm aA;go_upto_region 10 with fail
      generalize s.setCell ⟨aa,j,none⟩ (.int .i64 1)=w3 at *;clear cA fA y1;have x3:=R3.o.cells.2.2.2.1;dsimp only at x3;rw[O.o,af.o] at x3;obtain⟨n,aB,L⟩:=R3.o.pAt (i:=i) (by show i<(D.C.set j 1).length;rw[aM];exact HI.o)
      obtain rfl:n=gP:=by have:=aB.symm.trans O.o;simpa using this
      dsimp only at L;obtain⟨b,ai⟩:∃b,D.P.getD i Pv.zero=b:=⟨_,rfl⟩;rw[ai] at L HM f;have GP:=iJ ai;clear ai aB;have PV:Hid (b.cs=#[.int .i64 b.kind,.int .i64 b.level,.slice b.aI b.items.length b.cI,.slice b.aD b.data.length b.cD,.int .i64 b.next]):=rfl;have ac:=iJ (dr2 w3)
      have S3:Hid (∀W:World,Below w3.heap.size w3 W->W.cell? ⟨rb,3,none⟩=some (.slice (some ⟨n,0,none⟩) m D.cP)/\W.cell? ⟨n,i*5,none⟩=some (.int .i64 b.kind)/\W.cell? ⟨n,i*5+1,none⟩=some (.int .i64 b.level)/\W.cell? ⟨n,i*5+2,none⟩=some (.slice b.aI b.items.length b.cI)/\W.cell? ⟨n,i*5+3,none⟩=some (.slice b.aD b.data.length b.cD)/\W.cell? ⟨n,i*5+4,none⟩=some (.int .i64 b.next)):=λW hb=>by
       have t0:=L 0 _ (by decide) rfl
       have t1:=L 1 _ (by decide) rfl
       have t2:=L 2 _ (by decide) rfl
       have t3:=L 3 _ (by decide) rfl
       have t4:=L 4 _ (by decide) rfl
       exact⟨(hb.cell (p:=⟨rb,3,none⟩) (block_lt_of_cell x3)).trans x3,(hb.cell (p:=⟨n,i*5,none⟩) (block_lt_of_cell t0)).trans t0,(hb.cell (p:=⟨n,i*5+1,none⟩) (block_lt_of_cell t1)).trans t1,(hb.cell (p:=⟨n,i*5+2,none⟩) (block_lt_of_cell t2)).trans t2,(hb.cell (p:=⟨n,i*5+3,none⟩) (block_lt_of_cell t3)).trans t3,(hb.cell (p:=⟨n,i*5+4,none⟩) (block_lt_of_cell t4)).trans t4⟩
      clear L x3;refine wrd S3 ac.o λhHeld=>?_
      refine tkd 0 1 2 3 ?_;refine tkd 4 5 6 7 ?_;refine tkd 8 9 10 11 ?_;rw[WJ.o,WI.o];refine tkb 12 13 ?_;refine tk 14 ?_;have R4:=iJ (R3.o.keep ac.o)
      have am:Hid (w3.drew.there n (j*5) 5):=by
       have hr:=R4.o.pr;dsimp only at hr;rw[O.o] at hr;exact hr.there5 (by rw[af.o];omega)
      obtain⟨S,F5⟩:Hid (Rq (w3.drew.setCells n (j*5) b.cs.toList) rb _ (c57 r))/\Hid (Vf w3.drew (c57 r) (w3.drew.setCells n (j*5) b.cs.toList) (c57 r)):=R4.o.setP (g:=n) O.o j b (R4.o.pz b HM.o) (R4.o.ps b HM.o);refine tw 15 λK I=>?_
      rw[if_pos (by rfl)]
      refine wp_store_mid (P:=prog) 31 _ _ rfl n (j*5) b.cs ?hxs ?hys am.o iP (by simp[Pv.cs,Value.oneCell']) ?_
      case hxs=>simp[Act.eval]
      case hys=>rfl
      have M:Hid ((w3.drew.setCells n (j*5) b.cs.toList).cell? ⟨rb,3,none⟩=some (.slice (some ⟨n,0,none⟩) m D.cP)/\∀k u,k<5->b.cs.toList[k]?=some u->(w3.drew.setCells n (j*5) b.cs.toList).cell? ⟨n,i*5+k,none⟩=some u):=by
       refine⟨?_,λk u hk hu=>?_⟩
       . have z3:=S.o.cells.2.2.2.1;dsimp only at z3;rw[aM,O.o,af.o] at z3;exact z3
       . obtain⟨aF,aI,aG⟩:=S.o.pAt (i:=i) (by show i<(D.C.set j 1).length;rw[aM];exact HI.o)
         obtain rfl:aF=n:=by have:=aI.symm.trans O.o;simpa using this
         refine aG k u hk ?_;show((D.P.set j b).getD i Pv.zero).cs.toList[k]?=some u
         have e5:(D.P.set j b).getD i Pv.zero=b:=by
          rw[<-GP.o,aq,bQ (λe=>NE.o e.symm),<-aq]
         rw[e5];exact hu
      refine I.o _ _ ⟨M.o.1,M.o.2 0 _ (by decide) rfl,M.o.2 1 _ (by decide) rfl,M.o.2 2 _ (by decide) rfl,M.o.2 3 _ (by decide) rfl,M.o.2 4 _ (by decide) rfl⟩ (λhHeld=>?_)
      clear I K M;refine td ?_;have V5:=iJ (F3.o.trans ((Vf.keep ac.o).trans F5.o));clear hHeld S3 am R4 F5 ac R3 F3 PV;generalize w3.drew.setCells n (j*5) b.cs.toList=w5 at *;obtain⟨v,Y⟩:∃aC,({D with C:=D.C.set j 1,P:=D.P.set j b}:Rd)=aC:=⟨_,rfl⟩;have S:Hid (Rq w5 rb v (c57 r)):=by rw[<-Y];exact S.o
      rw[Y] at f
      have C5:Hid (v.count ((i:Int)+1)=D.C.getD i 0):=by
       show _=_;have aH:v.has ((i:Int)+1)=true:=Rd.has_iff.2 ⟨by omega,by rw[<-Y];show _<=(((D.C.set j 1).length:Nat):Int);rw[aM];have:=HI.o;omega⟩
       unfold Rd.count;rw[if_pos aH,<-Y,show((i:Int)+1-1).toNat=i by omega]
       show(D.C.set j 1).getD i 0=_;rw[aq,bQ (λe=>NE.o e.symm),<-aq]
      have y:Hid (v.aA=D.aA/\v.nA=D.nA/\v.cA=D.cA/\v.C.length=D.C.length/\v.R=D.R/\v.L=D.L/\v.fl=D.fl/\v.hush=D.hush):=by rw[<-Y];exact⟨rfl,rfl,rfl,aM,rfl,rfl,rfl,rfl⟩
      clear Y;have LE:=iJ (rY w5 rb v (c57 r) S.o ((i:Int)+1) (by rw[C5.o];exact aj.o.1) (by rw[C5.o];exact aj.o.2) (by rw[y.o.2.2.2.2.1];exact aE.o))
      have x:=iJ (v.leave_sm ((i:Int)+1));generalize v.leave ((i:Int)+1)=rl at *;obtain⟨er,l⟩:=rl;dsimp only at LE x f;go_wp2_with fail
      refine LE.o.mono ?_;rintro _ V ⟨rfl,av,ap⟩;obtain⟨R6,F6⟩:Hid (Ra V rb l H (cold r s (c57 r)))/\Hid (Vf s r V (cold r s (c57 r))):=RS.o.step av (V5.o.trans ap) (x.o.a.trans y.o.1) (x.o.m.trans y.o.2.1) (x.o.c.trans y.o.2.2.1) (x.o.n.trans y.o.2.2.2.1)
      have al:Hid (Sv V (cold r s (c57 r)) l.C.length ⟨A,E,D.C,B,G,D.P⟩):=by
       show Sv _ _ _ _;rw[x.o.n,y.o.2.2.2.1];exact SV.o.vf F6.o
      have F7:=iJ (FSx.o.trans F6.o);clear av ap LE RS FSx SV F6 V5 S Q2;generalize cold r s (c57 r)=c6 at *;by_cases T:er=0
      . subst T;rw[if_pos rfl] at f;have DD:=iJ (oN V rb l H c6 R6.o (by rw[x.o.h,y.o.2.2.2.2.2.2.2];exact HH.o) ⟨A,E,D.C,B,G,D.P⟩ al.o HL.o)
        dsimp only at DD;go_wp2_with fail
        refine DD.o.mono ?_;rintro _ w8 ⟨a',c',aN,rfl,aw,ar⟩;have R8:=iJ aw;have F8:=iJ (F7.o.trans ar);clear aw ar;go_wp2_with fail
        go_ret2
        exact⟨_,_,_,by rw[f.o];rfl,R8.o,F8.o,by rw[f.o];exact⟨rfl,rfl,rfl,rfl,rfl,rfl⟩,.inl ⟨⟨by rw[f.o],HO.o⟩,_,rfl,rfl,rfl⟩⟩
      . have e1:(er==0)=false:=by simp[T]
        have e2:(er != 0)=true:=by simp[T]
        rw[if_neg T] at f;have HE:=iJ T;clear T;have NN:=iJ (qQ V rb l c6 R6.o.q A B D.C.length E D.P.length G);obtain⟨U1,U2⟩:Hid (Ra _ rb _ H _)/\Hid (Vf w col _ _):=HR.o.undone R6.o F7.o ⟨A,E,D.C,B,G,D.P⟩ al.o NC.o ak.o;dsimp only at U1 U2
        have UU:Hid (∀W,W=(V.setCell ⟨rb,1,none⟩ (.slice A D.C.length E)).setCell ⟨rb,3,none⟩ (.slice B D.P.length G)->Ra W rb (l.back ⟨A,E,D.C,B,G,D.P⟩) H (j5 c6 ⟨A,E,D.C,B,G,D.P⟩)/\Vf w col W (j5 c6 ⟨A,E,D.C,B,G,D.P⟩)):=λW hW=>by
         rw[hW];exact⟨U1.o,U2.o⟩
        clear U1 U2;go_wp2_with fail
        refine NN.o.mono ?_;rintro _ w8 ⟨rfl,az⟩;have K8:=iJ (UU.o w8 az);clear az UU NN;go_wp2_with fail
        go_ret2
        exact⟨_,_,_,by rw[f.o];rfl,K8.o.1,K8.o.2,by rw[f.o];exact⟨x.o.r.trans y.o.2.2.2.2.1,rfl,x.o.l.trans y.o.2.2.2.2.2.1,rfl,x.o.f.trans y.o.2.2.2.2.2.2.1,x.o.h.trans y.o.2.2.2.2.2.2.2⟩,.inr ⟨λe=>by have:=e.1;rw[f.o] at this;exact HE.o this,rfl⟩⟩
 . have f:Hid (D.shadowR z=((0,15),D)):=by show _=_;unfold Rd.shadowR;rw[if_neg t]
   rw[au t] at N;clear h t ab;go_enter func36,ntmps36;go_wp2_with fail
   refine N.o.mono ?_;rintro _ J ⟨rfl,d⟩;rw[d];clear d;go_wp2_with fail
   go_ret2
   exact⟨D,H,col,by rw[f.o];rfl,HR.o,Vf.refl _ _,by rw[f.o];exact Rd.Al.refl D,.inr ⟨λe=>by have:=e.1;rw[f.o] at this;simp at this,rfl⟩⟩
end Go.Proofs.YtbdkogimlbnlmaaGreat
