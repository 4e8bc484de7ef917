import Derived.Test.YteaogidofpfmmaaGreatWgB17
set_option linter.all false
set_option maxHeartbeats 8000000
set_option maxRecDepth 10000
namespace Go.Proofs.YteaogidofpfmmaaGreat
open Go.Proofs.Tryz
open Go.RowKit Go.Shelf
attribute [local go_sem] Oper.semAt_some
variable {rd:Int->Option Pg}{n:Nat}{F S:Nat->Prop}{W W':World}
theorem Bb:(prog.info? 143).map (·.size)=some 4:=by kernel_rfl
def ckF(n k:Nat):Prop:=k=n+1\/k=n+2\/k=n+4
structure CkI(n:Nat)(rd:Int->Option Pg)(F:Nat->Prop)(s:Cst)(W:World):Prop where
 f:∀k,F k↔ckF n k
 kb:Kb rd s
 er:s.er=0
 m:Mp W (n+2) (gnf s.G)
 e:W.heap[n+1]?=some (.cells #[.int .i64 0] 39 (0,0))
 k:W.heap[n+4]?=some (.cells #[.int .i64 ((s.ks:Nat):Int)] 3 (0,0))
structure CkX(n:Nat)(F:Nat->Prop)(s:Cst)(W:World):Prop where
 f:∀k,F k↔ckF n k
 l:n+4<W.heap.size
 er:s.er≠0
 e:W.heap[n+1]?=some (.cells #[.int .i64 ((s.er:Nat):Int)] 39 (0,0))
theorem CkI.but{s:Cst}(h:CkI n rd F s W)(hb:But S W W')(a:∀k,ckF n k->¬S k):CkI n rd F s W':=⟨h.f,h.kb,h.er,h.m.but hb (a _ (.inr (.inl rfl))),hb.same h.e (a _ (.inl rfl)),hb.same h.k (a _ (.inr (.inr rfl)))⟩
theorem CkX.but{s:Cst}(h:CkX n F s W)(hb:But S W W')(a:∀k,ckF n k->¬S k):CkX n F s W':=⟨h.f,a6 h.l hb.size,h.er,hb.same h.e (a _ (.inl rfl))⟩
theorem CkI.lt{s:Cst}(h:CkI n rd F s W):n+4<W.heap.size:=(ae.1 h.k).1
theorem BM(w:World)(c0 v s:Array Value):∃U:World,(((((w.alloc (.cells c0 34)).alloc (.cells #[.int .i64 0] 39)).alloc (.map #[] 0)).alloc (.cells v 143)).setRow (w.heap.size+1+1+1) s).alloc (.cells #[.int .i64 0] 3)=U/\U.heap[w.heap.size]?=some (.cells c0 34 (0,0))/\U.heap[w.heap.size+1]?=some (.cells #[.int .i64 0] 39 (0,0))/\Mp U (w.heap.size+2) (gnf [])/\U.heap[w.heap.size+3]?=some (.cells s 143 (0,0))/\U.heap[w.heap.size+4]?=some (.cells #[.int .i64 0] 3 (0,0))/\Below w.heap.size w U/\U.heap.size=w.heap.size+5:=by
 obtain⟨a,i⟩:∃U,w.alloc (.cells c0 34)=U:=⟨_,rfl⟩;obtain⟨b,j⟩:∃U,a.alloc (.cells #[.int .i64 0] 39)=U:=⟨_,rfl⟩;obtain⟨c,l⟩:∃U,b.alloc (.map #[] 0)=U:=⟨_,rfl⟩;obtain⟨d,m⟩:∃U,c.alloc (.cells v 143)=U:=⟨_,rfl⟩;obtain⟨f,p⟩:∃U,d.setRow (w.heap.size+1+1+1) s=U:=⟨_,rfl⟩;obtain⟨g,q⟩:∃U,f.alloc (.cells #[.int .i64 0] 3)=U:=⟨_,rfl⟩;have A:a.heap.size=w.heap.size+1:=by rw[<-i,size_alloc]
 have B:b.heap.size=w.heap.size+2:=by rw[<-j,size_alloc,A]
 have C:c.heap.size=w.heap.size+3:=by rw[<-l,size_alloc,B]
 have H:d.heap.size=w.heap.size+4:=by rw[<-m,size_alloc,C]
 have D:f.heap.size=w.heap.size+4:=by rw[<-p,<-H];simp
 have I:g.heap.size=w.heap.size+5:=by rw[<-q,size_alloc,D]
 have E:Below w.heap.size w a:=by rw[<-i];exact al _ _
 have x:Below a.heap.size a b:=by rw[<-j];exact al _ _
 have t:Below b.heap.size b c:=by rw[<-l];exact al _ _
 have h:Below c.heap.size c d:=by rw[<-m];exact al _ _
 have G:But (λk=>k=w.heap.size+3) d f:=by rw[<-p];exact Q.gZ _ _ _
 have y:Below f.heap.size f g:=by rw[<-q];exact al _ _
 have r:But (λk=>k=w.heap.size+3) d g:=G.andBelow y
 have J:a.heap[w.heap.size]?=some (.cells c0 34 (0,0)):=by rw[<-i];exact ah _ _
 have K:b.heap[w.heap.size+1]?=some (.cells #[.int .i64 0] 39 (0,0)):=by rw[<-A,<-j];exact ah _ _
 have L:Mp c (w.heap.size+2) (gnf []):=by rw[<-B,<-l];exact(Mp.made _).congr (λk=>by simp[gnf])
 have M:d.heap[w.heap.size+3]?=some (.cells v 143 (0,0)):=by rw[<-C,<-m];exact ah _ _
 have N:f.heap[w.heap.size+3]?=some (.cells s 143 (0,0)):=by rw[<-p];exact br _ _ _ _ _ _ M
 have O:g.heap[w.heap.size+4]?=some (.cells #[.int .i64 0] 3 (0,0)):=by rw[<-D,<-q];exact ah _ _
 refine⟨g,by rw[i,j,l,m,p,q],?_,?_,?_,?_,O,?_,I⟩
 . exact r.same ((bt (bt x t) h).block _ (by omega) |>.trans J) (λe=>by omega)
 . exact r.same ((bt t h).block _ (by omega) |>.trans K) (λe=>by omega)
 . exact(L.keep h).but r (λe=>by omega)
 . exact(y.block _ (by omega)).trans N
 . exact(((But.ofBelow (S:=λk=>k=w.heap.size+3) (bt (bt (bt E x) t) h)).trans r (λ_ _ e=>e)).below (λk hk e=>by omega))
theorem qv(w:World)(ac:Nat)(rd:Int->Option Pg)(hA:ix rd)(aF:Nat)(hN:j5 rd aF)(bw:aF<=65536)(XV:Nat->Prop)(hR:iZ 52 (.pointer (some ⟨ac,0,none⟩)) rd XV w)(hX:∀k,XV k->k<w.heap.size)(t:Tr):
 Calls prog 36 #[.pointer (some ⟨ac,0,none⟩),.agg #[.int .i64 t.root,.int .i64 t.height,.int .i64 t.items]] w λe w'=>e=.returned (.int .i64 ((chk rd t:Nat):Int))/\Below w.heap.size w w':=by
 by_cases ht:t.root=0/\t.height=0/\t.items=0\/(t.root=0\/t.height<1\/12<t.height\/t.items<1)
 . exact yo w ac rd t ht
 have a3:chk rd t=if (kd rd t).er≠0 then (kd rd t).er else if ((kd rd t).ks:Int)≠t.items then 4 else 0:=by
  unfold chk;rw[if_neg (λh=>ht (.inl h)),if_neg (λh=>ht (.inr h))]
 obtain⟨root,H,P⟩:=t;have ht:¬(root=0/\H=0/\P=0\/(root=0\/H<1\/12<H\/P<1)):=ht;have aI:=gW a3;have h1:¬root=0:=λh=>ht (.inr (.inl h))
 have h2:1<=H:=by omega
 have h3:H<=12:=by omega
 have I:1<=P:=by omega
 have b1:(root==0)=false:=by simp[h1]
 have l1:¬H<1:=by omega
 have l2:¬12<H:=by omega
 have l3:¬P<1:=by omega
 clear ht a3;obtain⟨ch,a0⟩:∃af,chk rd ⟨root,H,P⟩=af:=⟨_,rfl⟩;rw[a0] at aI ⊢;clear a0;have c:=λ(W:World)(k:Nat)(cs:Array Value)(t:TypeId)(e:W.heap.size=k)=>(e▸ah W (.cells cs t):(W.alloc (.cells cs t)).heap[k]?=some (.cells cs t (0,0)))
 have bj:= @run_makeMap prog;have RO:=gW (λ(W:World)=>qN W root H P h2 h3)
 have ST:=gW (λ(W:World)=>oD W (w.heap.size+3) ⟨root,H-1,⟨none,0,[],none,0,[],true⟩⟩)
 simp only;refine(dF (n:=0)).1 ?_;refine dO func36 rfl trivial ?_ rfl;simp only[ntmps36,cZ,a7,bg,Nat.reduceAdd,Nat.reduceSub,da,db,dt,dm,cJ,cf];refine eC.2 ?_;go_upto_region 8 with(first|(refine bz rfl 143 _ _ rfl (w.heap.size+1+1+1) _ rfl rfl 143 _ (c _ _ _ _ (by simp[size_alloc])) Bb rfl (by simp[Value.oneCell']) ?_)|fail)
 obtain⟨a5,hU,X0,X1,XM,X3,X4,BU,sU⟩:=BM w #[.int .i64 root,.int .i64 H,.int .i64 P] #[.pointer none,.map none,.nilFunc,.int .i64 0] #[.pointer (some ⟨ac,0,none⟩),.map (some (w.heap.size+1+1)),.func (.func 69) #[] #[],.int .i64 0];rw[hU];clear hU c bj;have HR:=gW (hR.keep BU);have X0:=gW X0;have X1:=gW X1;have XM:=gW XM;have X3:=gW X3;have X4:=gW X4;have BU:=gW BU;clear hR;unfold Plv.vl at ST;simp only[Plv.cs,bg] at ST;obtain⟨t0,t1,t2⟩:=jq X0.o;go_wp2_with fail
 refine(RO.o _).mono ?_;rintro _ U ⟨rfl,aZ⟩;have B1:=gW aZ;clear aZ RO;go_wp2_with fail
 refine(ST.o _).mono ?_;rintro _ U2 ⟨rfl,aL⟩;obtain⟨w1,w2,aG,bo⟩:=iN U (.cells #[.pointer (some ⟨w.heap.size+3,0,none⟩)] 198) (.cells #[.int .i64 root,.int .i64 (H-1),.slice none 0 0,.slice none 0 0,.bool true] 148) (Below.refl _ _);have bG:U2.heap.size=U.heap.size+2:=by rw[aL,size_alloc,size_alloc]
 rw[<-aL] at w1 w2 aG bo;have B2:=gW (bt B1.o aG);have c1:U2.cell? ⟨U.heap.size,0,none⟩=some (.pointer (some ⟨w.heap.size+3,0,none⟩)):=by rw[am _ _ _ _ _ _ w1];rfl
 have w2:=gW w2;have W1:=gW c1;have bC:a5.heap.size<=U.heap.size:=B1.o.size;have aX:=gW ((B2.o.block (w.heap.size+3) (ae.1 X3.o).1).trans X3.o);have I2:Hid (CkI w.heap.size rd (ckF w.heap.size) ⟨[],0,0⟩ U2):=gW ⟨λ_=>d9,⟨Gok.nil _,an _⟩,rfl,XM.o.keep B2.o,(B2.o.block _ (ae.1 X1.o).1).trans X1.o,(B2.o.block _ (ae.1 X4.o).1).trans X4.o⟩
 have aW:=gW (HR.o.keep B2.o);have TT:Hid (Tou U2 (w.heap.size+3) (w.heap.size+2) ac 69 #[] true rd XV (λ_=>true) (λ_=>False)):=gW ⟨aX.o,aW.o,tX U2,λk h=>by have:=hX k h;omega,λk h=>h.elim⟩
 have T2:=gW ((B2.o.block w.heap.size (ae.1 X0.o).1).trans X0.o);have aH:=gW (bt BU.o B2.o)
 have XX:Hid (∀k,XS (w.heap.size+3) U.heap.size (U.heap.size+1) ⟨root,H-1,⟨none,0,[],none,0,[],true⟩⟩ XV (λ_=>False) k->k<U2.heap.size/\¬ckF w.heap.size k):=gW (λk hk=>by
  unfold ckF;rcases hk with rfl|rfl|rfl|h|h|⟨a8,hy,_⟩|⟨a8,hy,_⟩
  . omega
  . omega
  . omega
  . have:=hX k h;omega
  . exact h.elim
  . cases hy
  . cases hy)
 have SQ:=gW (ti (ik rd root) rd hA ac (w.heap.size+3) (w.heap.size+2) 69 #[] (enters_of func69 (by kernel_rfl) rfl) true XV (λ_=>true) (λ_=>False) (λ_ _=>rfl) (λ_=>rfl) pk (H-1).toNat U2 U.heap.size (U.heap.size+1) ⟨root,H-1,⟨none,0,[],none,0,[],true⟩⟩ ⟨[],0,0⟩ (by show H-1<=_;omega) W1.o w2.o ⟨Bs.nil _,ai _,Bs.nil _,ai _⟩ ⟨an _,an _⟩ (show N64 (H-1) from⟨by omega,by omega⟩) TT.o rfl (λk hk=>(XX.o k hk).1))
 have hA2:=gW hA;clear w1 c1 aG aL ST t0 t1 t2 aX X0 X1 XM X3 X4 hA;go_wp2_with fail
 refine(eC (n:=0)).1 ?_
 refine km (gf:=116) (lb:=#[.pointer (some ⟨U.heap.size,0,none⟩),.pointer (some ⟨U.heap.size+1,0,none⟩)]) rfl (enters_of func116 (by kernel_rfl) rfl) SQ.o (But.refl _ _) (λk hk=>(XX.o k hk).1)
  (by rintro s W0 W1 br E er Gv (⟨p',q',rfl,_⟩|⟨rfl,_⟩)<;>rfl)
  (ckF w.heap.size) (λk hk b=>(XX.o k b).2 hk) (CkI w.heap.size rd) (λaf F s W=>af=.ret/\CkX w.heap.size F s W)
  (λF s aE a4 h hb=>h.but hb (λk hk e=>e.1 ((h.f k).2 hk)))
  (λF s aE h k hk=>by have:=h.lt;rcases (h.f k).1 hk with rfl|rfl|rfl<;>omega)
  (λaf F s aE a4 h hb=>⟨h.1,h.2.but hb (λk hk e=>e.1 ((h.2.f k).2 hk))⟩)
  (λaf F s aE h k hk=>by have:=h.2.l;rcases (h.2.f k).1 hk with rfl|rfl|rfl<;>omega)
  (λF s W h=>⟨h.m,λk hk=>(h.f k).2 (.inr (.inl hk))⟩)
  I2.o ?round ?done ?stop
 case round=>
  rintro l F s W0 W br E er Gv ak aa bd aY bx bv bs bB be aw ⟨r0,a2⟩;have bH:=aa.size;have C:=gW ak.f;have EW:=gW (aa.same ak.e (λe=>by have e:w.heap.size+1=w.heap.size+2:=e;omega))
  have KW:=gW (aa.same ak.k (λe=>by have e:w.heap.size+4=w.heap.size+2:=e;omega))
  have KB:=gW ak.kb;have bb:=ak.er;have TW:=gW (aa.same (aw.same T2.o (λe=>by rcases e with e|e|e<;>omega)) (λe=>by have e:w.heap.size=w.heap.size+2:=e;omega))
  have GW:=gW (aa.same (aw.same TT.o.tt (λe=>by rcases e with e|e|e<;>omega)) (λe=>by have e:w.heap.size+3=w.heap.size+2:=e;omega))
  have RW:=gW ((aW.o.but aw (λk hk b=>by have:=hX k b;rcases hk with h|h|h<;>omega)).but aa (λk hk b=>by have:=hX k b;have hk:k=w.heap.size+2:=hk;omega))
  obtain⟨G,d,e0⟩:=s;obtain rfl:e0=0:=bb;have bf:l<W0.heap.size:=be;clear ak;rcases bd with⟨p,q,rfl,hR',hRb',hP',hrd',hlv',hng',hM',hs',rfl,hGv'⟩|⟨rfl,hM',rfl,hGv'⟩
  . obtain⟨g,lv,r⟩:=p;obtain⟨X,lq,aq,cq,L,ad,cd,aj,nx⟩:=q;have aB:=gW (hA2.o _ _ hrd');have au:=gW (show E=i6 rd root ⟨g::G,d,0⟩ ⟨g,lv,r.rg⟩ (Pv.pg ⟨X,lq,aq,cq,L,ad,cd,aj,nx⟩) from hs')
    clear hs';simp only[kr];gi_wp2
    refine⟨al _ _,λm I r4 bm=>?_⟩
    have O:=al W (.cells #[.int .i64 g,.int .i64 lv,.slice r.aL r.lo.length r.cL,.slice r.aH r.hi.length r.cH,.bool r.op,.int .i64 X,.int .i64 lq,.slice aq L.length cq,.slice ad aj.length cd,.int .i64 nx] 151);have ay:=ah W (.cells #[.int .i64 g,.int .i64 lv,.slice r.aL r.lo.length r.cL,.slice r.aH r.hi.length r.cH,.bool r.op,.int .i64 X,.int .i64 lq,.slice aq L.length cq,.slice ad aj.length cd,.int .i64 nx] 151);have bp:=size_alloc W (.cells #[.int .i64 g,.int .i64 lv,.slice r.aL r.lo.length r.cL,.slice r.aH r.hi.length r.cH,.bool r.op,.int .i64 X,.int .i64 lq,.slice aq L.length cq,.slice ad aj.length cd,.int .i64 nx] 151);generalize W.alloc (.cells #[.int .i64 g,.int .i64 lv,.slice r.aL r.lo.length r.cL,.slice r.aH r.hi.length r.cH,.bool r.op,.int .i64 X,.int .i64 lq,.slice aq L.length cq,.slice ad aj.length cd,.int .i64 nx] 151)=aU at *;have M:=gW (I.same ((O.block _ (ae.1 EW.o).1).trans EW.o) (λe=>by have e:w.heap.size+1=l:=e;omega))
    have y:=gW (I.same ((O.block _ (ae.1 KW.o).1).trans KW.o) (λe=>by have e:w.heap.size+4=l:=e;omega))
    have ax:w.heap.size+4<m.heap.size:=(ae.1 y.o).1;have R:∀v:Value,But F m (m.setCell ⟨w.heap.size+1,0,none⟩ v):=λv=>(But.refl F m).setCell (p:=⟨w.heap.size+1,0,none⟩) (λ_=>(C.o _).2 (.inl rfl)) v
    have aR:∀v:Value,w.heap.size+4<(m.setCell ⟨w.heap.size+1,0,none⟩ v).heap.size:=λv=>a6 ax (R v).size
    have ag:=gW (λv:Value=>(show(m.setCell ⟨w.heap.size+1,0,none⟩ v).heap[w.heap.size+1]?=some (.cells #[v] 39 (0,0)) from aS m (w.heap.size+1) 0 _ _ v M.o))
    have BS:=gW R;have HS:=gW aR;have e0:m.cell? ⟨w.heap.size+1,0,none⟩=some (.int .i64 0):=by rw[am _ _ _ _ _ _ M.o];rfl
    have z0:=bq m (w.heap.size+1) 0 _ _ M.o
    have aP:L.length<=8\/X=3:=by
     rcases aB.o.kind with h|h|h
     . left;have:=(aB.o.node (.inl h)).2.2.1;simpa[Pv.pg] using this
     . left;have:=(aB.o.node (.inr h)).2.2.1;simpa[Pv.pg] using this
     . exact .inr h
    have aP:L.length<=8:=aP.resolve_right (λh=>(jb.1 hlv').1 h)
    obtain⟨k0,k1,k2,k3,k4,k5,k6,k7,k8,k9⟩:=kE (I.same ay (λe=>by have e:W.heap.size=l:=e;omega))
    have B4:=gW (((But.ofBelow (S:=λk=>k=l) O).trans I (λ_ _ e=>e)))
    obtain⟨t0,t1,t2⟩:=jq (B4.o.same TW.o (λe=>by have e:w.heap.size=l:=e;omega))
    have M4:=gW ((hM'.keep O).but I (λe=>by have e:w.heap.size+2=l:=e;omega))
    have KT:=gW (KB.o.tel (root:=root) (a:=⟨g,lv,r.rg⟩) hrd' hng' (by simpa[Pv.pg] using aP))
    have aJ:Hid (Kb rd E):=gW (by rw[au.o];exact KT.o)
    have KN:Hid (d<=8*65536):=gW (by have:=KB.o.len hN;have h:d<=8*aF:=this;omega)
    have SZ:Hid (X=1->∀x∈L,0<=x.size/\x.size<=3840):=gW (λh1 x b=>by
     have:=(aB.o.fits (x:=x.it) (bM.2 ⟨x,b,rfl⟩)).leaf h1;exact⟨this.1,this.2.1⟩)
    have JS:=gW (((((hP'.keep O).old I (λk e=>by have e:k=l:=e;rw[e];exact bf)).pi (show L.length<=2199023255520 by omega)).it))
    have aQ:aU.heap[l]?=some (.loop r0):=(O.block l (ae.1 a2).1).trans a2;have a9:Hid (Ri m r):=gW ⟨(hR'.bl.keep O).loop I aQ,hR'.cl,(hR'.bh.keep O).loop I aQ,hR'.ch⟩;have G4:=gW (B4.o.same GW.o (λe=>by have e:w.heap.size+3=l:=e;omega))
    have R4:=gW (RW.o.but B4.o (λk hk b=>by have:=hX k b;have hk:k=l:=hk;omega))
    have aC:=gW (I.same ay (λe=>by have e:W.heap.size=l:=e;omega))
    clear hR' hRb' hP' hrd' hlv' hng' hM' hGv' aY KT aw aa ay O I aQ;by_cases B:g≠root/\L.length<4
    . have i:Hid (E=⟨g::G,d,5⟩):=gW (by
       rw[au.o];unfold i6;rw[if_pos ⟨B.1,by simpa[Pv.pg] using B.2⟩])
      have bn:(g==root)=false:=by simp[B.1]
      have ao:¬g=root:=B.1;have aK:(L.length:Int)<4:=by have:=B.2;omega
      clear B au;gi_wp2
      exact⟨F,(BS.o _).ing,λk hk=>.inl hk,by show decide (E.er≠0)=true;rw[i.o];rfl,rfl,C.o,HS.o _,by rw[i.o];exact(by decide:(5:Nat)≠0),by rw[i.o];exact ag.o _⟩
    . have CT:Hid (E=if X=1 then (if (iM rd r.rg (L.map Iv.it) (g::G)).2≠0 then ⟨(iM rd r.rg (L.map Iv.it) (g::G)).1,d,(iM rd r.rg (L.map Iv.it) (g::G)).2⟩ else ⟨(iM rd r.rg (L.map Iv.it) (g::G)).1,d+L.length,0⟩) else ⟨g::G,d,0⟩):=gW (by
       rw[au.o];unfold i6;rw[if_neg (λh=>B ⟨h.1,by simpa[Pv.pg] using h.2⟩)]
       show(if X=1 then (if (iM rd r.rg (L.map Iv.it) (g::G)).2≠0 then _ else (⟨_,d+(L.map Iv.it).length,0⟩:Cst)) else _)=_
       rw[bu];rfl)
      have aN:g=root\/¬g=root/\¬L.length<4:=by
       by_cases e:g=root
       . exact .inl e
       . exact .inr ⟨e,λh=>B ⟨e,h⟩⟩
      clear B au;by_cases aO:X=1
      . subst aO;have CL:=gW (rY m (w.heap.size+3) (w.heap.size+2) ac (.func (.func 69) #[] #[]) true rd hA2.o XV (g::G) ⟨g,lv,r⟩ ⟨1,lq,aq,cq,L,ad,cd,aj,nx⟩ a9.o JS.o (SZ.o rfl) G4.o M4.o R4.o (λh=>by have:=hX _ h;omega) (by omega))
        obtain⟨ab,hZ⟩:∃ab,iM rd r.rg (L.map Iv.it) (g::G)=ab:=⟨_,rfl⟩;have ap:Hid (E=if ab.2≠0 then ⟨ab.1,d,ab.2⟩ else ⟨ab.1,d+L.length,0⟩):=gW (by rw[CT.o,if_pos rfl,hZ])
        simp only[hZ] at CL;simp only[kr] at CL;clear CT hZ;obtain⟨Z1,Z2⟩:=ab;simp only at ap CL;by_cases c:Z2=0
        . subst c;have i:Hid (E=⟨Z1,d+L.length,0⟩):=gW (ap.o.trans (if_neg (by simp)))
          have a1:((d+L.length:Nat):Int)=(d:Int)+(L.length:Int):=by omega
          have bA:IntKind.i64.wrap ((d:Int)+(L.length:Int))=(d:Int)+(L.length:Int):=by have:=KN.o;exact iz (by omega) (by omega)
          clear ap;rcases aN with rfl|⟨ao,I⟩
          . gi_wp2_with (refine⟨trivial,rfl,?_⟩;refine CallsIn.mono (CallsIn.inRound l (dF.2 CL.o)) ?_;rintro _ f ⟨rfl,j,Y⟩;have M5:=gW Y;have A:=gW j;have J:=gW (j.same M.o (λe=>by have e:w.heap.size+1=w.heap.size+2:=e;omega));have K:=gW (j.same y.o (λe=>by have e:w.heap.size+4=w.heap.size+2:=e;omega));obtain⟨q0,q1,q2,q3,q4,q5,q6,q7,q8,q9⟩:=kE (j.same aC.o (λe=>by have e:W.heap.size=w.heap.size+2:=e;omega));have e5:f.cell? ⟨w.heap.size+1,0,none⟩=some (.int .i64 0):=(by rw[am _ _ _ _ _ _ J.o];rfl);have z5:=bq f (w.heap.size+1) 0 _ _ J.o;have y5:f.cell? ⟨w.heap.size+4,0,none⟩=some (.int .i64 ((d:Nat):Int)):=(by rw[am _ _ _ _ _ _ K.o];rfl);have u5:=bq f (w.heap.size+4) 0 _ _ K.o;clear j Y)
            have bK:=(But.refl F f).setCell (p:=⟨w.heap.size+4,0,none⟩) (λ_=>(C.o _).2 (.inr (.inr rfl))) (.int .i64 ((d:Int)+(L.length:Int)))
            have av:=(But.refl (λk=>k=w.heap.size+4) f).setCell (p:=⟨w.heap.size+4,0,none⟩) (λ_=>rfl) (.int .i64 ((d:Int)+(L.length:Int)))
            have xk:(f.setCell ⟨w.heap.size+4,0,none⟩ (.int .i64 ((d:Int)+(L.length:Int)))).heap[w.heap.size+4]?=some (.cells #[.int .i64 (((d+L.length:Nat):Nat):Int)] 3 (0,0)):=by
             rw[a1];exact aS f (w.heap.size+4) 0 _ _ (.int .i64 ((d:Int)+(L.length:Int))) K.o
            exact⟨F,((A.o.mono (T:=F) λk _ e=>(C.o k).2 (.inr (.inl e))).trans bK (λ_ _ e=>e)).ing,λk hk=>.inl hk,λ_=>by show decide (E.er≠0)=false;rw[i.o];rfl,C.o,aJ.o,by rw[i.o],by rw[i.o];exact M5.o.but av (λe=>by have e:w.heap.size+2=w.heap.size+4:=e;omega),av.same J.o (λe=>by have e:w.heap.size+1=w.heap.size+4:=e;omega),by rw[i.o];exact xk⟩
          . have bn:(g==root)=false:=by simp[ao]
            have aK:¬(L.length:Int)<4:=by omega
            gi_wp2_with (refine⟨trivial,rfl,?_⟩;refine CallsIn.mono (CallsIn.inRound l (dF.2 CL.o)) ?_;rintro _ f ⟨rfl,j,Y⟩;have M5:=gW Y;have A:=gW j;have J:=gW (j.same M.o (λe=>by have e:w.heap.size+1=w.heap.size+2:=e;omega));have K:=gW (j.same y.o (λe=>by have e:w.heap.size+4=w.heap.size+2:=e;omega));obtain⟨q0,q1,q2,q3,q4,q5,q6,q7,q8,q9⟩:=kE (j.same aC.o (λe=>by have e:W.heap.size=w.heap.size+2:=e;omega));have e5:f.cell? ⟨w.heap.size+1,0,none⟩=some (.int .i64 0):=(by rw[am _ _ _ _ _ _ J.o];rfl);have z5:=bq f (w.heap.size+1) 0 _ _ J.o;have y5:f.cell? ⟨w.heap.size+4,0,none⟩=some (.int .i64 ((d:Nat):Int)):=(by rw[am _ _ _ _ _ _ K.o];rfl);have u5:=bq f (w.heap.size+4) 0 _ _ K.o;clear j Y)
            have bK:=(But.refl F f).setCell (p:=⟨w.heap.size+4,0,none⟩) (λ_=>(C.o _).2 (.inr (.inr rfl))) (.int .i64 ((d:Int)+(L.length:Int)))
            have av:=(But.refl (λk=>k=w.heap.size+4) f).setCell (p:=⟨w.heap.size+4,0,none⟩) (λ_=>rfl) (.int .i64 ((d:Int)+(L.length:Int)))
            have xk:(f.setCell ⟨w.heap.size+4,0,none⟩ (.int .i64 ((d:Int)+(L.length:Int)))).heap[w.heap.size+4]?=some (.cells #[.int .i64 (((d+L.length:Nat):Nat):Int)] 3 (0,0)):=by
             rw[a1];exact aS f (w.heap.size+4) 0 _ _ (.int .i64 ((d:Int)+(L.length:Int))) K.o
            exact⟨F,((A.o.mono (T:=F) λk _ e=>(C.o k).2 (.inr (.inl e))).trans bK (λ_ _ e=>e)).ing,λk hk=>.inl hk,λ_=>by show decide (E.er≠0)=false;rw[i.o];rfl,C.o,aJ.o,by rw[i.o],by rw[i.o];exact M5.o.but av (λe=>by have e:w.heap.size+2=w.heap.size+4:=e;omega),av.same J.o (λe=>by have e:w.heap.size+1=w.heap.size+4:=e;omega),by rw[i.o];exact xk⟩
        . have i:Hid (E=⟨Z1,d,Z2⟩):=gW (ap.o.trans (if_pos c));have bE:((Z2:Int)==0)=false:=by simp[c]
          have bF:¬(Z2:Int)=0:=by omega
          clear ap;rcases aN with rfl|⟨ao,I⟩
          . gi_wp2_with (refine⟨trivial,rfl,?_⟩;refine CallsIn.mono (CallsIn.inRound l (dF.2 CL.o)) ?_;rintro _ f ⟨rfl,j,Y⟩;have M5:=gW Y;have A:=gW j;have J:=gW (j.same M.o (λe=>by have e:w.heap.size+1=w.heap.size+2:=e;omega));have K:=gW (j.same y.o (λe=>by have e:w.heap.size+4=w.heap.size+2:=e;omega));obtain⟨q0,q1,q2,q3,q4,q5,q6,q7,q8,q9⟩:=kE (j.same aC.o (λe=>by have e:W.heap.size=w.heap.size+2:=e;omega));have e5:f.cell? ⟨w.heap.size+1,0,none⟩=some (.int .i64 0):=(by rw[am _ _ _ _ _ _ J.o];rfl);have z5:=bq f (w.heap.size+1) 0 _ _ J.o;have y5:f.cell? ⟨w.heap.size+4,0,none⟩=some (.int .i64 ((d:Nat):Int)):=(by rw[am _ _ _ _ _ _ K.o];rfl);have u5:=bq f (w.heap.size+4) 0 _ _ K.o;clear j Y)
            exact⟨F,((A.o.mono (T:=F) λk _ e=>(C.o k).2 (.inr (.inl e))).trans ((But.refl F f).setCell (p:=⟨w.heap.size+1,0,none⟩) (λ_=>(C.o _).2 (.inl rfl)) _) (λ_ _ e=>e)).ing,λk hk=>.inl hk,by show decide (E.er≠0)=true;rw[i.o];simp[c],rfl,C.o,a6 ax (az A.o.size ((But.refl F f).setCell (p:=⟨w.heap.size+1,0,none⟩) (λ_=>(C.o _).2 (.inl rfl)) _).size),by rw[i.o];exact c,by rw[i.o];exact aS f (w.heap.size+1) 0 _ _ (.int .i64 (Z2:Int)) J.o⟩
          . have bn:(g==root)=false:=by simp[ao]
            have aK:¬(L.length:Int)<4:=by omega
            gi_wp2_with (refine⟨trivial,rfl,?_⟩;refine CallsIn.mono (CallsIn.inRound l (dF.2 CL.o)) ?_;rintro _ f ⟨rfl,j,Y⟩;have M5:=gW Y;have A:=gW j;have J:=gW (j.same M.o (λe=>by have e:w.heap.size+1=w.heap.size+2:=e;omega));have K:=gW (j.same y.o (λe=>by have e:w.heap.size+4=w.heap.size+2:=e;omega));obtain⟨q0,q1,q2,q3,q4,q5,q6,q7,q8,q9⟩:=kE (j.same aC.o (λe=>by have e:W.heap.size=w.heap.size+2:=e;omega));have e5:f.cell? ⟨w.heap.size+1,0,none⟩=some (.int .i64 0):=(by rw[am _ _ _ _ _ _ J.o];rfl);have z5:=bq f (w.heap.size+1) 0 _ _ J.o;have y5:f.cell? ⟨w.heap.size+4,0,none⟩=some (.int .i64 ((d:Nat):Int)):=(by rw[am _ _ _ _ _ _ K.o];rfl);have u5:=bq f (w.heap.size+4) 0 _ _ K.o;clear j Y)
            exact⟨F,((A.o.mono (T:=F) λk _ e=>(C.o k).2 (.inr (.inl e))).trans ((But.refl F f).setCell (p:=⟨w.heap.size+1,0,none⟩) (λ_=>(C.o _).2 (.inl rfl)) _) (λ_ _ e=>e)).ing,λk hk=>.inl hk,by show decide (E.er≠0)=true;rw[i.o];simp[c],rfl,C.o,a6 ax (az A.o.size ((But.refl F f).setCell (p:=⟨w.heap.size+1,0,none⟩) (λ_=>(C.o _).2 (.inl rfl)) _).size),by rw[i.o];exact c,by rw[i.o];exact aS f (w.heap.size+1) 0 _ _ (.int .i64 (Z2:Int)) J.o⟩
      . have i:Hid (E=⟨g::G,d,0⟩):=gW (by rw[CT.o,if_neg aO])
        have IM:=gW (show CkI w.heap.size rd F E m from⟨C.o,aJ.o,by rw[i.o],by rw[i.o];exact M4.o,M.o,by rw[i.o];exact y.o⟩)
        have bk:(X==1)=false:=by simp[aO]
        clear CT;rcases aN with rfl|⟨ao,I⟩
        . gi_wp2
          exact⟨F,(But.refl F _).ing,λk hk=>.inl hk,λ_=>by show decide (E.er≠0)=false;rw[i.o];rfl,IM.o⟩
        . have bn:(g==root)=false:=by simp[ao]
          have aK:¬(L.length:Int)<4:=by omega
          gi_wp2
          exact⟨F,(But.refl F _).ing,λk hk=>.inl hk,λ_=>by show decide (E.er≠0)=false;rw[i.o];rfl,IM.o⟩
  . have aV:E.er=15:=by
     rcases hM' with⟨rfl,_⟩|⟨n,rfl,_⟩<;>rfl
    simp only[jA];gi_wp2
    refine⟨al _ _,λm I r4 bm=>?_⟩
    have O:=al W (.cells #[.int .i64 0,.int .i64 0,.slice none 0 0,.slice none 0 0,.bool false,.int .i64 0,.int .i64 0,.slice none 0 0,.slice none 0 0,.int .i64 0] 151);have ay:=ah W (.cells #[.int .i64 0,.int .i64 0,.slice none 0 0,.slice none 0 0,.bool false,.int .i64 0,.int .i64 0,.slice none 0 0,.slice none 0 0,.int .i64 0] 151);have bp:=size_alloc W (.cells #[.int .i64 0,.int .i64 0,.slice none 0 0,.slice none 0 0,.bool false,.int .i64 0,.int .i64 0,.slice none 0 0,.slice none 0 0,.int .i64 0] 151);generalize W.alloc (.cells #[.int .i64 0,.int .i64 0,.slice none 0 0,.slice none 0 0,.bool false,.int .i64 0,.int .i64 0,.slice none 0 0,.slice none 0 0,.int .i64 0] 151)=aU at *;have M:=gW (I.same ((O.block _ (ae.1 EW.o).1).trans EW.o) (λe=>by have e:w.heap.size+1=l:=e;omega))
    have y:=gW (I.same ((O.block _ (ae.1 KW.o).1).trans KW.o) (λe=>by have e:w.heap.size+4=l:=e;omega))
    have ax:w.heap.size+4<m.heap.size:=(ae.1 y.o).1;have R:∀v:Value,But F m (m.setCell ⟨w.heap.size+1,0,none⟩ v):=λv=>(But.refl F m).setCell (p:=⟨w.heap.size+1,0,none⟩) (λ_=>(C.o _).2 (.inl rfl)) v
    have aR:∀v:Value,w.heap.size+4<(m.setCell ⟨w.heap.size+1,0,none⟩ v).heap.size:=λv=>a6 ax (R v).size
    have ag:=gW (λv:Value=>(show(m.setCell ⟨w.heap.size+1,0,none⟩ v).heap[w.heap.size+1]?=some (.cells #[v] 39 (0,0)) from aS m (w.heap.size+1) 0 _ _ v M.o))
    have BS:=gW R;have HS:=gW aR;have e0:m.cell? ⟨w.heap.size+1,0,none⟩=some (.int .i64 0):=by rw[am _ _ _ _ _ _ M.o];rfl
    have z0:=bq m (w.heap.size+1) 0 _ _ M.o;obtain⟨k0,k1,k2,k3,k4,k5,k6,k7,k8,k9⟩:=kE (I.same ay (λe=>by have e:W.heap.size=l:=e;omega))
    have aT:=gW aV;clear aV hM' hGv' aY aw aa;gi_wp2
    exact⟨F,(BS.o _).ing,λk hk=>.inl hk,by show decide (E.er≠0)=true;rw[aT.o];rfl,rfl,C.o,HS.o _,by rw[aT.o];decide,by rw[aT.o];exact ag.o _⟩
 case done=>
  rintro D F s W hD bc hI N hB hF aD;have N:s=kd rd ⟨root,H,P⟩:=N;have aA:Hid (ch=if ((s.ks:Nat):Int)≠P then 4 else 0):=gW (by rw[aI.o,<-N];exact if_neg (by rw[hI.er];simp))
  obtain⟨G,d,e0⟩:=s;have ba:=gW (hB.same T2.o (λe=>by rcases e with e|e|e<;>omega))
  obtain⟨t0,t1,t2⟩:=jq ba.o;have y0:W.cell? ⟨w.heap.size+4,0,none⟩=some (.int .i64 ((d:Nat):Int)):=by rw[am _ _ _ _ _ _ hI.k];rfl
  have e1:W.cell? ⟨w.heap.size+1,0,none⟩=some (.int .i64 0):=by rw[am _ _ _ _ _ _ hI.e];rfl
  have z1:=bq W (w.heap.size+1) 0 _ _ hI.e
  have ag:=gW (λv:Value=>(show(W.setCell ⟨w.heap.size+1,0,none⟩ v).cell? ⟨w.heap.size+1,0,none⟩=some v from by
   rw[am _ _ _ _ _ _ (aS W (w.heap.size+1) 0 _ _ v hI.e)];rfl))
  clear N hI;by_cases hi:((d:Nat):Int)=P
  . have ar:Hid (ch=0):=gW (aA.o.trans (if_neg (by simpa using hi)))
    subst hi;clear aA;go_wp2_with fail
    have R:=(But.refl (λk=>k=w.heap.size+1) W).setCell (p:=⟨w.heap.size+1,0,none⟩) (λ_=>rfl) (.int .i64 0)
    have cS:=ag.o (.int .i64 0);refine⟨by simp,.inl ⟨_,_,rfl,dc (R.same aD (λe=>by have e:D=w.heap.size+1:=e;omega)),?_⟩⟩
    have Z:=(But.refl (λk=>k=D) (W.setCell ⟨w.heap.size+1,0,none⟩ (.int .i64 0))).putObj (λ_=>rfl) (.deferred none)
    have V:=(Z.cell (p:=⟨w.heap.size+1,0,none⟩) (block_lt_of_cell cS) (λe=>by have e:w.heap.size+1=D:=e;omega)).trans cS
    refine⟨_,lu results36 _ _ (w.heap.size+1) _ rfl V (jm _ _ _ V),by rw[ar.o];rfl,?_⟩
    exact((((But.ofBelow (S:=λk=>w.heap.size<=k) aH.o).trans (hB.mono (T:=λk=>w.heap.size<=k) λk _ e=>by rcases e with e|e|e<;>omega) (λ_ _ e=>e)).trans (R.mono (T:=λk=>w.heap.size<=k) λk _ e=>by have e:k=w.heap.size+1:=e;omega) (λ_ _ e=>e)).trans (Z.mono (T:=λk=>w.heap.size<=k) λk _ e=>by have e:k=D:=e;omega) (λ_ _ e=>e)).below (λk hk e=>by omega)
  . have ar:Hid (ch=4):=gW (aA.o.trans (if_pos hi));have bi:(((d:Nat):Int)==P)=false:=by simp[hi]
    clear aA;go_wp2_with fail
    have R:=(But.refl (λk=>k=w.heap.size+1) W).setCell (p:=⟨w.heap.size+1,0,none⟩) (λ_=>rfl) (.int .i64 4)
    have cS:=ag.o (.int .i64 4);refine⟨by simp,.inl ⟨_,_,rfl,dc (R.same aD (λe=>by have e:D=w.heap.size+1:=e;omega)),?_⟩⟩
    have Z:=(But.refl (λk=>k=D) (W.setCell ⟨w.heap.size+1,0,none⟩ (.int .i64 4))).putObj (λ_=>rfl) (.deferred none)
    have V:=(Z.cell (p:=⟨w.heap.size+1,0,none⟩) (block_lt_of_cell cS) (λe=>by have e:w.heap.size+1=D:=e;omega)).trans cS
    refine⟨_,lu results36 _ _ (w.heap.size+1) _ rfl V (jm _ _ _ V),by rw[ar.o];rfl,?_⟩
    exact((((But.ofBelow (S:=λk=>w.heap.size<=k) aH.o).trans (hB.mono (T:=λk=>w.heap.size<=k) λk _ e=>by rcases e with e|e|e<;>omega) (λ_ _ e=>e)).trans (R.mono (T:=λk=>w.heap.size<=k) λk _ e=>by have e:k=w.heap.size+1:=e;omega) (λ_ _ e=>e)).trans (Z.mono (T:=λk=>w.heap.size<=k) λk _ e=>by have e:k=D:=e;omega) (λ_ _ e=>e)).below (λk hk e=>by omega)
 case stop=>
  rintro D af F s W hD bc ⟨rfl,aM⟩ N hB hF aD;have N:s=kd rd ⟨root,H,P⟩:=N;have ar:Hid (ch=s.er):=gW (by rw[aI.o,<-N];exact if_pos aM.er)
  have hE:=aM.e;clear N aM;gi_wp2
  refine⟨by simp,.inl ⟨_,_,rfl,dc aD,?_⟩⟩
  have Z:=(But.refl (λk=>k=D) W).putObj (λ_=>rfl) (.deferred none)
  have cS:W.cell? ⟨w.heap.size+1,0,none⟩=some (.int .i64 ((s.er:Nat):Int)):=by rw[am _ _ _ _ _ _ hE];rfl
  have V:=(Z.cell (p:=⟨w.heap.size+1,0,none⟩) (block_lt_of_cell cS) (λe=>by have e:w.heap.size+1=D:=e;omega)).trans cS
  refine⟨_,lu results36 _ _ (w.heap.size+1) _ rfl V (jm _ _ _ V),by rw[ar.o],?_⟩
  exact(((But.ofBelow (S:=λk=>w.heap.size<=k) aH.o).trans (hB.mono (T:=λk=>w.heap.size<=k) λk _ e=>by rcases e with e|e|e<;>omega) (λ_ _ e=>e)).trans (Z.mono (T:=λk=>w.heap.size<=k) λk _ e=>by have e:k=D:=e;omega) (λ_ _ e=>e)).below (λk hk e=>by omega)
end Go.Proofs.YteaogidofpfmmaaGreat
namespace Go.Proofs.YteaogidofpfmmaaGreat
open Go.Proofs.Tryz
open Go.RowKit
variable {z:Int}{G:List Int}{k l:List Nat}{cb gm ks n rb:Nat}{D:Rd}{w w':World}
theorem BI(w:World)(a:Option Addr)(n c:Nat)(l:List Nat)(f:n=l.length):
 Calls prog 96 #[.slice a n c] w λe w'=>e=.returned (.bool (isK l))/\w'=w:=by
 subst f;unfold isK;by_cases b:0<l.length
 . have g:(1:Int)<=(l.length:Int):=by omega
   by_cases d:l.length<=24
   . have h:(l.length:Int)<=24:=by omega
     rw[au b,au d];go_enter func96,ntmps96;go_wp2;go_ret;exact⟨by simp,rfl⟩
   . have h:¬(l.length:Int)<=24:=by omega
     rw[au b,ar d];go_enter func96,ntmps96;go_wp2;go_ret;exact⟨by simp,rfl⟩
 . have g:¬(1:Int)<=(l.length:Int):=by omega
   rw[ar b];go_enter func96,ntmps96;go_wp2;go_ret;exact⟨by simp,rfl⟩
theorem Cb(w:World)(r:Rv)(a:Option Addr)(n c:Nat)(k:List Nat)(m:Ri w r)(j:Bs w a k)(C:n=k.length):
 Calls prog 55 #[r.val,.slice a n c] w λe w'=>e=.returned (.bool (has r.rg k))/\Below w.heap.size w w':=by
 subst C;obtain⟨y,B,q,x,A,p,I⟩:=r;have f:=gW λb=>BI b a k.length c k rfl
 have i:=gW λb (hb:Below w.heap.size w b)=>jc b a y k.length q.length c B k q (j.keep hb) (m.bl.keep hb) rfl rfl
 have v:=gW λb (hb:Below w.heap.size w b)=>jc b a x k.length p.length c A k p (j.keep hb) (m.bh.keep hb) rfl rfl
 clear m j;unfold Rv.val Rv.cs has Rv.rg;dsimp only;generalize gX k q=J at *;generalize gX k p=L at *;cases hk:isK k with
 |false=>
  rw[hk] at f;clear hk;go_enter func55,ntmps55;go_wp2_with fail
  refine(f.o _).mono ?_;rintro e b ⟨rfl,d⟩;obtain rfl:=d.symm;go_wp2;go_ret;exact⟨by simp,al _ _⟩
 |true=>
  rw[hk] at f;clear hk;by_cases s:0<=J
  . cases I with
    |true=>
     go_enter func55,ntmps55;go_wp2_with fail
     refine(f.o _).mono ?_;rintro e b ⟨rfl,d⟩;obtain rfl:=d.symm;go_wp2_with fail
     refine(i.o _ (al _ _)).mono ?_;rintro e t ⟨rfl,hb⟩;have h:=(hb.block w.heap.size (by rw[size_alloc];omega)).trans (aZ _ _)
     obtain⟨E,F,H⟩:=ia h;have g:=gW (bt (al _ _) hb);clear hb h;go_wp2;go_ret;exact⟨by simp[s],g.o⟩
    |false=>
     go_enter func55,ntmps55;go_wp2_with fail
     refine(f.o _).mono ?_;rintro e b ⟨rfl,d⟩;obtain rfl:=d.symm;go_wp2_with fail
     refine(i.o _ (al _ _)).mono ?_;rintro e t ⟨rfl,hb⟩;have h:=(hb.block w.heap.size (by rw[size_alloc];omega)).trans (aZ _ _)
     obtain⟨E,F,H⟩:=ia h;have g:=gW (bt (al _ _) hb);clear hb h;go_wp2_with fail
     refine(v.o _ g.o).mono ?_;rintro e w3 ⟨rfl,hb⟩;have K:=gW (bt g.o hb);clear hb;go_wp2;go_ret;exact⟨by simp[s],K.o⟩
  . go_enter func55,ntmps55;go_wp2_with fail
    refine(f.o _).mono ?_;rintro e b ⟨rfl,d⟩;obtain rfl:=d.symm;go_wp2_with fail
    refine(i.o _ (al _ _)).mono ?_;rintro e t ⟨rfl,hb⟩;have g:=gW (bt (al _ _) hb);clear hb;go_wp2;go_ret;exact⟨by simp;omega,g.o⟩
theorem Fl(h:0<=gX l k):grt l k=l:=by unfold grt;rw[if_neg (by omega)]
theorem FG(h:¬0<=gX l k):grt l k=k:=by unfold grt;rw[if_pos (by omega)]
theorem Fx(h:gX l k<=0):lsr l k=l:=by
 unfold lsr;by_cases a:gX l k<0
 . rw[if_pos a]
 . rw[if_neg a];exact(sF.1 (by omega)).symm
theorem FD(h:¬gX l k<=0):lsr l k=k:=by unfold lsr;rw[if_neg (by omega)]
theorem tV(w:World)(a b:Option Addr)(n c m d:Nat)(l k:List Nat)(r:Bs w a l)(s:Bs w b k)(f:n=l.length)(C:m=k.length)(B:l.length<=140737488355328)(hk:k.length<=140737488355328):
 Calls prog 182 #[.slice a n c,.slice b m d] w λe w'=>∃v x,e=.returned (.slice v (grt l k).length x)/\Own w w' v x (grt l k):=by
 subst f C;have t:=gW (jc w a b l.length k.length c d l k r s rfl rfl);have y:=gW λg (hb:Below w.heap.size w g)=>i8 g a l.length c l (r.keep hb) rfl B
 have A:=gW λg (hb:Below w.heap.size w g)=>i8 g b k.length d k (s.keep hb) rfl hk
 clear r s;by_cases h:0<=gX l k
 . have i:=gW (Fl h);generalize gX l k=z at *;go_enter func182,ntmps182;go_wp2_with fail
   refine t.o.mono ?_;rintro e g ⟨rfl,hb⟩;have p:=gW hb;clear hb;go_wp2_with fail
   refine(y.o _ p.o).mono ?_;rintro e E ⟨q,c2,rfl,j,f,hb⟩;have O:=gW (Own.pre p.o ⟨j,f,hb⟩);clear j f hb;go_wp2;go_ret;exact⟨q,c2,by rw[i.o];rfl,by rw[i.o];exact O.o⟩
 . have i:=gW (FG h);generalize gX l k=z at *;go_enter func182,ntmps182;go_wp2_with fail
   refine t.o.mono ?_;rintro e g ⟨rfl,hb⟩;have p:=gW hb;clear hb;go_wp2_with fail
   refine(A.o _ p.o).mono ?_;rintro e E ⟨q,c2,rfl,j,f,hb⟩;have O:=gW (Own.pre p.o ⟨j,f,hb⟩);clear j f hb;go_wp2;go_ret;exact⟨q,c2,by rw[i.o];rfl,by rw[i.o];exact O.o⟩
theorem vY(w:World)(a b:Option Addr)(n c m d:Nat)(l k:List Nat)(r:Bs w a l)(s:Bs w b k)(f:n=l.length)(C:m=k.length)(B:l.length<=140737488355328)(hk:k.length<=140737488355328):
 Calls prog 183 #[.slice a n c,.slice b m d] w λe w'=>∃v x,e=.returned (.slice v (lsr l k).length x)/\Own w w' v x (lsr l k):=by
 subst f C;have t:=gW (jc w a b l.length k.length c d l k r s rfl rfl);have y:=gW λg (hb:Below w.heap.size w g)=>i8 g a l.length c l (r.keep hb) rfl B
 have A:=gW λg (hb:Below w.heap.size w g)=>i8 g b k.length d k (s.keep hb) rfl hk
 clear r s;by_cases h:gX l k<=0
 . have i:=gW (Fx h);generalize gX l k=z at *;go_enter func183,ntmps183;go_wp2_with fail
   refine t.o.mono ?_;rintro e g ⟨rfl,hb⟩;have p:=gW hb;clear hb;go_wp2_with fail
   refine(y.o _ p.o).mono ?_;rintro e E ⟨q,c2,rfl,j,f,hb⟩;have O:=gW (Own.pre p.o ⟨j,f,hb⟩);clear j f hb;go_wp2;go_ret;exact⟨q,c2,by rw[i.o];rfl,by rw[i.o];exact O.o⟩
 . have i:=gW (FD h);generalize gX l k=z at *;go_enter func183,ntmps183;go_wp2_with fail
   refine t.o.mono ?_;rintro e g ⟨rfl,hb⟩;have p:=gW hb;clear hb;go_wp2_with fail
   refine(A.o _ p.o).mono ?_;rintro e E ⟨q,c2,rfl,j,f,hb⟩;have O:=gW (Own.pre p.o ⟨j,f,hb⟩);clear j f hb;go_wp2;go_ret;exact⟨q,c2,by rw[i.o];rfl,by rw[i.o];exact O.o⟩
theorem sT(w:World)(r s:Rv)(B:Ri w r)(C:Ri w s)(S:Rb r)(T:Rb s):
 Calls prog 155 #[r.val,s.val] w λe w'=>∃q:Rv,e=.returned q.val/\Ro w w' q/\q.rg=js r.rg s.rg:=by
 refine ?h;have GL:=gW λa (hb:Below w.heap.size w a)=>tV a r.aL s.aL r.lo.length r.cL s.lo.length s.cL r.lo s.lo (B.bl.keep hb) (C.bl.keep hb) rfl rfl S.1 T.1
 have LH:=gW λa (hb:Below w.heap.size w a)=>vY a r.aH s.aH r.hi.length r.cH s.hi.length s.cH r.hi s.hi (B.bh.keep hb) (C.bh.keep hb) rfl rfl S.2 T.2
 have CR:=gW λa (hb:Below w.heap.size w a)=>i8 a r.aH r.hi.length r.cH r.hi (B.bh.keep hb) rfl S.2
 have CS:=gW λa (hb:Below w.heap.size w a)=>i8 a s.aH s.hi.length s.cH s.hi (C.bh.keep hb) rfl T.2
 have P:=gW (Ac B.bl.1 C.bl.1);have S8:=gW (zV B.bh.1 C.bh.1);have R8:=gW B.bh.1;have T8:=gW C.bh.1;clear B C S T;obtain⟨aL,cL,lo,aH,cH,hi,op⟩:=r;obtain⟨bL,dL,ko,bH,dH,ki,oq⟩:=s;unfold Rv.val;dsimp only[Rv.cs,Rv.rg,js] at *;generalize grt lo ko=g at *;generalize lsr hi ki=lw at *;go_enter func155,ntmps155;go_wp2_with fail
 refine(GL.o _ (bt (bt (al _ _) (al _ _)) (al _ _))).mono ?_;rintro e a ⟨J,c1,rfl,K⟩;obtain⟨m0,m1,m2,aa,ab⟩:=ml _ _ _ _ K.b;obtain⟨U,V,W⟩:=ia m0;obtain⟨X,Y,Z⟩:=ia m1;have R:=gW (Own.pre (bt (bt (al _ _) (al _ _)) (al _ _)) K);have i:Hid (∀x,J=some x->w.heap.size+3<=x.block/\x.block<a.heap.size):=λx b=>by have:=K.fresh b;rw[size_alloc,size_alloc,size_alloc] at this;exact⟨this,K.r.lt b⟩
 have H:Hid (∀o,(a.alloc o).heap[w.heap.size+1+1]?=some (.cells #[.slice none 0 0,.slice none 0 0,.bool false] 62 (0,0))):=λo=>((al a o).block _ (by omega)).trans m2
 have F:Hid (∀o,Below w.heap.size w (a.alloc o)):=λo=>bt aa (al _ _)
 have t:=gW ab;have ac:w.heap.size<a.heap.size:=by omega
 have ad:w.heap.size+1<a.heap.size:=by omega
 clear K m0 m1 m2 aa ab GL;cases op with
 |true=>
  cases oq with
  |true=>
   go_wp2_with (refine bz rfl 62 _ _ rfl (w.heap.size+1+1) _ rfl rfl 62 _ (H.o _) iF rfl (by simp[Value.oneCell']) ?_)
   refine aF (v:=.agg _) (dB results155 _ _ (w.heap.size+1+1) 62 _ (0,0) _ rfl (br _ _ _ _ _ _ (H.o _)) underlying62 rfl iF) rfl ?_;refine⟨⟨J,c1,g,none,0,[],true⟩,rfl,⟨(R.o.keep (al _ _)).setRow (by omega) (λx b e=>?_) _,Own.nil w (below_setRow (F.o _) (by omega) _),(λx y _ E=>by cases E),P.o,B8.nil⟩,by simp⟩
   have:=i.o x b;omega
  |false=>
   go_wp2_with fail
   refine(CS.o _ (F.o _)).mono ?_;rintro e m ⟨j,c2,rfl,O,N,M⟩;have c:Own _ m j c2 _:=⟨O,N,M⟩;clear O N M;have I:=gW (Own.pre (F.o _) c);have d:Hid (∀x,j=some x->a.heap.size+1<=x.block):=λx b=>by have:=c.fresh b;rw[size_alloc] at this;exact this
   have A:Hid (∀v,(m.setCell ⟨a.heap.size,1,none⟩ v).heap[w.heap.size+1+1]?=some (.cells #[.slice none 0 0,.slice none 0 0,.bool false] 62 (0,0))):=λv=>(Below.heap_setCell _ _ _ _ (by have:=t.o;show _≠a.heap.size;omega)).trans ((c.b.block _ (by rw[size_alloc];have:=t.o;omega)).trans (H.o _))
   have f:=(c.b.block a.heap.size (by rw[size_alloc];omega)).trans (aZ _ _)
   obtain⟨n0,n1,n2⟩:=ia f;have nf:=bq m a.heap.size 1 _ _ f;have L:=gW ((R.o.keep (al _ _)).keep c.b);clear c f U V W X Y Z;go_wp2_with (refine bz rfl 62 _ _ rfl (w.heap.size+1+1) _ rfl rfl 62 _ (A.o _) iF rfl (by simp[Value.oneCell']) ?_)
   refine aF (v:=.agg _) (dB results155 _ _ (w.heap.size+1+1) 62 _ (0,0) _ rfl (br _ _ _ _ _ _ (A.o _)) underlying62 rfl iF) rfl ?_;refine⟨⟨J,c1,g,j,c2,ki,false⟩,rfl,⟨(L.o.setCell (p:=⟨a.heap.size,1,none⟩) (by show _<=a.heap.size;omega) (λx b e=>?_) _).setRow (by omega) (λx b e=>?_) _,(I.o.setCell (p:=⟨a.heap.size,1,none⟩) (by show _<=a.heap.size;omega) (λx b e=>?_) _).setRow (by omega) (λx b e=>?_) _,λx y b E e=>?_,P.o,T8.o⟩,by simp⟩
   . have:=i.o x b;dsimp only at e;omega
   . have:=i.o x b;omega
   . have:=d.o x b;dsimp only at e;omega
   . have:=d.o x b;have:=t.o;omega
   . have:=i.o x b;have:=d.o y E;omega
 |false=>
  cases oq with
  |true=>
   go_wp2_with fail
   refine(CR.o _ (F.o _)).mono ?_;rintro e m ⟨j,c2,rfl,O,N,M⟩;have c:Own _ m j c2 _:=⟨O,N,M⟩;clear O N M;have I:=gW (Own.pre (F.o _) c);have d:Hid (∀x,j=some x->a.heap.size+1<=x.block):=λx b=>by have:=c.fresh b;rw[size_alloc] at this;exact this
   have A:Hid (∀v,(m.setCell ⟨a.heap.size,1,none⟩ v).heap[w.heap.size+1+1]?=some (.cells #[.slice none 0 0,.slice none 0 0,.bool false] 62 (0,0))):=λv=>(Below.heap_setCell _ _ _ _ (by have:=t.o;show _≠a.heap.size;omega)).trans ((c.b.block _ (by rw[size_alloc];have:=t.o;omega)).trans (H.o _))
   have f:=(c.b.block a.heap.size (by rw[size_alloc];omega)).trans (aZ _ _)
   obtain⟨n0,n1,n2⟩:=ia f;have nf:=bq m a.heap.size 1 _ _ f;have L:=gW ((R.o.keep (al _ _)).keep c.b);clear c f U V W X Y Z;go_wp2_with (refine bz rfl 62 _ _ rfl (w.heap.size+1+1) _ rfl rfl 62 _ (A.o _) iF rfl (by simp[Value.oneCell']) ?_)
   refine aF (v:=.agg _) (dB results155 _ _ (w.heap.size+1+1) 62 _ (0,0) _ rfl (br _ _ _ _ _ _ (A.o _)) underlying62 rfl iF) rfl ?_;refine⟨⟨J,c1,g,j,c2,hi,false⟩,rfl,⟨(L.o.setCell (p:=⟨a.heap.size,1,none⟩) (by show _<=a.heap.size;omega) (λx b e=>?_) _).setRow (by omega) (λx b e=>?_) _,(I.o.setCell (p:=⟨a.heap.size,1,none⟩) (by show _<=a.heap.size;omega) (λx b e=>?_) _).setRow (by omega) (λx b e=>?_) _,λx y b E e=>?_,P.o,R8.o⟩,by simp⟩
   . have:=i.o x b;dsimp only at e;omega
   . have:=i.o x b;omega
   . have:=d.o x b;dsimp only at e;omega
   . have:=d.o x b;have:=t.o;omega
   . have:=i.o x b;have:=d.o y E;omega
  |false=>
   go_wp2_with fail
   refine(LH.o _ (F.o _)).mono ?_;rintro e m ⟨j,c2,rfl,c⟩;have I:=gW (Own.pre (F.o _) c);have d:Hid (∀x,j=some x->a.heap.size+1<=x.block):=λx b=>by have:=c.fresh b;rw[size_alloc] at this;exact this
   have A:Hid (∀v,(m.setCell ⟨a.heap.size,1,none⟩ v).heap[w.heap.size+1+1]?=some (.cells #[.slice none 0 0,.slice none 0 0,.bool false] 62 (0,0))):=λv=>(Below.heap_setCell _ _ _ _ (by have:=t.o;show _≠a.heap.size;omega)).trans ((c.b.block _ (by rw[size_alloc];have:=t.o;omega)).trans (H.o _))
   have f:=(c.b.block a.heap.size (by rw[size_alloc];omega)).trans (aZ _ _)
   obtain⟨n0,n1,n2⟩:=ia f;have nf:=bq m a.heap.size 1 _ _ f;have L:=gW ((R.o.keep (al _ _)).keep c.b);clear c f U V W X Y Z;go_wp2_with (refine bz rfl 62 _ _ rfl (w.heap.size+1+1) _ rfl rfl 62 _ (A.o _) iF rfl (by simp[Value.oneCell']) ?_)
   refine aF (v:=.agg _) (dB results155 _ _ (w.heap.size+1+1) 62 _ (0,0) _ rfl (br _ _ _ _ _ _ (A.o _)) underlying62 rfl iF) rfl ?_;refine⟨⟨J,c1,g,j,c2,lw,false⟩,rfl,⟨(L.o.setCell (p:=⟨a.heap.size,1,none⟩) (by show _<=a.heap.size;omega) (λx b e=>?_) _).setRow (by omega) (λx b e=>?_) _,(I.o.setCell (p:=⟨a.heap.size,1,none⟩) (by show _<=a.heap.size;omega) (λx b e=>?_) _).setRow (by omega) (λx b e=>?_) _,λx y b E e=>?_,P.o,S8.o⟩,by simp⟩
   . have:=i.o x b;dsimp only at e;omega
   . have:=i.o x b;omega
   . have:=d.o x b;dsimp only at e;omega
   . have:=d.o x b;have:=t.o;omega
   . have:=i.o x b;have:=d.o y E;omega
def mG(n:Nat)(G:List Int):List Bool:=(List.range (n+1)).map λ(i:Nat)=>decide ((i:Int)∈G)
theorem Bj(n:Nat):mG n []=List.replicate (n+1) false:=by
 unfold mG;apply fK
 . simp
 . intro i a b;simp
theorem uS(n z:Nat)(G:List Int):(mG n G).set z true=mG n ((z:Int)::G):=by
 unfold mG;apply fK
 . simp
 . intro i a b;simp at a;rw[List.getElem_set];by_cases e:z=i
   . subst e;simp
   . have:¬(i:Int)=(z:Int):=by omega
     simp[e,this]
structure Ckm(w:World)(cb rb gm n:Nat)(G:List Int)(ks:Nat):Prop where
 box:w.heap[cb]?=some (.cells #[.pointer (some ⟨rb,0,none⟩),.slice (some ⟨gm,0,none⟩) (n+1) (n+1),.int .i64 ((ks:Nat):Int)] 138 (0,0))
 met:w.heap[gm]?=some (.cells (vbl (mG n G)).toArray 4 (0,0))
theorem Ckm.but{S:Nat->Prop}(h:Ckm w cb rb gm n G ks)(hb:But S w w')(a:¬S cb)(b:¬S gm):Ckm w' cb rb gm n G ks:=⟨hb.same h.box a,hb.same h.met b⟩
theorem Ckm.keep(h:Ckm w cb rb gm n G ks)(hb:Below w.heap.size w w'):Ckm w' cb rb gm n G ks:=h.but (S:=λ_=>False) (But.ofBelow hb) id id
theorem Ckm.ne(h:Ckm w cb rb gm n G ks):cb≠gm:=iP h.box h.met (by decide)
theorem Ckm.lb(h:Ckm w cb rb gm n G ks):cb<w.heap.size/\gm<w.heap.size:=⟨(ae.1 h.box).1,(ae.1 h.met).1⟩
theorem Ckm.cells(h:Ckm w cb rb gm n G ks):w.cell? ⟨cb,0,none⟩=some (.pointer (some ⟨rb,0,none⟩))/\w.cell? ⟨cb,1,none⟩=some (.slice (some ⟨gm,0,none⟩) (n+1) (n+1))/\w.cell? ⟨cb,2,none⟩=some (.int .i64 ((ks:Nat):Int)):=ia h.box
theorem Ckm.at(h:Ckm w cb rb gm n G ks){i:Nat}(hi:i<n+1):w.cell? ⟨gm,i,none⟩=some (.bool (decide ((i:Int)∈G)))/\w.frozen? ⟨gm,i,none⟩=false:=by
 refine⟨?_,by simp[World.frozen?,h.met]⟩
 rw[am _ _ _ _ _ _ h.met,fD];unfold vbl mG;simp[hi]
theorem Ckm.set(h:Ckm w cb rb gm n G ks)(z:Nat):Ckm (w.setCell ⟨gm,z,none⟩ (.bool true)) cb rb gm n ((z:Int)::G) ks:=by
 refine⟨(Below.heap_setCell _ _ _ _ h.ne).trans h.box,?_⟩;rw[aS _ _ _ _ _ _ h.met,<-uS];simp[vbl,fU]
theorem Ckm.more(h:Ckm w cb rb gm n G ks):Ckm (w.setCell ⟨cb,2,none⟩ (.int .i64 ((ks+1:Nat):Int))) cb rb gm n G (ks+1):=by
 refine⟨?_,(Below.heap_setCell _ _ _ _ h.ne.symm).trans h.met⟩;rw[aS _ _ _ _ _ _ h.box];simp
theorem Ckm.fz(h:Ckm w cb rb gm n G ks)(i:Nat):w.frozen? ⟨cb,i,none⟩=false:=by simp[World.frozen?,h.box]
def cko(cb gm k:Nat):Prop:=k=cb\/k=gm
theorem lh(h:0<D.count z):rdR D z=some (D.on z).pg:=by unfold rdR;rw[if_pos h]
theorem mo(h:¬0<D.count z):rdR D z=none:=by unfold rdR;rw[if_neg h]
theorem ju(h:0<D.count z):D.has z=true:=by
 unfold Rd.count at h;split at h
 . assumption
 . omega
def EntR(w w':World)(e:Ending)(cb rb gm:Nat)(D:Rd)(G:List Int)(ks:Nat)(n:Int)(N:Nat):Prop:=(e=.returned (.bool false)/\(¬0<D.count n\/n∈G)/\w'=w)\/(e=.returned (.bool true)/\0<D.count n/\n∉G/\But (λk=>k=gm) w w'/\Ckm w' cb rb gm N (n::G) ks)
theorem nO(w:World)(cb rb gm:Nat)(D:Rd)(q:Nat->Nat)(f:Rq w rb D q)(G:List Int)(ks:Nat)(d:Ckm w cb rb gm D.C.length G ks)(n:Int):
 Calls prog 113 #[.pointer (some ⟨cb,0,none⟩),.int .i64 n] w λe w'=>EntR w w' e cb rb gm D G ks n D.C.length:=by
 have c:=gW (lD w rb D q f n);obtain⟨c0,c1,c2⟩:=d.cells;have s:=gW d;have A:=f.n6;by_cases b:0<D.count n
 . rw[au b] at c;obtain⟨x,y⟩:=Rd.has_iff.1 (ju b);obtain⟨z,rfl⟩:∃z:Nat,n=(z:Int):=⟨n.toNat,by omega⟩
   have h:=gW b;obtain⟨j,v⟩:=d.at (i:=z) (by omega)
   clear d f b;generalize D.C.length=N at *;have B:(z:Int)<(N:Int)+1:=by omega
   have C:(0:Int)<=(z:Int):=by omega
   by_cases g:(z:Int)∈G
   . rw[au g] at j;go_enter func113,ntmps113;go_wp2_with fail
     refine c.o.mono ?_;rintro _ m ⟨rfl,a⟩;obtain rfl:=a.symm;clear a;go_wp2;go_ret;exact .inl ⟨rfl,.inr g,rfl⟩
   . rw[ar g] at j;have t:=gW (s.o.set z);have r:=gW ((But.refl (λk=>k=gm) w).setCell (p:=⟨gm,z,none⟩) (λ_=>rfl) (.bool true))
     go_enter func113,ntmps113;go_wp2_with fail
     refine c.o.mono ?_;rintro _ m ⟨rfl,a⟩;obtain rfl:=a.symm;clear a;go_wp2;go_ret;exact .inr ⟨rfl,h.o,g,r.o,t.o⟩
 . rw[ar b] at c;have h:=gW b;clear d f b;go_enter func113,ntmps113;go_wp2_with fail
   refine c.o.mono ?_;rintro _ m ⟨rfl,a⟩;obtain rfl:=a.symm;clear a;go_wp2;go_ret;exact .inl ⟨rfl,.inl (by have:=h.o;omega),rfl⟩
end Go.Proofs.YteaogidofpfmmaaGreat
