import Derived.Test.YteaogidofpfmmaaGreatWgB16
set_option linter.all false
set_option maxHeartbeats 8000000
set_option maxRecDepth 10000
namespace Go.Proofs.YteaogidofpfmmaaGreat
open Go.Proofs.Tryz
open Go.RowKit
variable {f:Int->Option Value}{L:List Iv}{c g j:Nat}{a:Option Addr}{p:Pg}{w w' wx:World}
theorem Mp.not_cell{b:Nat}(h:Mp w b f){o:Nat}{v:Value}(d:w.cell? ⟨b,o,none⟩=some v):False:=by
 obtain⟨i,k,e,_⟩:=h;rw[World.cell?,e] at d;simp at d
theorem Bs.mp{b:Nat}(h:Mp w b f){l:List Nat}(m:Bs w a l)(hb:But (λk=>k=b) w w'):Bs w' a l:=
 ⟨m.1,m.2.1,m.2.2.imp id (λ⟨c,o,e,n⟩=>⟨c,o,e,λi q=>by
   have k:=n i q;exact(hb.cell (block_lt_of_cell k) (λd=>by have d:c=b:=d;subst d;exact h.not_cell k)).trans k⟩)⟩
theorem Ii.mp{b:Nat}(h:Mp w b f){x:Iv}(d:Ii w x)(hb:But (λk=>k=b) w w'):Ii w' x:=⟨d.bk.mp h hb,d.ck,d.bv.mp h hb,d.cv,d.nc,d.ns⟩
theorem Js.mp{b:Nat}(h:Mp w b f)(i:Js w a L)(hb:But (λk=>k=b) w w'):Js w' a L:=
 ⟨λx q=>(i.1 x q).mp h hb,i.2.1,i.2.2.imp id (λ⟨c,o,e,l⟩=>⟨c,o,e,λr m j v n=>by
   have k:=l r m j v n;exact(hb.cell (block_lt_of_cell k) (λd=>by have d:c=b:=d;subst d;exact h.not_cell k)).trans k⟩)⟩
theorem Ri.mp{b:Nat}(h:Mp w b f){r:Rv}(d:Ri w r)(hb:But (λk=>k=b) w w'):Ri w' r:=⟨d.bl.mp h hb,d.cl,d.bh.mp h hb,d.ch⟩
theorem DT{rd:Int->Option Pg}{r:Rg}{G:List Int}(h:j<L.length):iM rd r ((L.drop j).map Iv.it) G=
 if has r (L.getD j Iv.zero).key=false then (G,11) else
 if (L.getD j Iv.zero).size<=32 then iM rd r ((L.drop (j+1)).map Iv.it) G else
 if (iE rd 8 G (L.getD j Iv.zero).child (L.getD j Iv.zero).size).2≠0 then iE rd 8 G (L.getD j Iv.zero).child (L.getD j Iv.zero).size else iM rd r ((L.drop (j+1)).map Iv.it) (iE rd 8 G (L.getD j Iv.zero).child (L.getD j Iv.zero).size).1:=by
 have e:L.getD j Iv.zero=L[j]:=by simp[h]
 rw[co h,bO,e];rfl
theorem rY(w:World)(J d b:Nat)(wf:Value)(o:Bool)(rd:Int->Option Pg)(hA:ix rd)(X:Nat->Prop)(G:List Int)(p:Plv)(q:Pv)(ai:Ri w p.r)(hJ:Js w q.aI q.items)(ak:∀x∈q.items,0<=x.size/\x.size<=3840)(hT:w.heap[J]?=some (.cells (oU b d wf o) 143 (0,0)))(F:Mp w d (gnf G))(hR:iZ 52 (.pointer (some ⟨b,0,none⟩)) rd X w)(hX:¬X d)(O:J≠d):
 Calls prog 72 #[.pointer (some ⟨J,0,none⟩),.agg (kr p q)] w λe w'=>e=.returned (.int .i64 (((iM rd p.r.rg (q.items.map Iv.it) G).2:Nat):Int))/\But (λk=>k=d) w w'/\Mp w' d (gnf (iM rd p.r.rg (q.items.map Iv.it) G).1):=by
 have D:=gW (al w (.cells (kr p q) 151));have h:=ah w (.cells (kr p q) 151);have Y:=gW (F.keep D.o);have HT:=gW ((But.ofBelow (S:=λk=>k=d) D.o).same hT O)
 have HR:=gW (hR.keep D.o);have HJ:=gW (hJ.keep D.o);have RI:=gW (ai.keep D.o);have SZ:=gW ak;obtain⟨no,lv,r⟩:=p;obtain⟨kind,aC,aI,cI,L,aD,cD,aA,next⟩:=q
 obtain⟨R,ac⟩:∃R,iM rd r.rg (L.map Iv.it) G=R:=⟨_,rfl⟩;have hn:L.length<=2199023255520:=hJ.2.1;simp only[ac];simp only[kr] at *;have RR:=gW ac;obtain⟨k0,k1,k2,k3,k4,k5,k6,k7,k8,k9⟩:=kE h;have aw:d<w.heap.size:=F.lt;clear hT F hR ac ai hJ ak;go_enter func72,ntmps72;go_wp2;generalize av:w.alloc _=w1 at *;have h:=gW (show w1.heap[w.heap.size]?=_ from h)
 have ax:d<w.heap.size:=aw;have am:=gW (But.ofBelow (S:=λk=>k=d) D.o)
 clear av k0 k1 k2 k3 k4 k5 k6 k7 k8 k9;go_loopw [12] (λq wr=>∃(j:Nat)(l:List Int),q=.int .i64 j/\j<=L.length/\But (λk=>k=d) w1 wr/\Mp wr d (gnf l)/\iM rd r.rg ((L.drop j).map Iv.it) l=R) (λq _=>L.length-(intOf q).toNat)
 case atStart=>exact⟨0,G,rfl,an _,But.refl _ _,Y.o,RR.o⟩
 case round=>
  obtain⟨j,l,rfl,hj,I,F,hc⟩:=hrel;have t:=gW I;have H:=gW F;have HC:=gW hc;have ag:=gW (I.same HT.o O);have af:=gW (HR.o.but I (λk e ae=>by have e:k=d:=e;rw[e] at ae;exact hX ae))
  obtain⟨k0,k1,k2,k3,k4,k5,k6,k7,k8,k9⟩:=kE (I.same h.o (λe=>by have e:w.heap.size=d:=e;omega))
  clear I F hc;by_cases aa:j<L.length
  . have aB:(j:Int)<(L.length:Int):=by omega
    obtain⟨b1,o1,rfl,cA⟩:=(HJ.o.mp Y.o t.o).at aa;have B:=gW ((DT aa).symm.trans HC.o);have v:=gW (λ(W:World)(hb:Below wr.heap.size wr W)=>rH W r (L.getD j Iv.zero).aK _ (L.getD j Iv.zero).cK (L.getD j Iv.zero).key ((RI.o.mp Y.o t.o).keep hb) ((((HJ.o.mp Y.o t.o).1 _ (ie aa)).bk).keep hb) rfl)
    have ab:=SZ.o _ (ie aa);clear HC;generalize L.getD j Iv.zero=x at *;obtain⟨aK,cK,V,aV,cV,val,child,s⟩:=x;simp only[Iv.cs] at *;obtain⟨i0,i1,i2,i3⟩:=yu cA;clear cA;have E:=gW (λ(W:World)(A:W.heap[J]?=some (.cells (oU b d wf o) 143 (0,0)))(h2:Mp W d (gnf l))(h3:iZ 52 (.pointer (some ⟨b,0,none⟩)) rd X W)=>qz W J d b wf o rd hA X l ⟨aK,cK,V,aV,cV,val,child,s⟩ ab.2 ab.1 A h2 h3 hX O)
    simp only at ab B v E;have m:=gW (al wr (.cells #[.slice aK V.length cK,.slice aV val.length cV,.int .i64 child,.int .i64 s] 89));have m2:=(m.o.cell (p:=⟨w.heap.size,2,none⟩) (block_lt_of_cell k2)).trans k2;have m3:=(m.o.cell (p:=⟨w.heap.size,3,none⟩) (block_lt_of_cell k3)).trans k3;have m4:=(m.o.cell (p:=⟨w.heap.size,4,none⟩) (block_lt_of_cell k4)).trans k4;have N1:=ah wr (.cells #[.slice aK V.length cK,.slice aV val.length cV,.int .i64 child,.int .i64 s] 89);have BE:=gW (am.o.trans t.o (λ_ _ e=>e))
    by_cases A:has r.rg V=false
    . have n:Hid ((l,11)=R):=(gW ((if_pos A).symm.trans B.o));rw[A] at v;clear B E;go_wp2_with (go_at_call 91;refine(v.o _ m.o).mono ?_;rintro y K ⟨rfl,hb⟩;have i:=gW (bt m.o hb);clear hb)
      go_ret;rw[<-n.o];exact⟨rfl,BE.o.andBelow i.o,H.o.keep i.o⟩
    . have ap:has r.rg V=true:=by simpa using A
      rw[ap] at v;by_cases h2:s<=32
      . have n:Hid (iM rd r.rg ((L.drop (j+1)).map Iv.it) l=R):=(gW (((if_neg A).trans (if_pos h2)).symm.trans B.o));clear B E;obtain⟨P,T,U,C⟩:=jp N1;go_wp2_with (go_at_call 91;refine(v.o _ m.o).mono ?_;rintro y K ⟨rfl,hb⟩;have i:=gW (bt m.o hb);have aj:=(hb.cell (p:=⟨wr.heap.size,3,none⟩) (block_lt_of_cell C)).trans C;clear hb)
        go_roundw
        case rel=>exact⟨j+1,l,by go_num,by omega,t.o.andBelow i.o,H.o.keep i.o,n.o⟩
        case measure=>simp[intOf];omega
      . have n:Hid ((if (iE rd 8 l child s).2≠0 then iE rd 8 l child s else iM rd r.rg ((L.drop (j+1)).map Iv.it) (iE rd 8 l child s).1)=R):=(gW (((if_neg A).trans (if_neg h2)).symm.trans B.o))
        clear B;obtain⟨P,T,U,C⟩:=jp N1;generalize iE rd 8 l child s=ao at *;obtain⟨Z1,Z⟩:=ao;simp only at n E;by_cases hz:Z=0
        . subst hz;have ad:Hid (iM rd r.rg ((L.drop (j+1)).map Iv.it) Z1=R):=gW ((if_neg (by simp)).symm.trans n.o)
          clear n;go_wp2_with (first|(go_at_call 91;refine(v.o _ m.o).mono ?_;rintro y K ⟨rfl,hb⟩;have i:=gW (bt m.o hb);have aq:=(hb.cell (p:=⟨wr.heap.size,0,none⟩) (block_lt_of_cell P)).trans P;have ar:=(hb.cell (p:=⟨wr.heap.size,1,none⟩) (block_lt_of_cell T)).trans T;have au:=(hb.cell (p:=⟨wr.heap.size,2,none⟩) (block_lt_of_cell U)).trans U;have aj:=(hb.cell (p:=⟨wr.heap.size,3,none⟩) (block_lt_of_cell C)).trans C;have C2:=gW (E.o K ((But.ofBelow (S:=λk=>k=d) i.o).same ag.o O) (H.o.keep i.o) (af.o.keep i.o));clear hb)|(go_at_call 120;refine C2.o.mono ?_;rintro y w3 ⟨rfl,N,M⟩;have B3:=gW N;have M3:=gW M;clear N M))
          go_roundw
          case rel=>exact⟨j+1,Z1,by go_num,by omega,(t.o.andBelow i.o).trans B3.o (λ_ _ e=>e),M3.o,ad.o⟩
          case measure=>simp[intOf];omega
        . have ad:Hid ((Z1,Z)=R):=gW ((if_pos hz).symm.trans n.o);clear n;have ay:((Z:Int)==0)=false:=by simp[hz]
          have az:¬(Z:Int)=0:=by omega
          go_wp2_with (first|(go_at_call 91;refine(v.o _ m.o).mono ?_;rintro y K ⟨rfl,hb⟩;have i:=gW (bt m.o hb);have aq:=(hb.cell (p:=⟨wr.heap.size,0,none⟩) (block_lt_of_cell P)).trans P;have ar:=(hb.cell (p:=⟨wr.heap.size,1,none⟩) (block_lt_of_cell T)).trans T;have au:=(hb.cell (p:=⟨wr.heap.size,2,none⟩) (block_lt_of_cell U)).trans U;have aj:=(hb.cell (p:=⟨wr.heap.size,3,none⟩) (block_lt_of_cell C)).trans C;have C2:=gW (E.o K ((But.ofBelow (S:=λk=>k=d) i.o).same ag.o O) (H.o.keep i.o) (af.o.keep i.o));clear hb)|(go_at_call 120;refine C2.o.mono ?_;rintro y w3 ⟨rfl,N,M⟩;have B3:=gW N;have M3:=gW M;clear N M))
          go_ret;rw[<-ad.o];exact⟨rfl,(BE.o.andBelow i.o).trans B3.o (λ_ _ e=>e),M3.o⟩
  . obtain rfl:j=L.length:=by omega
    have n:Hid ((l,0)=R):=by
     show _=_;rw[<-HC.o,fG];rfl
    go_wp2;go_ret;rw[<-n.o];exact⟨rfl,am.o.trans t.o (λ_ _ e=>e),H.o⟩
def lf(L:List Plv):List Value:=(L.map λp=>p.cs.toList).flatten
theorem zG(L:List Plv)(x:Plv):lf L++x.cs.toList=lf (L++[x]):=by simp[lf]
theorem vu:∀(L:List Plv)(i k:Nat)(x:Plv),L[i]?=some x->k<5->(lf L)[i*5+k]?=x.cs.toList[k]?
 | [],i,k,x,h,_=>by simp at h
 |y::L,0,k,x,h,hk=>by
  simp only[List.getElem?_cons_zero,ay] at h;subst h;simp only[lf,bO,eN,eX,b9];rw[cM (by simp[Plv.cs];omega)]
 |y::L,i+1,k,x,h,hk=>by
  simp only[em] at h;have:=vu L i k x h hk;simp only[lf,bO,eN] at this ⊢;rw[bP (by simp[Plv.cs];omega),<-this]
  congr 1
  simp[Plv.cs];omega
theorem wD:(prog.info? 148).map (λi=>(i.zero,i.size,i.bytes))=some (some (.agg #[.int .i64 0,.int .i64 0,.slice none 0 0,.slice none 0 0,.bool false]),5,72):=by kernel_rfl
theorem wS{W:World}{x:Plv}{t:TypeId}(h:W.heap[g]?=some (.cells x.cs t (0,0))):∀j u,x.cs.toList[j]?=some u->W.cell? ((⟨g,0,none⟩:Addr).add j)=some u:=by
 intro j u b;rw[Addr.add_mid,b9,am _ _ _ _ _ _ h,<-b];simp
theorem ww{x:Plv}:∀u∈x.cs.toList,u.oneCell'=true:=by
 intro u b;simp only[Plv.cs,bN,bX,fL] at b;rcases b with rfl|rfl|rfl|rfl|rfl<;>rfl
theorem Q.Gw.rrow{L:List Plv}(h:Q.Gw 148 5 w a c L.length (lf L)):jJ w a Plv.cs 5 L:=by
 rcases h.cases with⟨_,_,h0,_⟩|⟨g,cur,rfl,hg,h1,h2,h3,h4⟩
 . exact .inl (c7.1 h0)
 . refine .inr ⟨g,0,rfl,λi x d j v b=>?_⟩
   have k:i<L.length:=by rcases Nat.lt_or_ge i L.length with h|h;exact h;rw[dQ h] at d;cases d
   have e:j<5:=by rcases Nat.lt_or_ge j 5 with h|h;exact h;rw[dQ (by simp[Plv.cs];omega)] at b;cases b
   rw[b9,am _ _ _ _ _ _ hg,<-b,<-vu L i j x d e,<-h4,dJ,if_pos (by omega)]
   simp
structure Bn(w wx:World)(B:List Plx)(j:Nat)(a:Option Addr)(c:Nat)(L:List Plv):Prop where
 gw:Q.Gw 148 5 wx a c j (lf L)
 ln:L.length=j
 pl:L.map Plv.px=B.take j
 el:∀x∈L,Ro w wx x.r/\Rb x.r
 nw:∀x,a=some x->w.heap.size<=x.block
 b:Below w.heap.size w wx
theorem Bn.keep{d:World}{B:List Plx}{L:List Plv}(h:Bn w wx B j a c L)(hb:Below wx.heap.size wx d):Bn w d B j a c L:=
 ⟨h.gw.keep hb,h.ln,h.pl,λx b=>⟨(h.el x b).1.keep hb,(h.el x b).2⟩,h.nw,bt h.b hb⟩
theorem Bn.app{b:World}{B:List Plx}{L:List Plv}(h:Bn w wx B j a c L){x:Plv}(G:Ro w wx x.r)(H:Rb x.r)(F:B[j]?=some x.px){n:Nat}(A:Q.Gw 148 5 b (some ⟨g,0,none⟩) n (j+1) (lf L++x.cs.toList))(C:New wx a (some ⟨g,0,none⟩))(q:But (Q.InA a) wx b):Bn w b B (j+1) (some ⟨g,0,none⟩) n (L++[x]):=by
 have v:Below w.heap.size w b:=((But.ofBelow (S:=Q.InA a) h.b).trans q (λ_ _ e=>e)).below (λk hk ⟨y,hy,e⟩=>by have:=h.nw y hy;omega)
 have own:∀{i:Option Addr}{c2:Nat}{m:List Nat},Own w wx i c2 m->Own w b i c2 m:=λ{i c2 m} s=>s.but q v (λy hy ⟨z,l,e⟩=>by
  obtain⟨I,D⟩:=h.gw.blk l;rcases s.r.cases with⟨e1,_⟩|⟨g2,cur2,e1,hg2,_⟩
  . rw[e1] at hy;cases hy
  . rw[e1] at hy;cases hy;exact iP D hg2 (by decide) e)
 have t:∀{r:Rv},Ro w wx r->Ro w b r:=λd=>⟨own d.l,own d.h,d.apart,d.l8,d.h8⟩
 refine⟨by rw[<-zG];exact A,by rw[af,h.ln];rfl,?_,?_,?_,v⟩
 . rw[dd,h.pl,bO,dW];obtain⟨E,e⟩:=bE.1 F;rw[bY E,e]
 . intro y hy;rcases bG.1 hy with hy|hy
   . exact⟨t (h.el y hy).1,(h.el y hy).2⟩
   . rw[aM.1 hy];exact⟨t G,H⟩
 . intro y hy;rcases C y hy with⟨z,l,e⟩|h2
   . rw[<-e];exact h.nw z l
   . exact az h.b.size h2
theorem FZ{at_:Plx}(h:j<p.items.length):(ben at_ p)[j]?=some ⟨(p.at j).child,at_.lv-1,wth p j at_.keys⟩:=by
 unfold ben;rw[eK,List.getElem?_range h];rfl
theorem Bn.done{p:Plv}{q:Pv}{L:List Plv}(h:Bn w wx (ben p.px q.pg) q.items.length a c L):DN w wx (.returned (.slice a q.items.length c)) p q:=by
 have d:=h.ln;refine⟨a,c,L,by rw[d],?_,by have:=h.gw;rw[<-d] at this;exact this.rrow,λx b=>⟨h.nw x b,h.gw.lt b⟩,λx b=>⟨(h.el x b).1.ri,(h.el x b).2,λy hy=>?_⟩,h.b⟩
 . rw[h.pl,eW (by simp[ben,Pv.pg])]
 . rcases hy with hy|hy
   . exact⟨(h.el x b).1.l.fresh hy,(h.el x b).1.l.r.lt hy⟩
   . exact⟨(h.el x b).1.h.fresh hy,(h.el x b).1.h.r.lt hy⟩
theorem Bn.pre{d:World}{B:List Plx}{L:List Plv}(hb:Below w.heap.size w d)(h:Bn d wx B j a c L):Bn w wx B j a c L:=
 ⟨h.gw,h.ln,h.pl,λx b=>⟨(h.el x b).1.pre hb,(h.el x b).2⟩,λx b=>az hb.size (h.nw x b),bt hb h.b⟩
theorem Sound.key_len(h:Sound p)(hk:p.kind=2){i:Nat}(hi:i<p.items.length):(p.at i).key.length<=24:=by
 by_cases b:i=0
 . subst b;rw[h.key0 hk hi];exact an _
 . have:=h.keyK hi (.inr b);simp[isK] at this;omega
theorem ij{k:Nat}{x:Obj}(hb:Below w.heap.size w w')(h:w.heap[k]?=some x):w'.heap[k]?=some x:=(hb.block k (ae.1 h).1).trans h
theorem pk:rz:=by
 intro w p q aC aB aw aE hk aF aG;obtain⟨t0,t1,ag,_⟩:=iN w (.cells p.cs 148) (.cells q.cs 77) (Below.refl _ _);have A0:=gW ag;have HP:=gW (aw.keep ag);have HR:=gW (aC.keep ag);have aV:=gW (λ(wx:World)(a:Option Addr)(c:Nat)(L:List Plv)(af:Bn ((w.alloc (.cells p.cs 148)).alloc (.cells q.cs 77)) wx (ben p.px q.pg) q.items.length a c L)=>(af.pre ag).done)
 have BA:=gW (λ(j:Nat)(af:j<q.items.length)=>FZ (at_:=p.px) (p:=q.pg) (j:=j) (by simpa[Pv.pg] using af))
 have RB:=gW aB;have SN:=gW aE;have HK:=gW hk;obtain⟨no,d,r⟩:=p;obtain⟨kind,h,aI,I,L,X,Y,M,next⟩:=q
 have X0:=gW t0;have X1:=gW t1;have aF:1<=d:=aF;have aG:d<=11:=aG;have hn:L.length<=2199023255520:=aw.it.2.1;unfold Plv.vl Pv.vl;simp only[Plv.cs,Pv.cs] at *;clear aC aB aw aE hk t0 t1 ag;go_enter func119,ntmps119;go_wp2;generalize aL:(w.alloc _).alloc _=w1 at *;clear aL;have aY:L.length<=8:=(SN.o.node (.inr (show kind=2 from HK.o))).2.2.1|>λaf=>by simpa[Pv.pg] using af
 go_loopw [5,12] (λaH q wr=>∃(j:Nat)(a:Option Addr)(c:Nat)(aa:List Plv),aH=.slice a j c/\q=.int .i64 j/\j<=L.length/\Bn w1 wr (ben (⟨no,d,r⟩:Plv).px (⟨kind,h,aI,I,L,X,Y,M,next⟩:Pv).pg) j a c aa) (λ_ q _=>L.length-(intOf q).toNat)
 case atStart=>exact⟨0,none,0,[],rfl,rfl,an _,⟨Q.Gw.nil _ _ _,rfl,rfl,(λx hx=>by cases hx),(λx hx=>by cases hx),Below.refl _ _⟩⟩
 case round=>
  obtain⟨j,a,c,aa,rfl,rfl,hj,F⟩:=hrel;have l:=gW F;obtain⟨k0,k1,k2,k3,k4⟩:=iI (ij l.o.b X0.o);obtain⟨m0,m1,m2,m3,m4⟩:=iI (ij l.o.b X1.o);clear F;by_cases am:j<L.length
  . have a1:(j:Int)<(L.length:Int):=by omega
    obtain⟨n,t,rfl,cA⟩:=(HP.o.it.keep l.o.b).at am;obtain⟨d0,d1,d2,d3⟩:=iX cA;have XI:=gW (((HP.o.it.keep l.o.b).1 _ (ie am)));have BJ:=gW (BA.o j am);have ej:(⟨kind,h,some ⟨n,t,none⟩,I,L,X,Y,M,next⟩:Pv).pg.at j=(L.getD j Iv.zero).it:=iY L j
    have RW:=gW (HR.o.keep l.o.b);clear cA;by_cases ak:j+1<L.length
    . obtain⟨b2,o2,e2,cB⟩:=(HP.o.it.keep l.o.b).at ak;simp only[ay,Addr.mk.injEq] at e2;obtain⟨rfl,rfl,_⟩:=e2;obtain⟨f0,f1,f2,f3⟩:=iX cB;have YI:=gW (((HP.o.it.keep l.o.b).1 _ (ie ak)));have aA:(⟨kind,h,some ⟨n,t,none⟩,I,L,X,Y,M,next⟩:Pv).pg.at (j+1)=(L.getD (j+1) Iv.zero).it:=iY L (j+1)
      clear cB;have aW:(j:Int)+1<(L.length:Int):=by omega
      generalize L.getD j Iv.zero=x at *;generalize L.getD (j+1) Iv.zero=y at *;have N:=iN wr (.cells #[.slice x.aK x.key.length x.cK,.slice x.aV x.val.length x.cV,.int .i64 x.child,.int .i64 x.size] 89) (.cells #[.slice x.aK x.key.length x.cK,.slice none 0 0,.bool true] 62) (Below.refl _ _);have AV:=gW N.2.2.1;have av:=gW N.1;have ar:=gW N.2.1;obtain⟨p0,p1,p2,p3⟩:=jp N.1;obtain⟨q0,q1,q2⟩:=jq N.2.1;obtain⟨aM,aN,aO,aP,aQ⟩:=iI (ij AV.o (ij l.o.b X0.o));obtain⟨aR,aS,ap,aT,aU⟩:=iI (ij AV.o (ij l.o.b X1.o));have au:=(AV.o.cell (p:=⟨n,t+(j+1)*4,none⟩) (block_lt_of_cell f0)).trans f0;clear N f1 f2 f3;generalize hV:(wr.alloc (.cells #[.slice x.aK x.key.length x.cK,.slice x.aV x.val.length x.cV,.int .i64 x.child,.int .i64 x.size] 89)).alloc (.cells #[.slice x.aK x.key.length x.cK,.slice none 0 0,.bool true] 62)=V at *;go_wp2;have aX:(0:Int)<=(j:Int)+1:=by omega
      have a0:((j:Int)+1).toNat=j+1:=by omega
      have aJ:IntKind.i64.wrap ((j:Int)+1)=(j:Int)+1:=iz (by omega) (by omega)
      have DR:=gW (dr2 V);have H7:Hid ((λW=>W.cell? ⟨wr.heap.size,0,none⟩=some (.slice x.aK x.key.length x.cK)/\W.cell? ⟨w.heap.size+1,2,none⟩=some (.slice (some ⟨n,t,none⟩) L.length I)/\W.cell? ⟨n,t+(j+1)*4,none⟩=some (.slice y.aK y.key.length y.cK)) V.drew):=⟨(DR.o.cell (p:=⟨wr.heap.size,0,none⟩) (block_lt_of_cell p0)).trans p0,(DR.o.cell (p:=⟨w.heap.size+1,2,none⟩) (block_lt_of_cell ap)).trans ap,(DR.o.cell (p:=⟨n,t+(j+1)*4,none⟩) (block_lt_of_cell au)).trans au⟩
      refine bA (S:=λW=>W.cell? ⟨wr.heap.size,0,none⟩=some (.slice x.aK x.key.length x.cK)/\W.cell? ⟨w.heap.size+1,2,none⟩=some (.slice (some ⟨n,t,none⟩) L.length I)/\W.cell? ⟨n,t+(j+1)*4,none⟩=some (.slice y.aK y.key.length y.cK)) (by kernel_rfl) H7.o (λhHeld=>?_)
      refine tkd 0 1 2 3 ?_;refine tkd 4 5 6 7 ?_;refine tkb 8 9 ?_;refine tw 10 λKx R=>?_
      rw[if_pos (by rfl)]
      refine fF 62 _ _ rfl (wr.heap.size+1) #[.slice x.aK x.key.length x.cK,.slice y.aK y.key.length y.cK,.bool false] (by simp[Act.eval]) (by simp[Act.eval]) 62 _ (show V.drew.heap[wr.heap.size+1]?=_ from ar.o) iF rfl (by simp[Value.oneCell']) ?_
      have BS:=gW ((But.ofBelow (S:=λk=>k=wr.heap.size+1) DR.o).trans (Q.gZ V.drew (wr.heap.size+1) #[.slice x.aK x.key.length x.cK,.slice y.aK y.key.length y.cK,.bool false]) (λ_ _ e=>e))
      have az:Hid ((λW=>W.cell? ⟨wr.heap.size,0,none⟩=some (.slice x.aK x.key.length x.cK)/\W.cell? ⟨w.heap.size+1,2,none⟩=some (.slice (some ⟨n,t,none⟩) L.length I)/\W.cell? ⟨n,t+(j+1)*4,none⟩=some (.slice y.aK y.key.length y.cK)) (V.drew.setRow (wr.heap.size+1) #[.slice x.aK x.key.length x.cK,.slice y.aK y.key.length y.cK,.bool false])):=⟨(BS.o.cell (p:=⟨wr.heap.size,0,none⟩) (block_lt_of_cell p0) (λe=>by have e:wr.heap.size=wr.heap.size+1:=e;omega)).trans p0,(BS.o.cell (p:=⟨w.heap.size+1,2,none⟩) (block_lt_of_cell ap) (λe=>by have e:w.heap.size+1=wr.heap.size+1:=e;have:=block_lt_of_cell m2;omega)).trans ap,(BS.o.cell (p:=⟨n,t+(j+1)*4,none⟩) (block_lt_of_cell au) (λe=>by have e:n=wr.heap.size+1:=e;have:n<wr.heap.size:=block_lt_of_cell f0;omega)).trans au⟩
      refine R.o _ _ az.o (λhHeld=>?_)
      clear H7 az hHeld;refine td ?_;have Y0:=gW (BS.o.same av.o (λe=>by have e:wr.heap.size=wr.heap.size+1:=e;omega))
      have Y1:Hid ((V.drew.setRow (wr.heap.size+1) #[.slice x.aK x.key.length x.cK,.slice y.aK y.key.length y.cK,.bool false]).heap[wr.heap.size+1]?=some (.cells #[.slice x.aK x.key.length x.cK,.slice y.aK y.key.length y.cK,.bool false] 62 (0,0))):=br _ _ _ _ _ _ ar.o;have B8:=gW (((But.ofBelow (S:=λk=>k=wr.heap.size+1) AV.o).trans BS.o (λ_ _ e=>e)).below (λk hk e=>by have e:k=wr.heap.size+1:=e;omega))
      have SK:Hid (Ri (V.drew.setRow (wr.heap.size+1) #[.slice x.aK x.key.length x.cK,.slice y.aK y.key.length y.cK,.bool false]) ⟨x.aK,x.cK,x.key,y.aK,y.cK,y.key,false⟩):=⟨XI.o.bk.keep B8.o,XI.o.ck,YI.o.bk.keep B8.o,YI.o.ck⟩
      have EQ:Hid (wth (⟨kind,h,some ⟨n,t,none⟩,I,L,X,Y,M,next⟩:Pv).pg j r.rg=js r.rg (⟨x.aK,x.cK,x.key,y.aK,y.cK,y.key,false⟩:Rv).rg):=by
       show _=_;unfold wth;rw[ej,aA];have aq:j+1<(⟨kind,h,some ⟨n,t,none⟩,I,L,X,Y,M,next⟩:Pv).pg.items.length:=by simpa[Pv.pg] using ak
       rw[if_pos aq];simp only[aq,not_true_eq_false,decide_false];rfl
      have Z:Hid (Rb ⟨x.aK,x.cK,x.key,y.aK,y.cK,y.key,false⟩):=by
       have l1:=SN.o.key_len HK.o (i:=j) (by simpa[Pv.pg] using am)
       have l2:=SN.o.key_len HK.o (i:=j+1) (by simpa[Pv.pg] using ak)
       rw[ej] at l1;rw[aA] at l2;have l1:x.key.length<=24:=l1;have l2:y.key.length<=24:=l2;exact⟨show x.key.length<=_ by omega,show y.key.length<=_ by omega⟩
      obtain⟨b,ac⟩:∃b:Rv,b=⟨x.aK,x.cK,x.key,y.aK,y.cK,y.key,false⟩:=⟨_,rfl⟩;have aj:Hid ((V.drew.setRow (wr.heap.size+1) #[.slice x.aK x.key.length x.cK,.slice y.aK y.key.length y.cK,.bool false]).heap[wr.heap.size+1]?=some (.cells b.cs 62 (0,0))):=by rw[ac];exact Y1.o
      rw[<-ac] at SK Z EQ;clear Y1 ac;have Y1:=gW (show _=some (Obj.cells #[.slice b.aL b.lo.length b.cL,.slice b.aH b.hi.length b.cH,.bool b.op] 62 (0,0)) from aj.o)
      clear aj;generalize V.drew.setRow (wr.heap.size+1) #[.slice x.aK x.key.length x.cK,.slice y.aK y.key.length y.cK,.bool false]=O at *;go_wp2_with fail
      have SS:Hid (∀U:World,Below O.heap.size O U->U.cell? ⟨wr.heap.size,2,none⟩=some (.int .i64 x.child)/\U.cell? ⟨w.heap.size,1,none⟩=some (.int .i64 d)/\(U.cell? ⟨w.heap.size,2,none⟩=some (.slice r.aL r.lo.length r.cL)/\U.cell? ⟨w.heap.size,3,none⟩=some (.slice r.aH r.hi.length r.cH)/\U.cell? ⟨w.heap.size,4,none⟩=some (.bool r.op))/\U.cell? ⟨wr.heap.size+1,0,none⟩=some (.slice b.aL b.lo.length b.cL)/\U.cell? ⟨wr.heap.size+1,1,none⟩=some (.slice b.aH b.hi.length b.cH)/\U.cell? ⟨wr.heap.size+1,2,none⟩=some (.bool b.op)):=λU hb=>by
       obtain⟨_,_,z2,_⟩:=jp (ij hb Y0.o);obtain⟨_,z4,z5,z6,z7⟩:=iI (ij (bt (bt l.o.b B8.o) hb) X0.o);obtain⟨z8,z9,ad⟩:=jq (ij hb Y1.o);exact⟨z2,z4,⟨z5,z6,z7⟩,z8,z9,ad⟩
      have v:=gW (dr2 O);have MT:=gW (λ(U:World)(hb:Below O.heap.size O U)=>pR U r b (RW.o.keep (bt B8.o hb)) (SK.o.keep hb) RB.o Z.o)
      have aK:IntKind.i64.wrap (d-1)=d-1:=iz (by omega) (by omega)
      refine bA (S:=λW=>W.cell? ⟨wr.heap.size,2,none⟩=some (.int .i64 x.child)/\W.cell? ⟨w.heap.size,1,none⟩=some (.int .i64 d)/\(W.cell? ⟨w.heap.size,2,none⟩=some (.slice r.aL r.lo.length r.cL)/\W.cell? ⟨w.heap.size,3,none⟩=some (.slice r.aH r.hi.length r.cH)/\W.cell? ⟨w.heap.size,4,none⟩=some (.bool r.op))/\W.cell? ⟨wr.heap.size+1,0,none⟩=some (.slice b.aL b.lo.length b.cL)/\W.cell? ⟨wr.heap.size+1,1,none⟩=some (.slice b.aH b.hi.length b.cH)/\W.cell? ⟨wr.heap.size+1,2,none⟩=some (.bool b.op)) (by kernel_rfl) (SS.o _ v.o) (λhHeld=>?_)
      refine tkd 0 1 2 3 ?_;refine tkd 4 5 6 7 ?_;refine tk 8 ?_;refine tw 9 λKx R=>?_
      go_simp;refine(MT.o _ v.o).mono ?_;rintro e T ⟨⟨B,D,s,A,C,m,E⟩,rfl,ab,ao⟩;have K:=gW (bt v.o ab.l.b);have RO:=gW (ab.pre v.o);have RG:=gW ao;have J:=gW (al T (.cells (⟨x.child,d-1,⟨B,D,s,A,C,m,E⟩⟩:Plv).cs 148));have X3:=gW (aZ T (.cells (⟨x.child,d-1,⟨B,D,s,A,C,m,E⟩⟩:Plv).cs 148))
      have PX:Hid ((ben (⟨no,d,r⟩:Plv).px (⟨kind,h,some ⟨n,t,none⟩,I,L,X,Y,M,next⟩:Pv).pg)[j]?=some (⟨x.child,d-1,⟨B,D,s,A,C,m,E⟩⟩:Plv).px):=by
       show _=_;rw[BJ.o,ej];show some (Plx.mk _ _ (wth _ j r.rg))=_;rw[EQ.o,<-RG.o];rfl
      have XB:Hid (Rb (⟨B,D,s,A,C,m,E⟩:Rv)):=by
       have e:=RG.o;have e1:s=(js r.rg b.rg).lo:=by rw[<-e];rfl
       have e2:m=(js r.rg b.rg).hi:=by rw[<-e];rfl
       exact⟨by rw[e1];exact oQ RB.o.1 Z.o.1,by
        show m.length<=_;rw[e2];unfold js;dsimp only;split<;>split
        . exact an _
        . exact Z.o.2
        . exact RB.o.2
        . exact oY RB.o.2 Z.o.2⟩
      clear ab ao;simp only[Rv.val,Rv.cs];refine R.o _ _ (SS.o _ K.o) (λhHeld=>?_)
      refine tk 10 ?_;refine tw 11 λKx R=>?_
      go_simp;refine R.o _ _ (SS.o _ (bt K.o J.o)) (λhHeld=>?_)
      try simp only[pt]
      have R3:=gW ((RO.o.pre B8.o).keep J.o);have BN:=gW (l.o.keep (bt (bt B8.o K.o) J.o))
      have ah:Hid (∀(H P:Nat)(G:World),Q.Gw 148 5 G (some ⟨H,0,none⟩) P (j+1) (lf aa++(⟨x.child,d-1,⟨B,D,s,A,C,m,E⟩⟩:Plv).cs.toList)->New (T.alloc (.cells (⟨x.child,d-1,⟨B,D,s,A,C,m,E⟩⟩:Plv).cs 148)) a (some ⟨H,0,none⟩)->But (Q.InA a) (T.alloc (.cells (⟨x.child,d-1,⟨B,D,s,A,C,m,E⟩⟩:Plv).cs 148)) G->(∀U,U=G->(U.cell? ⟨wr.heap.size,2,none⟩=some (.int .i64 x.child)/\U.cell? ⟨w.heap.size,1,none⟩=some (.int .i64 d)/\(U.cell? ⟨w.heap.size,2,none⟩=some (.slice r.aL r.lo.length r.cL)/\U.cell? ⟨w.heap.size,3,none⟩=some (.slice r.aH r.hi.length r.cH)/\U.cell? ⟨w.heap.size,4,none⟩=some (.bool r.op))/\U.cell? ⟨wr.heap.size+1,0,none⟩=some (.slice b.aL b.lo.length b.cL)/\U.cell? ⟨wr.heap.size+1,1,none⟩=some (.slice b.aH b.hi.length b.cH)/\U.cell? ⟨wr.heap.size+1,2,none⟩=some (.bool b.op)))/\Bn w1 G (ben (⟨no,d,r⟩:Plv).px (⟨kind,h,some ⟨n,t,none⟩,I,L,X,Y,M,next⟩:Pv).pg) (j+1) (some ⟨H,0,none⟩) P (aa++[⟨x.child,d-1,⟨B,D,s,A,C,m,E⟩⟩])):=λH P G hG hN F=>by
       refine⟨λU hU=>?_,BN.o.app (R3.o.pre l.o.b) XB.o PX.o hG hN F⟩
       subst hU;have nl:∀k,wr.heap.size<=k->¬Q.InA a k:=λk hk ⟨y,hy,e⟩=>by have:=l.o.gw.lt hy;omega
       have nw:¬Q.InA a w.heap.size:=λ⟨y,hy,e⟩=>by have:=l.o.nw y hy;have:=(ae.1 X0.o).1;omega
       obtain⟨_,_,z2,_⟩:=jp (F.same (ij (bt K.o J.o) Y0.o) (nl _ (ai _)));obtain⟨_,z4,z5,z6,z7⟩:=iI (F.same (ij (bt (bt l.o.b B8.o) (bt K.o J.o)) X0.o) nw);obtain⟨z8,z9,ad⟩:=jq (F.same (ij (bt K.o J.o) Y1.o) (nl _ (by omega)))
       exact⟨z2,z4,⟨z5,z6,z7⟩,z8,z9,ad⟩
      have ax:j+1<=maxLen:=by unfold maxLen;omega
      refine tw 12 λKx R=>?_
      refine mV underlying203 wD rfl (by decide) rfl _ _ rfl a j c (lf aa) (by first|(simp[Act.eval];done)|simp[Act.eval,Act.put]) BN.o.gw ⟨T.heap.size,0,none⟩ 1 (⟨x.child,d-1,⟨B,D,s,A,C,m,E⟩⟩:Plv).cs.toList (by first|(simp[Act.eval];done)|simp[Act.eval,Act.put]) rfl (wS X3.o) ww ax (by omega) ?_
      intro H P G hG hN F;obtain⟨h5,r5⟩:=ah.o H P G hG hN F;have R5:=gW r5;have h5:=h5 G rfl;clear hG hN F r5 ah;refine R.o _ _ h5 (λhHeld=>?_)
      clear h5;refine tk 13 ?_;refine td ?_;clear hHeld SS;go_wp2_with fail
      go_roundw
      case rel=>exact⟨j+1,some ⟨H,0,none⟩,P,_,rfl,by go_num,by omega,R5.o⟩
      case measure=>simp[intOf];omega
    . have aW:¬(j:Int)+1<(L.length:Int):=by omega
      generalize L.getD j Iv.zero=x at *;have N:=iN wr (.cells #[.slice x.aK x.key.length x.cK,.slice x.aV x.val.length x.cV,.int .i64 x.child,.int .i64 x.size] 89) (.cells #[.slice x.aK x.key.length x.cK,.slice none 0 0,.bool true] 62) (Below.refl _ _);have AV:=gW N.2.2.1;have av:=gW N.1;have ar:=gW N.2.1;obtain⟨p0,p1,p2,p3⟩:=jp N.1;obtain⟨q0,q1,q2⟩:=jq N.2.1;obtain⟨aM,aN,aO,aP,aQ⟩:=iI (ij AV.o (ij l.o.b X0.o));obtain⟨aR,aS,ap,aT,aU⟩:=iI (ij AV.o (ij l.o.b X1.o));clear N;generalize hV:(wr.alloc (.cells #[.slice x.aK x.key.length x.cK,.slice x.aV x.val.length x.cV,.int .i64 x.child,.int .i64 x.size] 89)).alloc (.cells #[.slice x.aK x.key.length x.cK,.slice none 0 0,.bool true] 62)=O at *;have aJ:IntKind.i64.wrap ((j:Int)+1)=(j:Int)+1:=iz (by omega) (by omega)
      have Y0:=av;have B8:=AV;have SK:Hid (Ri O ⟨x.aK,x.cK,x.key,none,0,[],true⟩):=⟨XI.o.bk.keep B8.o,XI.o.ck,⟨(λx hx=>by cases hx),an _,.inl rfl⟩,ai _⟩
      have EQ:Hid (wth (⟨kind,h,some ⟨n,t,none⟩,I,L,X,Y,M,next⟩:Pv).pg j r.rg=js r.rg (⟨x.aK,x.cK,x.key,none,0,[],true⟩:Rv).rg):=by
       show _=_;unfold wth;rw[ej];have aq:¬j+1<(⟨kind,h,some ⟨n,t,none⟩,I,L,X,Y,M,next⟩:Pv).pg.items.length:=by simpa[Pv.pg] using ak
       rw[if_neg aq];simp only[aq,not_false_eq_true,decide_true];rfl
      have Z:Hid (Rb ⟨x.aK,x.cK,x.key,none,0,[],true⟩):=by
       have l1:=SN.o.key_len HK.o (i:=j) (by simpa[Pv.pg] using am)
       rw[ej] at l1;have l1:x.key.length<=24:=l1;exact⟨show x.key.length<=_ by omega,an _⟩
      obtain⟨b,ac⟩:∃b:Rv,b=⟨x.aK,x.cK,x.key,none,0,[],true⟩:=⟨_,rfl⟩;have aj:Hid (O.heap[wr.heap.size+1]?=some (.cells b.cs 62 (0,0))):=by rw[ac];exact ar.o
      rw[<-ac] at SK Z EQ;have Y1:=gW (show _=some (Obj.cells #[.slice b.aL b.lo.length b.cL,.slice b.aH b.hi.length b.cH,.bool b.op] 62 (0,0)) from aj.o)
      go_wp2;clear aj ac
      have SS:Hid (∀U:World,Below O.heap.size O U->U.cell? ⟨wr.heap.size,2,none⟩=some (.int .i64 x.child)/\U.cell? ⟨w.heap.size,1,none⟩=some (.int .i64 d)/\(U.cell? ⟨w.heap.size,2,none⟩=some (.slice r.aL r.lo.length r.cL)/\U.cell? ⟨w.heap.size,3,none⟩=some (.slice r.aH r.hi.length r.cH)/\U.cell? ⟨w.heap.size,4,none⟩=some (.bool r.op))/\U.cell? ⟨wr.heap.size+1,0,none⟩=some (.slice b.aL b.lo.length b.cL)/\U.cell? ⟨wr.heap.size+1,1,none⟩=some (.slice b.aH b.hi.length b.cH)/\U.cell? ⟨wr.heap.size+1,2,none⟩=some (.bool b.op)):=λU hb=>by
       obtain⟨_,_,z2,_⟩:=jp (ij hb Y0.o);obtain⟨_,z4,z5,z6,z7⟩:=iI (ij (bt (bt l.o.b B8.o) hb) X0.o);obtain⟨z8,z9,ad⟩:=jq (ij hb Y1.o);exact⟨z2,z4,⟨z5,z6,z7⟩,z8,z9,ad⟩
      have v:=gW (dr2 O);have MT:=gW (λ(U:World)(hb:Below O.heap.size O U)=>pR U r b (RW.o.keep (bt B8.o hb)) (SK.o.keep hb) RB.o Z.o)
      have aK:IntKind.i64.wrap (d-1)=d-1:=iz (by omega) (by omega)
      refine bA (S:=λW=>W.cell? ⟨wr.heap.size,2,none⟩=some (.int .i64 x.child)/\W.cell? ⟨w.heap.size,1,none⟩=some (.int .i64 d)/\(W.cell? ⟨w.heap.size,2,none⟩=some (.slice r.aL r.lo.length r.cL)/\W.cell? ⟨w.heap.size,3,none⟩=some (.slice r.aH r.hi.length r.cH)/\W.cell? ⟨w.heap.size,4,none⟩=some (.bool r.op))/\W.cell? ⟨wr.heap.size+1,0,none⟩=some (.slice b.aL b.lo.length b.cL)/\W.cell? ⟨wr.heap.size+1,1,none⟩=some (.slice b.aH b.hi.length b.cH)/\W.cell? ⟨wr.heap.size+1,2,none⟩=some (.bool b.op)) (by kernel_rfl) (SS.o _ v.o) (λhHeld=>?_)
      refine tkd 0 1 2 3 ?_;refine tkd 4 5 6 7 ?_;refine tk 8 ?_;refine tw 9 λKx R=>?_
      go_simp;refine(MT.o _ v.o).mono ?_;rintro e T ⟨⟨B,D,s,A,C,m,E⟩,rfl,ab,ao⟩;have K:=gW (bt v.o ab.l.b);have RO:=gW (ab.pre v.o);have RG:=gW ao;have J:=gW (al T (.cells (⟨x.child,d-1,⟨B,D,s,A,C,m,E⟩⟩:Plv).cs 148));have X3:=gW (aZ T (.cells (⟨x.child,d-1,⟨B,D,s,A,C,m,E⟩⟩:Plv).cs 148))
      have PX:Hid ((ben (⟨no,d,r⟩:Plv).px (⟨kind,h,some ⟨n,t,none⟩,I,L,X,Y,M,next⟩:Pv).pg)[j]?=some (⟨x.child,d-1,⟨B,D,s,A,C,m,E⟩⟩:Plv).px):=by
       show _=_;rw[BJ.o,ej];show some (Plx.mk _ _ (wth _ j r.rg))=_;rw[EQ.o,<-RG.o];rfl
      have XB:Hid (Rb (⟨B,D,s,A,C,m,E⟩:Rv)):=by
       have e:=RG.o;have e1:s=(js r.rg b.rg).lo:=by rw[<-e];rfl
       have e2:m=(js r.rg b.rg).hi:=by rw[<-e];rfl
       exact⟨by rw[e1];exact oQ RB.o.1 Z.o.1,by
        show m.length<=_;rw[e2];unfold js;dsimp only;split<;>split
        . exact an _
        . exact Z.o.2
        . exact RB.o.2
        . exact oY RB.o.2 Z.o.2⟩
      clear ab ao;simp only[Rv.val,Rv.cs];refine R.o _ _ (SS.o _ K.o) (λhHeld=>?_)
      refine tk 10 ?_;refine tw 11 λKx R=>?_
      go_simp;refine R.o _ _ (SS.o _ (bt K.o J.o)) (λhHeld=>?_)
      try simp only[pt]
      have R3:=gW ((RO.o.pre B8.o).keep J.o);have BN:=gW (l.o.keep (bt (bt B8.o K.o) J.o))
      have ah:Hid (∀(H P:Nat)(G:World),Q.Gw 148 5 G (some ⟨H,0,none⟩) P (j+1) (lf aa++(⟨x.child,d-1,⟨B,D,s,A,C,m,E⟩⟩:Plv).cs.toList)->New (T.alloc (.cells (⟨x.child,d-1,⟨B,D,s,A,C,m,E⟩⟩:Plv).cs 148)) a (some ⟨H,0,none⟩)->But (Q.InA a) (T.alloc (.cells (⟨x.child,d-1,⟨B,D,s,A,C,m,E⟩⟩:Plv).cs 148)) G->(∀U,U=G->(U.cell? ⟨wr.heap.size,2,none⟩=some (.int .i64 x.child)/\U.cell? ⟨w.heap.size,1,none⟩=some (.int .i64 d)/\(U.cell? ⟨w.heap.size,2,none⟩=some (.slice r.aL r.lo.length r.cL)/\U.cell? ⟨w.heap.size,3,none⟩=some (.slice r.aH r.hi.length r.cH)/\U.cell? ⟨w.heap.size,4,none⟩=some (.bool r.op))/\U.cell? ⟨wr.heap.size+1,0,none⟩=some (.slice b.aL b.lo.length b.cL)/\U.cell? ⟨wr.heap.size+1,1,none⟩=some (.slice b.aH b.hi.length b.cH)/\U.cell? ⟨wr.heap.size+1,2,none⟩=some (.bool b.op)))/\Bn w1 G (ben (⟨no,d,r⟩:Plv).px (⟨kind,h,some ⟨n,t,none⟩,I,L,X,Y,M,next⟩:Pv).pg) (j+1) (some ⟨H,0,none⟩) P (aa++[⟨x.child,d-1,⟨B,D,s,A,C,m,E⟩⟩])):=λH P G hG hN F=>by
       refine⟨λU hU=>?_,BN.o.app (R3.o.pre l.o.b) XB.o PX.o hG hN F⟩
       subst hU;have nl:∀k,wr.heap.size<=k->¬Q.InA a k:=λk hk ⟨y,hy,e⟩=>by have:=l.o.gw.lt hy;omega
       have nw:¬Q.InA a w.heap.size:=λ⟨y,hy,e⟩=>by have:=l.o.nw y hy;have:=(ae.1 X0.o).1;omega
       obtain⟨_,_,z2,_⟩:=jp (F.same (ij (bt K.o J.o) Y0.o) (nl _ (ai _)));obtain⟨_,z4,z5,z6,z7⟩:=iI (F.same (ij (bt (bt l.o.b B8.o) (bt K.o J.o)) X0.o) nw);obtain⟨z8,z9,ad⟩:=jq (F.same (ij (bt K.o J.o) Y1.o) (nl _ (by omega)))
       exact⟨z2,z4,⟨z5,z6,z7⟩,z8,z9,ad⟩
      have ax:j+1<=maxLen:=by unfold maxLen;omega
      refine tw 12 λKx R=>?_
      refine mV underlying203 wD rfl (by decide) rfl _ _ rfl a j c (lf aa) (by first|(simp[Act.eval];done)|simp[Act.eval,Act.put]) BN.o.gw ⟨T.heap.size,0,none⟩ 1 (⟨x.child,d-1,⟨B,D,s,A,C,m,E⟩⟩:Plv).cs.toList (by first|(simp[Act.eval];done)|simp[Act.eval,Act.put]) rfl (wS X3.o) ww ax (by omega) ?_
      intro H P G hG hN F;obtain⟨h5,r5⟩:=ah.o H P G hG hN F;have R5:=gW r5;have h5:=h5 G rfl;clear hG hN F r5 ah;refine R.o _ _ h5 (λhHeld=>?_)
      clear h5;refine tk 13 ?_;refine td ?_;clear hHeld SS;go_wp2_with fail
      go_roundw
      case rel=>exact⟨j+1,some ⟨H,0,none⟩,P,_,rfl,by go_num,by omega,R5.o⟩
      case measure=>simp[intOf];omega
  . obtain rfl:j=L.length:=by omega
    go_wp2;go_ret;exact aV.o _ _ _ _ l.o
theorem lu{b:Func}{p:Tmp}{d:TypeId}(h:b.results=#[.cell p d])(tmps:Array Value)(w:World)(g:Nat)(v:Value)
 (i:tmps.getD p undef=.pointer (some ⟨g,0,none⟩)) (l:w.cell? ⟨g,0,none⟩=some v) (e:(loadVar d ⟨g,0,none⟩).run prog w=.ok v w):
 (results b tmps).run prog w=.ok v w:=by
 have k:tmps[p]?.getD undef=.pointer (some ⟨g,0,none⟩):=by simpa using i
 simp[results,h,k,asAddr,e]
theorem jm(w:World)(g:Nat)(v:Value)(b:w.cell? ⟨g,0,none⟩=some v):(loadVar 39 ⟨g,0,none⟩).run prog w=.ok v w:=by
 go_simp
theorem um(w:World)(cs:Array Value)(e:Int):((w.alloc (.cells cs 34)).alloc (.cells #[.int .i64 e] 39)).cell? ⟨w.heap.size+1,0,none⟩=some (.int .i64 e)/\Below w.heap.size w ((w.alloc (.cells cs 34)).alloc (.cells #[.int .i64 e] 39)):=by
 have:=ah (w.alloc (.cells cs 34)) (.cells #[.int .i64 e] 39);rw[size_alloc] at this;exact⟨by rw[am _ _ _ _ _ _ this];rfl,bt (al w (.cells cs 34)) (al (w.alloc (.cells cs 34)) (.cells #[.int .i64 e] 39))⟩
theorem yo(w:World)(b:Nat)(rd:Int->Option Pg)(t:Tr)(n:t.root=0/\t.height=0/\t.items=0\/(t.root=0\/t.height<1\/12<t.height\/t.items<1)):
 Calls prog 36 #[.pointer (some ⟨b,0,none⟩),.agg #[.int .i64 t.root,.int .i64 t.height,.int .i64 t.items]] w λe w'=>e=.returned (.int .i64 ((chk rd t:Nat):Int))/\Below w.heap.size w w':=by
 have k:=gW (bt (al w (.cells #[.int .i64 t.root,.int .i64 t.height,.int .i64 t.items] 34)) (al (w.alloc (.cells #[.int .i64 t.root,.int .i64 t.height,.int .i64 t.items] 34)) (.cells #[.int .i64 0] 39)));obtain⟨h,d,i⟩:=t;have n:h=0/\d=0/\i=0\/(h=0\/d<1\/12<d\/i<1):=n;by_cases m:h=0/\d=0/\i=0
 . obtain⟨rfl,rfl,rfl⟩:=m;have l:chk rd ⟨0,0,0⟩=0:=by unfold chk;exact if_pos ⟨rfl,rfl,rfl⟩
   rw[l];simp only at k ⊢;go_enter func36,ntmps36;go_wp2
   have q:((w.alloc (.cells #[.int .i64 0,.int .i64 0,.int .i64 0] 34)).alloc (.cells #[.int .i64 0] 39)).cell? ⟨w.heap.size+1,0,none⟩=some (.int .i64 0):=by
    have:=ah (w.alloc (.cells #[.int .i64 0,.int .i64 0,.int .i64 0] 34)) (.cells #[.int .i64 0] 39);rw[size_alloc] at this;rw[am _ _ _ _ _ _ this];rfl
   refine aF (lu results36 _ _ (w.heap.size+1) _ rfl q (jm _ _ _ q)) rfl ?_;exact⟨rfl,k.o⟩
 . have r:h=0\/d<1\/12<d\/i<1:=n.resolve_left m
   have l:chk rd ⟨h,d,i⟩=5:=by
    unfold chk;rw[if_neg m,if_pos r]
   rw[l];have s:((decide (h=0)&&(decide (d=0)&&decide (i=0))))=false:=by simp;omega
   simp only at k ⊢;go_enter func36,ntmps36;go_wp2
   all_goals
    first
    |(refine aF (lu results36 _ _ (w.heap.size+1) _ rfl (um w _ _).1 (jm _ _ _ (um w _ _).1)) rfl ?_
      exact⟨rfl,(um w _ _).2⟩)
    |(exfalso;simp_all;omega)
end Go.Proofs.YteaogidofpfmmaaGreat
namespace Go.Proofs.YteaogidofpfmmaaGreat
open Go.Proofs.Tryz
variable {rd:Int->Option Pg}{G:List Int}{N:Nat}{p:Pg}
theorem lL:∀(N:Nat)(G:List Int),G.Nodup->(∀n∈G,1<=n/\n<=(N:Int))->G.length<=N
 |0,G,_,h=>by
  cases G with
  |nil=>exact ai _
  |cons x L=>have:=h x bC;omega
 |N+1,G,hn,h=>by
  by_cases c:((N:Int)+1)∈G
  . have f:=lL N (G.erase ((N:Int)+1)) (hn.erase _) (λn a=>by
     have b:=h n (List.mem_of_mem_erase a);have d:n≠(N:Int)+1:=λe=>by subst e;exact(List.Nodup.not_mem_erase hn) a
     omega)
    have b:=List.length_erase_of_mem c;omega
  . have:=lL N G hn (λn a=>by
     have b:=h n a;have d:n≠(N:Int)+1:=λe=>by subst e;exact c a
     omega)
    omega
structure Gok(rd:Int->Option Pg)(G:List Int):Prop where
 nd:G.Nodup
 ex:∀n∈G,(rd n).isSome=true
theorem Gok.nil(rd:Int->Option Pg):Gok rd []:=⟨List.nodup_nil,λn h=>by cases h⟩
theorem Gok.cons(h:Gok rd G){n:Int}(b:rd n=some p)(a:n∉G):Gok rd (n::G):=⟨e8.2 ⟨a,h.nd⟩,λk hk=>by
 rcases bN.1 hk with rfl|hk
 . rw[b];rfl
 . exact h.ex k hk⟩
def j5(rd:Int->Option Pg)(N:Nat):Prop:=∀n,(rd n).isSome=true->1<=n/\n<=(N:Int)
theorem Gok.len(h:Gok rd G)(a:j5 rd N):G.length<=N:=lL N G h.nd λn b=>a n (h.ex n b)
theorem pY{rd:Int->Option Pg}:∀(t:Nat)(G:List Int)(n l:Int),Gok rd G->Gok rd (iE rd t G n l).1/\G.length<=(iE rd t G n l).1.length
 |0,G,n,l,h=>⟨h,ai _⟩
 |t+1,G,n,l,h=>by
  unfold iE;split
  . exact⟨h,ai _⟩
  . cases hp:rd n with
    |none=>exact⟨h,ai _⟩
    |some p=>
     simp only;split
     . exact⟨h,ai _⟩
     . rename_i hn;have h2:=h.cons hp hn;split
       . exact⟨h2,eV _⟩
       . split
         . exact⟨h2,eV _⟩
         . have:=pY t (n::G) p.next (l-480) h2;exact⟨this.1,az (eV _) this.2⟩
theorem qi{rd:Int->Option Pg}{r:Rg}:∀(L:List It)(G:List Int),Gok rd G->Gok rd (iM rd r L G).1/\G.length<=(iM rd r L G).1.length
 | [],G,h=>⟨h,ai _⟩
 |x::L,G,h=>by
  unfold iM;split
  . exact⟨h,ai _⟩
  . split
    . exact qi L G h
    . have h1:=pY 8 G x.child x.size h;split
      . exact h1
      . have a:=qi (r:=r) L _ h1.1;exact⟨a.1,az h1.2 a.2⟩
structure Kb(rd:Int->Option Pg)(s:Cst):Prop where
 g:Gok rd s.G
 k:s.ks<=8*s.G.length
theorem Kb.len{s:Cst}(h:Kb rd s)(a:j5 rd N):s.ks<=8*N:=by
 have:=h.g.len a;have:=h.k;omega
theorem Kb.tel{root:Int}{s:Cst}(h:Kb rd s){a:Plx}(e:rd a.no=some p)(d:a.no∉s.G)(f:p.items.length<=8):Kb rd (i6 rd root {s with G:=a.no::s.G} a p):=by
 have g:=h.g.cons e d;have k:=h.k;have b:s.ks<=8*(a.no::s.G).length:=by rw[a7];omega
 have c:=qi (r:=a.keys) p.items (a.no::s.G) g;unfold i6;split
 . exact⟨g,b⟩
 . split
   . split
     . exact⟨c.1,by have:=c.2;simp only at b ⊢;omega⟩
     . refine⟨c.1,?_⟩;have c2:=c.2;rw[a7] at c2;simp only;omega
   . exact⟨g,b⟩
end Go.Proofs.YteaogidofpfmmaaGreat
