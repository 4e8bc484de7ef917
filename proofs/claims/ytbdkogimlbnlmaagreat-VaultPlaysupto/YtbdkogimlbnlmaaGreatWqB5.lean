import Derived.Test.YtbdkogimlbnlmaaGreatWqB4
set_option linter.unusedVariables false
set_option linter.unusedSimpArgs false
set_option maxHeartbeats 16000000
set_option maxRecDepth 10000
namespace Go.Proofs.YtbdkogimlbnlmaaGreat.Q
open Go.RowKit
variable {hi lo:Int}{A B L M:List Rn}{cap:Nat}{a:Option Addr}{v:Value}{W W6 w0:World}
theorem Ce(w:World)(b:Nat)(a:Option Addr)(cap:Nat)(L:List Rn)(hS:St w b a cap L):
 Calls Tryz.prog 114 #[.pointer (some ⟨b,0,none⟩)] w λe w'=>e=.returned (.int .i64 ((min (sz L) mxi:Nat):Int))/\Below w.heap.size w w':=by
 have hc:=hS.cell;have C1:=gZ (xB w a L.length cap);have ha:=al w (.cells #[.slice a L.length cap] 169);have nb:=iC w (.slice a L.length cap) 169
 have C2:=gZ (lI (w.alloc (.cells #[.slice a L.length cap] 169)) (w.alloc (.cells #[.slice a L.length cap] 169)) 168 #[.pointer (some ⟨w.heap.size,0,none⟩)] L _ (uP _ w.heap.size a cap L nb (hS.row.vs.keep ha) hS.len) (But.refl _ _)
  (λk hk=>by
    rcases hk with rfl|⟨x,hx,rfl⟩
    . rw[size_alloc];omega
    . have:=hS.row.lt hx;rw[size_alloc];omega) (enters_of Tryz.func168 (by kernel_rfl) rfl) (λr hr=>⟨(hS.bnd r hr).1,(hS.bnd r hr).2,hS.can.1 r hr⟩))
 clear hS nb;generalize min (sz L) mxi=z at *;generalize L.length=n at *;go_enter Tryz.func114,Tryz.ntmps114;go_wp2_with fail
 refine C1.o.mono ?_;rintro e w1 ⟨rfl,rfl⟩;go_wp2_with fail
 refine C2.o.mono ?_;rintro e w2 ⟨rfl,hb2⟩;go_wp2;go_ret;exact⟨rfl,bt ha hb2⟩
theorem uk(l c:Nat)(hl:l<=c)(hc:c<=14000000000000)(w:World):(Instr.makeSlice 169 (.int .i64 (l:Int)) (.int .i64 (c:Int))).run Tryz.prog w=.ok (.slice (some ⟨w.heap.size,0,none⟩) l c) (w.alloc (.cells (madeCells (rcs Rn.zero) (c*2)) 171)):=by
 obtain⟨i0,hi,hz0,hz1,hz2⟩:=cZ mf;have hr:=run_make (P:=Tryz.prog) w 169 171 i0 (.agg (rcs Rn.zero)) Tryz.underlying169 hi hz0 .i64 .i64 l c (by omega) (by omega) (by rw[hz2];omega) (by omega)
 simp only[cR,hz1] at hr;exact hr
theorem y9(w:World)(c:Nat):iU (w.alloc (.cells (madeCells (rcs Rn.zero) (c*2)) 171)) w.heap.size (madeCells (rcs Rn.zero) (c*2)).toList:=by
 unfold iU;rw[gM];exact az w _
theorem pM(w:World)(b:Nat)(a:Option Addr)(cap:Nat)(L:List Rn)(hS:St w b a cap L):
 Calls Tryz.prog 169 #[.pointer (some ⟨b,0,none⟩)] w λe w'=>e=.returned (.slice (some ⟨w.heap.size,0,none⟩) L.length L.length)/\Vw w' (some ⟨w.heap.size,0,none⟩) L.length L/\Below w.heap.size w w':=by
 have hc:=hS.cell;have hl:=hS.len;have hmk:=uk L.length L.length (ai _) (by omega) w
 have ha:=al w (.cells (madeCells (rcs Rn.zero) (L.length*2)) 171);have hr:=y9 w L.length;have hca:=(ha.cell (p:=⟨b,0,none⟩) (block_lt_of_cell hc)).trans hc;have lm:(madeCells (rcs Rn.zero) (L.length*2)).toList.length=L.length*2:=by rw[Array.length_toList,fM]
 obtain⟨w1,hrun,r1,b1⟩:=i7 (w.alloc (.cells (madeCells (rcs Rn.zero) (L.length*2)) 171)) 3 w.heap.size L.length L.length a L.length cap [] (rc L) (madeCells (rcs Rn.zero) (L.length*2)).toList hr (by rw[g9,show Nat.min L.length L.length=L.length from gQ _])
  ((hS.row.vs.keep ha).imp (λh=>by rw[h];rfl) id) (by rw[g9,lm];omega) (jk L)
 rw[bg] at hrun;rw[cF,g9,dy (by omega)] at r1
 have GG:=gZ (show Vw w1 (some ⟨w.heap.size,0,none⟩) L.length L/\Below w.heap.size w w1 from⟨Vw.mk (Y:=[]) r1 (ai _) (by unfold maxLen;omega) (by simp),((But.ofBelow (S:=λ_=>False) ha).trans b1 (λk hk e=>by omega)).below (λ_ _ h=>h)⟩)
 clear r1 b1 lm hr hS;generalize L.length=n at *;go_enter Tryz.func169,Tryz.ntmps169;go_wp2;go_ret;exact⟨rfl,GG.o⟩
theorem yn(w:World)(p q:Int):Vs (w.alloc (.cells #[.int .i64 p,.int .i64 q] 171)) (some ⟨w.heap.size,0,none⟩) [(p,q)]:=by
 refine .inr ⟨_,_,rfl,λj u hu=>?_⟩
 rw[ax _ _ _ _ _ _ (az w _),bG];simpa[rc,rcs] using hu
theorem kL(w:World)(am:Option Addr)(c:Nat)(M:List Rn)(lo hi:Int)(hM:Vs w am M)(hlo:Nm lo)(hhi:Nm hi)(hb:∀r∈M,Nm r.1/\Nm r.2)(hlen:M.length<=11000000000000):
 Calls Tryz.prog 201 #[.slice am M.length c,.int .i64 lo,.int .i64 hi] w λe w'=>
  ∃a' cap',e=.returned (.slice a' (left M lo hi).length cap')/\Vw w' a' cap' (left M lo hi)/\New w none a'/\Below w.heap.size w w':=by
 by_cases hm0:M=[]
 . subst hm0;rw[mJ,bg];go_enter Tryz.func201,Tryz.ntmps201;go_wp2;go_ret;exact⟨none,0,rfl,Vw.nil _,New.none _ _,Below.refl _ _⟩
 . have hmp:0<M.length:=bM.2 hm0;rw[lU hm0];have eh:M.head hm0=M.getD 0 Rn.zero:=by rw[List.head_eq_getElem,aq,aS hmp];rfl
   have el:M.getLast hm0=M.getD (M.length-1) Rn.zero:=by rw[List.getLast_eq_getElem,aq,aS (by omega)];rfl
   rw[eh,el];obtain⟨b,o,rfl,d1,d2⟩:=hM.at hmp;obtain⟨b',o',e,d3,d4⟩:=hM.at (show M.length-1<M.length by omega)
   simp only[aE,Addr.mk.injEq,dT] at e;obtain⟨rfl,rfl⟩:=e;obtain⟨⟨f1,f2⟩,f3,f4⟩:=hb _ (jY hmp);obtain⟨⟨f5,f6⟩,f7,f8⟩:=hb _ (jY (show M.length-1<M.length by omega))
   generalize hm:M.length-1=m at *;generalize hn:M.length=n at *;have h1:m<n:=by omega
   have h2:(n:Int)-1=(m:Int):=by omega
   generalize M.getD 0 Rn.zero=f at *;generalize M.getD m Rn.zero=l at *;rw[dR,bY] at d1 d2;obtain⟨g1,g2⟩:=hlo;obtain⟨g3,g4⟩:=hhi;have a0:=al w (.cells #[.int .i64 f.1,.int .i64 f.2] 171);have d3a:=(a0.cell (p:=⟨b,o+m*2,none⟩) (block_lt_of_cell d3)).trans d3;have d4a:=(a0.cell (p:=⟨b,o+m*2+1,none⟩) (block_lt_of_cell d4)).trans d4;have bd:=block_lt_of_cell d3;have bd4:=block_lt_of_cell d4;clear hM hb hm hn eh el hm0 hmp;obtain⟨Wf,hWf⟩:∃W,w.alloc (.cells #[.int .i64 f.1,.int .i64 f.2] 171)=W:=⟨_,rfl⟩;rw[hWf] at a0 d3a d4a;have sf:Wf.heap.size=w.heap.size+1:=by rw[<-hWf,size_alloc]
   have nf0:=az w (.cells #[.int .i64 f.1,.int .i64 f.2] 171);rw[hWf] at nf0;have nf1:Wf.cell? ⟨w.heap.size,0,none⟩=some (.int .i64 f.1):=by rw[ax _ _ _ _ _ _ nf0];rfl
   /- a row,the last run's box behind it,one run more behind that -/
   have two:∀(W:World)(ga ca:Nat)(L:List Rn)(hR:Vw W (some ⟨ga,0,none⟩) ca L\/(L=[]))(hL:L.length<=4),∀a0 n0 c0,((a0=some ⟨ga,0,none⟩/\c0=ca/\Vw W (some ⟨ga,0,none⟩) ca L)\/(a0=none/\c0=0/\L=[]))->n0=L.length->
    ∃g2 c2 w2,(Builtin.append_ #[169,169] 169 #[.slice a0 n0 c0,.slice (some ⟨W.heap.size+1,0,none⟩) 1 1]).run Tryz.prog ((W.alloc (.cells #[.int .i64 l.1,.int .i64 l.2] 171)).alloc (.cells #[.int .i64 (hi+1),.int .i64 l.2] 171))=.ok (.slice (some ⟨g2,0,none⟩) (n0+1) c2) w2/\
     Vw w2 (some ⟨g2,0,none⟩) c2 (L++[(hi+1,l.2)])/\New W a0 (some ⟨g2,0,none⟩)/\But (InA a0) W w2:=by
    intro W ga ca L _ hL a0 n0 c0 h hn0;have vs:=yn (W.alloc (.cells #[.int .i64 l.1,.int .i64 l.2] 171)) (hi+1) l.2;rw[size_alloc] at vs;have b2:=bt (al W (.cells #[.int .i64 l.1,.int .i64 l.2] 171)) (al _ (.cells #[.int .i64 (hi+1),.int .i64 l.2] 171))
    have hv:Vw ((W.alloc (.cells #[.int .i64 l.1,.int .i64 l.2] 171)).alloc (.cells #[.int .i64 (hi+1),.int .i64 l.2] 171)) a0 c0 L:=by
     rcases h with⟨rfl,rfl,h⟩|⟨rfl,rfl,rfl⟩
     . exact h.keep b2
     . exact Vw.nil _
    obtain⟨g2,c2,w2,hr,h1,h2,h3⟩:=kW _ 169 a0 n0 c0 L hn0 hv _ 1 1 [(hi+1,l.2)] rfl vs (by simp) (by simp;omega)
    exact⟨g2,c2,w2,hr,h1,h2.mono b2.size,(But.ofBelow b2).trans (But.inA h3) (λ_ _ h=>h)⟩
   by_cases c1:f.1<lo
   . have hw1:IntKind.i64.wrap (lo-1)=lo-1:=kM (by omega) (by omega)
     rw[if_pos c1];have vs1:=yn Wf f.1 (lo-1);rw[sf] at vs1;obtain⟨ga,ca,w1,hrun1,q1,q2,q3⟩:=kW (Wf.alloc (.cells #[.int .i64 f.1,.int .i64 (lo-1)] 171)) 169 none 0 0 [] rfl (Vw.nil _) _ 1 1 [(f.1,lo-1)] rfl vs1 (by simp) (by simp)
     rw[bG] at hrun1;rw[cF] at q1
     have b1:Below w.heap.size w w1:=by
      have h1:=bt a0 (al Wf (.cells #[.int .i64 f.1,.int .i64 (lo-1)] 171));exact((But.ofBelow (S:=λ_=>False) h1).grown q3 (λk hk _=>by cases hk)).below (λ_ _ h=>h)
     have n1:New w none (some ⟨ga,0,none⟩):=q2.mono (by rw[size_alloc,sf];omega)
     have e3:=(b1.cell (p:=⟨b,o+m*2,none⟩) bd).trans d3;have e4:=(b1.cell (p:=⟨b,o+m*2+1,none⟩) bd4).trans d4;clear q2 q3 vs1;by_cases c2:hi<l.2
     . have hw2:IntKind.i64.wrap (hi+1)=hi+1:=kM (by omega) (by omega)
       rw[if_pos c2];obtain⟨g2,c2',w2,hrun2,r1,r2,r3⟩:=two w1 ga ca [(f.1,lo-1)] (.inl q1) (by simp) (some ⟨ga,0,none⟩) 1 ca (.inl ⟨rfl,rfl,q1⟩) rfl
       have fin:∃a' cap',Ending.returned (.slice (some ⟨g2,0,none⟩) 2 c2')=.returned (.slice a' ([(f.1,lo-1)]++[(hi+1,l.2)]).length cap')/\Vw w2 a' cap' ([(f.1,lo-1)]++[(hi+1,l.2)])/\New w none a'/\Below w.heap.size w w2:=
        ⟨_,c2',rfl,r1,n1.trans r2 b1.size,((But.ofBelow (S:=λ_=>False) b1).trans r3 (λk hk h=>by
          obtain⟨x,hx,rfl⟩:=h;rcases n1 x hx with⟨y,hy,_⟩|h2
          . cases hy
          . omega)).below (λ_ _ h=>h)⟩
       have GG:=gZ fin;clear fin r1 r2 r3 q1 n1 b1 two nf0;go_enter Tryz.func201,Tryz.ntmps201;go_wp2_with (first|(at_builtin;refine Lib.wpList_append_run _ rfl _ _ _ _ rfl _ _ rfl rfl _ _ hrun1 ?_)|(at_builtin;refine Lib.wpList_append_run _ rfl _ _ _ _ rfl _ _ rfl rfl _ _ hrun2 ?_))
       go_ret;exact GG.o
     . rw[if_neg c2,bZ];have GG:=gZ (show ∃a' cap',Ending.returned (.slice (some ⟨ga,0,none⟩) 1 ca)=.returned (.slice a' ([(f.1,lo-1)]).length cap')/\Vw (w1.alloc (.cells #[.int .i64 l.1,.int .i64 l.2] 171)) a' cap' [(f.1,lo-1)]/\New w none a'/\Below w.heap.size w (w1.alloc (.cells #[.int .i64 l.1,.int .i64 l.2] 171)) from⟨_,ca,rfl,q1.keep (al _ _),n1,bt b1 (al _ _)⟩)
       clear q1 n1 b1 two nf0;go_enter Tryz.func201,Tryz.ntmps201;go_wp2_with (at_builtin;refine Lib.wpList_append_run _ rfl _ _ _ _ rfl _ _ rfl rfl _ _ hrun1 ?_)
       go_ret;exact GG.o
   . rw[if_neg c1,cF];by_cases c2:hi<l.2
     . have hw2:IntKind.i64.wrap (hi+1)=hi+1:=kM (by omega) (by omega)
       rw[if_pos c2];obtain⟨g2,c2',w2,hrun2,r1,r2,r3⟩:=two Wf 0 0 [] (.inr rfl) (by simp) none 0 0 (.inr ⟨rfl,rfl,rfl⟩) rfl
       rw[bG] at hrun2;rw[cF] at r1;rw[sf] at hrun2
       have GG:=gZ (show ∃a' cap',Ending.returned (.slice (some ⟨g2,0,none⟩) 1 c2')=.returned (.slice a' ([(hi+1,l.2)]).length cap')/\Vw w2 a' cap' [(hi+1,l.2)]/\New w none a'/\Below w.heap.size w w2 from
        ⟨_,c2',rfl,r1,r2.mono (by omega),((But.ofBelow (S:=λ_=>False) a0).trans r3 (λk hk h=>by obtain⟨x,hx,_⟩:=h;cases hx)).below (λ_ _ h=>h)⟩)
       clear r1 r2 r3 two nf0;go_enter Tryz.func201,Tryz.ntmps201;go_wp2_with (at_builtin;refine Lib.wpList_append_run _ rfl _ _ _ _ rfl _ _ rfl rfl _ _ hrun2 ?_)
       go_ret;exact GG.o
     . rw[if_neg c2];clear two nf0;go_enter Tryz.func201,Tryz.ntmps201;go_wp2;go_ret;exact⟨none,0,rfl,Vw.nil _,New.none _ _,bt a0 (al _ _)⟩
theorem vY(hL:Can L)(sp:Spl L lo hi A M B)(hle:lo<=hi)(hlo:Nm lo)(hhi:Nm hi):
 sz (gap lo hi (ji M lo hi))=nb (λz=> !has L z) lo (hi-lo+1).toNat/\∀r∈gap lo hi (ji M lo hi),Nm r.1/\Nm r.2/\r.1<=r.2:=by
 have hM:Ris M:=⟨λr hr=>hL.1 r (by rw[sp.eq];simp[hr]),by have:=hL.ris.2;rw[sp.eq,jJ] at this;exact this.2.1⟩
 obtain⟨c1,c2⟩:=pN hle hM sp.m;obtain⟨g1,g2,g3⟩:=t7 hle c1 c2;constructor
 . rw[wY (a:=lo) (k:=(hi-lo+1).toNat) g1 (λr hr=>by have:=g2 r hr;omega)]
   refine mN λx h1 h2=>?_
   rw[g3,sK sp,ay h1,ay (show x<=hi by omega)]
   simp
 . intro r hr;have h1:=g2 r hr;have h2:=g1.1 r hr;unfold Nm at *;omega
theorem Bt(b:Nat)(h:W.cell? ⟨b,0,none⟩=some v)(hb:But (InA a) W.drew W6)(hS:St w0 b a cap L):W6.cell? ⟨b,0,none⟩=some v:=
 (hb.cell (p:=⟨b,0,none⟩) (block_lt_of_cell h) (λ⟨_,hx,e⟩=>hS.ne hx e)).trans h
theorem uX(b:Nat)(h:W.cell? ⟨b,0,none⟩=some v)(hf:W.frozen? ⟨b,0,none⟩=false)(hb:But (InA a) W.drew W6)(hS:St w0 b a cap L):W6.frozen? ⟨b,0,none⟩=false:=
 (hb.frozen (p:=⟨b,0,none⟩) (block_lt_of_cell h) (λ⟨_,hx,e⟩=>hS.ne hx e)).trans hf
set_option maxRecDepth 20000 in
theorem qQ(w:World)(b:Nat)(a:Option Addr)(cap:Nat)(L:List Rn)(lo hi:Int)(hS:St w b a cap L)(hlo:Nm lo)(hhi:Nm hi)(hlen:L.length+1<=11000000000000):
 Calls Tryz.prog 155 #[.pointer (some ⟨b,0,none⟩),.int .i64 lo,.int .i64 hi] w λe w'=>
  e=.returned (.int .i64 ((min (nb (λz=> !has L z) lo (hi-lo+1).toNat) mxi:Nat):Int))/\∃a' cap' L',St w' b a' cap' L'/\(∀z,has L' z=(has L z||(decide (lo<=z)&&decide (z<=hi))))/\L'.length<=L.length+1/\New w a a'/\But (λk=>k=b\/InA a k) w w':=by
 by_cases hle:lo<=hi
 . obtain⟨A1,M1,B1,sp1⟩:=spl lo hi hS.can.ris hle;obtain⟨gc1,gc2⟩:=vY hS.can sp1 hle hlo hhi;rw[<-gc1];have C1:=gZ (zT w b lo hi);obtain⟨Wa,hWa⟩:∃Wa,w3 w b lo hi=Wa:=⟨_,rfl⟩;have ka:=mP w b lo hi;have sa:=oN w b lo hi;obtain⟨p1,p2,p3⟩:=mO w b lo hi;rw[hWa] at ka sa p1 p2 p3 C1;have GS:=yZ Wa b w.heap.size (w.heap.size+1) (w.heap.size+1+1) a cap L A1 M1 B1 lo hi (hS.keep ka) sp1 hle hlo hhi p1 p2 p3;have hbl:=hS.lt
   have C2:=gZ (lI Wa Wa 190 #[.pointer (some ⟨w.heap.size+1,0,none⟩),.pointer (some ⟨w.heap.size,0,none⟩),.pointer (some ⟨w.heap.size+1+1,0,none⟩)] _ _ GS (But.refl _ _)
    (λk hk=>by
      rcases hk with hk|rfl|rfl|rfl
      . rcases hk with rfl|⟨x,hx,rfl⟩
        . omega
        . have:=hS.row.lt hx;omega
      . omega
      . omega
      . omega) (enters_of Tryz.func190 (by kernel_rfl) rfl) gc2)
   clear GS p1 p2 p3 hWa gc1 gc2 sp1;generalize min (sz (gap lo hi (ji M1 lo hi))) mxi=ans at *;have hx:max (-9223372036854775808) (lo-1)<=min 9223372036854775807 (hi+1):=by have h1:=hlo;have h2:=hhi;unfold Nm at h1 h2;omega
   obtain⟨A,M,B,sp⟩:=spl (max (-9223372036854775808) (lo-1)) (min 9223372036854775807 (hi+1)) hS.can.ris hx;obtain⟨r1,r2,r3,r4,r5,r6,r7⟩:=Cw (mn:=(-9223372036854775808)) (mx:=9223372036854775807) hS.can (λr hr=>⟨(hS.bnd r hr).1.1,(hS.bnd r hr).2.2⟩) hle hlo.1 hhi.2 rfl rfl sp
   have C3:=gZ λW=>wB W lo hlo
   have C4:=gZ λW=>wh W hi hhi
   have C5:=gZ λ(W:World)(hb:Below w.heap.size w W)=>lJ W b a cap L (max (-9223372036854775808) (lo-1)) (min 9223372036854775807 (hi+1)) A M B (hS.keep hb) sp hx
   have hLl:L.length=A.length+M.length+B.length:=by rw[sp.eq];simp[eE]
   have eL:=sp.eq;have hc:=hS.cell;generalize max (-9223372036854775808) (lo-1)=x at *;generalize min 9223372036854775807 (hi+1)=y at *;obtain⟨n1,hn1⟩:∃n:Nat,n=A.length+M.length:=⟨_,rfl⟩;rw[<-hn1] at C5;by_cases hm0:M=[]
   . have hj:jg M lo=lo/\jd M hi=hi:=by rw[hm0];exact⟨rfl,rfl⟩
     have hnn:n1=A.length:=by rw[hn1,hm0];simp
     have hAl:A.length<=11000000000000:=by omega
     have HN1:=gZ hn1;have SS:=gZ hS;have R1:=gZ (And.intro r1 (And.intro r2 (And.intro r3 (And.intro r4 (And.intro r5 r6)))));have HL:=gZ hLl;have EL:=gZ eL;have SP:=gZ sp;have HA:=gZ hlen;have HR:=gZ R1.o
     have HB:=gZ (show ∀r∈A++[(jg M lo,jd M hi)]++B,Nm r.1/\Nm r.2 from λr hr=>by
      obtain⟨q1,q2,q3,q4,q5,q6⟩:=R1.o;rcases jb.1 hr with hr|hr|hr
      . exact SS.o.bnd r (by rw[EL.o];simp[hr])
      . rw[aQ] at hr;rw[hr];have:=hlo.1;have:=hlo.2;have:=hhi.1;have:=hhi.2;unfold Nm;show(_<=jg M lo/\jg M lo<=_)/\(_<=jd M hi/\jd M hi<=_);omega
      . exact SS.o.bnd r (by rw[EL.o];simp[hr]))
     rw[hj.1,hj.2] at HR HB;clear hn1 hS r1 r2 r3 r4 r5 r6 r7 hLl eL sp hlen hj hm0 R1;subst hnn;go_enter Tryz.func155,Tryz.ntmps155;go_wp2_with fail
     refine C1.o.mono ?_;rintro e w1 ⟨rfl,rfl⟩;go_wp2_with fail
     refine C2.o.mono ?_;rintro e W1 ⟨rfl,hb1⟩;have b1:=bt ka hb1;go_wp2_with fail
     refine(C3.o _).mono ?_;rintro e w2 ⟨rfl,rfl⟩;go_wp2_with fail
     refine(C4.o _).mono ?_;rintro e w2 ⟨rfl,rfl⟩;go_wp2_with fail
     refine(C5.o _ (bt b1 (al _ _))).mono ?_;rintro e W3 ⟨rfl,hb3⟩;have b3:=bt (bt b1 (al _ _)) hb3;have j0:=(hb3.block W1.heap.size (by rw[size_alloc];omega)).trans (az W1 (.cells #[.int .i64 lo,.int .i64 hi] 171))
     have s3:W1.heap.size<W3.heap.size:=by have:=hb3.size;rw[size_alloc] at this;omega
     have hJb:W1.heap.size≠b:=by have:=b1.size;omega
     obtain⟨jl,hjl⟩:∃j,j=lo:=⟨_,rfl⟩;obtain⟨jh,hjh⟩:∃j,j=hi:=⟨_,rfl⟩;go_wp2_with fail
     obtain⟨W4,hW4⟩:∃W4,W4=W3:=⟨_,rfl⟩;rw[<-hW4];have j4:W4.heap[W1.heap.size]?=some (.cells #[.int .i64 jl,.int .i64 jh] 171 (0,0)):=by rw[hW4,hjl,hjh];exact j0
     have b4:But (λk=>k=W1.heap.size) w W4:=by rw[hW4];exact But.ofBelow b3
     rw[show(A++[(lo,hi)]++B)=A++[(jl,jh)]++B by rw[hjl,hjh]] at HR HB
     clear hjl hjh hW4 hb1 hb3 b3;have jc0:W4.cell? ⟨W1.heap.size,0,none⟩=some (.int .i64 jl):=by rw[ax _ _ _ _ _ _ j4];rfl
     have jc1:W4.cell? ⟨W1.heap.size,1,none⟩=some (.int .i64 jh):=by rw[ax _ _ _ _ _ _ j4];rfl
     have S4:=SS.o.but b4 (λh=>by have:=b1.size;omega) (λz hz h=>by have:=SS.o.row.lt hz;have:=b1.size;omega)
     have c4:=S4.cell;have f4:W4.frozen? ⟨b,0,none⟩=false:=bq _ _ _ _ _ S4.blk;have a5:=al W4 (.cells #[.int .i64 jl,.int .i64 jh] 171);have n5:=az W4 (.cells #[.int .i64 jl,.int .i64 jh] 171);obtain⟨W5,hW5⟩:∃W5,W4.alloc (.cells #[.int .i64 jl,.int .i64 jh] 171)=W5:=⟨_,rfl⟩;rw[hW5] at a5 n5;have S5:=S4.keep a5;have s5:W5.heap.size=W4.heap.size+1:=by rw[<-hW5,size_alloc]
     have V5:Vw W5 (some ⟨W4.heap.size,0,none⟩) 1 [(jl,jh)]:=Vw.mk (Y:=[]) (by unfold iU;rw[bZ];exact n5) (ai _) (by unfold maxLen;omega) (by simp)
     have bb4:w.heap.size<=W4.heap.size:=b4.size;have C6:=jR W5.drew a cap A M B (by have:=S5.row;rw[EL.o] at this;exact this) (some ⟨W4.heap.size,0,none⟩) 1 [(jl,jh)] V5 (λz y hz hy e=>by have:=SS.o.row.lt hz;cases hy;have e':z.block=W4.heap.size:=e;omega) (by have:=HA.o;have:=HL.o;simp;omega)
     rw[<-HL.o,<-HN1.o] at C6;have eT:A.length+[(jl,jh)].length+B.length=(A++[(jl,jh)]++B).length:=by rw[ae,ae]
     rw[eT] at C6;have lT:(A++[(jl,jh)]++B).length<=L.length+1:=by have:=HL.o;simp;omega
     have c5:=S5.cell;have f5:W5.frozen? ⟨b,0,none⟩=false:=bq _ _ _ _ _ S5.blk;have jc05:=(a5.cell (p:=⟨W1.heap.size,0,none⟩) (block_lt_of_cell jc0)).trans jc0;have jc15:=(a5.cell (p:=⟨W1.heap.size,1,none⟩) (block_lt_of_cell jc1)).trans jc1;obtain⟨R,hR⟩:∃R,A++[(jl,jh)]++B=R:=⟨_,rfl⟩;rw[hR] at C6 lT HR HB;have C6':=gZ C6
     have fin:∀(a':Option Addr)(cap':Nat)(w6:World),Vw w6 a' cap' R->New W5.drew a a'->But (InA a) W5.drew w6->St (w6.setCell ⟨b,0,none⟩ (.slice a' R.length cap')) b a' cap' R/\(∀z,has R z=(has L z||(decide (lo<=z)&&decide (z<=hi))))/\R.length<=L.length+1/\New w a a'/\But (λk=>k=b\/InA a k) w (w6.setCell ⟨b,0,none⟩ (.slice a' R.length cap')):=by
      intro a' cap' w6 h1 h2 h3;obtain⟨q1,q2,q3,q4,q5,q6⟩:=HR.o
      have nb':∀z,a'=some z->z.block≠b:=λz hz=>by
       rcases h2 z hz with⟨y,hy,e⟩|h
       . rw[<-e];exact S5.ne hy
       . have h':W5.heap.size<=z.block:=h;have:=SS.o.lt;omega
      have bb:=h3.same (show W5.drew.heap[b]?=_ from S5.blk) (λh=>by obtain⟨z,hz,e⟩:=h;exact S5.ne hz e)
      have bw6:But (λk=>k=b\/InA a k) w w6:=(b4.mono (λk hk h=>by have:=b1.size;omega)).trans (((But.ofBelow (S:=InA a) a5).trans (But.drew (But.refl (InA a) W5)) (λ_ _ h=>h)).trans h3 (λ_ _ h=>h)) (λk _ h=>.inr h)
      refine⟨⟨?_,?_,q1,?_,by have:=HA.o;omega⟩,q2,lT,h2.mono (show w.heap.size<=W5.heap.size by omega),bw6.setCell (λ_=>.inl rfl) _⟩
      . rw[aR _ _ _ _ _ _ bb];rfl
      . exact h1.but (S:=λk=>k=b) ((But.refl (λk=>k=b) w6).setCell (p:=⟨b,0,none⟩) (λ_=>rfl) _) (λz hz=>nb' z hz)
      . exact HB.o
     have FF:=gZ fin;clear fin C6 HR HB HA HL HN1 EL SP S4 S5 V5 n5 j4 a5 eT b4 j0;go_region_with (go_at_call 178;refine C6'.o.mono ?_;rintro e w6 ⟨a',cap',rfl,h1,h2,h3⟩;have cb6:=Bt b c5 h3 SS.o;have fb6:=uX b c5 f5 h3 SS.o;have F1:=gZ (FF.o a' cap' w6 h1 h2 h3);clear h1 h2 h3)
     all_goals
      go_wp2;go_ret;exact⟨rfl,a',cap',R,F1.o⟩
   . obtain⟨g,Y,hag,hg⟩:∃g Y,a=some ⟨g,0,none⟩/\iU w g (rc L++Y):=by
      rcases hS.row.cases with⟨_,_,h0⟩|⟨g,Y,h1,h2,_⟩
      . rw[eL] at h0;simp at h0;exact absurd h0.2.1 hm0
      . exact⟨g,Y,h1,h2⟩
     have hmp:0<M.length:=bM.2 hm0;have hlt:A.length<n1:=by omega
     have hAl:n1<=11000000000000:=by omega
     have ix1:A.length<L.length:=by omega
     have ix2:n1-1<L.length:=by omega
     have ef:L.getD A.length Rn.zero=M.head hm0:=by rw[eL,aq,aM,bi (ai _),dq,bm hmp,List.head_eq_getElem,aS hmp];rfl
     have el:L.getD (n1-1) Rn.zero=M.getLast hm0:=by
      rw[eL,aq,bm (by simp;omega),bi (by omega),List.getLast_eq_getElem,show n1-1-A.length=M.length-1 by omega,aS (by omega)]
      rfl
     obtain⟨b0,o0,e0,d1,d2⟩:=hS.row.vs.at ix1;rw[hag] at e0;simp only[aE,Addr.mk.injEq,dT] at e0;obtain⟨rfl,rfl⟩:=e0;obtain⟨b0',o0',e0,d3,d4⟩:=hS.row.vs.at ix2;rw[hag] at e0;simp only[aE,Addr.mk.injEq,dT] at e0;obtain⟨rfl,rfl⟩:=e0;rw[bG,ef] at d1;rw[bG,el] at d4;have hjl:=rL hm0 lo;have hjh:=rK hm0 hi;obtain⟨m1,hm1⟩:∃m:Nat,m=n1-1:=⟨_,rfl⟩;rw[<-hm1] at d4 ix2;have i1:(n1:Int)-1=(m1:Int):=by omega
     have gne:g≠b:=hS.ne hag;have glt:=hg.lt;have HN1:=gZ hn1;have SS:=gZ hS;have R1:=gZ (And.intro r1 (And.intro r2 (And.intro r3 (And.intro r4 (And.intro r5 r6)))));have HL:=gZ hLl;have EL:=gZ eL;have SP:=gZ sp;have HA:=gZ hlen;have HR:=gZ R1.o
     have HB:=gZ (show ∀r∈A++[(jg M lo,jd M hi)]++B,Nm r.1/\Nm r.2 from λr hr=>by
      obtain⟨q1,q2,q3,q4,q5,q6⟩:=R1.o;rcases jb.1 hr with hr|hr|hr
      . exact SS.o.bnd r (by rw[EL.o];simp[hr])
      . rw[aQ] at hr;rw[hr];have:=hlo.1;have:=hlo.2;have:=hhi.1;have:=hhi.2;unfold Nm;show(_<=jg M lo/\jg M lo<=_)/\(_<=jd M hi/\jd M hi<=_);omega
      . exact SS.o.bnd r (by rw[EL.o];simp[hr]))
     generalize M.head hm0=f at *;generalize M.getLast hm0=l at *;obtain⟨jl,hjl'⟩:∃j,(if f.1<lo then f.1 else lo)=j:=⟨_,rfl⟩
     obtain⟨jh,hjh'⟩:∃j,(if hi<l.2 then l.2 else hi)=j:=⟨_,rfl⟩
     have ejl:jg M lo=jl:=by rw[hjl,<-hjl'];split<;>omega
     have ejh:jd M hi=jh:=by rw[hjh,<-hjh'];split<;>omega
     rw[ejl,ejh] at HR HB;subst hag;clear hn1 hS r1 r2 r3 r4 r5 r6 r7 hLl eL sp hlen hm0 R1 ejl ejh hjl hjh d2 d3 ef el hg hm1 hmp;go_enter Tryz.func155,Tryz.ntmps155;go_wp2_with fail
     refine C1.o.mono ?_;rintro e w1 ⟨rfl,rfl⟩;go_wp2_with fail
     refine C2.o.mono ?_;rintro e W1 ⟨rfl,hb1⟩;have b1:=bt ka hb1;go_wp2_with fail
     refine(C3.o _).mono ?_;rintro e w2 ⟨rfl,rfl⟩;go_wp2_with fail
     refine(C4.o _).mono ?_;rintro e w2 ⟨rfl,rfl⟩;go_wp2_with fail
     refine(C5.o _ (bt b1 (al _ _))).mono ?_;rintro e W3 ⟨rfl,hb3⟩;have b3:=bt (bt b1 (al _ _)) hb3;have j0:=(hb3.block W1.heap.size (by rw[size_alloc];omega)).trans (az W1 (.cells #[.int .i64 lo,.int .i64 hi] 171))
     have s3:W1.heap.size<W3.heap.size:=by have:=hb3.size;rw[size_alloc] at this;omega
     have hJb:W1.heap.size≠b:=by have:=b1.size;omega
     have cb3:=(b3.cell (p:=⟨b,0,none⟩) (block_lt_of_cell hc)).trans hc;have e1:=(b3.cell (p:=⟨g,A.length*2,none⟩) (block_lt_of_cell d1)).trans d1;have e4:=(b3.cell (p:=⟨g,m1*2+1,none⟩) (block_lt_of_cell d4)).trans d4;have jf:∀k,W3.frozen? ⟨W1.heap.size,k,none⟩=false:=λk=>bq _ _ _ _ _ j0
     have jf0:=jf 0;have jf1:=jf 1;have jk0:W3.cell? ⟨W1.heap.size,0,none⟩=some (.int .i64 lo):=by rw[ax _ _ _ _ _ _ j0];rfl
     have jk1:W3.cell? ⟨W1.heap.size,1,none⟩=some (.int .i64 hi):=by rw[ax _ _ _ _ _ _ j0];rfl
     have hJg:W1.heap.size≠g:=by have:=b1.size;omega
     have o1:But (λk=>k=W1.heap.size) W3 (W3.setCell ⟨W1.heap.size,0,none⟩ (.int .i64 jl)):=(But.refl (λk=>k=W1.heap.size) W3).setCell (p:=⟨W1.heap.size,0,none⟩) (λ_=>rfl) _
     have cb4:=(o1.cell (p:=⟨b,0,none⟩) (block_lt_of_cell cb3) (λe=>hJb e.symm)).trans cb3
     have e5:=(o1.cell (p:=⟨g,m1*2+1,none⟩) (block_lt_of_cell e4) (λe=>hJg e.symm)).trans e4
     have q0:=aR W3 W1.heap.size 0 _ _ (.int .i64 jl) j0;have q1:=aR _ W1.heap.size 1 _ _ (.int .i64 jh) q0;have jf2:(W3.setCell ⟨W1.heap.size,0,none⟩ (.int .i64 jl)).frozen? ⟨W1.heap.size,1,none⟩=false:=bq _ _ _ _ _ q0;have jk2:(W3.setCell ⟨W1.heap.size,0,none⟩ (.int .i64 jl)).cell? ⟨W1.heap.size,1,none⟩=some (.int .i64 hi):=by rw[ax _ _ _ _ _ _ q0];rfl
     have Q1:=gZ q1;have B4:=gZ ((But.ofBelow (S:=λk=>k=W1.heap.size) b3).trans (o1.setCell (p:=⟨W1.heap.size,1,none⟩) (λ_=>rfl) (.int .i64 jh)) (λ_ _ h=>h))
     clear q0 q1 jf o1;go_wp2_with fail
     obtain⟨W4,hW4⟩:∃W4,(W3.setCell ⟨W1.heap.size,0,none⟩ (.int .i64 jl)).setCell ⟨W1.heap.size,1,none⟩ (.int .i64 jh)=W4:=⟨_,rfl⟩;have b4:=B4.o;have j4:W4.heap[W1.heap.size]?=some (.cells #[.int .i64 jl,.int .i64 jh] 171 (0,0)):=by rw[<-hW4];exact Q1.o
     rw[hW4] at b4 ⊢;clear Q1 B4 hW4 hb1 hb3 b3 cb3 cb4 e1 e4 e5 jf0 jf1 jf2 jk0 jk1 jk2 d1 d4;have jc0:W4.cell? ⟨W1.heap.size,0,none⟩=some (.int .i64 jl):=by rw[ax _ _ _ _ _ _ j4];rfl
     have jc1:W4.cell? ⟨W1.heap.size,1,none⟩=some (.int .i64 jh):=by rw[ax _ _ _ _ _ _ j4];rfl
     have S4:=SS.o.but b4 (λh=>by have:=b1.size;omega) (λz hz h=>by have:=SS.o.row.lt hz;have:=b1.size;omega)
     have c4:=S4.cell;have f4:W4.frozen? ⟨b,0,none⟩=false:=bq _ _ _ _ _ S4.blk;have a5:=al W4 (.cells #[.int .i64 jl,.int .i64 jh] 171);have n5:=az W4 (.cells #[.int .i64 jl,.int .i64 jh] 171);obtain⟨W5,hW5⟩:∃W5,W4.alloc (.cells #[.int .i64 jl,.int .i64 jh] 171)=W5:=⟨_,rfl⟩;rw[hW5] at a5 n5;have S5:=S4.keep a5;have s5:W5.heap.size=W4.heap.size+1:=by rw[<-hW5,size_alloc]
     have V5:Vw W5 (some ⟨W4.heap.size,0,none⟩) 1 [(jl,jh)]:=Vw.mk (Y:=[]) (by unfold iU;rw[bZ];exact n5) (ai _) (by unfold maxLen;omega) (by simp)
     have bb4:w.heap.size<=W4.heap.size:=b4.size;have C6:=jR W5.drew (some ⟨g,0,none⟩) cap A M B (by have:=S5.row;rw[EL.o] at this;exact this) (some ⟨W4.heap.size,0,none⟩) 1 [(jl,jh)] V5 (λz y hz hy e=>by have:=SS.o.row.lt hz;cases hy;have e':z.block=W4.heap.size:=e;omega) (by have:=HA.o;have:=HL.o;simp;omega)
     rw[<-HL.o,<-HN1.o] at C6;have eT:A.length+[(jl,jh)].length+B.length=(A++[(jl,jh)]++B).length:=by rw[ae,ae]
     rw[eT] at C6;have lT:(A++[(jl,jh)]++B).length<=L.length+1:=by have:=HL.o;simp;omega
     have c5:=S5.cell;have f5:W5.frozen? ⟨b,0,none⟩=false:=bq _ _ _ _ _ S5.blk;have jc05:=(a5.cell (p:=⟨W1.heap.size,0,none⟩) (block_lt_of_cell jc0)).trans jc0;have jc15:=(a5.cell (p:=⟨W1.heap.size,1,none⟩) (block_lt_of_cell jc1)).trans jc1;obtain⟨R,hR⟩:∃R,A++[(jl,jh)]++B=R:=⟨_,rfl⟩;rw[hR] at C6 lT HR HB;have C6':=gZ C6
     have fin:∀(a':Option Addr)(cap':Nat)(w6:World),Vw w6 a' cap' R->New W5.drew (some ⟨g,0,none⟩) a'->But (InA (some ⟨g,0,none⟩)) W5.drew w6->St (w6.setCell ⟨b,0,none⟩ (.slice a' R.length cap')) b a' cap' R/\(∀z,has R z=(has L z||(decide (lo<=z)&&decide (z<=hi))))/\R.length<=L.length+1/\New w (some ⟨g,0,none⟩) a'/\But (λk=>k=b\/InA (some ⟨g,0,none⟩) k) w (w6.setCell ⟨b,0,none⟩ (.slice a' R.length cap')):=by
      intro a' cap' w6 h1 h2 h3;obtain⟨q1,q2,q3,q4,q5,q6⟩:=HR.o
      have nb':∀z,a'=some z->z.block≠b:=λz hz=>by
       rcases h2 z hz with⟨y,hy,e⟩|h
       . rw[<-e];exact S5.ne hy
       . have h':W5.heap.size<=z.block:=h;have:=SS.o.lt;omega
      have bb:=h3.same (show W5.drew.heap[b]?=_ from S5.blk) (λh=>by obtain⟨z,hz,e⟩:=h;exact S5.ne hz e)
      have bw6:But (λk=>k=b\/InA (some ⟨g,0,none⟩) k) w w6:=(b4.mono (λk hk h=>by have:=b1.size;omega)).trans (((But.ofBelow (S:=InA (some ⟨g,0,none⟩)) a5).trans (But.drew (But.refl (InA (some ⟨g,0,none⟩)) W5)) (λ_ _ h=>h)).trans h3 (λ_ _ h=>h)) (λk _ h=>.inr h)
      refine⟨⟨?_,?_,q1,?_,by have:=HA.o;omega⟩,q2,lT,h2.mono (show w.heap.size<=W5.heap.size by omega),bw6.setCell (λ_=>.inl rfl) _⟩
      . rw[aR _ _ _ _ _ _ bb];rfl
      . exact h1.but (S:=λk=>k=b) ((But.refl (λk=>k=b) w6).setCell (p:=⟨b,0,none⟩) (λ_=>rfl) _) (λz hz=>nb' z hz)
      . exact HB.o
     have FF:=gZ fin;clear fin C6 HR HB HA HL HN1 EL SP S4 S5 V5 n5 j4 a5 eT b4 j0;go_region_with (go_at_call 178;refine C6'.o.mono ?_;rintro e w6 ⟨a',cap',rfl,h1,h2,h3⟩;have cb6:=Bt b c5 h3 SS.o;have fb6:=uX b c5 f5 h3 SS.o;have F1:=gZ (FF.o a' cap' w6 h1 h2 h3);clear h1 h2 h3)
     all_goals
      go_wp2;go_ret;exact⟨rfl,a',cap',R,F1.o⟩
 . have h0:(hi-lo+1).toNat=0:=by omega
   rw[h0]
   have hz:∀z,has L z=(has L z||(decide (lo<=z)&&decide (z<=hi))):=λz=>by
    have:(decide (lo<=z)&&decide (z<=hi))=false:=by
     rw[ed,di,di];omega
    rw[this,eV]
   have hlt:hi<lo:=by omega
   have SS:=gZ hS;have HZ:=gZ hz;clear hS hz hlo hhi;go_enter Tryz.func155,Tryz.ntmps155;go_wp2;go_ret;exact⟨rfl,a,cap,L,SS.o,HZ.o,dW _,New.refl _ _,But.refl _ _⟩
theorem uL(hL:Can L)(sp:Spl L lo hi A M B)(hle:lo<=hi)(hlo:Nm lo)(hhi:Nm hi):
 sz (ji M lo hi)=nb (has L) lo (hi-lo+1).toNat/\∀r∈ji M lo hi,Nm r.1/\Nm r.2/\r.1<=r.2:=by
 have hM:Ris M:=⟨λr hr=>hL.1 r (by rw[sp.eq];simp[hr]),by have:=hL.ris.2;rw[sp.eq,jJ] at this;exact this.2.1⟩
 obtain⟨c1,c2⟩:=pN hle hM sp.m;constructor
 . rw[wY (a:=lo) (k:=(hi-lo+1).toNat) c1 (λr hr=>by have:=c2 r hr;omega)]
   refine mN λx h1 h2=>?_
   rw[sK sp,ay h1,ay (show x<=hi by omega)]
   simp
 . intro r hr;have h1:=c2 r hr;have h2:=c1.1 r hr;unfold Nm at *;omega
theorem drw(w:World):Below w.heap.size w w.drew:=⟨rfl,rfl,rfl,ai _,λ_ _=>rfl⟩
theorem xM(b:Nat)(h:W.cell? ⟨b,0,none⟩=some v)(hb:Below W.heap.size W W6):W6.cell? ⟨b,0,none⟩=some v:=(hb.cell (p:=⟨b,0,none⟩) (block_lt_of_cell h)).trans h
theorem wC(b:Nat)(h:W.cell? ⟨b,0,none⟩=some v)(hb:But (InA a) W W6)(hS:St w0 b a cap L):W6.cell? ⟨b,0,none⟩=some v:=
 (hb.cell (p:=⟨b,0,none⟩) (block_lt_of_cell h) (λ⟨_,hx,e⟩=>hS.ne hx e)).trans h
theorem qT(b:Nat)(h:W.cell? ⟨b,0,none⟩=some v)(hf:W.frozen? ⟨b,0,none⟩=false)(hb:But (InA a) W W6)(hS:St w0 b a cap L):W6.frozen? ⟨b,0,none⟩=false:=
 (hb.frozen (p:=⟨b,0,none⟩) (block_lt_of_cell h) (λ⟨_,hx,e⟩=>hS.ne hx e)).trans hf
set_option maxRecDepth 20000 in
theorem ww(w:World)(b:Nat)(a:Option Addr)(cap:Nat)(L:List Rn)(lo hi:Int)(hS:St w b a cap L)(hlo:Nm lo)(hhi:Nm hi)(hlen:L.length+1<=11000000000000):
 Calls Tryz.prog 184 #[.pointer (some ⟨b,0,none⟩),.int .i64 lo,.int .i64 hi] w λe w'=>
  e=.returned (.int .i64 ((min (nb (has L) lo (hi-lo+1).toNat) mxi:Nat):Int))/\∃a' cap' L',St w' b a' cap' L'/\(∀z,has L' z=(has L z&& !(decide (lo<=z)&&decide (z<=hi))))/\L'.length<=L.length+1/\New w a a'/\But (λk=>k=b\/InA a k) w w':=by
 by_cases hle:lo<=hi
 . obtain⟨A,M,B,sp⟩:=spl lo hi hS.can.ris hle;obtain⟨gc1,gc2⟩:=uL hS.can sp hle hlo hhi;rw[<-gc1];have C1:=gZ (rF w b lo hi);obtain⟨Wa,hWa⟩:∃Wa,w3 w b lo hi=Wa:=⟨_,rfl⟩;have ka:=mP w b lo hi;have sa:=oN w b lo hi;obtain⟨p1,p2,p3⟩:=mO w b lo hi;rw[hWa] at ka sa p1 p2 p3 C1;have GS:=rW Wa b w.heap.size (w.heap.size+1) (w.heap.size+1+1) a cap L A M B lo hi (hS.keep ka) sp hle p1 p2 p3;have hbl:=hS.lt
   have C2:=gZ (lI Wa Wa 205 #[.pointer (some ⟨w.heap.size,0,none⟩),.pointer (some ⟨w.heap.size+1,0,none⟩),.pointer (some ⟨w.heap.size+1+1,0,none⟩)] _ _ GS (But.refl _ _)
    (λk hk=>by
      rcases hk with hk|rfl|rfl|rfl
      . rcases hk with rfl|⟨x,hx,rfl⟩
        . omega
        . have:=hS.row.lt hx;omega
      . omega
      . omega
      . omega) (enters_of Tryz.func205 (by kernel_rfl) rfl) gc2)
   clear GS p1 p2 p3 hWa gc1 gc2;generalize min (sz (ji M lo hi)) mxi=ans at *;obtain⟨r1,r2,r3⟩:=xA (mn:=(-9223372036854775808)) (mx:=9223372036854775807) hS.can (λr hr=>⟨(hS.bnd r hr).1.1,(hS.bnd r hr).2.2⟩) hle sp
   have C5:=gZ λ(W:World)(hb:Below w.heap.size w W)=>lJ W b a cap L lo hi A M B (hS.keep hb) sp hle
   have hLl:L.length=A.length+M.length+B.length:=by rw[sp.eq];simp[eE]
   have eL:=sp.eq;have hc:=hS.cell;have hcap:=hS.row.len;obtain⟨hc1,hc2⟩:=hcap;unfold maxLen at hc2
   have lV:(left M lo hi).length<=2:=by
    by_cases h0:M=[]
    . rw[h0,mJ];simp
    . rw[lU h0,ae];split<;>split<;>simp
   have lVM:(left M lo hi).length<=M.length+1:=by
    cases M with
    |nil=>rw[mJ];simp
    |cons=>simp;omega
   obtain⟨n1,hn1⟩:∃n:Nat,n=A.length+M.length:=⟨_,rfl⟩;rw[<-hn1] at C5;have l1:A.length<=n1:=by omega
   have l2:n1<=cap:=by omega
   have l3:n1<=11000000000000:=by omega
   have x1:(A.length:Int)<=(n1:Int):=by omega
   have x2:(n1:Int)<=(cap:Int):=by omega
   have wN:IntKind.i64.wrap (n1:Int)=(n1:Int):=im (by omega) (by omega)
   have nM:n1-A.length=M.length:=by omega
   have wL:IntKind.i64.wrap (A.length:Int)=(A.length:Int):=im (by omega) (by omega)
   have bndL:∀r∈A++left M lo hi++B,Nm r.1/\Nm r.2:=λr hr=>by
    have h1:=r3 r hr;have h2:=r1.1 r hr;unfold Nm;omega
   have bndM:∀r∈M,Nm r.1/\Nm r.2:=λr hr=>hS.bnd r (by rw[eL];simp[hr])
   have HN1:=gZ hn1;have SS:=gZ hS;have HL:=gZ hLl;have EL:=gZ eL;have HA:=gZ hlen;have HV:=gZ lV;have HM:=gZ lVM;have HR:=gZ (And.intro r1 r2);have HB:=gZ bndL;have BM:=gZ bndM;have hAa:=gZ hlo;have hBb:=gZ hhi;clear hn1 hS hLl eL hlen r1 r2 r3 sp bndL bndM lV lVM;rcases SS.o.row.cases with⟨hag,hcz,h0⟩|⟨g,Y,hag,hg,h1,h2,h3⟩
   . subst hag;subst hcz;have e4:L.length=0:=by rw[h0];rfl
     have e1:A.length=0:=by have:=HL.o;omega
     have e2:M.length=0:=by have:=HL.o;omega
     have e3:n1=0:=by have:=HN1.o;omega
     have VS:=gZ λ(W:World)(_:Below w.heap.size w W)=>(show Vs W none M from .inl (bR.1 e2))
     clear l1 l2 l3 x1 x2 wN nM wL hc1 hc2;rw[e1,e3] at C5;go_enter Tryz.func184,Tryz.ntmps184;go_wp2_with fail
     refine C1.o.mono ?_;rintro e w1 ⟨rfl,rfl⟩;go_wp2_with fail
     refine C2.o.mono ?_;rintro e W1 ⟨rfl,hb1⟩;have b1:=bt ka hb1;go_wp2_with fail
     refine(C5.o _ b1).mono ?_;rintro e W3 ⟨rfl,hb3⟩;have b3:=bt b1 hb3;have S3:=SS.o.keep b3;have c3:=S3.cell;have f3:W3.frozen? ⟨b,0,none⟩=false:=bq _ _ _ _ _ S3.blk;have HVs:=gZ (VS.o W3.drew (bt b3 (drw W3)));have C6:=kL W3.drew none 0 M lo hi HVs.o hAa.o hBb.o BM.o (by have:=HL.o;have:=HA.o;omega)
     have C7:=λ(W:World)(a':Option Addr)(c':Nat)(hV:Vw W a' c' (left M lo hi))(hN:New W3.drew none a')(hb:Below W3.heap.size W3 W)=>jR W none 0 A M B (by have:=(S3.keep hb).row;rw[EL.o] at this;exact this) a' c' (left M lo hi) hV
      (λz y hz hy e=>by
        have h1:=S3.row.lt hz;rcases hN y hy with⟨q,hq,_⟩|h
        . cases hq
        . have h':W3.heap.size<=y.block:=h;omega) (by have:=HV.o;have:=HL.o;have:=HA.o;omega)
     have lT:(A++left M lo hi++B).length<=L.length+1:=by have:=HL.o;have:=HM.o;rw[ae,ae];omega
     have eT:A.length+(left M lo hi).length+B.length=(A++left M lo hi++B).length:=by rw[ae,ae]
     rw[eT,<-HL.o,<-HN1.o] at C7;obtain⟨R,hR⟩:∃R,A++left M lo hi++B=R:=⟨_,rfl⟩;rw[hR] at C7 lT HR HB;obtain⟨V,hV0⟩:∃V,left M lo hi=V:=⟨_,rfl⟩;rw[hV0] at C6 C7
     have fin:∀(W5:World),Below W3.heap.size W3 W5->∀(a':Option Addr)(cap':Nat)(w6:World),Vw w6 a' cap' R->New W5 none a'->But (InA none) W5 w6->St (w6.setCell ⟨b,0,none⟩ (.slice a' R.length cap')) b a' cap' R/\(∀z,has R z=(has L z&& !(decide (lo<=z)&&decide (z<=hi))))/\R.length<=L.length+1/\New w none a'/\But (λk=>k=b\/InA none k) w (w6.setCell ⟨b,0,none⟩ (.slice a' R.length cap')):=by
      intro W5 hb5 a' cap' w6 h1 h2 h3;have S5:=S3.keep hb5;have s5:=hb5.size;have s3:=b3.size;obtain⟨q1,q2⟩:=HR.o
      have nb':∀z,a'=some z->z.block≠b:=λz hz=>by
       rcases h2 z hz with⟨y,hy,e⟩|h
       . rw[<-e];exact S5.ne hy
       . have:=SS.o.lt;omega
      have bb:=h3.same S5.blk (λh=>by obtain⟨z,hz,e⟩:=h;exact S5.ne hz e)
      have bw6:But (λk=>k=b\/InA none k) w w6:=(But.ofBelow (bt b3 hb5)).trans h3 (λk _ h=>.inr h)
      refine⟨⟨?_,?_,q1,HB.o,by have:=HA.o;omega⟩,q2,lT,h2.mono (by omega),bw6.setCell (λ_=>.inl rfl) _⟩
      . rw[aR _ _ _ _ _ _ bb];rfl
      . exact h1.but (S:=λk=>k=b) ((But.refl (λk=>k=b) w6).setCell (p:=⟨b,0,none⟩) (λ_=>rfl) _) (λz hz=>nb' z hz)
     have FF:=gZ fin;have G6:=gZ C6;have G7:=gZ C7;clear fin C6 C7 HR HB HA HL HN1 EL S3 eT HVs HV HM BM hR hV0;rw[e1,e3,e4,show((0:Nat):Int)=0 from rfl] at G7
     rw[e2] at G6;rw[e4] at c3;clear e1 e2 e3 e4 h0;go_wp2_with fail
     go_region_with (first|(go_at_call 201;with_reducible refine G6.o.mono ?_;rintro e w5 ⟨a5,c5,rfl,h1,h2,h3⟩;have B5:=gZ (show Below W3.heap.size W3 w5 from bt (drw W3) h3);have cb5:=xM b c3 B5.o;have G8:=gZ (G7.o w5 a5 c5 h1 h2 B5.o);clear h1 h2 h3)|(go_at_call 178;with_reducible refine G8.o.mono ?_;rintro e w6 ⟨a',cap',rfl,h1,h2,h3⟩;have cb6:=wC b cb5 h3 SS.o;have fb6:=qT b cb5 ((B5.o.frozen (p:=⟨b,0,none⟩) (block_lt_of_cell c3)).trans f3) h3 SS.o;have F1:=gZ (FF.o w5 B5.o a' cap' w6 h1 h2 h3);clear h1 h2 h3))
     all_goals
      go_wp2;go_ret;exact⟨rfl,a',cap',R,F1.o⟩
   . subst hag;have glt:=hg.lt;by_cases hm0:M.length=0
     . have hnn:n1=A.length:=by omega
       subst hnn;clear nM;have VS:=gZ λ(W:World)(am:Option Addr)(_:Below w.heap.size w W)=>(show Vs W am M from .inl (bR.1 hm0))
       by_cases hcz:cap=A.length
       all_goals
        clear hg h1 h2 h3;go_enter Tryz.func184,Tryz.ntmps184;go_wp2_with fail
        refine C1.o.mono ?_;rintro e w1 ⟨rfl,rfl⟩;go_wp2_with fail
        refine C2.o.mono ?_;rintro e W1 ⟨rfl,hb1⟩;have b1:=bt ka hb1;go_wp2_with fail
        refine(C5.o _ b1).mono ?_;rintro e W3 ⟨rfl,hb3⟩;have b3:=bt b1 hb3;have S3:=SS.o.keep b3;have c3:=S3.cell;have f3:W3.frozen? ⟨b,0,none⟩=false:=bq _ _ _ _ _ S3.blk;first
        |have e0:cap=A.length:=hcz
         clear e0;have HVs:=gZ (VS.o W3.drew (some ⟨g,0,none⟩) (bt b3 (drw W3)));have C6:=kL W3.drew (some ⟨g,0,none⟩) 0 M lo hi HVs.o hAa.o hBb.o BM.o (by have:=HL.o;have:=HA.o;omega)
        |have HVs:=gZ (VS.o W3.drew (some ⟨g,A.length*2,none⟩) (bt b3 (drw W3)))
         have C6:=kL W3.drew (some ⟨g,A.length*2,none⟩) (cap-A.length) M lo hi HVs.o hAa.o hBb.o BM.o (by have:=HL.o;have:=HA.o;omega)
        have C7:=λ(W:World)(a':Option Addr)(c':Nat)(hV:Vw W a' c' (left M lo hi))(hN:New W3.drew none a')(hb:Below W3.heap.size W3 W)=>jR W (some ⟨g,0,none⟩) cap A M B (by have:=(S3.keep hb).row;rw[EL.o] at this;exact this) a' c' (left M lo hi) hV
         (λz y hz hy e=>by
           have h1:=S3.row.lt hz;rcases hN y hy with⟨q,hq,_⟩|h
           . cases hq
           . have h':W3.heap.size<=y.block:=h;omega) (by have:=HV.o;have:=HL.o;have:=HA.o;omega)
        have lT:(A++left M lo hi++B).length<=L.length+1:=by have:=HL.o;have:=HM.o;rw[ae,ae];omega
        have eT:A.length+(left M lo hi).length+B.length=(A++left M lo hi++B).length:=by rw[ae,ae]
        rw[eT,<-HL.o,<-HN1.o] at C7;obtain⟨R,hR⟩:∃R,A++left M lo hi++B=R:=⟨_,rfl⟩;rw[hR] at C7 lT HR HB;obtain⟨V,hV0⟩:∃V,left M lo hi=V:=⟨_,rfl⟩;rw[hV0] at C6 C7
        have fin:∀(W5:World),Below W3.heap.size W3 W5->∀(a':Option Addr)(cap':Nat)(w6:World),Vw w6 a' cap' R->New W5 (some ⟨g,0,none⟩) a'->But (InA (some ⟨g,0,none⟩)) W5 w6->St (w6.setCell ⟨b,0,none⟩ (.slice a' R.length cap')) b a' cap' R/\(∀z,has R z=(has L z&& !(decide (lo<=z)&&decide (z<=hi))))/\R.length<=L.length+1/\New w (some ⟨g,0,none⟩) a'/\But (λk=>k=b\/InA (some ⟨g,0,none⟩) k) w (w6.setCell ⟨b,0,none⟩ (.slice a' R.length cap')):=by
         intro W5 hb5 a' cap' w6 h1 h2 h3;have S5:=S3.keep hb5;have s5:=hb5.size;have s3:=b3.size;obtain⟨q1,q2⟩:=HR.o
         have nb':∀z,a'=some z->z.block≠b:=λz hz=>by
          rcases h2 z hz with⟨y,hy,e⟩|h
          . rw[<-e];exact S5.ne hy
          . have:=SS.o.lt;omega
         have bb:=h3.same S5.blk (λh=>by obtain⟨z,hz,e⟩:=h;exact S5.ne hz e)
         have bw6:But (λk=>k=b\/InA (some ⟨g,0,none⟩) k) w w6:=(But.ofBelow (bt b3 hb5)).trans h3 (λk _ h=>.inr h)
         refine⟨⟨?_,?_,q1,HB.o,by have:=HA.o;omega⟩,q2,lT,h2.mono (by omega),bw6.setCell (λ_=>.inl rfl) _⟩
         . rw[aR _ _ _ _ _ _ bb];rfl
         . exact h1.but (S:=λk=>k=b) ((But.refl (λk=>k=b) w6).setCell (p:=⟨b,0,none⟩) (λ_=>rfl) _) (λz hz=>nb' z hz)
        have FF:=gZ fin;have G6:=gZ C6;have G7:=gZ C7;clear fin C6 C7 HR HB HA HL HN1 EL S3 eT HVs HV HM BM hR hV0;rw[hm0] at G6;try rw[hcz] at G7
        clear hm0;go_wp2_with fail
        go_region_with (first|(go_at_call 201;with_reducible refine G6.o.mono ?_;rintro e w5 ⟨a5,c5,rfl,h1,h2,h3⟩;have B5:=gZ (show Below W3.heap.size W3 w5 from bt (drw W3) h3);have cb5:=xM b c3 B5.o;have G8:=gZ (G7.o w5 a5 c5 h1 h2 B5.o);clear h1 h2 h3)|(go_at_call 178;with_reducible refine G8.o.mono ?_;rintro e w6 ⟨a',cap',rfl,h1,h2,h3⟩;have cb6:=wC b cb5 h3 SS.o;have fb6:=qT b cb5 ((B5.o.frozen (p:=⟨b,0,none⟩) (block_lt_of_cell c3)).trans f3) h3 SS.o;have F1:=gZ (FF.o w5 B5.o a' cap' w6 h1 h2 h3);clear h1 h2 h3))
        all_goals
         go_wp2;go_ret;exact⟨rfl,a',cap',R,F1.o⟩
     . have hcz:¬cap=A.length:=by omega
       have hmp:M≠[]:=λe=>hm0 (by rw[e];rfl)
       have VS:=gZ λ(W:World)(hb:Below w.heap.size w W)=>(show Vs W (some ⟨g,A.length*2,none⟩) M from by
        have h:=(SS.o.keep hb).row.vs;rw[EL.o] at h;obtain⟨b0,o0,e0,h⟩:=h.mid hmp;simp only[aE,Addr.mk.injEq,dT] at e0;obtain⟨rfl,rfl⟩:=e0;rwa [bG] at h)
       clear hg h1 h2 h3 hmp hm0;go_enter Tryz.func184,Tryz.ntmps184;go_wp2_with fail
       refine C1.o.mono ?_;rintro e w1 ⟨rfl,rfl⟩;go_wp2_with fail
       refine C2.o.mono ?_;rintro e W1 ⟨rfl,hb1⟩;have b1:=bt ka hb1;go_wp2_with fail
       refine(C5.o _ b1).mono ?_;rintro e W3 ⟨rfl,hb3⟩;have b3:=bt b1 hb3;have S3:=SS.o.keep b3;have c3:=S3.cell;have f3:W3.frozen? ⟨b,0,none⟩=false:=bq _ _ _ _ _ S3.blk;have HVs:=gZ (VS.o W3.drew (bt b3 (drw W3)));have C6:=kL W3.drew (some ⟨g,A.length*2,none⟩) (cap-A.length) M lo hi HVs.o hAa.o hBb.o BM.o (by have:=HL.o;have:=HA.o;omega)
       have C7:=λ(W:World)(a':Option Addr)(c':Nat)(hV:Vw W a' c' (left M lo hi))(hN:New W3.drew none a')(hb:Below W3.heap.size W3 W)=>jR W (some ⟨g,0,none⟩) cap A M B (by have:=(S3.keep hb).row;rw[EL.o] at this;exact this) a' c' (left M lo hi) hV
        (λz y hz hy e=>by
          have h1:=S3.row.lt hz;rcases hN y hy with⟨q,hq,_⟩|h
          . cases hq
          . have h':W3.heap.size<=y.block:=h;omega) (by have:=HV.o;have:=HL.o;have:=HA.o;omega)
       have lT:(A++left M lo hi++B).length<=L.length+1:=by have:=HL.o;have:=HM.o;rw[ae,ae];omega
       have eT:A.length+(left M lo hi).length+B.length=(A++left M lo hi++B).length:=by rw[ae,ae]
       rw[eT,<-HL.o,<-HN1.o] at C7;obtain⟨R,hR⟩:∃R,A++left M lo hi++B=R:=⟨_,rfl⟩;rw[hR] at C7 lT HR HB;obtain⟨V,hV0⟩:∃V,left M lo hi=V:=⟨_,rfl⟩;rw[hV0] at C6 C7
       have fin:∀(W5:World),Below W3.heap.size W3 W5->∀(a':Option Addr)(cap':Nat)(w6:World),Vw w6 a' cap' R->New W5 (some ⟨g,0,none⟩) a'->But (InA (some ⟨g,0,none⟩)) W5 w6->St (w6.setCell ⟨b,0,none⟩ (.slice a' R.length cap')) b a' cap' R/\(∀z,has R z=(has L z&& !(decide (lo<=z)&&decide (z<=hi))))/\R.length<=L.length+1/\New w (some ⟨g,0,none⟩) a'/\But (λk=>k=b\/InA (some ⟨g,0,none⟩) k) w (w6.setCell ⟨b,0,none⟩ (.slice a' R.length cap')):=by
        intro W5 hb5 a' cap' w6 h1 h2 h3;have S5:=S3.keep hb5;have s5:=hb5.size;have s3:=b3.size;obtain⟨q1,q2⟩:=HR.o
        have nb':∀z,a'=some z->z.block≠b:=λz hz=>by
         rcases h2 z hz with⟨y,hy,e⟩|h
         . rw[<-e];exact S5.ne hy
         . have:=SS.o.lt;omega
        have bb:=h3.same S5.blk (λh=>by obtain⟨z,hz,e⟩:=h;exact S5.ne hz e)
        have bw6:But (λk=>k=b\/InA (some ⟨g,0,none⟩) k) w w6:=(But.ofBelow (bt b3 hb5)).trans h3 (λk _ h=>.inr h)
        refine⟨⟨?_,?_,q1,HB.o,by have:=HA.o;omega⟩,q2,lT,h2.mono (by omega),bw6.setCell (λ_=>.inl rfl) _⟩
        . rw[aR _ _ _ _ _ _ bb];rfl
        . exact h1.but (S:=λk=>k=b) ((But.refl (λk=>k=b) w6).setCell (p:=⟨b,0,none⟩) (λ_=>rfl) _) (λz hz=>nb' z hz)
       have FF:=gZ fin;have G6:=gZ C6;have G7:=gZ C7;clear fin C6 C7 HR HB HA HL HN1 EL S3 eT HVs HV HM BM hR hV0;go_wp2_with fail
       go_region_with (first|(go_at_call 201;with_reducible refine G6.o.mono ?_;rintro e w5 ⟨a5,c5,rfl,h1,h2,h3⟩;have B5:=gZ (show Below W3.heap.size W3 w5 from bt (drw W3) h3);have cb5:=xM b c3 B5.o;have G8:=gZ (G7.o w5 a5 c5 h1 h2 B5.o);clear h1 h2 h3)|(go_at_call 178;with_reducible refine G8.o.mono ?_;rintro e w6 ⟨a',cap',rfl,h1,h2,h3⟩;have cb6:=wC b cb5 h3 SS.o;have fb6:=qT b cb5 ((B5.o.frozen (p:=⟨b,0,none⟩) (block_lt_of_cell c3)).trans f3) h3 SS.o;have F1:=gZ (FF.o w5 B5.o a' cap' w6 h1 h2 h3);clear h1 h2 h3))
       all_goals
        go_wp2;go_ret;exact⟨rfl,a',cap',R,F1.o⟩
 . have h0:(hi-lo+1).toNat=0:=by omega
   rw[h0]
   have hz:∀z,has L z=(has L z&& !(decide (lo<=z)&&decide (z<=hi))):=λz=>by
    have:(decide (lo<=z)&&decide (z<=hi))=false:=by
     rw[ed,di,di];omega
    rw[this];simp
   have hlt:hi<lo:=by omega
   have SS:=gZ hS;have HZ:=gZ hz;clear hS hz hlo hhi;go_enter Tryz.func184,Tryz.ntmps184;go_wp2;go_ret;exact⟨rfl,a,cap,L,SS.o,(by simpa using HZ.o),dW _,New.refl _ _,But.refl _ _⟩
end Go.Proofs.YtbdkogimlbnlmaaGreat.Q
