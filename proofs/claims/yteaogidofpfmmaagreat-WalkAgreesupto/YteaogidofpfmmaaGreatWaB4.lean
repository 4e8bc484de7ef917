import Derived.Test.YteaogidofpfmmaaGreatWaB3
import Derived.Laws.ResultCell
import Derived.BigFrameIn
set_option linter.all false
set_option maxHeartbeats 8000000
namespace Go.Proofs.YteaogidofpfmmaaGreat.Q
open Tryz
open Go.RowKit
variable {L:List Rn}{C:List Value}{cap g n:Nat}{a:Option Addr}{e:TypeId}{v:Value}{W W6 w w' w0:World}
theorem Fn(w:World)(b:Nat)(a:Option Addr)(cap:Nat)(L:List Rn)(c:St w b a cap L):
 Calls prog 125 #[.pointer (some ⟨b,0,none⟩)] w λe w'=>e=.returned (.int .i64 ((min (sz L) mxi:Nat):Int))/\Below w.heap.size w w':=by
 have m:=c.cell;have h:=ix (za w a L.length cap);have f:=al w (.cells #[.slice a L.length cap] 218);have nb:=iT w (.slice a L.length cap) 218
 have i:=ix (pQ (w.alloc (.cells #[.slice a L.length cap] 218)) (w.alloc (.cells #[.slice a L.length cap] 218)) 191 #[.pointer (some ⟨w.heap.size,0,none⟩)] L _ (wQ _ w.heap.size a cap L nb (c.row.vs.keep f) c.len) (But.refl _ _)
  (λk hk=>by
    rcases hk with rfl|⟨x,j,rfl⟩
    . rw[size_alloc];omega
    . have:=c.row.lt j;rw[size_alloc];omega) (enters_of func191 (by kernel_rfl) rfl) (λr d=>⟨(c.bnd r d).1,(c.bnd r d).2,c.can.1 r d⟩))
 clear c nb;generalize min (sz L) mxi=z at *;generalize L.length=n at *;go_enter func125,ntmps125;go_wp2_with fail
 refine h.o.mono ?_;rintro e p ⟨rfl,rfl⟩;go_wp2_with fail
 refine i.o.mono ?_;rintro e q ⟨rfl,l⟩;go_wp2;go_ret;exact⟨rfl,bt f l⟩
theorem BQ(l c:Nat)(m:l<=c)(k:c<=14000000000000)(w:World):(Instr.makeSlice 218 (.int .i64 (l:Int)) (.int .i64 (c:Int))).run prog w=.ok (.slice (some ⟨w.heap.size,0,none⟩) l c) (w.alloc (.cells (madeCells (rcs Rn.zero) (c*2)) 221)):=by
 obtain⟨f,d,h,i,j⟩:=eo pF;have b:=run_make (P:=prog) w 218 221 f (.agg (rcs Rn.zero)) underlying218 d h .i64 .i64 l c (by omega) (by omega) (by rw[j];omega) (by omega)
 simp only[e8,i] at b;exact b
theorem yC{A M B:List Rn}{b hi:Int}(j:Can L)(d:Spl L b hi A M B)(l:b<=hi)(t:Nm b)(s:Nm hi):
 sz (gap b hi (kr M b hi))=nb (λz=> !has L z) b (hi-b+1).toNat/\∀r∈gap b hi (kr M b hi),Nm r.1/\Nm r.2/\r.1<=r.2:=by
 have q:Ris M:=⟨λr c=>j.1 r (by rw[d.eq];simp[c]),by have:=j.ris.2;rw[d.eq,lj] at this;exact this.2.1⟩
 obtain⟨c1,c2⟩:=wg l q d.m;obtain⟨f,h,m⟩:=uO l c1 c2;constructor
 . rw[Ew (a:=b) (k:=(hi-b+1).toNat) f (λr c=>by have:=h r c;omega)]
   refine qx λx i p=>?_
   rw[m,Cx d,ar i,ar (show x<=hi by omega)]
   simp
 . intro r c;have i:=h r c;have p:=f.1 r c;unfold Nm at *;omega
theorem Hm(b:Nat)(h:W.cell? ⟨b,0,none⟩=some v)(hb:But (InA a) W.drew W6)(c:St w0 b a cap L):W6.cell? ⟨b,0,none⟩=some v:=
 (hb.cell (p:=⟨b,0,none⟩) (block_lt_of_cell h) (λ⟨_,d,e⟩=>c.ne d e)).trans h
theorem Fi(b:Nat)(h:W.cell? ⟨b,0,none⟩=some v)(d:W.frozen? ⟨b,0,none⟩=false)(hb:But (InA a) W.drew W6)(c:St w0 b a cap L):W6.frozen? ⟨b,0,none⟩=false:=
 (hb.frozen (p:=⟨b,0,none⟩) (block_lt_of_cell h) (λ⟨_,f,e⟩=>c.ne f e)).trans d
set_option maxRecDepth 20000 in
theorem xE(w:World)(b:Nat)(a:Option Addr)(cap:Nat)(L:List Rn)(c hi:Int)(t:St w b a cap L)(X:Nm c)(V:Nm hi)(aI:L.length+1<=11000000000000):
 Calls prog 166 #[.pointer (some ⟨b,0,none⟩),.int .i64 c,.int .i64 hi] w λe w'=>
  e=.returned (.int .i64 ((min (nb (λz=> !has L z) c (hi-c+1).toNat) mxi:Nat):Int))/\∃E J L',St w' b E J L'/\(∀z,has L' z=(has L z||(decide (c<=z)&&decide (z<=hi))))/\L'.length<=L.length+1/\New w a E/\But (λk=>k=b\/InA a k) w w':=by
 by_cases ae:c<=hi
 . obtain⟨A1,M1,B1,ao⟩:=spl c hi t.can.ris ae;obtain⟨ay,az⟩:=yC t.can ao ae X V;rw[<-ay];have C1:=ix (Dj w b c hi);obtain⟨Wa,aC⟩:∃Wa,w3 w b c hi=Wa:=⟨_,rfl⟩;have ka:=qu w b c hi;have sa:=sG w b c hi;obtain⟨p1,p2,p3⟩:=qo w b c hi;rw[aC] at ka sa p1 p2 p3 C1;have GS:=DJ Wa b w.heap.size (w.heap.size+1) (w.heap.size+1+1) a cap L A1 M1 B1 c hi (t.keep ka) ao ae X V p1 p2 p3;have bf:=t.lt
   have C2:=ix (pQ Wa Wa 199 #[.pointer (some ⟨w.heap.size+1,0,none⟩),.pointer (some ⟨w.heap.size,0,none⟩),.pointer (some ⟨w.heap.size+1+1,0,none⟩)] _ _ GS (But.refl _ _)
    (λk hk=>by
      rcases hk with hk|rfl|rfl|rfl
      . rcases hk with rfl|⟨aK,hx,rfl⟩
        . omega
        . have:=t.row.lt hx;omega
      . omega
      . omega
      . omega) (enters_of func199 (by kernel_rfl) rfl) az)
   clear GS p1 p2 p3 aC ay az ao;generalize min (sz (gap c hi (kr M1 c hi))) mxi=a6 at *;have hx:max (-9223372036854775808) (c-1)<=min 9223372036854775807 (hi+1):=by have O:=X;have K:=V;unfold Nm at O K;omega
   obtain⟨A,M,B,sp⟩:=spl (max (-9223372036854775808) (c-1)) (min 9223372036854775807 (hi+1)) t.can.ris hx;obtain⟨r1,r2,r3,r4,r5,r6,r7⟩:=Fj (mn:=(-9223372036854775808)) (mx:=9223372036854775807) t.can (λr hr=>⟨(t.bnd r hr).1.1,(t.bnd r hr).2.2⟩) ae X.1 V.2 rfl rfl sp
   have C3:=ix λW=>yT W c X
   have C4:=ix λW=>oF W hi V
   have C5:=ix λ(W:World)(hb:Below w.heap.size w W)=>pS W b a cap L (max (-9223372036854775808) (c-1)) (min 9223372036854775807 (hi+1)) A M B (t.keep hb) sp hx
   have aA:L.length=A.length+M.length+B.length:=by rw[sp.eq];simp[gh]
   have eL:=sp.eq;have hc:=t.cell;generalize max (-9223372036854775808) (c-1)=aK at *;generalize min 9223372036854775807 (hi+1)=ar at *;obtain⟨P,an⟩:∃n:Nat,n=A.length+M.length:=⟨_,rfl⟩;rw[<-an] at C5;have be:P<=11000000000000:=by omega
   have T:=ix an;have D:=ix t;have R1:=ix (And.intro r1 (And.intro r2 (And.intro r3 (And.intro r4 (And.intro r5 r6)))));have HL:=ix aA;have Z:=ix eL;have SP:=ix sp;have HA:=ix aI;have HR:=ix R1.o
   have HB:=ix (show ∀r∈A++[(kF M c,kB M hi)]++B,Nm r.1/\Nm r.2 from λr hr=>by
    obtain⟨q1,q2,q3,q4,q5,q6⟩:=R1.o;rcases jS.1 hr with hr|hr|hr
    . exact D.o.bnd r (by rw[Z.o];simp[hr])
    . rw[aZ] at hr;rw[hr];have:=X.1;have:=X.2;have:=V.1;have:=V.2;unfold Nm;show(_<=kF M c/\kF M c<=_)/\(_<=kB M hi/\kB M hi<=_);omega
    . exact D.o.bnd r (by rw[Z.o];simp[hr]))
   clear an t r1 r2 r3 r4 r5 r6 r7 aA eL sp aI R1;go_enter func166,ntmps166;go_wp2_with fail
   refine C1.o.mono ?_;rintro e w1 ⟨rfl,rfl⟩;go_wp2_with fail
   refine C2.o.mono ?_;rintro e d ⟨rfl,aj⟩;have y:=bt ka aj;go_wp2_with fail
   refine(C3.o _).mono ?_;rintro e w2 ⟨rfl,rfl⟩;go_wp2_with fail
   refine(C4.o _).mono ?_;rintro e w2 ⟨rfl,rfl⟩;go_wp2_with fail
   refine(C5.o _ (bt y (al _ _))).mono ?_;rintro e F ⟨rfl,ad⟩;have m:=bt (bt y (al _ _)) ad;have j0:=(ad.block d.heap.size (by rw[size_alloc];omega)).trans (ag d (.cells #[.int .i64 c,.int .i64 hi] 221))
   have s3:d.heap.size<F.heap.size:=by have:=ad.size;rw[size_alloc] at this;omega
   have aP:d.heap.size≠b:=by have:=y.size;omega
   by_cases I:M=[]
   all_goals
    first
    |have hj:kF M c=c/\kB M hi=hi:=by rw[I];exact⟨rfl,rfl⟩
     have aT:P=A.length:=by rw[T.o,I];simp
     rw[hj.1,hj.2] at HR HB;clear hj I;subst aT;obtain⟨i,ab⟩:∃j,j=c:=⟨_,rfl⟩;obtain⟨s,aa⟩:∃j,j=hi:=⟨_,rfl⟩;go_wp2_with fail
     obtain⟨q,U⟩:∃q,q=F:=⟨_,rfl⟩;rw[<-U];have j4:q.heap[d.heap.size]?=some (.cells #[.int .i64 i,.int .i64 s] 221 (0,0)):=by rw[U,ab,aa];exact j0
     have b4:But (λk=>k=d.heap.size) w q:=by rw[U];exact But.ofBelow m
     rw[show(A++[(c,hi)]++B)=A++[(i,s)]++B by rw[ab,aa]] at HR HB
     clear ab aa U aj ad m
    |obtain⟨g,Y,ac,hg⟩:∃g Y,a=some ⟨g,0,none⟩/\jC w g (rc L++Y):=by
      rcases D.o.row.cases with⟨_,_,h0⟩|⟨g,Y,O,K,_⟩
      . rw[Z.o] at h0;simp at h0;exact absurd h0.2.1 I
      . exact⟨g,Y,O,K⟩
     have ak:0<M.length:=bY.2 I;have aS:A.length<P:=by have:=T.o;omega
     have aU:A.length<L.length:=by have:=HL.o;omega
     have aF:P-1<L.length:=by have:=HL.o;have:=T.o;omega
     have ef:L.getD A.length Rn.zero=M.head I:=by rw[Z.o,aM,aR,bP (am _),eC,db ak,List.head_eq_getElem,bX ak];rfl
     have el:L.getD (P-1) Rn.zero=M.getLast I:=by
      rw[Z.o,aM,db (by have:=T.o;simp;omega),bP (by have:=T.o;omega),List.getLast_eq_getElem,show P-1-A.length=M.length-1 by have:=T.o;omega,bX (by omega)]
      rfl
     obtain⟨b0,o0,l,d1,d2⟩:=D.o.row.vs.at aU;rw[ac] at l;simp only[au,Addr.mk.injEq,d9] at l;obtain⟨rfl,rfl⟩:=l;obtain⟨a7,bg,l,d3,d4⟩:=D.o.row.vs.at aF;rw[ac] at l;simp only[au,Addr.mk.injEq,d9] at l;obtain⟨rfl,rfl⟩:=l;rw[de,ef] at d1;rw[de,el] at d4;have ab:=tD I c;have aa:=tC I hi;obtain⟨m1,aD⟩:∃aJ:Nat,aJ=P-1:=⟨_,rfl⟩;rw[<-aD] at d4 aF;have i1:(P:Int)-1=(m1:Int):=by omega
     have bd:g≠b:=D.o.ne ac;have bc:=hg.lt;generalize M.head I=ap at *;generalize M.getLast I=aq at *;obtain⟨i,a4⟩:∃j,(if ap.1<c then ap.1 else c)=j:=⟨_,rfl⟩
     obtain⟨s,a3⟩:∃j,(if hi<aq.2 then aq.2 else hi)=j:=⟨_,rfl⟩
     have aw:kF M c=i:=by rw[ab,<-a4];split<;>omega
     have av:kB M hi=s:=by rw[aa,<-a3];split<;>omega
     rw[aw,av] at HR HB;rw[ac] at hc;clear ac I aw av ab aa d2 d3 ef el hg aD ak;have ah:=(m.cell (p:=⟨b,0,none⟩) (block_lt_of_cell hc)).trans hc;have e1:=(m.cell (p:=⟨g,A.length*2,none⟩) (block_lt_of_cell d1)).trans d1;have e4:=(m.cell (p:=⟨g,m1*2+1,none⟩) (block_lt_of_cell d4)).trans d4;have jf:∀k,F.frozen? ⟨d.heap.size,k,none⟩=false:=λk=>bq _ _ _ _ _ j0
     have aV:=jf 0;have aW:=jf 1;have aY:F.cell? ⟨d.heap.size,0,none⟩=some (.int .i64 c):=by rw[ai _ _ _ _ _ _ j0];rfl
     have a0:F.cell? ⟨d.heap.size,1,none⟩=some (.int .i64 hi):=by rw[ai _ _ _ _ _ _ j0];rfl
     have aQ:d.heap.size≠g:=by have:=y.size;omega
     have o1:But (λk=>k=d.heap.size) F (F.setCell ⟨d.heap.size,0,none⟩ (.int .i64 i)):=(But.refl (λk=>k=d.heap.size) F).setCell (p:=⟨d.heap.size,0,none⟩) (λ_=>rfl) _
     have aO:=(o1.cell (p:=⟨b,0,none⟩) (block_lt_of_cell ah) (λe=>aP e.symm)).trans ah
     have e5:=(o1.cell (p:=⟨g,m1*2+1,none⟩) (block_lt_of_cell e4) (λe=>aQ e.symm)).trans e4
     have q0:=aE F d.heap.size 0 _ _ (.int .i64 i) j0;have q1:=aE _ d.heap.size 1 _ _ (.int .i64 s) q0;have aX:(F.setCell ⟨d.heap.size,0,none⟩ (.int .i64 i)).frozen? ⟨d.heap.size,1,none⟩=false:=bq _ _ _ _ _ q0;have a1:(F.setCell ⟨d.heap.size,0,none⟩ (.int .i64 i)).cell? ⟨d.heap.size,1,none⟩=some (.int .i64 hi):=by rw[ai _ _ _ _ _ _ q0];rfl
     have Q1:=ix q1;have B4:=ix ((But.ofBelow (S:=λk=>k=d.heap.size) m).trans (o1.setCell (p:=⟨d.heap.size,1,none⟩) (λ_=>rfl) (.int .i64 s)) (λ_ _ h=>h))
     clear q0 q1 jf o1;go_wp2_with fail
     obtain⟨q,U⟩:∃q,(F.setCell ⟨d.heap.size,0,none⟩ (.int .i64 i)).setCell ⟨d.heap.size,1,none⟩ (.int .i64 s)=q:=⟨_,rfl⟩;have b4:=B4.o;have j4:q.heap[d.heap.size]?=some (.cells #[.int .i64 i,.int .i64 s] 221 (0,0)):=by rw[<-U];exact Q1.o
     rw[U] at b4 ⊢;clear Q1 B4 U aj ad m ah aO e1 e4 e5 aV aW aX aY a0 a1 d1 d4
    have aG:q.cell? ⟨d.heap.size,0,none⟩=some (.int .i64 i):=by rw[ai _ _ _ _ _ _ j4];rfl
    have aH:q.cell? ⟨d.heap.size,1,none⟩=some (.int .i64 s):=by rw[ai _ _ _ _ _ _ j4];rfl
    have S4:=D.o.but b4 (λh=>by have:=y.size;omega) (λz H h=>by have:=D.o.row.lt H;have:=y.size;omega)
    have c4:=S4.cell;have f4:q.frozen? ⟨b,0,none⟩=false:=bq _ _ _ _ _ S4.blk;have a5:=al q (.cells #[.int .i64 i,.int .i64 s] 221);have n5:=ag q (.cells #[.int .i64 i,.int .i64 s] 221);obtain⟨G,aB⟩:∃G,q.alloc (.cells #[.int .i64 i,.int .i64 s] 221)=G:=⟨_,rfl⟩;rw[aB] at a5 n5;have f:=S4.keep a5;have s5:G.heap.size=q.heap.size+1:=by rw[<-aB,size_alloc]
    have V5:Vw G (some ⟨q.heap.size,0,none⟩) 1 [(i,s)]:=Vw.mk (Y:=[]) (by unfold jC;rw[dr];exact n5) (am _) (by unfold maxLen;omega) (by simp)
    have a8:w.heap.size<=q.heap.size:=b4.size;have C6:=wO G.drew a cap A M B (by have:=f.row;rw[Z.o] at this;exact this) (some ⟨q.heap.size,0,none⟩) 1 [(i,s)] V5 (λz ar H hy e=>by have:=D.o.row.lt H;cases hy;have e':z.block=q.heap.size:=e;omega) (by have:=HA.o;have:=HL.o;simp;omega)
    rw[<-HL.o,<-T.o] at C6;have eT:A.length+[(i,s)].length+B.length=(A++[(i,s)]++B).length:=by rw[af,af]
    rw[eT] at C6;have lT:(A++[(i,s)]++B).length<=L.length+1:=by have:=HL.o;simp;omega
    have c5:=f.cell;have f5:G.frozen? ⟨b,0,none⟩=false:=bq _ _ _ _ _ f.blk;have bh:=(a5.cell (p:=⟨d.heap.size,0,none⟩) (block_lt_of_cell aG)).trans aG;have bi:=(a5.cell (p:=⟨d.heap.size,1,none⟩) (block_lt_of_cell aH)).trans aH;obtain⟨R,hR⟩:∃R,A++[(i,s)]++B=R:=⟨_,rfl⟩;rw[hR] at C6 lT HR HB;have aL:=ix C6
    have ax:∀(E:Option Addr)(J:Nat)(N:World),Vw N E J R->New G.drew a E->But (InA a) G.drew N->St (N.setCell ⟨b,0,none⟩ (.slice E R.length J)) b E J R/\(∀z,has R z=(has L z||(decide (c<=z)&&decide (z<=hi))))/\R.length<=L.length+1/\New w a E/\But (λk=>k=b\/InA a k) w (N.setCell ⟨b,0,none⟩ (.slice E R.length J)):=by
     intro E J N O K x;obtain⟨q1,q2,q3,q4,q5,q6⟩:=HR.o
     have a2:∀z,E=some z->z.block≠b:=λz H=>by
      rcases K z H with⟨ar,hy,e⟩|h
      . rw[<-e];exact f.ne hy
      . have h':G.heap.size<=z.block:=h;have:=D.o.lt;omega
     have bb:=x.same (show G.drew.heap[b]?=_ from f.blk) (λh=>by obtain⟨z,H,e⟩:=h;exact f.ne H e)
     have aN:But (λk=>k=b\/InA a k) w N:=(b4.mono (λk hk h=>by have:=y.size;omega)).trans (((But.ofBelow (S:=InA a) a5).trans (But.drew (But.refl (InA a) G)) (λ_ _ h=>h)).trans x (λ_ _ h=>h)) (λk _ h=>.inr h)
     refine⟨⟨?_,?_,q1,?_,by have:=HA.o;omega⟩,q2,lT,K.mono (show w.heap.size<=G.heap.size by omega),aN.setCell (λ_=>.inl rfl) _⟩
     . rw[aE _ _ _ _ _ _ bb];rfl
     . exact O.but (S:=λk=>k=b) ((But.refl (λk=>k=b) N).setCell (p:=⟨b,0,none⟩) (λ_=>rfl) _) (λz H=>a2 z H)
     . exact HB.o
    have FF:=ix ax;clear ax C6 HR HB HA HL T Z SP S4 f V5 n5 j4 a5 eT b4 j0;go_region_with (go_at_call 190;refine aL.o.mono ?_;rintro e N ⟨E,J,rfl,O,K,x⟩;have a9:=Hm b c5 x D.o;have ba:=Fi b c5 f5 x D.o;have F1:=ix (FF.o E J N O K x);clear O K x)
    all_goals
     go_wp2;go_ret;exact⟨rfl,E,J,R,F1.o⟩
 . have h0:(hi-c+1).toNat=0:=by omega
   rw[h0]
   have H:∀z,has L z=(has L z||(decide (c<=z)&&decide (z<=hi))):=λz=>by
    have:(decide (c<=z)&&decide (z<=hi))=false:=by
     rw[eY,dO,dO];omega
    rw[this,fy]
   have aS:hi<c:=by omega
   have D:=ix t;have HZ:=ix H;clear t H X V;go_enter func166,ntmps166;go_wp2;go_ret;exact⟨rfl,a,cap,L,D.o,HZ.o,eS _,New.refl _ _,But.refl _ _⟩
theorem drw(w:World):Below w.heap.size w w.drew:=⟨rfl,rfl,rfl,am _,λ_ _=>rfl⟩
def Gw(e:TypeId)(sz:Nat)(w:World)(a:Option Addr)(cap n:Nat)(C:List Value):Prop:=w.ownsRow 0 e sz (.slice a n cap) n C
theorem Gw.nil(e:TypeId)(sz:Nat)(w:World):Gw e sz w none 0 0 []:=fH w 0 e sz
theorem Gw.length{sz:Nat}(h:Gw e sz w a cap n C):C.length=n*sz:=h.1
theorem Gw.cases{sz:Nat}(h:Gw e sz w a cap n C):(a=none/\cap=0/\n=0/\C=[])\/
 ∃g cur,a=some ⟨g,0,none⟩/\w.heap[g]?=some (.cells cur e (0,0))/\n<=cap/\cap<=maxLen/\cur.size=cap*sz/\cur.toList.take (n*sz)=C:=by
 have d:=h.1;obtain⟨_,c⟩:=h;rcases c with⟨hv,h0⟩|⟨g,cap',cur,hv,_,hg,hn,hm,hs,ht⟩
 . simp only[di] at hv;refine .inl ⟨hv.1,hv.2.2,h0,dz.1 ?_⟩;rw[d,h0,eV]
 . simp only[di] at hv;obtain⟨b,_,rfl⟩:=hv;exact .inr ⟨g,cur,b,hg,hn,hm,hs,ht⟩
theorem Gw.mk{sz:Nat}{cur:Array Value}(c:C.length=n*sz)(b:w.heap[g]?=some (.cells cur e (0,0)))(f:n<=cap)(d:cap<=maxLen)(h:cur.size=cap*sz)(i:cur.toList.take (n*sz)=C):Gw e sz w (some ⟨g,0,none⟩) cap n C:=
 ⟨c,.inr ⟨g,cap,cur,rfl,an _,b,f,d,h,i⟩⟩
theorem Gw.lt{sz:Nat}(h:Gw e sz w a cap n C){x:Addr}(b:a=some x):x.block<w.heap.size:=by
 rcases h.cases with⟨rfl,_⟩|⟨g,cur,rfl,hg,_⟩
 . cases b
 . cases b;exact(ae.1 hg).1
theorem Gw.but{sz:Nat}{S:Nat->Prop}(h:Gw e sz w a cap n C)(hb:But S w w')(c:∀x,a=some x->¬S x.block):Gw e sz w' a cap n C:=by
 have b:=h.length;rcases h.cases with⟨rfl,rfl,rfl,rfl⟩|⟨g,cur,rfl,hg,h1,h2,h3,h4⟩
 . exact Gw.nil e sz w'
 . exact Gw.mk b (hb.same hg (c _ rfl)) h1 h2 h3 h4
theorem Gw.keep{sz:Nat}(h:Gw e sz w a cap n C)(hb:Below w.heap.size w w'):Gw e sz w' a cap n C:=
 h.but (S:=λ_=>False) (But.ofBelow hb) (λ_ _ b=>b)
theorem Gw.addr{sz:Nat}(h:Gw e sz w a cap n C)(b:0<n):∃g,a=some ⟨g,0,none⟩:=by
 rcases h.cases with⟨rfl,rfl,rfl,rfl⟩|⟨g,cur,rfl,hg,h1,h2,h3,h4⟩
 . omega
 . exact⟨g,rfl⟩
theorem Gw.cell{sz:Nat}(h:Gw e sz w (some ⟨g,0,none⟩) cap n C){i:Nat}{u:Value}(hi:C[i]?=some u):w.cell? ⟨g,i,none⟩=some u:=by
 rcases h.cases with⟨h0,_⟩|⟨g',cur,h0,hg,h1,h2,h3,h4⟩
 . cases h0
 . simp only[au,Addr.mk.injEq,d9] at h0;subst h0;have b:=(bA.1 hi).1;rw[<-h4,d5] at hi;split at hi
   . rw[ai _ _ _ _ _ _ hg];simpa using hi
   . cases hi
theorem Gw.capLe{sz:Nat}(h:Gw e sz w a cap n C):n<=cap/\cap<=maxLen:=by
 rcases h.cases with⟨rfl,rfl,rfl,rfl⟩|⟨g,cur,rfl,hg,h1,h2,h3,h4⟩
 . exact⟨am _,an _⟩
 . exact⟨h1,h2⟩
def cnt(r:Rn):Nat:=(r.2-r.1+1).toNat
def pf(x:Int)(c:Nat):List Int:=(List.range c).map λi=>x+((i:Nat):Int)
theorem wW(x:Int)(c:Nat):(pf x c).length=c:=by simp[pf]
def oz(L:List Rn):List Int:=(L.map λr=>pf r.1 (cnt r)).flatten
end Go.Proofs.YteaogidofpfmmaaGreat.Q
namespace Go.Proofs.YteaogidofpfmmaaGreat.Q
open Tryz
open Go.RowKit Go.Shelf
attribute [local go_sem] Oper.semAt_some
end Go.Proofs.YteaogidofpfmmaaGreat.Q
namespace Go.Proofs.YteaogidofpfmmaaGreat.Q
open Tryz
open Go.RowKit
variable {z:Int}{b cap i k:Nat}{col:Nat->Nat}{S:Nat->Prop}{w w':World}
theorem wu:∀{A B:List Int},A.Pairwise (· < ·)->B.Pairwise (· < ·)->(∀x,x∈A↔x∈B)->A=B
 | [],[],_,_,_=>rfl
 | [],b::B,_,_,h=>absurd ((h b).2 (by simp)) (by simp)
 |a::A,[],_,_,h=>absurd ((h a).1 (by simp)) (by simp)
 |a::A,b::B,hA,hB,h=>by
  have h1:=dd.1 hA;have d:=dd.1 hB
  have e:a=b:=by
   rcases bQ.1 ((h a).1 (by simp)) with e|m
   . exact e
   . rcases bQ.1 ((h b).2 (by simp)) with f|m'
     . exact f.symm
     . have:=d.1 a m;have:=h1.1 b m';omega
  subst e;rw[wu h1.2 d.2 λx=>?_]
  constructor
  . intro c;rcases bQ.1 ((h x).1 (br _ c)) with e|m
    . subst e;have:=h1.1 x c;omega
    . exact m
  . intro c;rcases bQ.1 ((h x).2 (br _ c)) with e|m
    . subst e;have:=d.1 x c;omega
    . exact m
theorem uz(a x:Int)(c:Nat):x∈pf a c↔a<=x/\x<a+c:=by
 unfold pf;constructor
 . intro h;obtain⟨i,d,rfl⟩:=bE.1 h;have:=dB.1 d;omega
 . intro h;exact bE.2 ⟨(x-a).toNat,dB.2 (by omega),by omega⟩
theorem zZ(a:Int)(c:Nat):(pf a c).Pairwise (· < ·):=by
 unfold pf;rw[fa];exact List.pairwise_lt_range.imp λh=>by omega
theorem pd(r:Rn)(L:List Rn):oz (r::L)=pf r.1 (cnt r)++oz L:=by simp[oz]
theorem qr:∀(L:List Rn)(x:Int),x∈oz L↔has L x=true
 | [],x=>by simp[oz,has]
 |r::L,x=>by
  rw[pd,bO,qr L x,kx,uz];unfold cnt;simp only[eF,ce,cZ];constructor
  all_goals
   rintro(h|h)
   . exact .inl (by omega)
   . exact .inr h
theorem tR:∀{L:List Rn},Ris L->(oz L).Pairwise (· < ·)
 | [],_=>by simp[oz]
 |r::L,h=>by
  rw[pd,dE];refine⟨zZ _ _,tR h.tail,λa c b hb=>?_⟩
  have h1:=(uz _ _ _).1 c;obtain⟨q,d,e,f⟩:=(has_iff L b).1 ((qr L b).1 hb);have g:=(dd.1 h.2).1 q d;unfold cnt at h1;have:=h.1 r (by simp)
  omega
theorem uu:∀(L:List Rn),(oz L).length=sz L
 | []=>rfl
 |r::L=>by rw[pd,af,uu L,wW];rfl
abbrev Pg:=Int×Bool
def Pg.zero:Pg:=(0,false)
def stt(x:Pg):Nat:=if x.1=0 then (if x.2 then 2 else 1) else (if x.2 then 4 else 3)
theorem FM(x:Pg):1<=stt x/\stt x<=4:=by unfold stt;split<;>split<;>omega
def j7(P:List Pg)(s:Nat):List Int:=((List.range P.length).filter λi=>decide (stt (P.getD i Pg.zero)=s)).map λi=>((i:Nat):Int)+1
def inS(P:List Pg)(s:Nat)(z:Int):Bool:=decide (1<=z)&&decide (z<=P.length)&&decide (stt (P.getD (z-1).toNat Pg.zero)=s)
theorem sY{P:List Pg}{s:Nat}:inS P s z=true↔1<=z/\z<=P.length/\stt (P.getD (z-1).toNat Pg.zero)=s:=by
 unfold inS;simp only[ce,cZ,and_assoc]
theorem xa(P:List Pg)(s:Nat)(z:Int):z∈j7 P s↔inS P s z=true:=by
 rw[sY];unfold j7;constructor
 . intro h;obtain⟨i,e,rfl⟩:=bE.1 h;obtain⟨a,c⟩:=dX.1 e;have d:=dB.1 a;refine⟨by omega,by omega,?_⟩
   rw[show((i:Int)+1-1).toNat=i by omega]
   simpa using c
 . rintro⟨a,c,d⟩;exact bE.2 ⟨(z-1).toNat,dX.2 ⟨dB.2 (by omega),by simpa using d⟩,by omega⟩
theorem uR(P:List Pg)(s:Nat):(j7 P s).Pairwise (· < ·):=by
 unfold j7;rw[fa];exact(List.pairwise_lt_range.filter _).imp λh=>by omega
theorem zg{L:List Rn}{P:List Pg}{s:Nat}(a:Can L)(h:∀z,has L z=inS P s z):oz L=j7 P s:=
 wu (tR a.ris) (uR P s) λx=>by rw[qr,xa,h]
theorem xh(P:List Pg)(s:Nat):(j7 P s).length<=P.length:=by
 unfold j7;rw[bM];exact ay (fN _ _) (by simp)
theorem inS_set{P:List Pg}{n:Nat}{x:Pg}{s:Nat}(c:1<=n)(d:n<=P.length)(z:Int):inS (P.set (n-1) x) s z=if z=n then decide (stt x=s) else inS P s z:=by
 by_cases a:z=n
 . subst a;rw[if_pos rfl];unfold inS;rw[da,show((n:Int)-1).toNat=n-1 by omega]
   have e:(P.set (n-1) x).getD (n-1) Pg.zero=x:=by
    rw[aM,List.getElem?_set_self (by omega)];rfl
   rw[e,ar (show(1:Int)<=n by omega),ar (show(n:Int)<=P.length by omega)]
   simp
 . rw[if_neg a];unfold inS;rw[da];by_cases h:1<=z
   . have e:(P.set (n-1) x).getD (z-1).toNat Pg.zero=P.getD (z-1).toNat Pg.zero:=by
      rw[aM,fU (by omega),<-aM]
     rw[e]
   . rw[ah h];simp
structure Po where
 rf:Int
 pg:List Pg
 ac:List (Nat×Pg)
 fl:Nat
def Po.put(P:Po)(n:Nat)(x:Pg):Po:={P with pg:=P.pg.set (n-1) x}
def Po.has(P:Po)(z:Int):Bool:=decide (1<=z)&&decide (z<=P.pg.length)
def Po.count(P:Po)(z:Int):Int:=if P.has z then (P.pg.getD (z-1).toNat Pg.zero).1 else 0
structure Po.Ok(P:Po):Prop where
 l1:1<=P.pg.length
 l2:P.pg.length<=65536
 r1:2<=P.rf
 r2:P.rf<65536
 cs:∀x∈P.pg,0<=x.1/\x.1<=P.rf
 acs:∀a∈P.ac,(1<=a.1/\a.1<=P.pg.length)/\0<=a.2.1/\a.2.1<=P.rf
theorem sK{T:Nat->Prop}{e s n:Nat}{a:Option Addr}{m c:Nat}{C:List Value}(h:w.ownsRow 0 e s (.slice a m c) n C)(hb:But T w w')(j:∀x,a=some x->¬T x.block):w'.ownsRow 0 e s (.slice a m c) n C:=by
 obtain⟨d,f⟩:=h;refine⟨d,?_⟩;rcases f with⟨hv,h0⟩|⟨g,cap',cur,hv,h3,hg,hr⟩
 . exact .inl ⟨hv,h0⟩
 . simp only[di] at hv;exact .inr ⟨g,cap',cur,by simp only[di];exact hv,h3,(hb.block g (ae.1 hg).1 (j _ hv.1)).trans hg,hr⟩
def vi(l:List Int):List Value:=l.map λx=>Value.int .i64 x
theorem Gi(l:List Int)(i:Nat)(hi:i<l.length):(vi l)[i]?=some (.int .i64 (l.getD i 0)):=by simp[vi,hi]
def Ig(w:World)(a:Option Addr)(cap:Nat)(l:List Int):Prop:=w.ownsRow 0 3 1 (.slice a l.length cap) l.length (vi l)
def Ir(w:World)(a:Option Addr)(l:List Int):Prop:=l=[]\/∃b off,a=some ⟨b,off,none⟩/\∀i,i<l.length->w.cell? ⟨b,off+i,none⟩=some (.int .i64 (l.getD i 0))
theorem Ir.keep{a:Option Addr}{l:List Int}(h:Ir w a l)(hb:Below w.heap.size w w'):Ir w' a l:=by
 rcases h with h|⟨b,e,rfl,c⟩
 . exact .inl h
 . exact .inr ⟨b,e,rfl,λi d=>(hb.cell (p:=⟨b,e+i,none⟩) (block_lt_of_cell (c i d))).trans (c i d)⟩
theorem Ig.but{a:Option Addr}{l:List Int}(h:Ig w a cap l)(hb:But S w w')(c:∀x,a=some x->¬S x.block):Ig w' a cap l:=sK h hb c
theorem Ir.at{a:Option Addr}{l:List Int}(h:Ir w a l){j:Nat}(d:j<l.length):∃b c,a=some ⟨b,c,none⟩/\w.cell? ⟨b,c+j,none⟩=some (.int .i64 (l.getD j 0)):=by
 rcases h with rfl|⟨b,c,rfl,e⟩
 . simp at d
 . exact⟨b,c,rfl,e j d⟩
theorem Ig.cases{a:Option Addr}{l:List Int}(h:Ig w a cap l):(a=none/\cap=0/\l=[])\/
 ∃g cur,a=some ⟨g,0,none⟩/\w.heap[g]?=some (.cells cur 3 (0,0))/\l.length<=cap/\cap<=maxLen/\cur.size=cap/\cur.toList.take l.length=vi l:=by
 obtain⟨_,d⟩:=h;rcases d with⟨hv,h0⟩|⟨g,cap',cur,hv,_,hg,hn,hm,hs,ht⟩
 . simp only[di] at hv;exact .inl ⟨hv.1,hv.2.2,dz.1 h0⟩
 . simp only[di] at hv;obtain⟨c,_,rfl⟩:=hv;exact .inr ⟨g,cur,c,hg,hn,hm,by omega,by rw[eR] at ht;exact ht⟩
theorem Ig.cell{g:Nat}{l:List Int}(h:Ig w (some ⟨g,0,none⟩) cap l)(hi:i<l.length):w.cell? ⟨g,i,none⟩=some (.int .i64 (l.getD i 0)):=by
 rcases h.cases with⟨h0,_⟩|⟨g',cur,h0,hg,h1,h2,h3,h4⟩
 . cases h0
 . simp only[au,Addr.mk.injEq] at h0;obtain⟨rfl,_⟩:=h0;rw[ai _ _ _ _ _ _ hg,<-Gi l i hi,<-h4,d5,if_pos hi];simp
structure Pd where
 g:Nat
 s:Nat->Nat
 a:Nat->Option Addr
 c:Nat->Nat
 L:Nat->List Rn
 aa:Option Addr
 ac:Nat
 B:List (Nat×Nat×Nat)
def qN(P:Po)(D:Pd):Array Value:=#[.int .i64 P.rf,.slice (some ⟨D.g,0,none⟩) P.pg.length P.pg.length,.pointer (some ⟨D.s 0,0,none⟩),.pointer (some ⟨D.s 1,0,none⟩),.pointer (some ⟨D.s 2,0,none⟩),.pointer (some ⟨D.s 3,0,none⟩),.pointer (some ⟨D.s 4,0,none⟩),.slice D.aa P.ac.length D.ac,.int .i64 ((P.fl:Nat):Int)]
def pgc(L:List Pg):List Value:=(L.map λx=>[Value.int .i64 x.1,Value.bool x.2]).flatten
theorem lk(x:Pg)(L:List Pg):pgc (x::L)=.int .i64 x.1:: .bool x.2::pgc L:=by simp[pgc]
theorem qU:∀(L:List Pg),(pgc L).length=L.length*2
 | []=>rfl
 |x::L=>by rw[lk,a7,a7,qU L,a7];omega
theorem s8:∀(L:List Pg)(i:Nat),i<L.length->(pgc L)[i*2]?=some (.int .i64 (L.getD i Pg.zero).1)/\(pgc L)[i*2+1]?=some (.bool (L.getD i Pg.zero).2)
 | [],i,h=>by simp at h
 |x::L,0,h=>by rw[lk];simp
 |x::L,i+1,h=>by
  rw[lk,show(i+1)*2=i*2+1+1 by omega]
  have:=s8 L i (by simpa using h)
  simpa using this
theorem xD:∀(L:List Pg)(i:Nat)(x:Pg),pgc (L.set i x)=((pgc L).set (i*2) (.int .i64 x.1)).set (i*2+1) (.bool x.2)
 | [],i,x=>by simp[pgc]
 |y::L,0,x=>by rw[gA,lk,lk];simp
 |y::L,i+1,x=>by
  rw[List.set_cons_succ,lk,lk,xD L i x,show(i+1)*2=i*2+1+1 by omega]
  simp
def clo(t:Nat×Nat×Nat):Value:=.func (.func 154) #[] #[.pointer (some ⟨t.1,0,none⟩),.pointer (some ⟨t.2.1,0,none⟩),.pointer (some ⟨t.2.2,0,none⟩)]
structure Cl(w:World)(b:Nat)(t:Nat×Nat×Nat)(x:Nat×Pg):Prop where
 p:w.cell? ⟨t.1,0,none⟩=some (.pointer (some ⟨b,0,none⟩))
 n:w.cell? ⟨t.2.1,0,none⟩=some (.int .i64 ((x.1:Nat):Int))
 c:w.cell? ⟨t.2.2,0,none⟩=some (.int .i64 x.2.1)
 l:w.cell? ⟨t.2.2,1,none⟩=some (.bool x.2.2)
theorem Cl.but{t:Nat×Nat×Nat}{x:Nat×Pg}(h:Cl w b t x)(hb:But S w w')(c:¬S t.1)(d:¬S t.2.1)(a:¬S t.2.2):Cl w' b t x:=
 ⟨(hb.cell (p:=⟨t.1,0,none⟩) (block_lt_of_cell h.p) c).trans h.p,(hb.cell (p:=⟨t.2.1,0,none⟩) (block_lt_of_cell h.n) d).trans h.n,(hb.cell (p:=⟨t.2.2,0,none⟩) (block_lt_of_cell h.c) a).trans h.c,(hb.cell (p:=⟨t.2.2,1,none⟩) (block_lt_of_cell h.l) a).trans h.l⟩
structure Pq(w:World)(b:Nat)(P:Po)(D:Pd)(col:Nat->Nat):Prop where
 box:w.heap[b]?=some (.cells (qN P D) 177 (0,0))
 pgs:w.heap[D.g]?=some (.cells (pgc P.pg).toArray 179 (0,0))
 set:∀s,s<5->St w (D.s s) (D.a s) (D.c s) (D.L s)
 acr:Gw 231 1 w D.aa D.ac P.ac.length (D.B.map clo)
 acl:D.B.length=P.ac.length
 acb:∀q∈D.B.zip P.ac,Cl w b q.1 q.2
 cb:col b=1
 cg:col D.g=2
 cs:∀s,s<5->col (D.s s)=3+s
 ca:∀s,s<5->∀x,D.a s=some x->col x.block=3+s
 cc:∀x,D.aa=some x->col x.block=8
 cB:∀t∈D.B,col t.1=9/\col t.2.1=9/\col t.2.2=9
 lt:∀k,col k≠0->k<w.heap.size
theorem qz{α β:Type}:∀{A:List α}{B:List β}{q:α×β},q∈A.zip B->q.1∈A/\q.2∈B:=λ{A B q} h=>⟨(List.of_mem_zip h).1,(List.of_mem_zip h).2⟩
theorem Pq.but{P:Po}{D:Pd}(h:Pq w b P D col)(hb:But S w w')(d:∀k,col k≠0->¬S k):Pq w' b P D col:=by
 have a:∀{k c:Nat},col k=c+1->¬S k:=λe=>d _ (by omega)
 refine⟨hb.same h.box (a (c:=0) h.cb),hb.same h.pgs (a (c:=1) h.cg),λs f=>(h.set s f).but hb (d _ (by rw[h.cs s f];omega)) (λx g=>d _ (by rw[h.ca s f x g];omega)),h.acr.but hb (λx g=>a (c:=7) (h.cc x g)),h.acl,λq j=>?_,h.cb,h.cg,h.cs,h.ca,h.cc,h.cB,λk hk=>a6 (h.lt k hk) hb.size⟩
 obtain⟨c1,c2,c3⟩:=h.cB _ (qz j).1;exact(h.acb q j).but hb (a (c:=8) c1) (a (c:=8) c2) (a (c:=8) c3)
theorem Pq.keep{P:Po}{D:Pd}(h:Pq w b P D col)(hb:Below w.heap.size w w'):Pq w' b P D col:=h.but (S:=λ_=>False) (But.ofBelow hb) (λ_ _ h=>h)
theorem Pq.cell{P:Po}{D:Pd}(h:Pq w b P D col){v:Value}(hi:(qN P D)[i]?=some v):w.cell? ⟨b,i,none⟩=some v:=by
 rw[ai _ _ _ _ _ _ h.box];exact hi
theorem Pq.c1{P:Po}{D:Pd}(h:Pq w b P D col):w.cell? ⟨b,1,none⟩=some (.slice (some ⟨D.g,0,none⟩) P.pg.length P.pg.length):=h.cell rfl
theorem lt5{s:Nat}(h:s<5):s=0\/s=1\/s=2\/s=3\/s=4:=by omega
theorem Pq.cin{P:Po}{D:Pd}(h:Pq w b P D col){s:Nat}(a:s<5):w.cell? ⟨b,2+s,none⟩=some (.pointer (some ⟨D.s s,0,none⟩)):=by
 refine h.cell ?_;rcases lt5 a with rfl|rfl|rfl|rfl|rfl<;>rfl
theorem Pq.pgAt{P:Po}{D:Pd}(h:Pq w b P D col)(hi:i<P.pg.length):w.cell? ⟨D.g,i*2,none⟩=some (.int .i64 (P.pg.getD i Pg.zero).1)/\w.cell? ⟨D.g,i*2+1,none⟩=some (.bool (P.pg.getD i Pg.zero).2):=by
 obtain⟨a,c⟩:=s8 P.pg i hi;rw[ai _ _ _ _ _ _ h.pgs,ai _ _ _ _ _ _ h.pgs];exact⟨by simpa using a,by simpa using c⟩
theorem Pq.pgf{P:Po}{D:Pd}(h:Pq w b P D col)(i:Nat):w.frozen? ⟨D.g,i,none⟩=false:=by simp[World.frozen?,h.pgs]
theorem Pq.page{P:Po}{D:Pd}(h:Pq w b P D col)(n:Nat)(x:Pg)(g:w'.heap[D.g]?=some (.cells (pgc (P.pg.set (n-1) x)).toArray 179 (0,0)))(hb:But (λk=>k=D.g) w w'):Pq w' b (P.put n x) D col:=by
 have ne:∀{k:Nat},col k≠2->¬(k=D.g):=λf e=>f (by rw[e];exact h.cg)
 have lb:=hb.same h.box (ne (by rw[h.cb];decide))
 refine⟨?_,g,λs a=>(h.set s a).but hb (ne (by rw[h.cs s a];omega)) (λy c=>ne (by rw[h.ca s a y c];omega)),h.acr.but hb (λy c=>ne (by rw[h.cc y c];decide)),h.acl,λq d=>?_,h.cb,h.cg,h.cs,h.ca,h.cc,h.cB,λk hk=>a6 (h.lt k hk) hb.size⟩
 . rw[lb];show some (Obj.cells (qN P D) _ _)=some (Obj.cells (qN (P.put n x) D) _ _);unfold qN Po.put;rw[da]
 . obtain⟨c1,c2,c3⟩:=h.cB _ (qz d).1;exact(h.acb q d).but hb (ne (by rw[c1];decide)) (ne (by rw[c2];decide)) (ne (by rw[c3];decide))
def upd{α:Type}(f:Nat->α)(s:Nat)(v:α)(i:Nat):α:=if i=s then v else f i
theorem jF{α:Type}(f:Nat->α)(s:Nat)(v:α):upd f s v s=v:=if_pos rfl
theorem kE{α:Type}(f:Nat->α){s:Nat}(v:α)(h:i≠s):upd f s v i=f i:=if_neg h
def lO(col:Nat->Nat)(w w':World)(c k:Nat):Nat:=if k<w.heap.size then col k else if k<w'.heap.size then c else 0
theorem nh{c:Nat}(h:k<w.heap.size):lO col w w' c k=col k:=if_pos h
theorem oW{c:Nat}(h:w.heap.size<=k)(a:k<w'.heap.size):lO col w w' c k=c:=by unfold lO;rw[if_neg (by omega),if_pos a]
theorem wl{c:Nat}(a:w.heap.size<=w'.heap.size)(h:lO col w w' c k≠0):k<w'.heap.size:=by
 unfold lO at h;split at h
 . omega
 . split at h
   . assumption
   . exact absurd rfl h
theorem Pq.oneSet{P:Po}{D:Pd}(h:Pq w b P D col){s:Nat}(v:s<5){g:Option Addr}{m:Nat}{l:List Rn}(p:St w' (D.s s) g m l)(A:New w (D.a s) g)(hb:But (λk=>k=D.s s\/InA (D.a s) k) w w'):
 Pq w' b P {D with a:=upd D.a s g,c:=upd D.c s m,L:=upd D.L s l} (lO col w w' (3+s)):=by
 have ne:∀{k:Nat},col k≠3+s->¬(k=D.s s\/InA (D.a s) k):=λn e=>by
  rcases e with rfl|⟨x,d,rfl⟩
  . exact n (h.cs s v)
  . exact n (h.ca s v x d)
 have old:∀{k:Nat},col k≠0->lO col w w' (3+s) k=col k:=λhk=>nh (h.lt _ hk)
 refine⟨hb.same h.box (ne (by rw[h.cb];omega)),hb.same h.pgs (ne (by rw[h.cg];omega)),λt f=>?_,h.acr.but hb (λy j=>ne (by rw[h.cc y j];omega)),h.acl,λq r=>?_,(old (by rw[h.cb];decide)).trans h.cb,(old (by rw[h.cg];decide)).trans h.cg,λt f=>(old (by rw[h.cs t f];omega)).trans (h.cs t f),λt f x d=>?_,λx d=>(old (by rw[h.cc x d];decide)).trans (h.cc x d),λt f=>?_,λk hk=>wl hb.size hk⟩
 . show St w' (D.s t) (upd D.a s g t) (upd D.c s m t) (upd D.L s l t);by_cases e:t=s
   . subst e;rw[jF,jF,jF];exact p
   . rw[kE _ _ e,kE _ _ e,kE _ _ e];exact(h.set t f).but hb (ne (by rw[h.cs t f];omega)) (λx d=>ne (by rw[h.ca t f x d];omega))
 . obtain⟨c1,c2,c3⟩:=h.cB _ (qz r).1;exact(h.acb q r).but hb (ne (by rw[c1];omega)) (ne (by rw[c2];omega)) (ne (by rw[c3];omega))
 . have d:upd D.a s g t=some x:=d;by_cases e:t=s
   . subst e;rw[jF] at d;rcases A x d with⟨y,j,e⟩|h2
     . rw[<-e,old (by rw[h.ca t f y j];omega)];exact h.ca t f y j
     . exact oW h2 (p.row.lt d)
   . rw[kE _ _ e] at d;exact(old (by rw[h.ca t f x d];omega)).trans (h.ca t f x d)
 . obtain⟨c1,c2,c3⟩:=h.cB t f;exact⟨(old (by rw[c1];decide)).trans c1,(old (by rw[c2];decide)).trans c2,(old (by rw[c3];decide)).trans c3⟩
structure Pm(w:World)(b:Nat)(P:Po)(col:Nat->Nat)(D:Pd):Prop where
 q:Pq w b P D col
 ok:P.Ok
 mem:∀s,s<5->∀z,has (D.L s) z=inS P.pg s z
def Pl(w:World)(b:Nat)(P:Po)(col:Nat->Nat):Prop:=∃D,Pm w b P col D
theorem Pl.keep{P:Po}(h:Pl w b P col)(hb:Below w.heap.size w w'):Pl w' b P col:=by
 obtain⟨D,h⟩:=h;exact⟨D,h.q.keep hb,h.ok,h.mem⟩
theorem Pl.but{P:Po}(h:Pl w b P col)(hb:But S w w')(a:∀k,col k≠0->¬S k):Pl w' b P col:=by
 obtain⟨D,h⟩:=h;exact⟨D,h.q.but hb a,h.ok,h.mem⟩
theorem Pl.lt{P:Po}(h:Pl w b P col):∀k,col k≠0->k<w.heap.size:=by
 obtain⟨D,h⟩:=h;exact h.q.lt
theorem FQ{L:List Rn}(a:Can L)(hb:∀r∈L,1<=r.1/\r.2<=65536):L.length<=65536:=by
 have:=xy 65536 L 1 a hb (by omega)
 omega
theorem Gc(w:World)(x:Pg):Calls prog 165 #[.agg #[.int .i64 x.1,.bool x.2]] w λe w'=>e=.returned (.int .i64 ((stt x:Nat):Int))/\Below w.heap.size w w':=by
 obtain⟨c,l⟩:=x;by_cases a:c=0
 . subst a;cases l
   all_goals
    go_enter func165,ntmps165;go_wp2;go_ret;exact⟨rfl,al _ _⟩
 . have d:(c==0)=false:=by simp[a]
   have f:decide (c=0)=false:=by simp[a]
   cases l
   . have e:stt (c,false)=3:=by unfold stt;rw[if_neg a];rfl
     rw[e];go_enter func165,ntmps165;go_wp2;go_ret;exact⟨rfl,al _ _⟩
   . have e:stt (c,true)=4:=by unfold stt;rw[if_neg a];rfl
     rw[e];go_enter func165,ntmps165;go_wp2;go_ret;exact⟨rfl,al _ _⟩
theorem Fg(w:World)(b:Nat)(P:Po)(D:Pd)(col:Nat->Nat)(h:Pq w b P D col)(z:Int):Calls prog 173 #[.pointer (some ⟨b,0,none⟩),.int .i64 z] w λe w'=>e=.returned (.bool (P.has z))/\w'=w:=by
 have c1:=h.c1;unfold Po.has;clear h;generalize P.pg.length=n at *;by_cases c:1<=z
 . have a:decide (1<=z)=true:=ar c;rw[a,gW];go_enter func173,ntmps173;go_wp2;go_ret;exact⟨rfl,rfl⟩
 . have a:decide (1<=z)=false:=ah c;rw[a,eQ];go_enter func173,ntmps173;go_wp2;go_ret;exact⟨rfl,rfl⟩
theorem Po.has_iff{P:Po}:P.has z=true↔1<=z/\z<=P.pg.length:=by unfold Po.has;simp
theorem Bv(w:World)(b:Nat)(P:Po)(D:Pd)(col:Nat->Nat)(h:Pq w b P D col)(m:P.pg.length<=65536)(z:Int):Calls prog 138 #[.pointer (some ⟨b,0,none⟩),.int .i64 z] w λe w'=>e=.returned (.int .i64 (P.count z))/\w'=w:=by
 have C:=ix (Fg w b P D col h z);by_cases a:P.has z=true
 . obtain⟨j,l⟩:=Po.has_iff.1 a;obtain⟨i,rfl⟩:∃i:Nat,z=(i:Int)+1:=⟨(z-1).toNat,by omega⟩
   have d:i<P.pg.length:=by omega
   obtain⟨f,g⟩:=h.pgAt d;have c1:=h.c1
   have e:P.count ((i:Int)+1)=(P.pg.getD i Pg.zero).1:=by
    unfold Po.count;rw[if_pos a,show((i:Int)+1-1).toNat=i by omega]
   rw[e];rw[a] at C;clear h a e;generalize (P.pg.getD i Pg.zero).1=c at *;generalize P.pg.length=n at *;have p:IntKind.i64.wrap ((i:Int)+1-1)=(i:Int):=by rw[iQ (by omega) (by omega)];omega
   go_enter func138,ntmps138;go_wp2_with fail
   refine C.o.mono ?_;rintro _ _ ⟨rfl,rfl⟩;go_wp2;go_ret;exact⟨rfl,rfl⟩
 . have a:P.has z=false:=by simpa using a
   have e:P.count z=0:=by unfold Po.count;rw[a];rfl
   rw[e];rw[a] at C;clear h;go_enter func138,ntmps138;go_wp2_with fail
   refine C.o.mono ?_;rintro _ _ ⟨rfl,rfl⟩;go_wp2;go_ret;exact⟨rfl,rfl⟩
theorem wR(w:World)(z:Int):Calls prog 102 #[.int .i64 z] w λe w'=>e=.returned (.bool (decide (1<=z)&&decide (z<=4)))/\w'=w:=by
 by_cases c:1<=z
 . have a:decide (1<=z)=true:=ar c;rw[a,gW];go_enter func102,ntmps102;go_wp2;go_ret;exact⟨rfl,rfl⟩
 . have a:decide (1<=z)=false:=ah c;rw[a,eQ];go_enter func102,ntmps102;go_wp2;go_ret;exact⟨rfl,rfl⟩
def fits(n r:Int):Bool:=decide (1<=n)&&decide (n<=65536)&&decide (2<=r)&&decide (r<65536)
theorem vf(w:World)(n r:Int):Calls prog 123 #[.int .i64 n,.int .i64 r] w λe w'=>e=.returned (.bool (fits n r))/\w'=w:=by
 unfold fits;by_cases f:1<=n
 . have a:decide (1<=n)=true:=ar f;by_cases g:n<=65536
   . have c:decide (n<=65536)=true:=ar g;by_cases h:2<=r
     . have d:decide (2<=r)=true:=ar h;rw[a,c,d];simp only[gW,Bool.and_true];go_enter func123,ntmps123;go_wp2;go_ret;exact⟨rfl,rfl⟩
     . have d:decide (2<=r)=false:=ah h;rw[a,c,d];simp only[Bool.and_true,Bool.and_false,eQ];go_enter func123,ntmps123;go_wp2;go_ret;exact⟨rfl,rfl⟩
   . have c:decide (n<=65536)=false:=ah g;rw[a,c];simp only[Bool.and_false,eQ];go_enter func123,ntmps123;go_wp2;go_ret;exact⟨rfl,rfl⟩
 . have a:decide (1<=n)=false:=ah f;rw[a];simp only[eQ];go_enter func123,ntmps123;go_wp2;go_ret;exact⟨rfl,rfl⟩
theorem zG(w:World)(c:Int)(l:Bool):(w.alloc (.cells #[.int .i64 c,.bool l] 179)).cell? ⟨w.heap.size,0,none⟩=some (.int .i64 c)/\(w.alloc (.cells #[.int .i64 c,.bool l] 179)).cell? ⟨w.heap.size,1,none⟩=some (.bool l):=by
 rw[ai _ _ _ _ _ _ (ag w _),ai _ _ _ _ _ _ (ag w _)];exact⟨rfl,rfl⟩
theorem DP{g:Nat}{L:List Pg}(h:w.heap[g]?=some (.cells (pgc L).toArray 179 (0,0)))(i:Nat)(x:Pg):((w.setCell ⟨g,i*2,none⟩ (.int .i64 x.1)).setCell ⟨g,i*2+1,none⟩ (.bool x.2)).drew.heap[g]?=some (.cells (pgc (L.set i x)).toArray 179 (0,0)):=by
 have c:=aE w g (i*2) _ _ (.int .i64 x.1) h;have a:=aE _ g (i*2+1) _ _ (.bool x.2) c
 have e:(((pgc L).toArray.setIfInBounds (i*2) (.int .i64 x.1)).setIfInBounds (i*2+1) (.bool x.2))=(pgc (L.set i x)).toArray:=by
  rw[xD];simp
 rw[e] at a;exact a
theorem Gp{P:List Pg}{n s:Nat}(a:1<=n)(c:n<=P.length):inS P s (n:Int)=decide (stt (P.getD (n-1) Pg.zero)=s):=by
 unfold inS;rw[ar (show(1:Int)<=n by omega),ar (show(n:Int)<=P.length by omega),show((n:Int)-1).toNat=n-1 by omega]
 simp
end Go.Proofs.YteaogidofpfmmaaGreat.Q
