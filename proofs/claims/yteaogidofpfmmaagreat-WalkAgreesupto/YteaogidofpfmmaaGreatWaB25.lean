import Derived.Test.YteaogidofpfmmaaGreatWaB24
import Derived.Deep.Cut
import Derived.Laws.BytesArg
set_option linter.all false
set_option maxHeartbeats 8000000
set_option maxRecDepth 16000
namespace Go.Proofs.YteaogidofpfmmaaGreat
open Go.Proofs.Tryz
open Go.RowKit
variable {rd:Int->Option Pg}{k:List Nat}{b gk mb pb rb x y:Nat}{col colR pc:Nat->Nat}{D:Rd}{S:Vs}{V W w:World}
def lowB:List Nat:=[97,99,101,103]
def Es:List Nat:=[109,112,114,116,118]
theorem Grp.start(h:W.heap[y]?=some (.cells #[.int .i64 1,.int .i64 0,.slice none 0 0,.slice none 0 0,.int .i64 0] 77 (0,0))):Grp W W y ⟨1,0,none,0,[],none,0,[],0⟩ []:=
 ⟨But.refl _ _,h,⟨Jw.nil _,New.none _ _,Rw.nil _,New.none _ _,(λ_ h=>by cases h),ft _ _,B8.nil,(λ_ h=>by cases h),by simp[N64],by simp[N64],by simp[N64]⟩,rfl,rfl,(ae.1 h).1⟩
def j6(gk gv x:Nat):Iv:=⟨some ⟨gk,0,none⟩,1,[x],some ⟨gv,0,none⟩,2,[x,x],0,2⟩
theorem xP{a:Nat}:∀u∈(j6 gk a x).cs.toList,u.oneCell'=true:=by simp[j6,Iv.cs,Value.oneCell']
theorem AS(w:World)(x:Nat)(g:x<256):Io w ((w.alloc (.cells #[.int .u8 (x:Int)] 5)).alloc (.cells #[.int .u8 (x:Int),.int .u8 (x:Int)] 5)) (j6 w.heap.size (w.heap.size+1) x):=by
 have e:=pK w [x] (by simp) #[.int .u8 (x:Int)] rfl
 have c:=pK (w.alloc (.cells #[.int .u8 (x:Int)] 5)) [x,x] (by simp) #[.int .u8 (x:Int),.int .u8 (x:Int)] rfl
 rw[size_alloc] at c;refine⟨e.keep c.b,c.pre e.b,λa b f hb=>?_,λz d=>?_,λz d=>?_⟩
 . cases f;cases hb;simp
 all_goals
  simp[j6] at d;omega
theorem Bk(w:World)(x:Nat)(g:x<256):Io w ((w.alloc (.cells #[.int .u8 (x:Int),.int .u8 (x:Int)] 5)).alloc (.cells #[.int .u8 (x:Int)] 5)) (j6 (w.heap.size+1) w.heap.size x):=by
 have e:=pK w [x,x] (by simp) #[.int .u8 (x:Int),.int .u8 (x:Int)] rfl
 have c:=pK (w.alloc (.cells #[.int .u8 (x:Int),.int .u8 (x:Int)] 5)) [x] (by simp) #[.int .u8 (x:Int)] rfl
 rw[size_alloc] at c;refine⟨c.pre e.b,e.keep c.b,λa b f hb=>?_,λz d=>?_,λz d=>?_⟩
 . cases f;cases hb;simp
 all_goals
  simp[j6] at d;omega
theorem t2{P:Program}{e:Region.Mode}{c:Array Oper}{Q:Exit->Act->World->Prop}{S:World->Prop}(i j:Nat){o p:Oper}{g:Nat}{f:Array Bool}{a:Act}{w:World}
 (h:∀d:Act->World->Prop,Shut (∀a w,S w->(S w->wpAnyH P e c Q S g (f.setIfInBounds i true) a w)->d a w)->if Region.wanted o (yielded c a.tmps)=true then Oper.wp P o a w d Q else d (a.put o.dst undef) w)
 (l:∀d:Act->World->Prop,Shut (∀a w,S w->(S w->wpAnyH P e c Q S g (f.setIfInBounds j true) a w)->d a w)->if Region.wanted p (yielded c a.tmps)=true then Oper.wp P p a w d Q else d (a.put p.dst undef) w)
 (m:c[i]?=some o:=by exact rfl) (n:c[j]?=some p:=by exact rfl) (q:Region.ready e c f=[i,j]:=by kernel_rfl):wpAnyH P e c Q S (g+1) f a w:=
 wpAnyH_ready q (by simp) (AllReadyH.cons m h (AllReadyH.cons n l AllReadyH.nil))
theorem t3{P:Program}{e:Region.Mode}{d:Array Oper}{Q:Exit->Act->World->Prop}{S:World->Prop}(i j l:Nat){o p q:Oper}{g:Nat}{f:Array Bool}{a:Act}{w:World}
 (h:∀c:Act->World->Prop,Shut (∀a w,S w->(S w->wpAnyH P e d Q S g (f.setIfInBounds i true) a w)->c a w)->if Region.wanted o (yielded d a.tmps)=true then Oper.wp P o a w c Q else c (a.put o.dst undef) w)
 (m:∀c:Act->World->Prop,Shut (∀a w,S w->(S w->wpAnyH P e d Q S g (f.setIfInBounds j true) a w)->c a w)->if Region.wanted p (yielded d a.tmps)=true then Oper.wp P p a w c Q else c (a.put p.dst undef) w)
 (n:∀c:Act->World->Prop,Shut (∀a w,S w->(S w->wpAnyH P e d Q S g (f.setIfInBounds l true) a w)->c a w)->if Region.wanted q (yielded d a.tmps)=true then Oper.wp P q a w c Q else c (a.put q.dst undef) w)
 (r:d[i]?=some o:=by exact rfl) (s:d[j]?=some p:=by exact rfl) (t:d[l]?=some q:=by exact rfl) (v:Region.ready e d f=[i,j,l]:=by kernel_rfl):wpAnyH P e d Q S (g+1) f a w:=
 wpAnyH_ready v (by simp) (AllReadyH.cons r h (AllReadyH.cons s m (AllReadyH.cons t n AllReadyH.nil)))
theorem mZ(w:World)(g:Nat)(cs:Array Value):But (λk=>k=g) w (w.setRow g cs):=Q.iD w g cs
def oX(gk gi:Nat):Pv:=⟨2,1,some ⟨gi,0,none⟩,2,[⟨none,0,[],none,0,[],1,0⟩,⟨some ⟨gk,0,none⟩,1,[109],none,0,[],2,0⟩],none,0,[],0⟩
theorem pM(V:World)(a:Option Addr):Bs V a []:=⟨λx c=>absurd c (cf),by simp,.inl rfl⟩
theorem pI{t:TypeId}(c:x<256)(h:V.heap[gk]?=some (.cells #[.int .u8 ((x:Nat):Int)] t (1,2))):Bs V (some ⟨gk,0,none⟩) [x]:=by
 refine⟨λy d=>by rw[aZ.1 d];exact c,by simp,.inr ⟨gk,0,rfl,λi a=>?_⟩⟩
 have:i=0:=by simp at a;exact a
 subst this;rw[ai _ _ _ _ _ _ h];rfl
theorem uD:N64 0:=⟨by decide,by decide⟩
theorem uJ:N64 1:=⟨by decide,by decide⟩
theorem uW:N64 2:=⟨by decide,by decide⟩
theorem DL{c:Nat}(e:V.heap[gk]?=some (.cells #[.int .u8 ((109:Nat):Int)] 5 (1,2)))(f:V.heap[c]?=some (.cells #[.slice none 0 0,.slice none 0 0,.int .i64 1,.int .i64 0,.slice (some ⟨gk,0,none⟩) 1 1,.slice none 0 0,.int .i64 2,.int .i64 0] 89 (0,0))):Pi V (oX gk c):=by
 refine⟨⟨λr d=>?_,by simp[oX],.inr ⟨c,0,rfl,λr d j u a=>?_⟩⟩,by simp[oX],pM _ _,by simp[oX],uW,uJ,uD⟩
 . have:r=⟨none,0,[],none,0,[],1,0⟩\/r=⟨some ⟨gk,0,none⟩,1,[109],none,0,[],2,0⟩:=by simpa[oX] using d
   rcases this with rfl|rfl
   . exact⟨pM _ _,by simp,pM _ _,by simp,uJ,uD⟩
   . exact⟨pI (by decide) e,by simp,pM _ _,by simp,uW,uD⟩
 . have:r=0\/r=1:=by simp[oX] at d;omega
   rw[ai _ _ _ _ _ _ f];rcases this with rfl|rfl
   all_goals
    match j,a with
    |0,a=>exact a
    |1,a=>exact a
    |2,a=>exact a
    |3,a=>exact a
    |j+4,a=>simp[oX,Iv.cs] at a
theorem lv3w(a:World)(c1 c2 c3 f:Array Value):∃c:World,Hid (c=(((a.alloc (.cells c1 5 (1,2))).alloc (.cells c2 89)).alloc (.cells c3 77)).setRow (a.heap.size+1+1) f)/\Hid ((((a.alloc (.cells c1 5 (1,2))).alloc (.cells c2 89)).alloc (.cells c3 77)).heap[a.heap.size+1+1]?=some (.cells c3 77 (0,0)))/\Hid (Below a.heap.size a c)/\Hid (c.heap[a.heap.size]?=some (.cells c1 5 (1,2)))/\Hid (c.heap[a.heap.size+1]?=some (.cells c2 89 (0,0)))/\Hid (c.heap[a.heap.size+1+1]?=some (.cells f 77 (0,0))):=by
 have g:=bj (a.alloc (.cells c1 5 (1,2))) (.cells c2 89);have d:=bj ((a.alloc (.cells c1 5 (1,2))).alloc (.cells c2 89)) (.cells c3 77);rw[size_alloc] at g;rw[size_alloc,size_alloc] at d;exact⟨_,rfl,d,((But.ofBelow (S:=λ_=>False) (bt (bt (al a _) (al _ _)) (al _ _))).trans (mZ _ _ _) (λk hk e=>by omega)).below (λ_ _ e=>e),(mZ _ _ _).same (iJ (iJ (bj a _) (al _ _)) (al _ _)) (by omega),(mZ _ _ _).same (iJ g (al _ _)) (by omega),bu _ _ _ _ _ _ d⟩
theorem Gy(h:W.heap[y]?=some (.cells #[.int .i64 1,.int .i64 1,.int .i64 1] 3 (0,0))):Q.Ir W (some ⟨y,0,none⟩) [1,1,1]:=.inr ⟨y,0,rfl,λi a=>by
 have:i=0\/i=1\/i=2:=by simp at a;omega
 rcases this with rfl|rfl|rfl<;>(rw[ai _ _ _ _ _ _ h];rfl)⟩
theorem uk{P:Pv}{B:List Nat}(h:P.pg=qy B):P.items.length=B.length:=by
 have e:=bf (λg:Pg=>g.items.length) h
 simpa[Pv.pg,qy] using e
theorem GJ{A B C:Pv}(h:W.heap[y]?=some (.cells #[.int .i64 1,.int .i64 A.kind,.int .i64 A.level,.slice A.aI A.items.length A.cI,.slice A.aD A.data.length A.cD,.int .i64 A.next,.int .i64 2,.int .i64 B.kind,.int .i64 B.level,.slice B.aI B.items.length B.cI,.slice B.aD B.data.length B.cD,.int .i64 B.next,.int .i64 3,.int .i64 C.kind,.int .i64 C.level,.slice C.aI C.items.length C.cI,.slice C.aD C.data.length C.cD,.int .i64 C.next] 91 (0,0)))(d:Pi W A)(e:Pi W B)(f:Pi W C):Nm W (some ⟨y,0,none⟩) [(1,A),(2,B),(3,C)]:=by
 refine⟨λj g=>⟨y,0,rfl,λk u hk=>?_⟩,λx i=>?_⟩
 . rw[ai _ _ _ _ _ _ h]
   have l:k<6:=by
    have:=(bA.1 hk).1;exact a6 this (Nat.le_of_eq rfl)
   have a:j=0\/j=1\/j=2:=by simp at g;omega
   have c:k=0\/k=1\/k=2\/k=3\/k=4\/k=5:=by omega
   rcases a with rfl|rfl|rfl<;>rcases c with rfl|rfl|rfl|rfl|rfl|rfl<;>exact hk
 . have:x=(1,A)\/x=(2,B)\/x=(3,C):=by simpa using i
   rcases this with rfl|rfl|rfl
   . exact⟨d,uJ⟩
   . exact⟨e,uW⟩
   . exact⟨f,(show N64 3 from⟨by decide,by decide⟩)⟩
theorem uf(w:World)(p:Addr)(v:Value):(w.setCell p v).heap.size=w.heap.size:=by simp
theorem Bm{a:Option Addr}{c:Nat}{l:List Nat}(h:Rw w a c l)(f:0<l.length):(convert 37 9 (.slice a l.length c)).run prog w=.ok (.string (strOfNums (l.map λx:Nat=>(x:Int)))) w:=by
 obtain⟨g,rfl,_⟩:=h.addr2 f;refine run_convert_bytes_arg w 37 5 underlying37 underlying5 g 0 l.length c (l.map λx:Nat=>(x:Int)) (by simp) (λi d=>?_) 9 underlying9
 have e:(l.map λx:Nat=>(x:Int)).getD i 0=((l.getD i 0:Nat):Int):=by simp[d]
 rw[de,e];exact h.cell d
theorem Ae(w:World):Calls prog 8 #[] w λe J=>e=.returned (.bool true)/\Below w.heap.size w J:=by
 go_enter func8,ntmps8;go_upto_region 6 with fail
 obtain⟨W1,hW,hX,hC,hA,hB,bs,aL⟩:=oD w (.cells #[.int .i64 2,.slice (some ⟨w.heap.size+1,0,none⟩) 3 3,.slice none 0 0,.slice none 0 0] 26) (.cells #[.int .i64 1,.int .i64 1,.int .i64 1] 3) (.cells #[.int .i64 1,.int .i64 0,.slice none 0 0,.slice none 0 0,.int .i64 0] 77) (.cells #[.int .i64 1,.int .i64 0,.slice none 0 0,.slice none 0 0,.int .i64 0] 77);rw[hW];clear hW;obtain⟨r,aQ⟩:∃y,w.heap.size=y:=⟨_,rfl⟩;obtain⟨t,aO⟩:∃y,r+1=y:=⟨_,rfl⟩;obtain⟨s,aM⟩:∃y,t+1=y:=⟨_,rfl⟩;obtain⟨A,aN⟩:∃y,s+1=y:=⟨_,rfl⟩;have e2:r+2=s:=by omega
 have e3:r+3=A:=by omega
 simp only[aQ,aO,aM,aN,e2,e3] at hX hC hA hB aL ⊢;have Y:Hid (w.heap.size=r/\r+1=t/\t+1=s/\s+1=A/\W1.heap.size=r+4):=⟨aQ,aO,aM,aN,aL⟩;have HX:=ix hX;have HC:=ix hC;have HA:=ix hA;have HB:=ix hB;have H1:=ix bs;clear aQ aO aM aN hX hC hA hB bs aL e2 e3;have G0:Hid (Grp W1 W1 s ⟨1,0,none,0,[],none,0,[],0⟩ (lowB.take 0)):=ix (Grp.start HA.o);go_wp2_with fail
 go_loopw [6] (λvi wx=>∃(k:Nat)(P:Pv),k<=4/\vi=.int .i64 (k:Int)/\Grp W1 wx s P (lowB.take k)) (λvi _=>4-(intOf vi).toNat)
 case atStart=>exact⟨0,_,an _,rfl,G0.o⟩
 case round=>
  clear G0;obtain⟨k,P,hk,rfl,B⟩:=hrel;have M:=ix B;have O:P.items.length=k:=by rw[B.len];simp[lowB];omega
  have ag:=ix O;by_cases aJ:k<4
  . have bI:(k:Int)<(4:Int):=by omega
    have af:Hid (wr.heap[s]?=some (.cells #[.int .i64 P.kind,.int .i64 P.level,.slice P.aI k P.cI,.slice P.aD P.data.length P.cD,.int .i64 P.next] 77 (0,0))):=by rw[<-O];exact B.box
    obtain⟨_,_,c2,_⟩:=i6 af.o;have JG:=ix (λ(W:World)(hb:Below wr.heap.size wr W)=>(show Q.Gw 89 4 W P.aI P.cI k (Jc P.items) from O▸(B.pn.it.keep hb)))
    have NI:=ix (λ(z:Nat)(N:Q.InA P.aI z)(e:z=s)=>(by obtain⟨bA,N,e2⟩:=N;exact B.pn.it.nty B.box (by decide) N (e2.trans e):False))
    clear B O;go_upto_region 9 with fail
    refine be (S:=λ_=>True) (by kernel_rfl) trivial (λhHeld=>?_)
    refine tkd 0 2 3 6 ?_;refine tkd 7 9 10 4 ?_;refine tkb 8 11 ?_;try simp only[pt]
    obtain⟨x,hx⟩:∃x:Nat,((ByteArray.mk #[97,99,101,103])[k]'(by show k<4;exact aJ)).toNat=x:=⟨_,rfl⟩
    simp only[hx]
    have TK:Hid (lowB.take (k+1)=lowB.take k++[x]/\x<256):=by
     have:k=0\/k=1\/k=2\/k=3:=by omega
     rcases this with rfl|rfl|rfl|rfl<;>(rw[<-hx];exact⟨by kernel_rfl,UInt8.toNat_lt _⟩)
    clear hx;have ck:=((al wr (.cells #[.int .u8 (x:Int)] 5)).cell (p:=⟨s,2,none⟩) (block_lt_of_cell c2)).trans c2;have cv:=((al wr (.cells #[.int .u8 (x:Int),.int .u8 (x:Int)] 5)).cell (p:=⟨s,2,none⟩) (block_lt_of_cell c2)).trans c2;have ab:=((al (wr.alloc (.cells #[.int .u8 (x:Int)] 5)) (.cells #[.int .u8 (x:Int),.int .u8 (x:Int)] 5)).cell (p:=⟨s,2,none⟩) (block_lt_of_cell ck)).trans ck;have ac:=((al (wr.alloc (.cells #[.int .u8 (x:Int),.int .u8 (x:Int)] 5)) (.cells #[.int .u8 (x:Int)] 5)).cell (p:=⟨s,2,none⟩) (block_lt_of_cell cv)).trans cv;have aD:=((al ((wr.alloc (.cells #[.int .u8 (x:Int)] 5)).alloc (.cells #[.int .u8 (x:Int),.int .u8 (x:Int)] 5)) (.cells #[.slice (some ⟨wr.heap.size,0,none⟩) 1 1,.slice (some ⟨wr.heap.size+1,0,none⟩) 2 2,.int .i64 0,.int .i64 2] 89)).cell (p:=⟨s,2,none⟩) (block_lt_of_cell ab)).trans ab;have aF:=((al ((wr.alloc (.cells #[.int .u8 (x:Int),.int .u8 (x:Int)] 5)).alloc (.cells #[.int .u8 (x:Int)] 5)) (.cells #[.slice (some ⟨wr.heap.size+1,0,none⟩) 1 1,.slice (some ⟨wr.heap.size,0,none⟩) 2 2,.int .i64 0,.int .i64 2] 89)).cell (p:=⟨s,2,none⟩) (block_lt_of_cell ac)).trans ac;refine t3 1 5 12 (λK a=>?p1) (λK a=>?p2) (λK a=>?p3)
    all_goals (go_simp;refine a.o _ _ trivial (λhHeld=>?_);clear a K;try simp only[pt])
    case' p1=>refine t2 5 12 (λK a=>?p4) (λK a=>?p5)
    case' p2=>refine t2 1 12 (λK a=>?p6) (λK a=>?p7)
    case' p3=>refine t2 1 5 (λK a=>?p8) (λK a=>?p9)
    all_goals (go_simp;refine a.o _ _ trivial (λhHeld=>?_);clear a K;try simp only[pt])
    case' p4=>refine tw 12 λK a=>?_
    case' p5=>refine tw 5 λK a=>?_
    case' p6=>refine tw 12 λK a=>?_
    case' p8=>refine tw 5 λK a=>?_
    case' p7=>(refine tk 13 ?_;refine t2 1 14 (λK a=>?p10) (λK a=>?p11))
    case' p9=>(refine tk 13 ?_;refine t2 1 14 (λK a=>?p12) (λK a=>?p13))
    all_goals (go_simp;refine a.o _ _ trivial (λhHeld=>?_);clear a K;try simp only[pt])
    case' p4=>(refine tk 13 ?_;refine tw 14 λK a=>?_)
    case' p5=>(refine tk 13 ?_;refine tw 14 λK a=>?_)
    case' p6=>(refine tk 13 ?_;refine tw 14 λK a=>?_)
    case' p8=>(refine tk 13 ?_;refine tw 14 λK a=>?_)
    case' p10=>refine tw 14 λK a=>?_
    case' p11=>refine tw 1 λK a=>?_
    case' p12=>refine tw 14 λK a=>?_
    case' p13=>refine tw 1 λK a=>?_
    all_goals
     go_simp;clear c2 ck cv ab ac aD aF;first
     |(obtain⟨V5,E⟩:∃aa,(((wr.alloc (.cells #[.int .u8 (x:Int)] 5)).alloc (.cells #[.int .u8 (x:Int),.int .u8 (x:Int)] 5)).alloc (.cells #[.slice (some ⟨wr.heap.size,0,none⟩) 1 1,.slice (some ⟨wr.heap.size+1,0,none⟩) 2 2,.int .i64 0,.int .i64 2] 89)).drew=aa:=⟨_,rfl⟩
       have v:=ix (show Io wr (((wr.alloc (.cells #[.int .u8 (x:Int)] 5)).alloc (.cells #[.int .u8 (x:Int),.int .u8 (x:Int)] 5)).alloc (.cells #[.slice (some ⟨wr.heap.size,0,none⟩) 1 1,.slice (some ⟨wr.heap.size+1,0,none⟩) 2 2,.int .i64 0,.int .i64 2] 89)).drew (j6 wr.heap.size (wr.heap.size+1) x) from(AS wr x TK.o.2).keep ((al ((wr.alloc (.cells #[.int .u8 (x:Int)] 5)).alloc (.cells #[.int .u8 (x:Int),.int .u8 (x:Int)] 5)) (.cells #[.slice (some ⟨wr.heap.size,0,none⟩) 1 1,.slice (some ⟨wr.heap.size+1,0,none⟩) 2 2,.int .i64 0,.int .i64 2] 89)).drew))
       have F:=ix (show ∀j u,(j6 wr.heap.size (wr.heap.size+1) x).cs.toList[j]?=some u->(((wr.alloc (.cells #[.int .u8 (x:Int)] 5)).alloc (.cells #[.int .u8 (x:Int),.int .u8 (x:Int)] 5)).alloc (.cells #[.slice (some ⟨wr.heap.size,0,none⟩) 1 1,.slice (some ⟨wr.heap.size+1,0,none⟩) 2 2,.int .i64 0,.int .i64 2] 89)).drew.cell? ((⟨wr.heap.size+1+1,0,none⟩:Addr).add j)=some u from mR ((wr.alloc (.cells #[.int .u8 (x:Int)] 5)).alloc (.cells #[.int .u8 (x:Int),.int .u8 (x:Int)] 5)) (j6 wr.heap.size (wr.heap.size+1) x) (wr.heap.size+1+1) (by simp only[size_alloc]))
       obtain⟨gk,R⟩:∃g,wr.heap.size=g:=⟨_,rfl⟩;obtain⟨U,T⟩:∃g,gk+1=g:=⟨_,rfl⟩;obtain⟨gi,X⟩:∃g,U+1=g:=⟨_,rfl⟩;simp only[E];simp only[E] at v F;simp only[R,T,X] at v F ⊢;clear E R T X)
     |(obtain⟨V5,E⟩:∃aa,(((wr.alloc (.cells #[.int .u8 (x:Int),.int .u8 (x:Int)] 5)).alloc (.cells #[.int .u8 (x:Int)] 5)).alloc (.cells #[.slice (some ⟨wr.heap.size+1,0,none⟩) 1 1,.slice (some ⟨wr.heap.size,0,none⟩) 2 2,.int .i64 0,.int .i64 2] 89)).drew=aa:=⟨_,rfl⟩
       have v:=ix (show Io wr (((wr.alloc (.cells #[.int .u8 (x:Int),.int .u8 (x:Int)] 5)).alloc (.cells #[.int .u8 (x:Int)] 5)).alloc (.cells #[.slice (some ⟨wr.heap.size+1,0,none⟩) 1 1,.slice (some ⟨wr.heap.size,0,none⟩) 2 2,.int .i64 0,.int .i64 2] 89)).drew (j6 (wr.heap.size+1) wr.heap.size x) from(Bk wr x TK.o.2).keep ((al ((wr.alloc (.cells #[.int .u8 (x:Int),.int .u8 (x:Int)] 5)).alloc (.cells #[.int .u8 (x:Int)] 5)) (.cells #[.slice (some ⟨wr.heap.size+1,0,none⟩) 1 1,.slice (some ⟨wr.heap.size,0,none⟩) 2 2,.int .i64 0,.int .i64 2] 89)).drew))
       have F:=ix (show ∀j u,(j6 (wr.heap.size+1) wr.heap.size x).cs.toList[j]?=some u->(((wr.alloc (.cells #[.int .u8 (x:Int),.int .u8 (x:Int)] 5)).alloc (.cells #[.int .u8 (x:Int)] 5)).alloc (.cells #[.slice (some ⟨wr.heap.size+1,0,none⟩) 1 1,.slice (some ⟨wr.heap.size,0,none⟩) 2 2,.int .i64 0,.int .i64 2] 89)).drew.cell? ((⟨wr.heap.size+1+1,0,none⟩:Addr).add j)=some u from mR ((wr.alloc (.cells #[.int .u8 (x:Int),.int .u8 (x:Int)] 5)).alloc (.cells #[.int .u8 (x:Int)] 5)) (j6 (wr.heap.size+1) wr.heap.size x) (wr.heap.size+1+1) (by simp only[size_alloc]))
       obtain⟨U,R⟩:∃g,wr.heap.size=g:=⟨_,rfl⟩;obtain⟨gk,T⟩:∃g,U+1=g:=⟨_,rfl⟩;obtain⟨gi,X⟩:∃g,gk+1=g:=⟨_,rfl⟩;simp only[E];simp only[E] at v F;simp only[R,T,X] at v F ⊢;clear E R T X)
    all_goals
     refine a.o _ _ trivial (λhHeld=>?_)
     clear a K;refine tw 15 λK a=>?_
     refine ox underlying75 mS rfl (by decide) rfl _ _ rfl P.aI k P.cI (Jc P.items) (by first|(simp[Act.eval];done)|simp[Act.eval,Act.put]) (JG.o _ v.o.k.b) ⟨gi,0,none⟩ 1 (j6 gk U x).cs.toList (by first|(simp[Act.eval];done)|simp[Act.eval,Act.put]) rfl F.o xP (by unfold maxLen;omega) (by omega) ?_
     intro g5 c5 w5 ai aj ad;have z5:w5.heap[s]?=some (.cells #[.int .i64 P.kind,.int .i64 P.level,.slice P.aI k P.cI,.slice P.aD P.data.length P.cD,.int .i64 P.next] 77 (0,0)):=ad.same (iK v.o.k.b af.o) (λN=>NI.o _ N rfl)
     obtain⟨_,_,z2,_⟩:=i6 z5;have f2:w5.frozen? ⟨s,2,none⟩=false:=by simp[World.frozen?,z5]
     have ay:=ix (M.o.push (x:=x) ag.o v.o rfl ai aj ad);refine a.o _ _ trivial (λhHeld=>?_)
     clear a K ai aj ad z5;refine tk 16 ?_;refine tw 17 λK a=>?_
     go_simp;refine a.o _ _ trivial (λhHeld=>?_)
     clear a K z2 f2 hHeld;refine td ?_;go_wp2_with fail
     go_roundw
     case rel=>exact⟨k+1,_,by omega,by first|(go_num;done)|exact bf (Value.int IntKind.i64) (by omega),by rw[TK.o.1];exact ay.o⟩
     case measure=>(simp[intOf];omega)
  . obtain rfl:k=4:=by omega
    have GA:=ix (show Grp W1 wr s P lowB from M.o)
    have X2:=ix (M.o.but.same HX.o (λe=>by have:=Y.o;omega))
    have C2:=ix (M.o.but.same HC.o (λe=>by have:=Y.o;omega))
    have B2:=ix (M.o.but.same HB.o (λe=>by have:=Y.o;omega))
    have L2:=ix (((But.ofBelow (S:=λk=>k=s) H1.o).trans M.o.but (λ_ _ e=>e)).below (λk hk e=>by have e:k=s:=e;have:=Y.o;omega))
    clear M ag O hk HX HC HA HB H1;generalize P=f at *;generalize wr=W2 at *;have G1:Hid (Grp W2 W2 A ⟨1,0,none,0,[],none,0,[],0⟩ (Es.take 0)):=ix (Grp.start B2.o);simp only[show((4:Nat):Int)=4 from rfl]
    go_wp2_with fail
    go_loopw [7] (λvi wx=>∃(k:Nat)(P:Pv),k<=5/\vi=.int .i64 (k:Int)/\Grp W2 wx A P (Es.take k)) (λvi _=>5-(intOf vi).toNat)
    case atStart=>exact⟨0,_,an _,rfl,G1.o⟩
    case round=>
     clear G1;obtain⟨k,P,hk,rfl,B⟩:=hrel;have M:=ix B;have O:P.items.length=k:=by rw[B.len];simp[Es];omega
     have ag:=ix O;by_cases aJ:k<5
     . have bI:(k:Int)<(5:Int):=by omega
       have af:Hid (wr.heap[A]?=some (.cells #[.int .i64 P.kind,.int .i64 P.level,.slice P.aI k P.cI,.slice P.aD P.data.length P.cD,.int .i64 P.next] 77 (0,0))):=by rw[<-O];exact B.box
       obtain⟨_,_,c2,_⟩:=i6 af.o;have JG:=ix (λ(W:World)(hb:Below wr.heap.size wr W)=>(show Q.Gw 89 4 W P.aI P.cI k (Jc P.items) from O▸(B.pn.it.keep hb)))
       have NI:=ix (λ(z:Nat)(N:Q.InA P.aI z)(e:z=A)=>(by obtain⟨bA,N,e2⟩:=N;exact B.pn.it.nty B.box (by decide) N (e2.trans e):False))
       clear B O;go_upto_region 13 with fail
       refine be (S:=λ_=>True) (by kernel_rfl) trivial (λhHeld=>?_)
       refine tkd 0 2 3 6 ?_;refine tkd 7 9 10 4 ?_;refine tkb 8 11 ?_;try simp only[pt]
       obtain⟨x,hx⟩:∃x:Nat,((ByteArray.mk #[109,112,114,116,118])[k]'(by show k<5;exact aJ)).toNat=x:=⟨_,rfl⟩
       simp only[hx]
       have TK:Hid (Es.take (k+1)=Es.take k++[x]/\x<256):=by
        have:k=0\/k=1\/k=2\/k=3\/k=4:=by omega
        rcases this with rfl|rfl|rfl|rfl|rfl<;>(rw[<-hx];exact⟨by kernel_rfl,UInt8.toNat_lt _⟩)
       clear hx;have ck:=((al wr (.cells #[.int .u8 (x:Int)] 5)).cell (p:=⟨A,2,none⟩) (block_lt_of_cell c2)).trans c2;have cv:=((al wr (.cells #[.int .u8 (x:Int),.int .u8 (x:Int)] 5)).cell (p:=⟨A,2,none⟩) (block_lt_of_cell c2)).trans c2;have ab:=((al (wr.alloc (.cells #[.int .u8 (x:Int)] 5)) (.cells #[.int .u8 (x:Int),.int .u8 (x:Int)] 5)).cell (p:=⟨A,2,none⟩) (block_lt_of_cell ck)).trans ck;have ac:=((al (wr.alloc (.cells #[.int .u8 (x:Int),.int .u8 (x:Int)] 5)) (.cells #[.int .u8 (x:Int)] 5)).cell (p:=⟨A,2,none⟩) (block_lt_of_cell cv)).trans cv;have aD:=((al ((wr.alloc (.cells #[.int .u8 (x:Int)] 5)).alloc (.cells #[.int .u8 (x:Int),.int .u8 (x:Int)] 5)) (.cells #[.slice (some ⟨wr.heap.size,0,none⟩) 1 1,.slice (some ⟨wr.heap.size+1,0,none⟩) 2 2,.int .i64 0,.int .i64 2] 89)).cell (p:=⟨A,2,none⟩) (block_lt_of_cell ab)).trans ab;have aF:=((al ((wr.alloc (.cells #[.int .u8 (x:Int),.int .u8 (x:Int)] 5)).alloc (.cells #[.int .u8 (x:Int)] 5)) (.cells #[.slice (some ⟨wr.heap.size+1,0,none⟩) 1 1,.slice (some ⟨wr.heap.size,0,none⟩) 2 2,.int .i64 0,.int .i64 2] 89)).cell (p:=⟨A,2,none⟩) (block_lt_of_cell ac)).trans ac;refine t3 1 5 12 (λK a=>?q1) (λK a=>?q2) (λK a=>?q3)
       all_goals (go_simp;refine a.o _ _ trivial (λhHeld=>?_);clear a K;try simp only[pt])
       case' q1=>refine t2 5 12 (λK a=>?q4) (λK a=>?q5)
       case' q2=>refine t2 1 12 (λK a=>?q6) (λK a=>?q7)
       case' q3=>refine t2 1 5 (λK a=>?q8) (λK a=>?q9)
       all_goals (go_simp;refine a.o _ _ trivial (λhHeld=>?_);clear a K;try simp only[pt])
       case' q4=>refine tw 12 λK a=>?_
       case' q5=>refine tw 5 λK a=>?_
       case' q6=>refine tw 12 λK a=>?_
       case' q8=>refine tw 5 λK a=>?_
       case' q7=>(refine tk 13 ?_;refine t2 1 14 (λK a=>?q10) (λK a=>?q11))
       case' q9=>(refine tk 13 ?_;refine t2 1 14 (λK a=>?q12) (λK a=>?q13))
       all_goals (go_simp;refine a.o _ _ trivial (λhHeld=>?_);clear a K;try simp only[pt])
       case' q4=>(refine tk 13 ?_;refine tw 14 λK a=>?_)
       case' q5=>(refine tk 13 ?_;refine tw 14 λK a=>?_)
       case' q6=>(refine tk 13 ?_;refine tw 14 λK a=>?_)
       case' q8=>(refine tk 13 ?_;refine tw 14 λK a=>?_)
       case' q10=>refine tw 14 λK a=>?_
       case' q11=>refine tw 1 λK a=>?_
       case' q12=>refine tw 14 λK a=>?_
       case' q13=>refine tw 1 λK a=>?_
       all_goals
        go_simp;clear c2 ck cv ab ac aD aF;first
        |(obtain⟨V5,E⟩:∃aa,(((wr.alloc (.cells #[.int .u8 (x:Int)] 5)).alloc (.cells #[.int .u8 (x:Int),.int .u8 (x:Int)] 5)).alloc (.cells #[.slice (some ⟨wr.heap.size,0,none⟩) 1 1,.slice (some ⟨wr.heap.size+1,0,none⟩) 2 2,.int .i64 0,.int .i64 2] 89)).drew=aa:=⟨_,rfl⟩
          have v:=ix (show Io wr (((wr.alloc (.cells #[.int .u8 (x:Int)] 5)).alloc (.cells #[.int .u8 (x:Int),.int .u8 (x:Int)] 5)).alloc (.cells #[.slice (some ⟨wr.heap.size,0,none⟩) 1 1,.slice (some ⟨wr.heap.size+1,0,none⟩) 2 2,.int .i64 0,.int .i64 2] 89)).drew (j6 wr.heap.size (wr.heap.size+1) x) from(AS wr x TK.o.2).keep ((al ((wr.alloc (.cells #[.int .u8 (x:Int)] 5)).alloc (.cells #[.int .u8 (x:Int),.int .u8 (x:Int)] 5)) (.cells #[.slice (some ⟨wr.heap.size,0,none⟩) 1 1,.slice (some ⟨wr.heap.size+1,0,none⟩) 2 2,.int .i64 0,.int .i64 2] 89)).drew))
          have F:=ix (show ∀j u,(j6 wr.heap.size (wr.heap.size+1) x).cs.toList[j]?=some u->(((wr.alloc (.cells #[.int .u8 (x:Int)] 5)).alloc (.cells #[.int .u8 (x:Int),.int .u8 (x:Int)] 5)).alloc (.cells #[.slice (some ⟨wr.heap.size,0,none⟩) 1 1,.slice (some ⟨wr.heap.size+1,0,none⟩) 2 2,.int .i64 0,.int .i64 2] 89)).drew.cell? ((⟨wr.heap.size+1+1,0,none⟩:Addr).add j)=some u from mR ((wr.alloc (.cells #[.int .u8 (x:Int)] 5)).alloc (.cells #[.int .u8 (x:Int),.int .u8 (x:Int)] 5)) (j6 wr.heap.size (wr.heap.size+1) x) (wr.heap.size+1+1) (by simp only[size_alloc]))
          obtain⟨gk,R⟩:∃g,wr.heap.size=g:=⟨_,rfl⟩;obtain⟨U,T⟩:∃g,gk+1=g:=⟨_,rfl⟩;obtain⟨gi,X⟩:∃g,U+1=g:=⟨_,rfl⟩;simp only[E];simp only[E] at v F;simp only[R,T,X] at v F ⊢;clear E R T X)
        |(obtain⟨V5,E⟩:∃aa,(((wr.alloc (.cells #[.int .u8 (x:Int),.int .u8 (x:Int)] 5)).alloc (.cells #[.int .u8 (x:Int)] 5)).alloc (.cells #[.slice (some ⟨wr.heap.size+1,0,none⟩) 1 1,.slice (some ⟨wr.heap.size,0,none⟩) 2 2,.int .i64 0,.int .i64 2] 89)).drew=aa:=⟨_,rfl⟩
          have v:=ix (show Io wr (((wr.alloc (.cells #[.int .u8 (x:Int),.int .u8 (x:Int)] 5)).alloc (.cells #[.int .u8 (x:Int)] 5)).alloc (.cells #[.slice (some ⟨wr.heap.size+1,0,none⟩) 1 1,.slice (some ⟨wr.heap.size,0,none⟩) 2 2,.int .i64 0,.int .i64 2] 89)).drew (j6 (wr.heap.size+1) wr.heap.size x) from(Bk wr x TK.o.2).keep ((al ((wr.alloc (.cells #[.int .u8 (x:Int),.int .u8 (x:Int)] 5)).alloc (.cells #[.int .u8 (x:Int)] 5)) (.cells #[.slice (some ⟨wr.heap.size+1,0,none⟩) 1 1,.slice (some ⟨wr.heap.size,0,none⟩) 2 2,.int .i64 0,.int .i64 2] 89)).drew))
          have F:=ix (show ∀j u,(j6 (wr.heap.size+1) wr.heap.size x).cs.toList[j]?=some u->(((wr.alloc (.cells #[.int .u8 (x:Int),.int .u8 (x:Int)] 5)).alloc (.cells #[.int .u8 (x:Int)] 5)).alloc (.cells #[.slice (some ⟨wr.heap.size+1,0,none⟩) 1 1,.slice (some ⟨wr.heap.size,0,none⟩) 2 2,.int .i64 0,.int .i64 2] 89)).drew.cell? ((⟨wr.heap.size+1+1,0,none⟩:Addr).add j)=some u from mR ((wr.alloc (.cells #[.int .u8 (x:Int),.int .u8 (x:Int)] 5)).alloc (.cells #[.int .u8 (x:Int)] 5)) (j6 (wr.heap.size+1) wr.heap.size x) (wr.heap.size+1+1) (by simp only[size_alloc]))
          obtain⟨U,R⟩:∃g,wr.heap.size=g:=⟨_,rfl⟩;obtain⟨gk,T⟩:∃g,U+1=g:=⟨_,rfl⟩;obtain⟨gi,X⟩:∃g,gk+1=g:=⟨_,rfl⟩;simp only[E];simp only[E] at v F;simp only[R,T,X] at v F ⊢;clear E R T X)
       all_goals
        refine a.o _ _ trivial (λhHeld=>?_)
        clear a K;refine tw 15 λK a=>?_
        refine ox underlying75 mS rfl (by decide) rfl _ _ rfl P.aI k P.cI (Jc P.items) (by first|(simp[Act.eval];done)|simp[Act.eval,Act.put]) (JG.o _ v.o.k.b) ⟨gi,0,none⟩ 1 (j6 gk U x).cs.toList (by first|(simp[Act.eval];done)|simp[Act.eval,Act.put]) rfl F.o xP (by unfold maxLen;omega) (by omega) ?_
        intro g5 c5 w5 ai aj ad;have z5:w5.heap[A]?=some (.cells #[.int .i64 P.kind,.int .i64 P.level,.slice P.aI k P.cI,.slice P.aD P.data.length P.cD,.int .i64 P.next] 77 (0,0)):=ad.same (iK v.o.k.b af.o) (λN=>NI.o _ N rfl)
        obtain⟨_,_,z2,_⟩:=i6 z5;have f2:w5.frozen? ⟨A,2,none⟩=false:=by simp[World.frozen?,z5]
        have ay:=ix (M.o.push (x:=x) ag.o v.o rfl ai aj ad);refine a.o _ _ trivial (λhHeld=>?_)
        clear a K ai aj ad z5;refine tk 16 ?_;refine tw 17 λK a=>?_
        go_simp;refine a.o _ _ trivial (λhHeld=>?_)
        clear a K z2 f2 hHeld;refine td ?_;go_wp2_with fail
        go_roundw
        case rel=>exact⟨k+1,_,by omega,by first|(go_num;done)|exact bf (Value.int IntKind.i64) (by omega),by rw[TK.o.1];exact ay.o⟩
        case measure=>(simp[intOf];omega)
     . obtain rfl:k=5:=by omega
       have Z:=ix (show Grp W2 wr A P Es from M.o)
       clear M ag O hk;have BA:=ix (Z.o.but.same GA.o.box (λe=>by have:=Y.o;omega))
       have a5:=ix (GA.o.pn.but Z.o.but (λk e=>⟨77,(⟨1,0,none,0,[],none,0,[],0⟩:Pv).cs,by rw[e];exact B2.o,by decide,by decide⟩))
       have X3:=ix (Z.o.but.same X2.o (λe=>by have:=Y.o;omega))
       have C3:=ix (Z.o.but.same C2.o (λe=>by have:=Y.o;omega))
       have L3:=ix (((But.ofBelow (S:=λk=>k=A) L2.o).trans Z.o.but (λ_ _ e=>e)).below (λk hk e=>by have e:k=A:=e;have:=Y.o;omega))
       generalize P=i at *;generalize wr=H at*
       have bq:∀(W:World)(C:Array Value)(aq ap g:Nat),W.heap.size=g->(convert 37 37 (.slice (some ⟨g,0,none⟩) aq ap)).run prog (W.alloc (.cells C 5))=.ok (.slice (some ⟨g,0,none⟩) aq ap) (W.alloc (.cells C 5 (C.size,C.size+1))):=by
        intro W C aq ap g hg;subst hg;exact Lib.run_convert_bytes_const W 37 5 C aq ap underlying37 underlying5
       have au:=ix bq;clear bq;obtain⟨I,HE,E3,l,F1,F2,F3⟩:=lv3w H #[.int .u8 109] #[.slice none 0 0,.slice none 0 0,.int .i64 1,.int .i64 0,.slice (some ⟨H.heap.size,0,none⟩) 1 1,.slice none 0 0,.int .i64 2,.int .i64 0] #[.int .i64 0,.int .i64 0,.slice none 0 0,.slice none 0 0,.int .i64 0] #[.int .i64 2,.int .i64 1,.slice (some ⟨H.heap.size+1,0,none⟩) 2 2,.slice none 0 0,.int .i64 0];have ak:(convert 37 37 (.slice (some ⟨H.heap.size,0,none⟩) 1 1)).run prog (H.alloc (.cells #[.int .u8 109] 5))=.ok (.slice (some ⟨H.heap.size,0,none⟩) 1 1) (H.alloc (.cells #[.int .u8 109] 5 (1,2))):=au.o H #[.int .u8 109] 1 1 H.heap.size rfl;go_upto_region 15 with(first|(refine bz rfl 77 _ _ rfl (H.heap.size+1+1) _ rfl rfl 77 _ E3.o iV rfl (by simp[Value.oneCell']) ?_)|fail)
       rw[<-HE.o];have az:=F1;have ar:=F2;have XI:=F3.o;have X4:=iJ X3.o l.o;have XA:=iJ BA.o l.o;have XB:=iJ Z.o.box l.o;have C4:=ix (iJ C3.o l.o);have L4:=ix (bt L3.o l.o);have a8:=ix (a5.o.keep l.o);have bc:=ix (Z.o.pn.keep l.o);have EA:=ix GA.o.pg;have EB:=ix Z.o.pg;clear HE E3 F1 F2 F3 ak l GA Z C3 L3 a5 BA X2 C2 B2 L2;generalize H.heap.size+1+1=yi at *;obtain⟨gK,aI⟩:∃g,H.heap.size=g:=⟨_,rfl⟩;obtain⟨gI,br⟩:∃g,gK+1=g:=⟨_,rfl⟩;have GK:Hid (r<gK/\gK<gI):=⟨by rw[<-aI];exact(ae.1 X3.o).1,by omega⟩
       simp only[aI] at az ar XI;simp only[br] at ar XI;clear aI br;obtain⟨d,av⟩:∃p,oX gK gI=p:=⟨_,rfl⟩;have aW:=ix av;have EI:Hid (d.pg=livI):=by rw[<-av];rfl
       have VI:I.heap[yi]?=some (.cells #[.int .i64 d.kind,.int .i64 d.level,.slice d.aI d.items.length d.cI,.slice d.aD d.data.length d.cD,.int .i64 d.next] 77 (0,0)):=by rw[<-av];exact XI
       clear av XI X3;simp only[Pv.cs] at XA XB;obtain⟨a0,a1,a2,a3,a4⟩:=i6 XA;obtain⟨b0,b1,b2,b3,b4⟩:=i6 XB;obtain⟨i0,i1,i2,i3,i4⟩:=i6 VI;obtain⟨x0,x1,x2,x3⟩:=jJ X4;have fx:I.frozen? ⟨r,2,none⟩=false:=by simp[World.frozen?,X4]
       have L:=al I (.cells #[.int .i64 1,.int .i64 f.kind,.int .i64 f.level,.slice f.aI f.items.length f.cI,.slice f.aD f.data.length f.cD,.int .i64 f.next,.int .i64 2,.int .i64 i.kind,.int .i64 i.level,.slice i.aI i.items.length i.cI,.slice i.aD i.data.length i.cD,.int .i64 i.next,.int .i64 3,.int .i64 d.kind,.int .i64 d.level,.slice d.aI d.items.length d.cI,.slice d.aD d.data.length d.cD,.int .i64 d.next] 91);have bK:=(L.cell (p:=⟨r,2,none⟩) (block_lt_of_cell x2)).trans x2;have bm:=iJ X4 L;have bG:(I.alloc (.cells #[.int .i64 1,.int .i64 f.kind,.int .i64 f.level,.slice f.aI f.items.length f.cI,.slice f.aD f.data.length f.cD,.int .i64 f.next,.int .i64 2,.int .i64 i.kind,.int .i64 i.level,.slice i.aI i.items.length i.cI,.slice i.aD i.data.length i.cD,.int .i64 i.next,.int .i64 3,.int .i64 d.kind,.int .i64 d.level,.slice d.aI d.items.length d.cI,.slice d.aD d.data.length d.cD,.int .i64 d.next] 91)).frozen? ⟨r,2,none⟩=false:=by simp[World.frozen?,bm]
       have bL:=(ae.1 X4).1;go_upto_region 16 with fail
       clear a0 a1 a2 a3 a4 b0 b1 b2 b3 b4 i0 i1 i2 i3 i4 x0 x1 x2 x3 fx bK bG XA XB VI bm L;obtain⟨c,aP⟩:∃y,I.heap.size=y:=⟨_,rfl⟩;have BS:But (λk=>k=r) I (I.setCell ⟨r,2,none⟩ (.slice (some ⟨c,0,none⟩) 3 3)):=(But.refl (λk=>k=r) I).setCell (p:=⟨r,2,none⟩) (λ_=>rfl) _
       have ao:(I.setCell ⟨r,2,none⟩ (.slice (some ⟨c,0,none⟩) 3 3)).heap.size=c:=by rw[<-aP];exact uf _ _ _
       have X5:(I.setCell ⟨r,2,none⟩ (.slice (some ⟨c,0,none⟩) 3 3)).heap[r]?=some (.cells #[.int .i64 2,.slice (some ⟨t,0,none⟩) 3 3,.slice (some ⟨c,0,none⟩) 3 3,.slice none 0 0] 26 (0,0)):=by
        rw[aE _ _ _ _ _ _ X4];rfl
       have ty:∀k:Nat,k=r->∃(aw:TypeId)(cs:Array Value),Bx I aw k cs/\aw≠5/\aw≠89:=λk e=>⟨26,_,e▸X4,by decide,by decide⟩
       have ba:=ix (a8.o.but BS ty);have bd:=ix (bc.o.but BS ty);have C5:=ix (BS.same C4.o (show ¬(t=r) by have:=Y.o;omega))
       have bi:=ix (aW.o▸DL (BS.same az (show ¬(gK=r) by have:=GK.o;omega)) (BS.same ar (show ¬(gI=r) by have:=GK.o;omega)))
       have L5:=ix (((But.ofBelow (S:=λk=>k=r) L4.o).trans BS (λ_ _ e=>e)).below (λk hk e=>by have e:k=r:=e;have:=Y.o;omega))
       simp only[aP];clear a8 bc C4 az ar L4 BS X4 ty bL aP;generalize I.setCell ⟨r,2,none⟩ (.slice (some ⟨c,0,none⟩) 3 3)=V5 at *;have L:=al V5 (.cells #[.int .i64 1,.int .i64 f.kind,.int .i64 f.level,.slice f.aI f.items.length f.cI,.slice f.aD f.data.length f.cD,.int .i64 f.next,.int .i64 2,.int .i64 i.kind,.int .i64 i.level,.slice i.aI i.items.length i.cI,.slice i.aD i.data.length i.cD,.int .i64 i.next,.int .i64 3,.int .i64 d.kind,.int .i64 d.level,.slice d.aI d.items.length d.cI,.slice d.aD d.data.length d.cD,.int .i64 d.next] 91);have N6:=bj V5 (.cells #[.int .i64 1,.int .i64 f.kind,.int .i64 f.level,.slice f.aI f.items.length f.cI,.slice f.aD f.data.length f.cD,.int .i64 f.next,.int .i64 2,.int .i64 i.kind,.int .i64 i.level,.slice i.aI i.items.length i.cI,.slice i.aD i.data.length i.cD,.int .i64 i.next,.int .i64 3,.int .i64 d.kind,.int .i64 d.level,.slice d.aI d.items.length d.cI,.slice d.aD d.data.length d.cD,.int .i64 d.next] 91);rw[ao] at N6;have X6:=iJ X5 L;have bb:=ix (ba.o.keep L);have bh:=ix (bd.o.keep L);have bk:=ix (bi.o.keep L);have C6:=ix (iJ C5.o L);have L6:=ix (bt L5.o L);clear ba bd bi C5 L5 L X5 ao;generalize (V5.alloc (.cells #[.int .i64 1,.int .i64 f.kind,.int .i64 f.level,.slice f.aI f.items.length f.cI,.slice f.aD f.data.length f.cD,.int .i64 f.next,.int .i64 2,.int .i64 i.kind,.int .i64 i.level,.slice i.aI i.items.length i.cI,.slice i.aD i.data.length i.cD,.int .i64 i.next,.int .i64 3,.int .i64 d.kind,.int .i64 d.level,.slice d.aI d.items.length d.cI,.slice d.aD d.data.length d.cD,.int .i64 d.next] 91))=W5 at*
       have aX:Hid (Imi W5 ⟨2,some ⟨t,0,none⟩,3,[1,1,1],some ⟨c,0,none⟩,3,[(1,f),(2,i),(3,d)],none,0,[]⟩):=
        ⟨Gy C6.o,GJ N6 (bb.o.pi (by rw[uk EA.o];decide)) (bh.o.pi (by rw[uk EB.o];decide)) bk.o,λj hj=>absurd hj (dA _),(show 3<=1000000 by decide),(show 0<=1048576 by decide)⟩
       have NE:Hid (nmg [((1:Int),f),(2,i),(3,d)]=yu):=by
        show[((1:Int),f.pg),(2,i.pg),(3,d.pg)]=yu;rw[EA.o,EB.o,EI.o];rfl
       have LD:Hid (Calls prog 7 #[.agg #[.int .i64 2,.slice (some ⟨t,0,none⟩) 3 3,.slice (some ⟨c,0,none⟩) 3 3,.slice none 0 0]] W5 (λe J=>rE W5 J e ⟨2,some ⟨t,0,none⟩,3,[1,1,1],some ⟨c,0,none⟩,3,[(1,f),(2,i),(3,d)],none,0,[]⟩)):=rB W5 _ aX.o
       clear aX bb bh C6 bk N6 EA EB EI aW GK;obtain⟨x0,x1,x2,x3⟩:=jJ X6;go_wp2_with fail
       refine LD.o.mono ?_;rintro _ w6 (⟨bJ,_⟩|⟨h0,_,b,rb,S,pb,mb,pc,col,D,colR,rfl,hL⟩)
       . exact absurd ⟨by show(iP 2 [1,1,1] (nmg [((1:Int),f),(2,i),(3,d)])).1=0;rw[NE.o];exact Hc,(show 3<=4096 by decide)⟩ bJ
       have hL:Ld W5 w6 b rb S pb mb pc col D colR (iP 2 [1,1,1] (nmg [((1:Int),f),(2,i),(3,d)])).2:=hL;rw[NE.o] at hL;have n:Hid (Ld W5 w6 b rb S pb mb pc col D colR kK):=hL;have B6:=ix (bt L6.o hL.bl);clear hL h0 x0 x1 x2 x3 X6 LD NE L6;have RD:=ix (show i9 52 (.pointer (some ⟨b,0,none⟩)) kK (λk=>col k≠0) w6 from n.o.rv▸n.o.v.rdsx n.o.s)
       have XL:=ix n.o.v.xlt;have UP:=ix (show jx kK 65536 from n.o.rr▸m6 n.o.r)
       have ah:=ix n.o.ok;clear n;go_upto_region 20 with fail
       have X7:=ix (bj w6 (.cells #[.int .i64 3,.int .i64 2,.int .i64 9] 34));have A7:=al w6 (.cells #[.int .i64 3,.int .i64 2,.int .i64 9] 34);have B7:=ix (bt B6.o A7);have aA:=ix (RD.o.keep A7);have bn:=ix λ(k:Nat)(hk:col k≠0)=>a6 (XL.o k hk) A7.size
       clear RD XL A7 B6;generalize w6.alloc (.cells #[.int .i64 3,.int .i64 2,.int .i64 9] 34)=G at *;obtain⟨yt,bu⟩:∃y,w6.heap.size=y:=⟨_,rfl⟩;simp only[bu] at X7 ⊢;clear bu;have ak:(convert 37 37 (.slice (some ⟨G.heap.size,0,none⟩) 1 1)).run prog (G.alloc (.cells #[.int .u8 112] 5))=.ok (.slice (some ⟨G.heap.size,0,none⟩) 1 1) (G.alloc (.cells #[.int .u8 112] 5 (1,2))):=au.o G #[.int .u8 112] 1 1 G.heap.size rfl;have A8:=ix (al G (.cells #[.int .u8 112] 5 (1,2)))
       have aV:Hid (Calls prog 11 #[.pointer (some ⟨b,0,none⟩),.agg #[.int .i64 3,.int .i64 2,.int .i64 9],.slice (some ⟨G.heap.size,0,none⟩) 1 1] (G.alloc (.cells #[.int .u8 112] 5 (1,2))) (λe J=>sD (G.alloc (.cells #[.int .u8 112] 5 (1,2))) J e ([112,112],true,0))):=by
        have h:=xR (G.alloc (.cells #[.int .u8 112] 5 (1,2))) b kK ah.o (λk=>col k≠0) (aA.o.keep A8.o) 3 9 2 (by decide) (some ⟨G.heap.size,0,none⟩) 1 [112] (pI (by decide) (bj G (.cells #[.int .u8 112] 5 (1,2))))
        rw[FV] at h;exact h
       obtain⟨t0,t1,t2⟩:=iz X7.o;go_wp2_with fail
       refine aV.o.mono ?_;rintro _ m ⟨a9,c9,rfl,aH,h8⟩;clear t0 t1 t2 ak aV;have O9:=ix aH;have AB:=ix (bt A8.o aH.b);have B9:=ix (bt B7.o AB.o);have aB:=ix (aA.o.keep AB.o);have X9:=ix (iJ X7.o AB.o);have aC:=ix λ(k:Nat)(hk:col k≠0)=>a6 (bn.o k hk) AB.o.size
       clear aH h8 A8 AB B7 aA X7 bn;go_upto_region 21 with fail
       have ak:(convert 37 37 (.slice (some ⟨m.heap.size,0,none⟩) 1 1)).run prog (m.alloc (.cells #[.int .u8 101] 5))=.ok (.slice (some ⟨m.heap.size,0,none⟩) 1 1) (m.alloc (.cells #[.int .u8 101] 5 (1,2))):=au.o m #[.int .u8 101] 1 1 m.heap.size rfl;have bH:(convert 37 37 (.slice (some ⟨m.heap.size+1,0,none⟩) 1 1)).run prog ((m.alloc (.cells #[.int .u8 101] 5 (1,2))).alloc (.cells #[.int .u8 112] 5))=.ok (.slice (some ⟨m.heap.size+1,0,none⟩) 1 1) ((m.alloc (.cells #[.int .u8 101] 5 (1,2))).alloc (.cells #[.int .u8 112] 5 (1,2))):=au.o (m.alloc (.cells #[.int .u8 101] 5 (1,2))) #[.int .u8 112] 1 1 (m.heap.size+1) (size_alloc _ _);have aU:=ix (al m (.cells #[.int .u8 101] 5 (1,2)));have ax:=ix (al (m.alloc (.cells #[.int .u8 101] 5 (1,2))) (.cells #[.int .u8 112] 5 (1,2)));have bo:=bj m (.cells #[.int .u8 101] 5 (1,2));have aG:=bj (m.alloc (.cells #[.int .u8 101] 5 (1,2))) (.cells #[.int .u8 112] 5 (1,2));rw[size_alloc] at aG;have AA:=ix (bt aU.o ax.o);have ao:((m.alloc (.cells #[.int .u8 101] 5 (1,2))).alloc (.cells #[.int .u8 112] 5 (1,2))).heap.size=m.heap.size+2:=by rw[size_alloc,size_alloc]
       have aY:Hid (Calls prog 26 #[.pointer (some ⟨b,0,none⟩),.agg #[.int .i64 3,.int .i64 2,.int .i64 9],.agg #[.slice (some ⟨m.heap.size,0,none⟩) 1 1,.slice (some ⟨m.heap.size+1,0,none⟩) 1 1,.bool false]] ((m.alloc (.cells #[.int .u8 101] 5 (1,2))).alloc (.cells #[.int .u8 112] 5 (1,2))) (λe J=>Below ((m.alloc (.cells #[.int .u8 101] 5 (1,2))).alloc (.cells #[.int .u8 112] 5 (1,2))).heap.size ((m.alloc (.cells #[.int .u8 101] 5 (1,2))).alloc (.cells #[.int .u8 112] 5 (1,2))) J/\CoR ((m.alloc (.cells #[.int .u8 101] 5 (1,2))).alloc (.cells #[.int .u8 112] 5 (1,2))) J e ([([101],[101,101]),([103],[103,103]),([109],[109,109])],0))):=by
        have h:=vG ((m.alloc (.cells #[.int .u8 101] 5 (1,2))).alloc (.cells #[.int .u8 112] 5 (1,2))) b kK ah.o 65536 UP.o (am _) (λk=>col k≠0) (aB.o.keep AA.o) (λk hk=>a6 (aC.o k hk) AA.o.size) 3 2 9 (by decide) (by decide) ⟨some ⟨m.heap.size,0,none⟩,1,[101],some ⟨m.heap.size+1,0,none⟩,1,[112],false⟩ ⟨pI (by decide) (iJ bo ax.o),am _,pI (by decide) aG,am _⟩ (show(1:Nat)<=140737488355328/\(1:Nat)<=140737488355328 by decide) (λk hk=>by
         rw[ao];rcases hk with⟨y,hy,rfl⟩|⟨y,hy,rfl⟩<;>(cases hy;simp))
        have e:(iE (prM Yl kK (⟨[101],[112],false⟩:Rg) true) kK (iU ⟨[101],[112],false⟩) true 1 ⟨[],([],0)⟩ (ja 3 2)).c=([([101],[101,101]),([103],[103,103]),([109],[109,109])],0):=Ee;rw[<-e];exact h
       clear bo aG ao;obtain⟨t0,t1,t2⟩:=iz X9.o;go_wp2_with fail
       refine aY.o.mono ?_;rintro _ q ⟨bv,bM⟩;have BC:=ix (bt AA.o bv);have bB:=ix (bt B9.o BC.o);have aR:=ix (aB.o.keep BC.o);have bl:=ix (iJ X9.o BC.o);have aZ:=ix (O9.o.keep BC.o);have aS:=ix λ(k:Nat)(hk:col k≠0)=>a6 (aC.o k hk) BC.o.size
       clear ak bH aU ax AA aY t0 t1 t2 bv BC B9 aB X9 O9 aC;rcases bM with⟨hz,_⟩|⟨_,a12,c12,C,rfl,hPrs,hpl,_⟩
       . exact absurd rfl hz
       have bp:C.length=3:=by rw[<-i7 C,hpl];rfl
       obtain⟨p1,p2,p3,rfl⟩:=Em bp
       have aK:p3.1.l=[109]:=by
        have:=bf (λbx=>(bx.getD 2 ([],[])).1) hpl
        simpa[prl] using this
       obtain⟨g,rfl⟩:∃g,a12=some ⟨g,0,none⟩:=hPrs.row.addr (by simp)
       have k4:q.cell? ⟨g,4,none⟩=some (.slice p3.1.a 1 p3.1.c):=hPrs.row.cell (show(prv [p1,p2,p3])[4]?=some (.slice p3.1.a 1 p3.1.c) by simp[prv,aK])
       have r3:=(hPrs.ok p3.1 (by simp[prR])).1
       rw[aK] at r3;have s1:=Bm aZ.o.r (by simp)
       have s2:=Bm r3 (by simp)
       have s1:(convert 37 9 (.slice a9 2 c9)).run prog q=.ok (.string ⟨#[112,112]⟩) q:=s1;have s2:(convert 37 9 (.slice p3.1.a 1 p3.1.c)).run prog q=.ok (.string ⟨#[109]⟩) q:=s2
       have bF:Hid (∀W:World,Below q.heap.size q W->Calls prog 36 #[.pointer (some ⟨b,0,none⟩),.agg #[.int .i64 3,.int .i64 2,.int .i64 9]] W λe J=>e=.returned (.int .i64 0)/\Below W.heap.size W J):=λW hb=>by
        have h:=qO W b kK ah.o 65536 UP.o (am _) (λk=>col k≠0) (aR.o.keep hb) (λk hk=>a6 (aS.o k hk) hb.size) ⟨3,2,9⟩
        rw[Dn] at h;exact h
       have bE:Hid (∀W:World,Below q.heap.size q W->Calls prog 36 #[.pointer (some ⟨b,0,none⟩),.agg #[.int .i64 3,.int .i64 2,.int .i64 8]] W λe J=>e=.returned (.int .i64 4)/\Below W.heap.size W J):=λW hb=>by
        have h:=qO W b kK ah.o 65536 UP.o (am _) (λk=>col k≠0) (aR.o.keep hb) (λk hk=>a6 (aS.o k hk) hb.size) ⟨3,2,8⟩
        rw[Cj] at h;exact h
       obtain⟨t0,t1,t2⟩:=iz bl.o;clear hPrs hpl aK r3 aZ aR aS bl bp ah UP;simp only[a7,bg,de];go_wp2_with fail
       refine(bF.o _ (Below.refl _ _)).mono ?_;rintro _ bN ⟨rfl,aT⟩;have bC:=ix (bt bB.o aT);clear t0 t1 t2 k4 s1 s2;go_wp2_with fail
       refine(bE.o _ aT).mono ?_;rintro _ bO ⟨rfl,bw⟩;have bD:=ix (bt bC.o bw);clear aT bw;go_wp2_with fail
       go_ret;exact⟨rfl,bD.o⟩
theorem Ld.keep14{a:World}(h:Ld w W b rb S pb mb pc col D colR rd)(hb:Below W.heap.size W a):Ld w a b rb S pb mb pc col D colR rd:=⟨bt h.bl hb,h.v.keep hb,h.r.keep hb,h.s,h.rv,h.rr,h.ok,h.c,h.dj,h.nv,h.nr⟩
theorem uP{rd:Int->Option Pg}{s:Nat}:∀(t:Nat)(a:List Nat)(n:Int),a.length<=s->(jp rd s t a n).2.length<=s
 |0,a,n,h=>h
 |t+1,a,n,h=>by
  unfold jp;split
  . split
    . exact an _
    . split
      . exact an _
      . split
        . exact an _
        . rename_i p _ _ hd;split
          . exact an _
          . have hd:p.data.length=min (s-a.length) 480:=em hd;exact uP t _ _ (by rw[af,hd];omega)
  . exact h
theorem FE{x:It}:(ldI rd x).2.length<=3840:=by
 unfold ldI;split
 . exact an _
 . rename_i h;split
   . have:=uP (rd:=rd) (s:=x.size.toNat) x.size.toNat [] x.child (an _);omega
   . split
     . exact an _
     . rename_i a;have a:(x.val.length:Int)=x.size:=em a;show x.val.length<=_;omega
theorem He(d:iF rd){t:Tr}(g:chk rd t=0):∀p∈PLt rd t,p.1.length<=3840/\p.2.length<=3840:=by
 by_cases c:t.root=0
 . intro p a;unfold PLt at a;rw[if_pos c] at a;cases a
 . obtain⟨i,j,f,l,e,_⟩:=jm d g c;intro p a;unfold PLt at a;rw[if_neg c] at a;obtain⟨x,e,rfl⟩:=bE.1 a;refine⟨?_,FE⟩;have h:=(f.hk d x e).1;rw[mq] at h;have:=(nY.1 h).2;show x.key.length<=_;omega
structure GeT(w:World)(b rb:Nat)(rd:Int->Option Pg)(t:Tr)(L:List (List Nat×List Nat)):Prop where
 get:∀(W:World)(ak:Option Addr)(ck:Nat)(k:List Nat),Below w.heap.size w W->Bs W ak k->Calls prog 11 #[.pointer (some ⟨b,0,none⟩),.agg #[.int .i64 t.root,.int .i64 t.height,.int .i64 t.items],.slice ak k.length ck] W λe w'=>sD W w' e (mj L k)
 ceil:∀(W:World)(ak:Option Addr)(ck:Nat)(k:List Nat),Below w.heap.size w W->Bs W ak k->k.length<=ck->k.length<=1048576->(∀x,ak=some x->x.block<W.heap.size)->Calls prog 14 #[.pointer (some ⟨b,0,none⟩),.agg #[.int .i64 t.root,.int .i64 t.height,.int .i64 t.items],.slice ak k.length ck] W λe w'=>PrP W w' e (kJ L k)
 floor:∀(W:World)(ak:Option Addr)(ck:Nat)(k:List Nat),Below w.heap.size w W->Bs W ak k->k.length<=1048576->Calls prog 17 #[.pointer (some ⟨b,0,none⟩),.agg #[.int .i64 t.root,.int .i64 t.height,.int .i64 t.items],.slice ak k.length ck] W λe w'=>PrP W w' e (jT L k)
 path:∀(W:World)(ak:Option Addr)(ck:Nat)(k:List Nat),Below w.heap.size w W->Bs W ak k->Calls prog 19 #[.pointer (some ⟨b,0,none⟩),.agg #[.int .i64 t.root,.int .i64 t.height,.int .i64 t.items],.slice ak k.length ck] W λe w'=>yD W w' e (iZ rd k t.height.toNat t.root)
 way:∀k,∃l,iZ rd k t.height.toNat t.root=some l
 dget:∀(W:World)(ak:Option Addr)(ck:Nat)(k:List Nat),Below w.heap.size w W->Bs W ak k->Calls prog 12 #[.pointer (some ⟨rb,0,none⟩),.agg #[.int .i64 t.root,.int .i64 t.height,.int .i64 t.items],.slice ak k.length ck] W λe w'=>GtD W w' e (mj L k)
 dceil:∀(W:World)(ak:Option Addr)(ck:Nat)(k:List Nat),Below w.heap.size w W->Bs W ak k->Calls prog 15 #[.pointer (some ⟨rb,0,none⟩),.agg #[.int .i64 t.root,.int .i64 t.height,.int .i64 t.items],.slice ak k.length ck] W λe w'=>PrD W w' e (kJ L k)
 dfloor:∀(W:World)(ak:Option Addr)(ck:Nat)(k:List Nat),Below w.heap.size w W->Bs W ak k->Calls prog 18 #[.pointer (some ⟨rb,0,none⟩),.agg #[.int .i64 t.root,.int .i64 t.height,.int .i64 t.items],.slice ak k.length ck] W λe w'=>PrD W w' e (jT L k)
 dpath:∀(W:World)(ak:Option Addr)(ck:Nat)(k:List Nat)(l:List (Int×Pg)),Below w.heap.size w W->Bs W ak k->iZ rd k t.height.toNat t.root=some l->Calls prog 20 #[.pointer (some ⟨rb,0,none⟩),.agg #[.int .i64 t.root,.int .i64 t.height,.int .i64 t.items],.slice ak k.length ck] W λe w'=>PtD W w' e (l.map Prod.fst)
 len:∀p∈L,p.1.length<=3840/\p.2.length<=3840
theorem Ld.b8(h:Ld w W b rb S pb mb pc col D colR rd):mU rd:=by
 intro n p a;rw[<-h.rr] at a;obtain⟨c,rfl⟩:=qR a;exact(h.r.pz _ (Rd.on_mem h.r (jN c))).pi.b8
theorem Ld.get(h:Ld w W b rb S pb mb pc col D colR rd){t:Tr}(e:chk rd t=0):GeT W b rb rd t (PLt rd t):=by
 have d:=h.ok;have m:=h.b8;have g:=λ(V:World)(hb:Below W.heap.size W V)=>(show i9 52 (.pointer (some ⟨b,0,none⟩)) rd (λk=>col k≠0) W from h.rv▸h.v.rdsx h.s).keep hb
 have p:=λ(V:World)(hb:Below W.heap.size W V) k (hk:col k≠0)=>a6 (h.v.xlt k hk) hb.size
 have n:jx rd 65536:=h.rr▸m6 h.r;have i:iF (rdR D):=h.rr.symm▸d;have j:chk (rdR D) t=0:=h.rr.symm▸e;obtain⟨q,s⟩:=qw d e;refine⟨λV a c k hb hk=>E8 d (g V hb) e hk,λV a c k hb hk r f v=>DZ d m n (g V hb) (p V hb) e hk r f v,λV a c k hb hk f=>AO d m n (g V hb) (p V hb) e hk f,λV a c k hb hk=>CY d (g V hb) e hk,Fh d e,λV a c k hb hk=>?_,λV a c k hb hk=>?_,λV a c k hb hk=>?_,λV a c k l hb hk f=>?_,He d e⟩
 . have:=DS V rb D colR (h.r.keep hb) i t j a c k hk;rw[h.rr] at this;exact this
 . have:=Ay V rb D colR (h.r.keep hb) i t j a c k hk;rw[h.rr] at this;exact this
 . have:=zk V rb D colR (h.r.keep hb) i t j a c k hk;rw[h.rr] at this;exact this
 . have:=A6 V rb D colR (h.r.keep hb) i t.root t.items t.height.toNat s a c k hk l (h.rr.symm▸f);rw[<-q] at this;exact this
def p00:List Nat×List Nat:=([],[])
theorem xS(a:iF rd){t:Tr}(e:chk rd t=0):(PLt rd t).Pairwise λx y=>x.1<y.1:=by
 unfold PLt;split
 . exact .nil
 . rename_i c;obtain⟨_,_,d,_⟩:=jm a e c;exact fa.2 (Sub.rise a d)
theorem uI(c:iF rd){t:Tr}(g:chk rd t=0):∀p∈PLt rd t,isK p.1=true:=by
 intro p a;unfold PLt at a;split at a
 . cases a
 . rename_i d;obtain⟨_,_,e,_⟩:=jm c g d;obtain⟨x,f,rfl⟩:=bE.1 a;have h:=(e.hk c x f).1;rw[mq] at h;exact h
theorem Cr(d:iF rd){t:Tr}(c:chk rd t=0):((PLt rd t).length:Int)=t.items:=by
 unfold PLt;split
 . rename_i a;rw[ky c a];rfl
 . rename_i a;obtain⟨_,_,_,_,_,h⟩:=jm d c a;rw[bM];exact h
theorem Fq(a:iF rd){N:Nat}(d:jx rd N)(m:N<=65536){t:Tr}(i:chk rd t=0):(PLt rd t).length<=524288:=by
 unfold PLt;split
 . exact an _
 . rename_i c;obtain⟨_,_,_,f,h,_⟩:=jm a i c;have j:=ws a (t.height-1).toNat t.root
   have l:=ml N (nds rd (t.height-1).toNat t.root) f λn e=>by
    obtain⟨p,g⟩:=h n e;exact d n (by rw[g];rfl)
   rw[bM];omega
section
variable {L:List (List Nat×List Nat)}
theorem Bp(a:∀p∈L,isK p.1=true):jt L ⟨[],[],true⟩=L:=List.filter_eq_self.2 λp c=>has_iff.2 ⟨a p c,by simp,.inl rfl⟩
theorem xO(c:List Nat):∀{L:List (List Nat×List Nat)},L.Pairwise (λx y=>x.1<y.1)->L.filter (λp=>decide (p.1<c))++L.filter (λp=>decide (c<=p.1))=L
 | [],_=>rfl
 |x::L,h=>by
  obtain⟨h1,h2⟩:=dd.1 h;by_cases d:x.1<c
  . rw[fw (by exact ar d),fu (by simpa using d),b7,xO c h2]
  . have d:c<=x.1:=eI.1 d
    have f:L.filter (λp=>decide (p.1<c))=[]:=fF.2 λp e h=>by
     have a:=h1 p e;have b:p.1<c:=fI h;exact absurd (List.lt_trans a b) (eI.2 d)
    have g:L.filter (λp=>decide (c<=p.1))=L:=List.filter_eq_self.2 λp e=>ar (List.le_trans d (List.le_of_lt (h1 p e)))
    rw[fu (by simpa using d),fw (by exact ar d),f,g,b9]
theorem vF(a:∀p∈L,isK p.1=true)(c:List Nat):jt L ⟨[],c,false⟩=L.filter λp=>decide (p.1<c):=gR λp d=>by
 rw[dW,has_iff,dI];simp[a p d]
theorem xY(a:∀p∈L,isK p.1=true)(c:List Nat):jt L ⟨c,[],true⟩=L.filter λp=>decide (c<=p.1):=gR λp d=>by
 rw[dW,has_iff,dI];simp[a p d]
theorem Hg(a:∀p∈L,isK p.1=true)(d:L.Pairwise λx y=>x.1<y.1)(c:List Nat):jt L ⟨[],c,false⟩++jt L ⟨c,[],true⟩=L:=by
 rw[vF a,xY a,xO c d]
theorem Gg{A B:List (List Nat×List Nat)}{c:List Nat}(f:∀p∈A,p.1<c)(g:∀p∈B,c<=p.1){i:Nat}(hi:i<(A++B).length):((A++B).getD i p00=if i<A.length then A.getD i p00 else B.getD (i-A.length) p00)/\(i<A.length↔iy ((A++B).getD i p00).1 c<0):=by
 rw[af] at hi;by_cases h:i<A.length
 . have e:(A++B).getD i p00=A.getD i p00:=by rw[aM,db h,aM]
   have d:A.getD i p00∈A:=by simp[h]
   exact⟨by rw[if_pos h];exact e,λ_=>by rw[e];exact kw.2 (f _ d),λ_=>h⟩
 . have e:(A++B).getD i p00=B.getD (i-A.length) p00:=by rw[aM,bP (by omega),aM]
   have d:B.getD (i-A.length) p00∈B:=by simp[show i-A.length<B.length by omega]
   exact⟨by rw[if_neg h];exact e,λa=>absurd a h,λa=>by
    rw[e] at a;exact absurd (kw.1 a) (eI.2 (g _ d))⟩
theorem kW(c:L.Pairwise λx y=>x.1<y.1){i j:Nat}(d:i<j)(a:j<L.length):(L.getD i p00).1<(L.getD j p00).1:=by
 have h:=fh.1 c i j (by omega) a d
 simpa[show i<L.length by omega,a] using h
theorem Ga(hK:∀p∈L,isK p.1=true)(hR:L.Pairwise λx y=>x.1<y.1){i:Nat}(hi:i<L.length):mj L (L.getD i p00).1=((L.getD i p00).2,true,0):=by
 have hk:=hK (L.getD i p00) (by simp[hi])
 unfold isK at hk;rw[ce,dI,dI] at hk;unfold mj
 rw[if_neg (by omega),jV (λp:List Nat×List Nat=>decide (p.1=(L.getD i p00).1)) p00 L i hi (λj c=>ah λe=>by
  have a:=kW hR c hi;rw[e] at a;exact List.lt_irrefl _ a) (ar rfl)]
theorem Cq(hR:L.Pairwise λx y=>x.1<y.1){i:Nat}(hi:i<L.length):kJ L (L.getD i p00).1=some (L.getD i p00):=
 jV _ p00 L i hi (λj a=>ah λe=>absurd (kW hR a hi) (eI.2 (sB.1 e))) (ar (by rw[lm];omega))
theorem Ah(hR:L.Pairwise λx y=>x.1<y.1){i:Nat}(hi:i<L.length):jT L (L.getD i p00).1=some (L.getD i p00):=
 ny _ p00 L i hi (λj a c=>ah λe=>absurd (kW hR a c) (eI.2 (kS.1 e))) (ar (by rw[lm];omega))
theorem yo(hR:L.Pairwise λx y=>x.1<y.1){i:Nat}(hi:i<L.length):kJ L ((L.getD i p00).1++[0])=if i+1<L.length then some (L.getD (i+1) p00) else none:=by
 have low:∀j,j<=i->decide (0<=iy (L.getD j p00).1 ((L.getD i p00).1++[0]))=false:=λj c=>ah λe=>by
  have h:iy (L.getD j p00).1 ((L.getD i p00).1++[0])<0:=(lE _ _).2 (kS.2 (by
   rcases gH c with h|h
   . exact List.le_of_lt (kW hR h hi)
   . rw[h];exact List.le_refl _))
  omega
 by_cases h:i+1<L.length
 . rw[if_pos h];refine jV _ p00 L (i+1) h (λj c=>low j (by omega)) (ar ?_)
   have a:=kW hR (Nat.lt_succ_self i) h;apply em;intro d;have b:=(lE _ _).1 (show iy (L.getD (i+1) p00).1 ((L.getD i p00).1++[0])<0 by omega)
   exact absurd a (eI.2 (kS.1 b))
 . rw[if_neg h];exact mL _ p00 L λj c=>low j (by omega)
theorem wN(hR:L.Pairwise λx y=>x.1<y.1){i:Nat}(hi:i<L.length):jT L ((L.getD i p00).1++[0])=if i+1<L.length/\(L.getD (i+1) p00).1=(L.getD i p00).1++[0] then some (L.getD (i+1) p00) else some (L.getD i p00):=by
 have m:∀j,i<j->j<L.length->(L.getD i p00).1++[0]<=(L.getD j p00).1:=λj l g=>by
  have a:=kW hR l g;refine eI.1 λh=>?_
  have b:=(lE _ _).1 (kw.2 h);exact absurd a (eI.2 (kS.1 b))
 have n:iy (L.getD i p00).1 ((L.getD i p00).1++[0])<=0:=by
  have:=(lE (L.getD i p00).1 (L.getD i p00).1).2 (by rw[lm];omega)
  omega
 by_cases h:i+1<L.length/\(L.getD (i+1) p00).1=(L.getD i p00).1++[0]
 . rw[if_pos h];refine ny _ p00 L (i+1) h.1 (λj l g=>ah λe=>?_) (ar (by rw[h.2,lm];omega))
   have a:=kW hR l g;rw[h.2] at a;exact absurd a (eI.2 (kS.1 e))
 . rw[if_neg h];refine ny _ p00 L i hi (λj l g=>ah λe=>?_) (ar n)
   have a:=m j l g;have b:=kS.1 e;have c:=List.le_antisymm b a;rcases gH (show i+1<=j by omega) with h2|h2
   . have d:=kW hR h2 g;have f:=m (i+1) (by omega) (by omega)
     rw[c] at d;exact absurd d (eI.2 f)
   . subst h2;exact h ⟨g,c⟩
end
theorem Ek{f:Nat}{n:Int}{l:List (Int×Pg)}(h:iZ rd k (f+1) n=some l):∃p a,l=(n,p)::a:=by
 unfold iZ at h;split at h
 . cases h
 . rename_i p c;split at h
   . cases h
   . obtain⟨a,_,e⟩:=Option.map_eq_some_iff.1 h;exact⟨p,a,e.symm⟩
theorem Hd(c:iF rd){t:Tr}(r:chk rd t=0){v:List Nat}(a:(k,v)∈PLt rd t):
 ∃(l:List (Int×Pg))(x:Int)(q:Pg),iZ rd k t.height.toNat t.root=some l/\(l.length:Int)=t.height/\1<=t.height/\(∃p F,l=(t.root,p)::F)/\l.getLast?=some (x,q)/\rd x=some q/\q.kind=1/\∃y∈q.items,y.key=k:=by
 have h:t.root≠0:=λe=>by
  unfold PLt at a;rw[if_pos e] at a;cases a
 obtain⟨B,J,m,K,n,_⟩:=jm c r h;obtain⟨l,q,d,E,j⟩:=ou c (k:=k) m (by show t.height-1=_;omega)
 have H:=uI c r _ a;obtain⟨f,s,G,C⟩:=Sub.find c (k:=k) m (by show t.height-1=_;omega) (by rw[mq];exact H)
 have e:f=q:=by rw[j] at s;exact(fC s).symm
 subst e;have A:t.height.toNat=(t.height-1).toNat+1:=by omega
 refine⟨l,_,f,by rw[A];exact d,?_,B,Ek d,E,j,G,?_⟩
 . have:=qG d;omega
 . unfold PLt at a;rw[if_neg h] at a;obtain⟨x,n,e⟩:=bE.1 a;have g:x.key=k:=bf Prod.fst e
   have I:x∈f.items.filter λx=>decide (x.key=k):=by
    rw[<-C];exact dX.2 ⟨n,ar g⟩
   exact⟨x,(dX.1 I).1,g⟩
structure LsT(w:World)(b rb:Nat)(rd:Int->Option Pg)(t:Tr)(L:List (List Nat×List Nat)):Prop where
 list:∀(W:World)(r:Rv),Below w.heap.size w W->Ri W r->Rb r->(∀k,i5 r k->k<W.heap.size)->Calls prog 26 #[.pointer (some ⟨b,0,none⟩),.agg #[.int .i64 t.root,.int .i64 t.height,.int .i64 t.items],r.val] W λe w'=>PsP W w' e (jt L r.rg)
 scan:∀(W:World)(r:Rv),Below w.heap.size w W->Ri W r->Rb r->(∀k,i5 r k->k<W.heap.size)->Calls prog 28 #[.pointer (some ⟨b,0,none⟩),.agg #[.int .i64 t.root,.int .i64 t.height,.int .i64 t.items],r.val] W λe w'=>ScP W w' e (jt L r.rg)
 back:∀(W:World)(r:Rv),Below w.heap.size w W->Ri W r->Rb r->(∀k,i5 r k->k<W.heap.size)->Calls prog 29 #[.pointer (some ⟨b,0,none⟩),.agg #[.int .i64 t.root,.int .i64 t.height,.int .i64 t.items],r.val] W λe w'=>ScP W w' e (jt L r.rg).reverse
 dlist:∀(W:World)(r:Rv),Below w.heap.size w W->Ri W r->Calls prog 25 #[.pointer (some ⟨rb,0,none⟩),.agg #[.int .i64 t.root,.int .i64 t.height,.int .i64 t.items],r.val] W λe w'=>PsP W w' e (jt L r.rg)
 rds:∀W:World,Below w.heap.size w W->∃XV:Nat->Prop,i9 52 (.pointer (some ⟨b,0,none⟩)) rd XV W
 many:L.length<=524288
 items:(L.length:Int)=t.items
 rise:L.Pairwise λx y=>x.1<y.1
 key:∀p∈L,isK p.1=true
theorem Ld.lst(h:Ld w W b rb S pb mb pc col D colR rd){t:Tr}(c:chk rd t=0):LsT W b rb rd t (PLt rd t):=by
 have a:=h.ok;have j:=h.b8;have hR:=λ(V:World)(hb:Below W.heap.size W V)=>(show i9 52 (.pointer (some ⟨b,0,none⟩)) rd (λk=>col k≠0) W from h.rv▸h.v.rdsx h.s).keep hb
 have l:=λ(V:World)(hb:Below W.heap.size W V) k (hk:col k≠0)=>a6 (h.v.xlt k hk) hb.size
 have g:jx rd 65536:=h.rr▸m6 h.r;have n:iF (rdR D):=h.rr.symm▸a;have p:chk (rdR D) t=0:=h.rr.symm▸c;have m:=Fq a g (am _) c;refine⟨λV r hb d e f=>Cz a j g (am _) (hR V hb) (l V hb) c d e f,λV r hb d e f=>C7 a j g (am _) (hR V hb) (l V hb) c d e f,λV r hb d e f=>DI a j g (am _) (hR V hb) (l V hb) c d e f,λV r hb d=>?_,λV hb=>⟨_,hR V hb⟩,m,Cr a c,xS a c,uI a c⟩
 have:=Al V rb D colR (h.r.keep hb) n t p (by rw[h.rr];exact m) r d
 rw[h.rr] at this;exact this
def Ef(w w':World)(e:Ending)(l:List Int):Prop:=Below w.heap.size w w'/\∃(a:Option Addr)(c:Nat),e=.returned (.tuple #[.slice a l.length c,.int .i64 0])/\Q.Gw 3 1 w' a c l.length (Q.vi l)/\∀y,a=some y->w.heap.size<=y.block
theorem yD.fix{g:World}{e:Ending}{f:List (Int×Pg)}{d:List Int}(h:yD w g e (some f))(q:f.map Prod.fst=d):Ef w g e d:=by
 obtain⟨l,r,a,c,rfl,j,m,n,p,rfl⟩:=h;have e:l=d:=p.trans q;subst e;exact⟨n,a,c,rfl,j,m⟩
end Go.Proofs.YteaogidofpfmmaaGreat
