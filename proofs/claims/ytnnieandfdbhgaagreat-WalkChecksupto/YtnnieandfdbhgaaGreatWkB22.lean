import Derived.Test.YtnnieandfdbhgaaGreatWkB21
import Derived.Deep.Cut
import Derived.Laws.BytesArg
set_option linter.all false
set_option maxHeartbeats 8000000
set_option maxRecDepth 16000
namespace Go.Proofs.YtnnieandfdbhgaaGreat
open Go.Proofs.Tryz
open Go.RowKit
variable {gk x y:Nat}{V W w:World}
def lowB:List Nat:=[97,99,101,103]
def wJ:List Nat:=[109,112,114,116,118]
theorem Grp.start(h:W.heap[y]?=some (.cells #[.int .i64 1,.int .i64 0,.slice none 0 0,.slice none 0 0,.int .i64 0] 77 (0,0))):Grp W W y ⟨1,0,none,0,[],none,0,[],0⟩ []:=
 ⟨But.refl _ _,h,⟨Jw.nil _,New.none _ _,Rw.nil _,New.none _ _,(λ_ h=>by cases h),d7 _ _,B8.nil,(λ_ h=>by cases h),by simp[N64],by simp[N64],by simp[N64]⟩,rfl,rfl,(ae.1 h).1⟩
def gh(gk gv x:Nat):Iv:=⟨some ⟨gk,0,none⟩,1,[x],some ⟨gv,0,none⟩,2,[x,x],0,2⟩
theorem rn{a:Nat}:∀u∈(gh gk a x).cs.toList,u.oneCell'=true:=by simp[gh,Iv.cs,Value.oneCell']
theorem tZ(w:World)(x:Nat)(g:x<256):Io w ((w.alloc (.cells #[.int .u8 (x:Int)] 5)).alloc (.cells #[.int .u8 (x:Int),.int .u8 (x:Int)] 5)) (gh w.heap.size (w.heap.size+1) x):=by
 have e:=kT w [x] (by simp) #[.int .u8 (x:Int)] rfl
 have c:=kT (w.alloc (.cells #[.int .u8 (x:Int)] 5)) [x,x] (by simp) #[.int .u8 (x:Int),.int .u8 (x:Int)] rfl
 rw[size_alloc] at c;refine⟨e.keep c.b,c.pre e.b,λa b f hb=>?_,λz d=>?_,λz d=>?_⟩
 . cases f;cases hb;simp
 all_goals
  simp[gh] at d;omega
theorem uB(w:World)(x:Nat)(g:x<256):Io w ((w.alloc (.cells #[.int .u8 (x:Int),.int .u8 (x:Int)] 5)).alloc (.cells #[.int .u8 (x:Int)] 5)) (gh (w.heap.size+1) w.heap.size x):=by
 have e:=kT w [x,x] (by simp) #[.int .u8 (x:Int),.int .u8 (x:Int)] rfl
 have c:=kT (w.alloc (.cells #[.int .u8 (x:Int),.int .u8 (x:Int)] 5)) [x] (by simp) #[.int .u8 (x:Int)] rfl
 rw[size_alloc] at c;refine⟨c.pre e.b,e.keep c.b,λa b f hb=>?_,λz d=>?_,λz d=>?_⟩
 . cases f;cases hb;simp
 all_goals
  simp[gh] at d;omega
theorem t2{P:Program}{d:Region.Mode}{b:Array Oper}{Q:Exit->Act->World->Prop}{S:World->Prop}(i j:Nat){o p:Oper}{f:Nat}{e:Array Bool}{a:Act}{w:World}
 (h:∀c:Act->World->Prop,Shut (∀a w,S w->(S w->wpAnyH P d b Q S f (e.setIfInBounds i true) a w)->c a w)->if Region.wanted o (yielded b a.tmps)=true then Oper.wp P o a w c Q else c (a.put o.dst undef) w)
 (g:∀c:Act->World->Prop,Shut (∀a w,S w->(S w->wpAnyH P d b Q S f (e.setIfInBounds j true) a w)->c a w)->if Region.wanted p (yielded b a.tmps)=true then Oper.wp P p a w c Q else c (a.put p.dst undef) w)
 (k:b[i]?=some o:=by exact rfl) (l:b[j]?=some p:=by exact rfl) (m:Region.ready d b e=[i,j]:=by kernel_rfl):wpAnyH P d b Q S (f+1) e a w:=
 wpAnyH_ready m (by simp) (AllReadyH.cons k h (AllReadyH.cons l g AllReadyH.nil))
theorem t3{P:Program}{d:Region.Mode}{c:Array Oper}{Q:Exit->Act->World->Prop}{S:World->Prop}(i j l:Nat){o p q:Oper}{f:Nat}{e:Array Bool}{a:Act}{w:World}
 (h:∀b:Act->World->Prop,Shut (∀a w,S w->(S w->wpAnyH P d c Q S f (e.setIfInBounds i true) a w)->b a w)->if Region.wanted o (yielded c a.tmps)=true then Oper.wp P o a w b Q else b (a.put o.dst undef) w)
 (g:∀b:Act->World->Prop,Shut (∀a w,S w->(S w->wpAnyH P d c Q S f (e.setIfInBounds j true) a w)->b a w)->if Region.wanted p (yielded c a.tmps)=true then Oper.wp P p a w b Q else b (a.put p.dst undef) w)
 (k:∀b:Act->World->Prop,Shut (∀a w,S w->(S w->wpAnyH P d c Q S f (e.setIfInBounds l true) a w)->b a w)->if Region.wanted q (yielded c a.tmps)=true then Oper.wp P q a w b Q else b (a.put q.dst undef) w)
 (m:c[i]?=some o:=by exact rfl) (n:c[j]?=some p:=by exact rfl) (r:c[l]?=some q:=by exact rfl) (s:Region.ready d c e=[i,j,l]:=by kernel_rfl):wpAnyH P d c Q S (f+1) e a w:=
 wpAnyH_ready s (by simp) (AllReadyH.cons m h (AllReadyH.cons n g (AllReadyH.cons r k AllReadyH.nil)))
theorem jt(w:World)(g:Nat)(cs:Array Value):But (λk=>k=g) w (w.setRow g cs):=Q.ft w g cs
def ku(gk gi:Nat):Pv:=⟨2,1,some ⟨gi,0,none⟩,2,[⟨none,0,[],none,0,[],1,0⟩,⟨some ⟨gk,0,none⟩,1,[109],none,0,[],2,0⟩],none,0,[],0⟩
theorem kV(V:World)(a:Option Addr):Bs V a []:=⟨λx b=>absurd b (bZ),by simp,.inl rfl⟩
theorem kQ{t:TypeId}(b:x<256)(h:V.heap[gk]?=some (.cells #[.int .u8 ((x:Nat):Int)] t (1,2))):Bs V (some ⟨gk,0,none⟩) [x]:=by
 refine⟨λy c=>by rw[aS.1 c];exact b,by simp,.inr ⟨gk,0,rfl,λi a=>?_⟩⟩
 have:i=0:=by simp at a;exact a
 subst this;rw[ah _ _ _ _ _ _ h];rfl
theorem pV:N64 0:=⟨by decide,by decide⟩
theorem qc:N64 1:=⟨by decide,by decide⟩
theorem qA:N64 2:=⟨by decide,by decide⟩
theorem vN{b:Nat}(d:V.heap[gk]?=some (.cells #[.int .u8 ((109:Nat):Int)] 5 (1,2)))(e:V.heap[b]?=some (.cells #[.slice none 0 0,.slice none 0 0,.int .i64 1,.int .i64 0,.slice (some ⟨gk,0,none⟩) 1 1,.slice none 0 0,.int .i64 2,.int .i64 0] 89 (0,0))):Pi V (ku gk b):=by
 refine⟨⟨λr c=>?_,by simp[ku],.inr ⟨b,0,rfl,λr c j u a=>?_⟩⟩,by simp[ku],kV _ _,by simp[ku],qA,qc,pV⟩
 . have:r=⟨none,0,[],none,0,[],1,0⟩\/r=⟨some ⟨gk,0,none⟩,1,[109],none,0,[],2,0⟩:=by simpa[ku] using c
   rcases this with rfl|rfl
   . exact⟨kV _ _,by simp,kV _ _,by simp,qc,pV⟩
   . exact⟨kQ (by decide) d,by simp,kV _ _,by simp,qA,pV⟩
 . have:r=0\/r=1:=by simp[ku] at c;omega
   rw[ah _ _ _ _ _ _ e];rcases this with rfl|rfl
   all_goals
    match j,a with
    |0,a=>exact a
    |1,a=>exact a
    |2,a=>exact a
    |3,a=>exact a
    |j+4,a=>simp[ku,Iv.cs] at a
theorem lv3w(a:World)(c1 c2 c3 d:Array Value):∃b:World,Hid (b=(((a.alloc (.cells c1 5 (1,2))).alloc (.cells c2 89)).alloc (.cells c3 77)).setRow (a.heap.size+1+1) d)/\Hid ((((a.alloc (.cells c1 5 (1,2))).alloc (.cells c2 89)).alloc (.cells c3 77)).heap[a.heap.size+1+1]?=some (.cells c3 77 (0,0)))/\Hid (Below a.heap.size a b)/\Hid (b.heap[a.heap.size]?=some (.cells c1 5 (1,2)))/\Hid (b.heap[a.heap.size+1]?=some (.cells c2 89 (0,0)))/\Hid (b.heap[a.heap.size+1+1]?=some (.cells d 77 (0,0))):=by
 have f:=aF (a.alloc (.cells c1 5 (1,2))) (.cells c2 89);have c:=aF ((a.alloc (.cells c1 5 (1,2))).alloc (.cells c2 89)) (.cells c3 77);rw[size_alloc] at f;rw[size_alloc,size_alloc] at c;exact⟨_,rfl,c,((But.ofBelow (S:=λ_=>False) (bt (bt (al a _) (al _ _)) (al _ _))).trans (jt _ _ _) (λk g e=>by omega)).below (λ_ _ e=>e),(jt _ _ _).same (fF (fF (aF a _) (al _ _)) (al _ _)) (by omega),(jt _ _ _).same (fF f (al _ _)) (by omega),br _ _ _ _ _ _ c⟩
theorem yC(h:W.heap[y]?=some (.cells #[.int .i64 1,.int .i64 1,.int .i64 1] 3 (0,0))):Q.Ir W (some ⟨y,0,none⟩) [1,1,1]:=.inr ⟨y,0,rfl,λi a=>by
 have:i=0\/i=1\/i=2:=by simp at a;omega
 rcases this with rfl|rfl|rfl<;>(rw[ah _ _ _ _ _ _ h];rfl)⟩
theorem pf{P:Pv}{B:List Nat}(h:P.pg=mj B):P.items.length=B.length:=by
 have e:=aU (λg:Pg=>g.items.length) h
 simpa[Pv.pg,mj] using e
theorem x7{A B C:Pv}(h:W.heap[y]?=some (.cells #[.int .i64 1,.int .i64 A.kind,.int .i64 A.level,.slice A.aI A.items.length A.cI,.slice A.aD A.data.length A.cD,.int .i64 A.next,.int .i64 2,.int .i64 B.kind,.int .i64 B.level,.slice B.aI B.items.length B.cI,.slice B.aD B.data.length B.cD,.int .i64 B.next,.int .i64 3,.int .i64 C.kind,.int .i64 C.level,.slice C.aI C.items.length C.cI,.slice C.aD C.data.length C.cD,.int .i64 C.next] 91 (0,0)))(d:Pi W A)(e:Pi W B)(f:Pi W C):Nm W (some ⟨y,0,none⟩) [(1,A),(2,B),(3,C)]:=by
 refine⟨λj g=>⟨y,0,rfl,λk u a=>?_⟩,λx i=>?_⟩
 . rw[ah _ _ _ _ _ _ h]
   have l:k<6:=by
    have:=(aW.1 a).1;exact aE this (Nat.le_of_eq rfl)
   have b:j=0\/j=1\/j=2:=by simp at g;omega
   have c:k=0\/k=1\/k=2\/k=3\/k=4\/k=5:=by omega
   rcases b with rfl|rfl|rfl<;>rcases c with rfl|rfl|rfl|rfl|rfl|rfl<;>exact a
 . have:x=(1,A)\/x=(2,B)\/x=(3,C):=by simpa using i
   rcases this with rfl|rfl|rfl
   . exact⟨d,qc⟩
   . exact⟨e,qA⟩
   . exact⟨f,(show N64 3 from⟨by decide,by decide⟩)⟩
theorem oY(w:World)(p:Addr)(v:Value):(w.setCell p v).heap.size=w.heap.size:=by simp
theorem uE{a:Option Addr}{c:Nat}{l:List Nat}(h:Rw w a c l)(d:0<l.length):(convert 37 9 (.slice a l.length c)).run prog w=.ok (.string (strOfNums (l.map λx:Nat=>(x:Int)))) w:=by
 obtain⟨g,rfl,_⟩:=h.addr2 d;refine run_convert_bytes_arg w 37 5 underlying37 underlying5 g 0 l.length c (l.map λx:Nat=>(x:Int)) (by simp) (λi b=>?_) 9 underlying9
 have e:(l.map λx:Nat=>(x:Int)).getD i 0=((l.getD i 0:Nat):Int):=by simp[b]
 rw[bP,e];exact h.cell b
theorem uG(w:World):Calls prog 8 #[] w λe L=>e=.returned (.bool true)/\Below w.heap.size w L:=by
 go_enter func8,ntmps8;go_upto_region 6 with fail
 obtain⟨W1,hW,hX,hC,hA,hB,bv,aN⟩:=mT w (.cells #[.int .i64 2,.slice (some ⟨w.heap.size+1,0,none⟩) 3 3,.slice none 0 0,.slice none 0 0] 26) (.cells #[.int .i64 1,.int .i64 1,.int .i64 1] 3) (.cells #[.int .i64 1,.int .i64 0,.slice none 0 0,.slice none 0 0,.int .i64 0] 77) (.cells #[.int .i64 1,.int .i64 0,.slice none 0 0,.slice none 0 0,.int .i64 0] 77);rw[hW];clear hW;obtain⟨r,aV⟩:∃y,w.heap.size=y:=⟨_,rfl⟩;obtain⟨yc,aS⟩:∃y,r+1=y:=⟨_,rfl⟩;obtain⟨v,aP⟩:∃y,yc+1=y:=⟨_,rfl⟩;obtain⟨B,aQ⟩:∃y,v+1=y:=⟨_,rfl⟩;have e2:r+2=v:=by omega
 have e3:r+3=B:=by omega
 simp only[aV,aS,aP,aQ,e2,e3] at hX hC hA hB aN ⊢;have Z:Hid (w.heap.size=r/\r+1=yc/\yc+1=v/\v+1=B/\W1.heap.size=r+4):=⟨aV,aS,aP,aQ,aN⟩;have HX:=e7 hX;have HC:=e7 hC;have HA:=e7 hA;have HB:=e7 hB;have H1:=e7 bv;clear aV aS aP aQ hX hC hA hB bv aN e2 e3;have G0:Hid (Grp W1 W1 v ⟨1,0,none,0,[],none,0,[],0⟩ (lowB.take 0)):=e7 (Grp.start HA.o);go_wp2_with fail
 go_loopw [6] (λvi wx=>∃(k:Nat)(P:Pv),k<=4/\vi=.int .i64 (k:Int)/\Grp W1 wx v P (lowB.take k)) (λvi _=>4-(intOf vi).toNat)
 case atStart=>exact⟨0,_,ar _,rfl,G0.o⟩
 case round=>
  clear G0;obtain⟨k,P,s,rfl,E⟩:=hrel;have N:=e7 E;have R:P.items.length=k:=by rw[E.len];simp[lowB];omega
  have ag:=e7 R;by_cases aL:k<4
  . have bK:(k:Int)<(4:Int):=by omega
    have af:Hid (wr.heap[v]?=some (.cells #[.int .i64 P.kind,.int .i64 P.level,.slice P.aI k P.cI,.slice P.aD P.data.length P.cD,.int .i64 P.next] 77 (0,0))):=by rw[<-R];exact E.box
    obtain⟨_,_,c2,_⟩:=fC af.o;have JG:=e7 (λ(W:World)(hb:Below wr.heap.size wr W)=>(show Q.Gw 89 4 W P.aI P.cI k (Jc P.items) from R▸(E.pn.it.keep hb)))
    have NI:=e7 (λ(z:Nat)(O:Q.InA P.aI z)(e:z=v)=>(by obtain⟨bC,O,e2⟩:=O;exact E.pn.it.nty E.box (by decide) O (e2.trans e):False))
    clear E R;go_upto_region 9 with fail
    refine aX (S:=λ_=>True) (by kernel_rfl) trivial (λhHeld=>?_)
    refine tkd 0 2 3 6 ?_;refine tkd 7 9 10 4 ?_;refine tkb 8 11 ?_;try simp only[pt]
    obtain⟨x,hx⟩:∃x:Nat,((ByteArray.mk #[97,99,101,103])[k]'(by show k<4;exact aL)).toNat=x:=⟨_,rfl⟩
    simp only[hx]
    have TK:Hid (lowB.take (k+1)=lowB.take k++[x]/\x<256):=by
     have:k=0\/k=1\/k=2\/k=3:=by omega
     rcases this with rfl|rfl|rfl|rfl<;>(rw[<-hx];exact⟨by kernel_rfl,UInt8.toNat_lt _⟩)
    clear hx;have ck:=((al wr (.cells #[.int .u8 (x:Int)] 5)).cell (p:=⟨v,2,none⟩) (block_lt_of_cell c2)).trans c2;have cv:=((al wr (.cells #[.int .u8 (x:Int),.int .u8 (x:Int)] 5)).cell (p:=⟨v,2,none⟩) (block_lt_of_cell c2)).trans c2;have ab:=((al (wr.alloc (.cells #[.int .u8 (x:Int)] 5)) (.cells #[.int .u8 (x:Int),.int .u8 (x:Int)] 5)).cell (p:=⟨v,2,none⟩) (block_lt_of_cell ck)).trans ck;have ac:=((al (wr.alloc (.cells #[.int .u8 (x:Int),.int .u8 (x:Int)] 5)) (.cells #[.int .u8 (x:Int)] 5)).cell (p:=⟨v,2,none⟩) (block_lt_of_cell cv)).trans cv;have aG:=((al ((wr.alloc (.cells #[.int .u8 (x:Int)] 5)).alloc (.cells #[.int .u8 (x:Int),.int .u8 (x:Int)] 5)) (.cells #[.slice (some ⟨wr.heap.size,0,none⟩) 1 1,.slice (some ⟨wr.heap.size+1,0,none⟩) 2 2,.int .i64 0,.int .i64 2] 89)).cell (p:=⟨v,2,none⟩) (block_lt_of_cell ab)).trans ab;have aH:=((al ((wr.alloc (.cells #[.int .u8 (x:Int),.int .u8 (x:Int)] 5)).alloc (.cells #[.int .u8 (x:Int)] 5)) (.cells #[.slice (some ⟨wr.heap.size+1,0,none⟩) 1 1,.slice (some ⟨wr.heap.size,0,none⟩) 2 2,.int .i64 0,.int .i64 2] 89)).cell (p:=⟨v,2,none⟩) (block_lt_of_cell ac)).trans ac;refine t3 1 5 12 (λK a=>?p1) (λK a=>?p2) (λK a=>?p3)
    all_goals (go_simp;refine a.o _ _ trivial (λhHeld=>?_);clear a K;try simp only[pt])
    case' p1=>refine t2 5 12 (λK a=>?p4) (λK a=>?p5)
    case' p2=>refine t2 1 12 (λK a=>?p6) (λK a=>?p7)
    case' p3=>refine t2 1 5 (λK a=>?p8) (λK a=>?p9)
    all_goals (go_simp;refine a.o _ _ trivial (λhHeld=>?_);clear a K;try simp only[pt])
    case' p4=>refine tw 12 λK a=>?_
    case' p5=>refine tw 5 λK a=>?_
    case' p6=>refine tw 12 λK a=>?_
    case' p8=>refine tw 5 λK a=>?_
    case' p7=>(refine tk 13 ?_;refine t2 1 14 (λK a=>?p10) (λK a=>?p11))
    case' p9=>(refine tk 13 ?_;refine t2 1 14 (λK a=>?p12) (λK a=>?p13))
    all_goals (go_simp;refine a.o _ _ trivial (λhHeld=>?_);clear a K;try simp only[pt])
    case' p4=>(refine tk 13 ?_;refine tw 14 λK a=>?_)
    case' p5=>(refine tk 13 ?_;refine tw 14 λK a=>?_)
    case' p6=>(refine tk 13 ?_;refine tw 14 λK a=>?_)
    case' p8=>(refine tk 13 ?_;refine tw 14 λK a=>?_)
    case' p10=>refine tw 14 λK a=>?_
    case' p11=>refine tw 1 λK a=>?_
    case' p12=>refine tw 14 λK a=>?_
    case' p13=>refine tw 1 λK a=>?_
    all_goals
     go_simp;clear c2 ck cv ab ac aG aH;first
     |(obtain⟨V5,F⟩:∃aa,(((wr.alloc (.cells #[.int .u8 (x:Int)] 5)).alloc (.cells #[.int .u8 (x:Int),.int .u8 (x:Int)] 5)).alloc (.cells #[.slice (some ⟨wr.heap.size,0,none⟩) 1 1,.slice (some ⟨wr.heap.size+1,0,none⟩) 2 2,.int .i64 0,.int .i64 2] 89)).drew=aa:=⟨_,rfl⟩
       have A:=e7 (show Io wr (((wr.alloc (.cells #[.int .u8 (x:Int)] 5)).alloc (.cells #[.int .u8 (x:Int),.int .u8 (x:Int)] 5)).alloc (.cells #[.slice (some ⟨wr.heap.size,0,none⟩) 1 1,.slice (some ⟨wr.heap.size+1,0,none⟩) 2 2,.int .i64 0,.int .i64 2] 89)).drew (gh wr.heap.size (wr.heap.size+1) x) from(tZ wr x TK.o.2).keep ((al ((wr.alloc (.cells #[.int .u8 (x:Int)] 5)).alloc (.cells #[.int .u8 (x:Int),.int .u8 (x:Int)] 5)) (.cells #[.slice (some ⟨wr.heap.size,0,none⟩) 1 1,.slice (some ⟨wr.heap.size+1,0,none⟩) 2 2,.int .i64 0,.int .i64 2] 89)).drew))
       have G:=e7 (show ∀j u,(gh wr.heap.size (wr.heap.size+1) x).cs.toList[j]?=some u->(((wr.alloc (.cells #[.int .u8 (x:Int)] 5)).alloc (.cells #[.int .u8 (x:Int),.int .u8 (x:Int)] 5)).alloc (.cells #[.slice (some ⟨wr.heap.size,0,none⟩) 1 1,.slice (some ⟨wr.heap.size+1,0,none⟩) 2 2,.int .i64 0,.int .i64 2] 89)).drew.cell? ((⟨wr.heap.size+1+1,0,none⟩:Addr).add j)=some u from jv ((wr.alloc (.cells #[.int .u8 (x:Int)] 5)).alloc (.cells #[.int .u8 (x:Int),.int .u8 (x:Int)] 5)) (gh wr.heap.size (wr.heap.size+1) x) (wr.heap.size+1+1) (by simp only[size_alloc]))
       obtain⟨gk,T⟩:∃g,wr.heap.size=g:=⟨_,rfl⟩;obtain⟨q,X⟩:∃g,gk+1=g:=⟨_,rfl⟩;obtain⟨gi,Y⟩:∃g,q+1=g:=⟨_,rfl⟩;simp only[F];simp only[F] at A G;simp only[T,X,Y] at A G ⊢;clear F T X Y)
     |(obtain⟨V5,F⟩:∃aa,(((wr.alloc (.cells #[.int .u8 (x:Int),.int .u8 (x:Int)] 5)).alloc (.cells #[.int .u8 (x:Int)] 5)).alloc (.cells #[.slice (some ⟨wr.heap.size+1,0,none⟩) 1 1,.slice (some ⟨wr.heap.size,0,none⟩) 2 2,.int .i64 0,.int .i64 2] 89)).drew=aa:=⟨_,rfl⟩
       have A:=e7 (show Io wr (((wr.alloc (.cells #[.int .u8 (x:Int),.int .u8 (x:Int)] 5)).alloc (.cells #[.int .u8 (x:Int)] 5)).alloc (.cells #[.slice (some ⟨wr.heap.size+1,0,none⟩) 1 1,.slice (some ⟨wr.heap.size,0,none⟩) 2 2,.int .i64 0,.int .i64 2] 89)).drew (gh (wr.heap.size+1) wr.heap.size x) from(uB wr x TK.o.2).keep ((al ((wr.alloc (.cells #[.int .u8 (x:Int),.int .u8 (x:Int)] 5)).alloc (.cells #[.int .u8 (x:Int)] 5)) (.cells #[.slice (some ⟨wr.heap.size+1,0,none⟩) 1 1,.slice (some ⟨wr.heap.size,0,none⟩) 2 2,.int .i64 0,.int .i64 2] 89)).drew))
       have G:=e7 (show ∀j u,(gh (wr.heap.size+1) wr.heap.size x).cs.toList[j]?=some u->(((wr.alloc (.cells #[.int .u8 (x:Int),.int .u8 (x:Int)] 5)).alloc (.cells #[.int .u8 (x:Int)] 5)).alloc (.cells #[.slice (some ⟨wr.heap.size+1,0,none⟩) 1 1,.slice (some ⟨wr.heap.size,0,none⟩) 2 2,.int .i64 0,.int .i64 2] 89)).drew.cell? ((⟨wr.heap.size+1+1,0,none⟩:Addr).add j)=some u from jv ((wr.alloc (.cells #[.int .u8 (x:Int),.int .u8 (x:Int)] 5)).alloc (.cells #[.int .u8 (x:Int)] 5)) (gh (wr.heap.size+1) wr.heap.size x) (wr.heap.size+1+1) (by simp only[size_alloc]))
       obtain⟨q,T⟩:∃g,wr.heap.size=g:=⟨_,rfl⟩;obtain⟨gk,X⟩:∃g,q+1=g:=⟨_,rfl⟩;obtain⟨gi,Y⟩:∃g,gk+1=g:=⟨_,rfl⟩;simp only[F];simp only[F] at A G;simp only[T,X,Y] at A G ⊢;clear F T X Y)
    all_goals
     refine a.o _ _ trivial (λhHeld=>?_)
     clear a K;refine tw 15 λK a=>?_
     refine jV underlying75 jx rfl (by decide) rfl _ _ rfl P.aI k P.cI (Jc P.items) (by first|(simp[Act.eval];done)|simp[Act.eval,Act.put]) (JG.o _ A.o.k.b) ⟨gi,0,none⟩ 1 (gh gk q x).cs.toList (by first|(simp[Act.eval];done)|simp[Act.eval,Act.put]) rfl G.o rn (by unfold maxLen;omega) (by omega) ?_
     intro g5 c5 w5 aj ak ad;have z5:w5.heap[v]?=some (.cells #[.int .i64 P.kind,.int .i64 P.level,.slice P.aI k P.cI,.slice P.aD P.data.length P.cD,.int .i64 P.next] 77 (0,0)):=ad.same (fj A.o.k.b af.o) (λO=>NI.o _ O rfl)
     obtain⟨_,_,z2,_⟩:=fC z5;have f2:w5.frozen? ⟨v,2,none⟩=false:=by simp[World.frozen?,z5]
     have az:=e7 (N.o.push (x:=x) ag.o A.o rfl aj ak ad);refine a.o _ _ trivial (λhHeld=>?_)
     clear a K aj ak ad z5;refine tk 16 ?_;refine tw 17 λK a=>?_
     go_simp;refine a.o _ _ trivial (λhHeld=>?_)
     clear a K z2 f2 hHeld;refine td ?_;go_wp2_with fail
     go_roundw
     case rel=>exact⟨k+1,_,by omega,by first|(go_num;done)|exact aU (Value.int IntKind.i64) (by omega),by rw[TK.o.1];exact az.o⟩
     case measure=>(simp[intOf];omega)
  . obtain rfl:k=4:=by omega
    have GA:=e7 (show Grp W1 wr v P lowB from N.o)
    have X2:=e7 (N.o.but.same HX.o (λe=>by have:=Z.o;omega))
    have C2:=e7 (N.o.but.same HC.o (λe=>by have:=Z.o;omega))
    have B2:=e7 (N.o.but.same HB.o (λe=>by have:=Z.o;omega))
    have L2:=e7 (((But.ofBelow (S:=λk=>k=v) H1.o).trans N.o.but (λ_ _ e=>e)).below (λk s e=>by have e:k=v:=e;have:=Z.o;omega))
    clear N ag R s HX HC HA HB H1;generalize P=f at *;generalize wr=W2 at *;have G1:Hid (Grp W2 W2 B ⟨1,0,none,0,[],none,0,[],0⟩ (wJ.take 0)):=e7 (Grp.start B2.o);simp only[show((4:Nat):Int)=4 from rfl]
    go_wp2_with fail
    go_loopw [7] (λvi wx=>∃(k:Nat)(P:Pv),k<=5/\vi=.int .i64 (k:Int)/\Grp W2 wx B P (wJ.take k)) (λvi _=>5-(intOf vi).toNat)
    case atStart=>exact⟨0,_,ar _,rfl,G1.o⟩
    case round=>
     clear G1;obtain⟨k,P,s,rfl,E⟩:=hrel;have N:=e7 E;have R:P.items.length=k:=by rw[E.len];simp[wJ];omega
     have ag:=e7 R;by_cases aL:k<5
     . have bK:(k:Int)<(5:Int):=by omega
       have af:Hid (wr.heap[B]?=some (.cells #[.int .i64 P.kind,.int .i64 P.level,.slice P.aI k P.cI,.slice P.aD P.data.length P.cD,.int .i64 P.next] 77 (0,0))):=by rw[<-R];exact E.box
       obtain⟨_,_,c2,_⟩:=fC af.o;have JG:=e7 (λ(W:World)(hb:Below wr.heap.size wr W)=>(show Q.Gw 89 4 W P.aI P.cI k (Jc P.items) from R▸(E.pn.it.keep hb)))
       have NI:=e7 (λ(z:Nat)(O:Q.InA P.aI z)(e:z=B)=>(by obtain⟨bC,O,e2⟩:=O;exact E.pn.it.nty E.box (by decide) O (e2.trans e):False))
       clear E R;go_upto_region 13 with fail
       refine aX (S:=λ_=>True) (by kernel_rfl) trivial (λhHeld=>?_)
       refine tkd 0 2 3 6 ?_;refine tkd 7 9 10 4 ?_;refine tkb 8 11 ?_;try simp only[pt]
       obtain⟨x,hx⟩:∃x:Nat,((ByteArray.mk #[109,112,114,116,118])[k]'(by show k<5;exact aL)).toNat=x:=⟨_,rfl⟩
       simp only[hx]
       have TK:Hid (wJ.take (k+1)=wJ.take k++[x]/\x<256):=by
        have:k=0\/k=1\/k=2\/k=3\/k=4:=by omega
        rcases this with rfl|rfl|rfl|rfl|rfl<;>(rw[<-hx];exact⟨by kernel_rfl,UInt8.toNat_lt _⟩)
       clear hx;have ck:=((al wr (.cells #[.int .u8 (x:Int)] 5)).cell (p:=⟨B,2,none⟩) (block_lt_of_cell c2)).trans c2;have cv:=((al wr (.cells #[.int .u8 (x:Int),.int .u8 (x:Int)] 5)).cell (p:=⟨B,2,none⟩) (block_lt_of_cell c2)).trans c2;have ab:=((al (wr.alloc (.cells #[.int .u8 (x:Int)] 5)) (.cells #[.int .u8 (x:Int),.int .u8 (x:Int)] 5)).cell (p:=⟨B,2,none⟩) (block_lt_of_cell ck)).trans ck;have ac:=((al (wr.alloc (.cells #[.int .u8 (x:Int),.int .u8 (x:Int)] 5)) (.cells #[.int .u8 (x:Int)] 5)).cell (p:=⟨B,2,none⟩) (block_lt_of_cell cv)).trans cv;have aG:=((al ((wr.alloc (.cells #[.int .u8 (x:Int)] 5)).alloc (.cells #[.int .u8 (x:Int),.int .u8 (x:Int)] 5)) (.cells #[.slice (some ⟨wr.heap.size,0,none⟩) 1 1,.slice (some ⟨wr.heap.size+1,0,none⟩) 2 2,.int .i64 0,.int .i64 2] 89)).cell (p:=⟨B,2,none⟩) (block_lt_of_cell ab)).trans ab;have aH:=((al ((wr.alloc (.cells #[.int .u8 (x:Int),.int .u8 (x:Int)] 5)).alloc (.cells #[.int .u8 (x:Int)] 5)) (.cells #[.slice (some ⟨wr.heap.size+1,0,none⟩) 1 1,.slice (some ⟨wr.heap.size,0,none⟩) 2 2,.int .i64 0,.int .i64 2] 89)).cell (p:=⟨B,2,none⟩) (block_lt_of_cell ac)).trans ac;refine t3 1 5 12 (λK a=>?q1) (λK a=>?q2) (λK a=>?q3)
       all_goals (go_simp;refine a.o _ _ trivial (λhHeld=>?_);clear a K;try simp only[pt])
       case' q1=>refine t2 5 12 (λK a=>?q4) (λK a=>?q5)
       case' q2=>refine t2 1 12 (λK a=>?q6) (λK a=>?q7)
       case' q3=>refine t2 1 5 (λK a=>?q8) (λK a=>?q9)
       all_goals (go_simp;refine a.o _ _ trivial (λhHeld=>?_);clear a K;try simp only[pt])
       case' q4=>refine tw 12 λK a=>?_
       case' q5=>refine tw 5 λK a=>?_
       case' q6=>refine tw 12 λK a=>?_
       case' q8=>refine tw 5 λK a=>?_
       case' q7=>(refine tk 13 ?_;refine t2 1 14 (λK a=>?q10) (λK a=>?q11))
       case' q9=>(refine tk 13 ?_;refine t2 1 14 (λK a=>?q12) (λK a=>?q13))
       all_goals (go_simp;refine a.o _ _ trivial (λhHeld=>?_);clear a K;try simp only[pt])
       case' q4=>(refine tk 13 ?_;refine tw 14 λK a=>?_)
       case' q5=>(refine tk 13 ?_;refine tw 14 λK a=>?_)
       case' q6=>(refine tk 13 ?_;refine tw 14 λK a=>?_)
       case' q8=>(refine tk 13 ?_;refine tw 14 λK a=>?_)
       case' q10=>refine tw 14 λK a=>?_
       case' q11=>refine tw 1 λK a=>?_
       case' q12=>refine tw 14 λK a=>?_
       case' q13=>refine tw 1 λK a=>?_
       all_goals
        go_simp;clear c2 ck cv ab ac aG aH;first
        |(obtain⟨V5,F⟩:∃aa,(((wr.alloc (.cells #[.int .u8 (x:Int)] 5)).alloc (.cells #[.int .u8 (x:Int),.int .u8 (x:Int)] 5)).alloc (.cells #[.slice (some ⟨wr.heap.size,0,none⟩) 1 1,.slice (some ⟨wr.heap.size+1,0,none⟩) 2 2,.int .i64 0,.int .i64 2] 89)).drew=aa:=⟨_,rfl⟩
          have A:=e7 (show Io wr (((wr.alloc (.cells #[.int .u8 (x:Int)] 5)).alloc (.cells #[.int .u8 (x:Int),.int .u8 (x:Int)] 5)).alloc (.cells #[.slice (some ⟨wr.heap.size,0,none⟩) 1 1,.slice (some ⟨wr.heap.size+1,0,none⟩) 2 2,.int .i64 0,.int .i64 2] 89)).drew (gh wr.heap.size (wr.heap.size+1) x) from(tZ wr x TK.o.2).keep ((al ((wr.alloc (.cells #[.int .u8 (x:Int)] 5)).alloc (.cells #[.int .u8 (x:Int),.int .u8 (x:Int)] 5)) (.cells #[.slice (some ⟨wr.heap.size,0,none⟩) 1 1,.slice (some ⟨wr.heap.size+1,0,none⟩) 2 2,.int .i64 0,.int .i64 2] 89)).drew))
          have G:=e7 (show ∀j u,(gh wr.heap.size (wr.heap.size+1) x).cs.toList[j]?=some u->(((wr.alloc (.cells #[.int .u8 (x:Int)] 5)).alloc (.cells #[.int .u8 (x:Int),.int .u8 (x:Int)] 5)).alloc (.cells #[.slice (some ⟨wr.heap.size,0,none⟩) 1 1,.slice (some ⟨wr.heap.size+1,0,none⟩) 2 2,.int .i64 0,.int .i64 2] 89)).drew.cell? ((⟨wr.heap.size+1+1,0,none⟩:Addr).add j)=some u from jv ((wr.alloc (.cells #[.int .u8 (x:Int)] 5)).alloc (.cells #[.int .u8 (x:Int),.int .u8 (x:Int)] 5)) (gh wr.heap.size (wr.heap.size+1) x) (wr.heap.size+1+1) (by simp only[size_alloc]))
          obtain⟨gk,T⟩:∃g,wr.heap.size=g:=⟨_,rfl⟩;obtain⟨q,X⟩:∃g,gk+1=g:=⟨_,rfl⟩;obtain⟨gi,Y⟩:∃g,q+1=g:=⟨_,rfl⟩;simp only[F];simp only[F] at A G;simp only[T,X,Y] at A G ⊢;clear F T X Y)
        |(obtain⟨V5,F⟩:∃aa,(((wr.alloc (.cells #[.int .u8 (x:Int),.int .u8 (x:Int)] 5)).alloc (.cells #[.int .u8 (x:Int)] 5)).alloc (.cells #[.slice (some ⟨wr.heap.size+1,0,none⟩) 1 1,.slice (some ⟨wr.heap.size,0,none⟩) 2 2,.int .i64 0,.int .i64 2] 89)).drew=aa:=⟨_,rfl⟩
          have A:=e7 (show Io wr (((wr.alloc (.cells #[.int .u8 (x:Int),.int .u8 (x:Int)] 5)).alloc (.cells #[.int .u8 (x:Int)] 5)).alloc (.cells #[.slice (some ⟨wr.heap.size+1,0,none⟩) 1 1,.slice (some ⟨wr.heap.size,0,none⟩) 2 2,.int .i64 0,.int .i64 2] 89)).drew (gh (wr.heap.size+1) wr.heap.size x) from(uB wr x TK.o.2).keep ((al ((wr.alloc (.cells #[.int .u8 (x:Int),.int .u8 (x:Int)] 5)).alloc (.cells #[.int .u8 (x:Int)] 5)) (.cells #[.slice (some ⟨wr.heap.size+1,0,none⟩) 1 1,.slice (some ⟨wr.heap.size,0,none⟩) 2 2,.int .i64 0,.int .i64 2] 89)).drew))
          have G:=e7 (show ∀j u,(gh (wr.heap.size+1) wr.heap.size x).cs.toList[j]?=some u->(((wr.alloc (.cells #[.int .u8 (x:Int),.int .u8 (x:Int)] 5)).alloc (.cells #[.int .u8 (x:Int)] 5)).alloc (.cells #[.slice (some ⟨wr.heap.size+1,0,none⟩) 1 1,.slice (some ⟨wr.heap.size,0,none⟩) 2 2,.int .i64 0,.int .i64 2] 89)).drew.cell? ((⟨wr.heap.size+1+1,0,none⟩:Addr).add j)=some u from jv ((wr.alloc (.cells #[.int .u8 (x:Int),.int .u8 (x:Int)] 5)).alloc (.cells #[.int .u8 (x:Int)] 5)) (gh (wr.heap.size+1) wr.heap.size x) (wr.heap.size+1+1) (by simp only[size_alloc]))
          obtain⟨q,T⟩:∃g,wr.heap.size=g:=⟨_,rfl⟩;obtain⟨gk,X⟩:∃g,q+1=g:=⟨_,rfl⟩;obtain⟨gi,Y⟩:∃g,gk+1=g:=⟨_,rfl⟩;simp only[F];simp only[F] at A G;simp only[T,X,Y] at A G ⊢;clear F T X Y)
       all_goals
        refine a.o _ _ trivial (λhHeld=>?_)
        clear a K;refine tw 15 λK a=>?_
        refine jV underlying75 jx rfl (by decide) rfl _ _ rfl P.aI k P.cI (Jc P.items) (by first|(simp[Act.eval];done)|simp[Act.eval,Act.put]) (JG.o _ A.o.k.b) ⟨gi,0,none⟩ 1 (gh gk q x).cs.toList (by first|(simp[Act.eval];done)|simp[Act.eval,Act.put]) rfl G.o rn (by unfold maxLen;omega) (by omega) ?_
        intro g5 c5 w5 aj ak ad;have z5:w5.heap[B]?=some (.cells #[.int .i64 P.kind,.int .i64 P.level,.slice P.aI k P.cI,.slice P.aD P.data.length P.cD,.int .i64 P.next] 77 (0,0)):=ad.same (fj A.o.k.b af.o) (λO=>NI.o _ O rfl)
        obtain⟨_,_,z2,_⟩:=fC z5;have f2:w5.frozen? ⟨B,2,none⟩=false:=by simp[World.frozen?,z5]
        have az:=e7 (N.o.push (x:=x) ag.o A.o rfl aj ak ad);refine a.o _ _ trivial (λhHeld=>?_)
        clear a K aj ak ad z5;refine tk 16 ?_;refine tw 17 λK a=>?_
        go_simp;refine a.o _ _ trivial (λhHeld=>?_)
        clear a K z2 f2 hHeld;refine td ?_;go_wp2_with fail
        go_roundw
        case rel=>exact⟨k+1,_,by omega,by first|(go_num;done)|exact aU (Value.int IntKind.i64) (by omega),by rw[TK.o.1];exact az.o⟩
        case measure=>(simp[intOf];omega)
     . obtain rfl:k=5:=by omega
       have c:=e7 (show Grp W2 wr B P wJ from N.o)
       clear N ag R s;have BA:=e7 (c.o.but.same GA.o.box (λe=>by have:=Z.o;omega))
       have be:=e7 (GA.o.pn.but c.o.but (λk e=>⟨77,(⟨1,0,none,0,[],none,0,[],0⟩:Pv).cs,by rw[e];exact B2.o,by decide,by decide⟩))
       have X3:=e7 (c.o.but.same X2.o (λe=>by have:=Z.o;omega))
       have C3:=e7 (c.o.but.same C2.o (λe=>by have:=Z.o;omega))
       have L3:=e7 (((But.ofBelow (S:=λk=>k=B) L2.o).trans c.o.but (λ_ _ e=>e)).below (λk s e=>by have e:k=B:=e;have:=Z.o;omega))
       generalize P=i at *;generalize wr=I at*
       have bs:∀(W:World)(C:Array Value)(ap ao g:Nat),W.heap.size=g->(convert 37 37 (.slice (some ⟨g,0,none⟩) ap ao)).run prog (W.alloc (.cells C 5))=.ok (.slice (some ⟨g,0,none⟩) ap ao) (W.alloc (.cells C 5 (C.size,C.size+1))):=by
        intro W C ap ao g hg;subst hg;exact Lib.run_convert_bytes_const W 37 5 C ap ao underlying37 underlying5
       have au:=e7 bs;clear bs;obtain⟨J,HE,E3,n,F1,F2,F3⟩:=lv3w I #[.int .u8 109] #[.slice none 0 0,.slice none 0 0,.int .i64 1,.int .i64 0,.slice (some ⟨I.heap.size,0,none⟩) 1 1,.slice none 0 0,.int .i64 2,.int .i64 0] #[.int .i64 0,.int .i64 0,.slice none 0 0,.slice none 0 0,.int .i64 0] #[.int .i64 2,.int .i64 1,.slice (some ⟨I.heap.size+1,0,none⟩) 2 2,.slice none 0 0,.int .i64 0];have am:(convert 37 37 (.slice (some ⟨I.heap.size,0,none⟩) 1 1)).run prog (I.alloc (.cells #[.int .u8 109] 5))=.ok (.slice (some ⟨I.heap.size,0,none⟩) 1 1) (I.alloc (.cells #[.int .u8 109] 5 (1,2))):=au.o I #[.int .u8 109] 1 1 I.heap.size rfl;go_upto_region 15 with(first|(refine aZ rfl 77 _ _ rfl (I.heap.size+1+1) _ rfl rfl 77 _ E3.o fu rfl (by simp[Value.oneCell']) ?_)|fail)
       rw[<-HE.o];have aA:=F1;have aq:=F2;have XI:=F3.o;have X4:=fF X3.o n.o;have XA:=fF BA.o n.o;have XB:=fF c.o.box n.o;have C4:=e7 (fF C3.o n.o);have L4:=e7 (bt L3.o n.o);have bf:=e7 (be.o.keep n.o);have bi:=e7 (c.o.pn.keep n.o);have EA:=e7 GA.o.pg;have EB:=e7 c.o.pg;clear HE E3 F1 F2 F3 am n GA c C3 L3 be BA X2 C2 B2 L2;generalize I.heap.size+1+1=yi at *;obtain⟨gK,aK⟩:∃g,I.heap.size=g:=⟨_,rfl⟩;obtain⟨gI,bu⟩:∃g,gK+1=g:=⟨_,rfl⟩;have GK:Hid (r<gK/\gK<gI):=⟨by rw[<-aK];exact(ae.1 X3.o).1,by omega⟩
       simp only[aK] at aA aq XI;simp only[bu] at aq XI;clear aK bu;obtain⟨d,av⟩:∃p,ku gK gI=p:=⟨_,rfl⟩;have ba:=e7 av;have EI:Hid (d.pg=livI):=by rw[<-av];rfl
       have VI:J.heap[yi]?=some (.cells #[.int .i64 d.kind,.int .i64 d.level,.slice d.aI d.items.length d.cI,.slice d.aD d.data.length d.cD,.int .i64 d.next] 77 (0,0)):=by rw[<-av];exact XI
       clear av XI X3;simp only[Pv.cs] at XA XB;obtain⟨a0,a1,a2,a3,a4⟩:=fC XA;obtain⟨b0,b1,b2,b3,b4⟩:=fC XB;obtain⟨i0,i1,i2,i3,i4⟩:=fC VI;obtain⟨x0,x1,x2,x3⟩:=fO X4;have fx:J.frozen? ⟨r,2,none⟩=false:=by simp[World.frozen?,X4]
       have M:=al J (.cells #[.int .i64 1,.int .i64 f.kind,.int .i64 f.level,.slice f.aI f.items.length f.cI,.slice f.aD f.data.length f.cD,.int .i64 f.next,.int .i64 2,.int .i64 i.kind,.int .i64 i.level,.slice i.aI i.items.length i.cI,.slice i.aD i.data.length i.cD,.int .i64 i.next,.int .i64 3,.int .i64 d.kind,.int .i64 d.level,.slice d.aI d.items.length d.cI,.slice d.aD d.data.length d.cD,.int .i64 d.next] 91);have bM:=(M.cell (p:=⟨r,2,none⟩) (block_lt_of_cell x2)).trans x2;have bo:=fF X4 M;have bI:(J.alloc (.cells #[.int .i64 1,.int .i64 f.kind,.int .i64 f.level,.slice f.aI f.items.length f.cI,.slice f.aD f.data.length f.cD,.int .i64 f.next,.int .i64 2,.int .i64 i.kind,.int .i64 i.level,.slice i.aI i.items.length i.cI,.slice i.aD i.data.length i.cD,.int .i64 i.next,.int .i64 3,.int .i64 d.kind,.int .i64 d.level,.slice d.aI d.items.length d.cI,.slice d.aD d.data.length d.cD,.int .i64 d.next] 91)).frozen? ⟨r,2,none⟩=false:=by simp[World.frozen?,bo]
       have bN:=(ae.1 X4).1;go_upto_region 16 with fail
       clear a0 a1 a2 a3 a4 b0 b1 b2 b3 b4 i0 i1 i2 i3 i4 x0 x1 x2 x3 fx bM bI XA XB VI bo M;obtain⟨l,aT⟩:∃y,J.heap.size=y:=⟨_,rfl⟩;have BS:But (λk=>k=r) J (J.setCell ⟨r,2,none⟩ (.slice (some ⟨l,0,none⟩) 3 3)):=(But.refl (λk=>k=r) J).setCell (p:=⟨r,2,none⟩) (λ_=>rfl) _
       have an:(J.setCell ⟨r,2,none⟩ (.slice (some ⟨l,0,none⟩) 3 3)).heap.size=l:=by rw[<-aT];exact oY _ _ _
       have X5:(J.setCell ⟨r,2,none⟩ (.slice (some ⟨l,0,none⟩) 3 3)).heap[r]?=some (.cells #[.int .i64 2,.slice (some ⟨yc,0,none⟩) 3 3,.slice (some ⟨l,0,none⟩) 3 3,.slice none 0 0] 26 (0,0)):=by
        rw[ay _ _ _ _ _ _ X4];rfl
       have ty:∀k:Nat,k=r->∃(aw:TypeId)(cs:Array Value),Bx J aw k cs/\aw≠5/\aw≠89:=λk e=>⟨26,_,e▸X4,by decide,by decide⟩
       have bg:=e7 (bf.o.but BS ty);have bj:=e7 (bi.o.but BS ty);have C5:=e7 (BS.same C4.o (show ¬(yc=r) by have:=Z.o;omega))
       have bl:=e7 (ba.o▸vN (BS.same aA (show ¬(gK=r) by have:=GK.o;omega)) (BS.same aq (show ¬(gI=r) by have:=GK.o;omega)))
       have L5:=e7 (((But.ofBelow (S:=λk=>k=r) L4.o).trans BS (λ_ _ e=>e)).below (λk s e=>by have e:k=r:=e;have:=Z.o;omega))
       simp only[aT];clear bf bi C4 aA aq L4 BS X4 ty bN aT;generalize J.setCell ⟨r,2,none⟩ (.slice (some ⟨l,0,none⟩) 3 3)=V5 at *;have M:=al V5 (.cells #[.int .i64 1,.int .i64 f.kind,.int .i64 f.level,.slice f.aI f.items.length f.cI,.slice f.aD f.data.length f.cD,.int .i64 f.next,.int .i64 2,.int .i64 i.kind,.int .i64 i.level,.slice i.aI i.items.length i.cI,.slice i.aD i.data.length i.cD,.int .i64 i.next,.int .i64 3,.int .i64 d.kind,.int .i64 d.level,.slice d.aI d.items.length d.cI,.slice d.aD d.data.length d.cD,.int .i64 d.next] 91);have N6:=aF V5 (.cells #[.int .i64 1,.int .i64 f.kind,.int .i64 f.level,.slice f.aI f.items.length f.cI,.slice f.aD f.data.length f.cD,.int .i64 f.next,.int .i64 2,.int .i64 i.kind,.int .i64 i.level,.slice i.aI i.items.length i.cI,.slice i.aD i.data.length i.cD,.int .i64 i.next,.int .i64 3,.int .i64 d.kind,.int .i64 d.level,.slice d.aI d.items.length d.cI,.slice d.aD d.data.length d.cD,.int .i64 d.next] 91);rw[an] at N6;have X6:=fF X5 M;have bh:=e7 (bg.o.keep M);have bk:=e7 (bj.o.keep M);have bm:=e7 (bl.o.keep M);have C6:=e7 (fF C5.o M);have L6:=e7 (bt L5.o M);clear bg bj bl C5 L5 M X5 an;generalize (V5.alloc (.cells #[.int .i64 1,.int .i64 f.kind,.int .i64 f.level,.slice f.aI f.items.length f.cI,.slice f.aD f.data.length f.cD,.int .i64 f.next,.int .i64 2,.int .i64 i.kind,.int .i64 i.level,.slice i.aI i.items.length i.cI,.slice i.aD i.data.length i.cD,.int .i64 i.next,.int .i64 3,.int .i64 d.kind,.int .i64 d.level,.slice d.aI d.items.length d.cI,.slice d.aD d.data.length d.cD,.int .i64 d.next] 91))=W5 at*
       have bb:Hid (Imi W5 ⟨2,some ⟨yc,0,none⟩,3,[1,1,1],some ⟨l,0,none⟩,3,[(1,f),(2,i),(3,d)],none,0,[]⟩):=
        ⟨yC C6.o,x7 N6 (bh.o.pi (by rw[pf EA.o];decide)) (bk.o.pi (by rw[pf EB.o];decide)) bm.o,λj hj=>absurd hj (db _),(show 3<=1000000 by decide),(show 0<=1048576 by decide)⟩
       have NE:Hid (nmg [((1:Int),f),(2,i),(3,d)]=se):=by
        show[((1:Int),f.pg),(2,i.pg),(3,d.pg)]=se;rw[EA.o,EB.o,EI.o];rfl
       have LD:Hid (Calls prog 7 #[.agg #[.int .i64 2,.slice (some ⟨yc,0,none⟩) 3 3,.slice (some ⟨l,0,none⟩) 3 3,.slice none 0 0]] W5 (λe L=>mQ W5 L e ⟨2,some ⟨yc,0,none⟩,3,[1,1,1],some ⟨l,0,none⟩,3,[(1,f),(2,i),(3,d)],none,0,[]⟩)):=mN W5 _ bb.o
       clear bb bh bk C6 bm N6 EA EB EI ba GK;obtain⟨x0,x1,x2,x3⟩:=fO X6;go_wp2_with fail
       refine LD.o.mono ?_;rintro _ w6 (⟨bL,_⟩|⟨h0,_,b,rb,S,pb,mb,pc,U,a6,bx,rfl,hL⟩)
       . exact absurd ⟨by show(fp 2 [1,1,1] (nmg [((1:Int),f),(2,i),(3,d)])).1=0;rw[NE.o];exact yr,(show 3<=4096 by decide)⟩ bL
       have hL:Ld W5 w6 b rb S pb mb pc U a6 bx (fp 2 [1,1,1] (nmg [((1:Int),f),(2,i),(3,d)])).2:=hL;rw[NE.o] at hL;have t:Hid (Ld W5 w6 b rb S pb mb pc U a6 bx ia):=hL;have B6:=e7 (bt L6.o hL.bl);clear hL h0 x0 x1 x2 x3 X6 LD NE L6;have RD:=e7 (show gu 52 (.pointer (some ⟨b,0,none⟩)) ia (λk=>U k≠0) w6 from t.o.rv▸t.o.v.rdsx t.o.s)
       have XL:=e7 t.o.v.xlt;have UP:=e7 (show jc ia 65536 from t.o.rr▸mf t.o.r)
       have ah:=e7 t.o.ok;clear t;go_upto_region 20 with fail
       have X7:=e7 (aF w6 (.cells #[.int .i64 3,.int .i64 2,.int .i64 9] 34));have A7:=al w6 (.cells #[.int .i64 3,.int .i64 2,.int .i64 9] 34);have B7:=e7 (bt B6.o A7);have aB:=e7 (RD.o.keep A7);have bp:=e7 λ(k:Nat)(s:U k≠0)=>aE (XL.o k s) A7.size
       clear RD XL A7 B6;generalize w6.alloc (.cells #[.int .i64 3,.int .i64 2,.int .i64 9] 34)=H at *;obtain⟨yt,bw⟩:∃y,w6.heap.size=y:=⟨_,rfl⟩;simp only[bw] at X7 ⊢;clear bw;have am:(convert 37 37 (.slice (some ⟨H.heap.size,0,none⟩) 1 1)).run prog (H.alloc (.cells #[.int .u8 112] 5))=.ok (.slice (some ⟨H.heap.size,0,none⟩) 1 1) (H.alloc (.cells #[.int .u8 112] 5 (1,2))):=au.o H #[.int .u8 112] 1 1 H.heap.size rfl;have A8:=e7 (al H (.cells #[.int .u8 112] 5 (1,2)))
       have a8:Hid (Calls prog 11 #[.pointer (some ⟨b,0,none⟩),.agg #[.int .i64 3,.int .i64 2,.int .i64 9],.slice (some ⟨H.heap.size,0,none⟩) 1 1] (H.alloc (.cells #[.int .u8 112] 5 (1,2))) (λe L=>GetR (H.alloc (.cells #[.int .u8 112] 5 (1,2))) L e ([112,112],true,0))):=by
        have h:=xc (H.alloc (.cells #[.int .u8 112] 5 (1,2))) b ia ah.o (λk=>U k≠0) (aB.o.keep A8.o) 3 9 2 (by decide) (some ⟨H.heap.size,0,none⟩) 1 [112] (kQ (by decide) (aF H (.cells #[.int .u8 112] 5 (1,2))))
        rw[xM] at h;exact h
       obtain⟨t0,t1,t2⟩:=fb X7.o;go_wp2_with fail
       refine a8.o.mono ?_;rintro _ m ⟨a9,c9,rfl,aJ,h8⟩;clear t0 t1 t2 am a8;have O9:=e7 aJ;have AB:=e7 (bt A8.o aJ.b);have B9:=e7 (bt B7.o AB.o);have aC:=e7 (aB.o.keep AB.o);have X9:=e7 (fF X7.o AB.o);have aD:=e7 λ(k:Nat)(s:U k≠0)=>aE (bp.o k s) AB.o.size
       clear aJ h8 A8 AB B7 aB X7 bp;go_upto_region 21 with fail
       have am:(convert 37 37 (.slice (some ⟨m.heap.size,0,none⟩) 1 1)).run prog (m.alloc (.cells #[.int .u8 101] 5))=.ok (.slice (some ⟨m.heap.size,0,none⟩) 1 1) (m.alloc (.cells #[.int .u8 101] 5 (1,2))):=au.o m #[.int .u8 101] 1 1 m.heap.size rfl;have bJ:(convert 37 37 (.slice (some ⟨m.heap.size+1,0,none⟩) 1 1)).run prog ((m.alloc (.cells #[.int .u8 101] 5 (1,2))).alloc (.cells #[.int .u8 112] 5))=.ok (.slice (some ⟨m.heap.size+1,0,none⟩) 1 1) ((m.alloc (.cells #[.int .u8 101] 5 (1,2))).alloc (.cells #[.int .u8 112] 5 (1,2))):=au.o (m.alloc (.cells #[.int .u8 101] 5 (1,2))) #[.int .u8 112] 1 1 (m.heap.size+1) (size_alloc _ _);have a7:=e7 (al m (.cells #[.int .u8 101] 5 (1,2)));have ax:=e7 (al (m.alloc (.cells #[.int .u8 101] 5 (1,2))) (.cells #[.int .u8 112] 5 (1,2)));have bq:=aF m (.cells #[.int .u8 101] 5 (1,2));have aI:=aF (m.alloc (.cells #[.int .u8 101] 5 (1,2))) (.cells #[.int .u8 112] 5 (1,2));rw[size_alloc] at aI;have AA:=e7 (bt a7.o ax.o);have an:((m.alloc (.cells #[.int .u8 101] 5 (1,2))).alloc (.cells #[.int .u8 112] 5 (1,2))).heap.size=m.heap.size+2:=by rw[size_alloc,size_alloc]
       have bc:Hid (Calls prog 26 #[.pointer (some ⟨b,0,none⟩),.agg #[.int .i64 3,.int .i64 2,.int .i64 9],.agg #[.slice (some ⟨m.heap.size,0,none⟩) 1 1,.slice (some ⟨m.heap.size+1,0,none⟩) 1 1,.bool false]] ((m.alloc (.cells #[.int .u8 101] 5 (1,2))).alloc (.cells #[.int .u8 112] 5 (1,2))) (λe L=>Below ((m.alloc (.cells #[.int .u8 101] 5 (1,2))).alloc (.cells #[.int .u8 112] 5 (1,2))).heap.size ((m.alloc (.cells #[.int .u8 101] 5 (1,2))).alloc (.cells #[.int .u8 112] 5 (1,2))) L/\CoR ((m.alloc (.cells #[.int .u8 101] 5 (1,2))).alloc (.cells #[.int .u8 112] 5 (1,2))) L e ([([101],[101,101]),([103],[103,103]),([109],[109,109])],0))):=by
        have h:=vC ((m.alloc (.cells #[.int .u8 101] 5 (1,2))).alloc (.cells #[.int .u8 112] 5 (1,2))) b ia ah.o 65536 UP.o (ai _) (λk=>U k≠0) (aC.o.keep AA.o) (λk s=>aE (aD.o k s) AA.o.size) 3 2 9 (by decide) (by decide) ⟨some ⟨m.heap.size,0,none⟩,1,[101],some ⟨m.heap.size+1,0,none⟩,1,[112],false⟩ ⟨kQ (by decide) (fF bq ax.o),ai _,kQ (by decide) aI,ai _⟩ (show(1:Nat)<=140737488355328/\(1:Nat)<=140737488355328 by decide) (λk s=>by
         rw[an];rcases s with⟨y,hy,rfl⟩|⟨y,hy,rfl⟩<;>(cases hy;simp))
        have e:(fs (prM Yl ia (⟨[101],[112],false⟩:Rg) true) ia (iz ⟨[101],[112],false⟩) true 1 ⟨[],([],0)⟩ (i8 3 2)).c=([([101],[101,101]),([103],[103,103]),([109],[109,109])],0):=wB;rw[<-e];exact h
       clear bq aI an;obtain⟨t0,t1,t2⟩:=fb X9.o;go_wp2_with fail
       refine bc.o.mono ?_;rintro _ D ⟨bz,bO⟩;have BC:=e7 (bt AA.o bz);have bD:=e7 (bt B9.o BC.o);have aW:=e7 (aC.o.keep BC.o);have bn:=e7 (fF X9.o BC.o);have bd:=e7 (O9.o.keep BC.o);have aY:=e7 λ(k:Nat)(s:U k≠0)=>aE (aD.o k s) BC.o.size
       clear am bJ a7 ax AA bc t0 t1 t2 bz BC B9 aC X9 O9 aD;rcases bO with⟨hz,_⟩|⟨_,a12,c12,C,rfl,hPrs,hpl,_⟩
       . exact absurd rfl hz
       have br:C.length=3:=by rw[<-rY C,hpl];rfl
       obtain⟨p1,p2,p3,rfl⟩:=wQ br
       have aM:p3.1.l=[109]:=by
        have:=aU (λbB=>(bB.getD 2 ([],[])).1) hpl
        simpa[prl] using this
       obtain⟨g,rfl⟩:∃g,a12=some ⟨g,0,none⟩:=hPrs.row.addr (by simp)
       have k4:D.cell? ⟨g,4,none⟩=some (.slice p3.1.a 1 p3.1.c):=hPrs.row.cell (show(prv [p1,p2,p3])[4]?=some (.slice p3.1.a 1 p3.1.c) by simp[prv,aM])
       have r3:=(hPrs.ok p3.1 (by simp[prR])).1
       rw[aM] at r3;have s1:=uE bd.o.r (by simp)
       have s2:=uE r3 (by simp)
       have s1:(convert 37 9 (.slice a9 2 c9)).run prog D=.ok (.string ⟨#[112,112]⟩) D:=s1;have s2:(convert 37 9 (.slice p3.1.a 1 p3.1.c)).run prog D=.ok (.string ⟨#[109]⟩) D:=s2
       have bH:Hid (∀W:World,Below D.heap.size D W->Calls prog 36 #[.pointer (some ⟨b,0,none⟩),.agg #[.int .i64 3,.int .i64 2,.int .i64 9]] W λe L=>e=.returned (.int .i64 0)/\Below W.heap.size W L):=λW hb=>by
        have h:=jL W b ia ah.o 65536 UP.o (ai _) (λk=>U k≠0) (aW.o.keep hb) (λk s=>aE (aY.o k s) hb.size) ⟨3,2,9⟩
        rw[uR] at h;exact h
       have bG:Hid (∀W:World,Below D.heap.size D W->Calls prog 36 #[.pointer (some ⟨b,0,none⟩),.agg #[.int .i64 3,.int .i64 2,.int .i64 8]] W λe L=>e=.returned (.int .i64 4)/\Below W.heap.size W L):=λW hb=>by
        have h:=jL W b ia ah.o 65536 UP.o (ai _) (λk=>U k≠0) (aW.o.keep hb) (λk s=>aE (aY.o k s) hb.size) ⟨3,2,8⟩
        rw[vB] at h;exact h
       obtain⟨t0,t1,t2⟩:=fb bn.o;clear hPrs hpl aM r3 bd aW aY bn br ah UP;simp only[aR,aO,bP];go_wp2_with fail
       refine(bH.o _ (Below.refl _ _)).mono ?_;rintro _ bQ ⟨rfl,a5⟩;have bE:=e7 (bt bD.o a5);clear t0 t1 t2 k4 s1 s2;go_wp2_with fail
       refine(bG.o _ a5).mono ?_;rintro _ bR ⟨rfl,bA⟩;have bF:=e7 (bt bE.o bA);clear a5 bA;go_wp2_with fail
       go_ret;exact⟨rfl,bF.o⟩
theorem Ld.keep14{a:World}{b f:Nat}{S:Vs}{d c:Nat}{e g:Nat->Nat}{D:Rd}{i:Nat->Nat}{rd:Int->Option Pg}(h:Ld w W b f S d c e g D i rd)(hb:Below W.heap.size W a):Ld w a b f S d c e g D i rd:=⟨bt h.bl hb,h.v.keep hb,h.r.keep hb,h.s,h.rv,h.rr,h.ok,h.c,h.dj,h.nv,h.nr⟩
theorem walkChecks_any(w:World)(x:Img)(L:Imi w x):Calls prog 5 #[.agg x.cs] w λe H=>e=.returned (.bool true)/\Below w.heap.size w H:=by
 have c:=e7 λ(W:World)=>uG W
 have I:=e7 (al w (.cells x.cs 26));have X:=e7 (ag w (.cells x.cs 26));have U:=e7 λ(W:World)(hb:Below w.heap.size w W)=>mN W x (L.keep hb)
 have HT:=e7 λ(W:World)(hb:Below w.heap.size w W)=>(L.keep hb).t
 have tl:=L.tl;clear L;obtain⟨an,aC,cC,ah,aN,cN,aj,aT,cT,T⟩:=x;simp only[Img.cs] at *;unfold mQ at U;obtain⟨m,Y⟩:∃m,T.length=m:=⟨_,rfl⟩;have HM:=e7 Y;simp only[Y] at I X U tl ⊢;clear Y;go_enter func5,ntmps5;obtain⟨f,i,j,l⟩:=fO X.o;go_wp2_with fail
 refine(U.o _ I.o).mono ?_;rintro _ d (⟨_,rfl,hb⟩|⟨h0,h4,b,M,ak,pb,mb,pc,Z,D,af,rfl,K⟩)
 . have HB:=e7 (bt I.o hb);clear hb f i j l;go_wp2_with fail
   refine(c.o _).mono ?_;rintro _ w3 ⟨rfl,ac⟩;have H3:=e7 (bt HB.o ac);clear ac;go_wp2_with fail
   go_ret;exact⟨rfl,H3.o⟩
 . have a:=e7 K;have r:=e7 (bt I.o K.bl);have X2:=e7 (fF X.o K.bl);clear K h0 h4 f i j l;generalize (fp an ah (nmg aj)).2=E at *;have S:=e7 (show gu 52 (.pointer (some ⟨b,0,none⟩)) E (λk=>Z k≠0) d from a.o.rv▸a.o.v.rdsx a.o.s)
   have XL:=e7 a.o.v.xlt;have C:=e7 (show jc E 65536 from a.o.rr▸mf a.o.r)
   have CK:=e7 λ(W:World)(hb:Below d.heap.size d W)(t:Tr)=>jL W b E a.o.ok 65536 C.o (ai _) (λk=>Z k≠0) (S.o.keep hb) (λk hk=>aE (XL.o k hk) hb.size) t
   have CR:Hid (∀(W:World),Below d.heap.size d W->∀t:Tr,Calls prog 35 #[.pointer (some ⟨M,0,none⟩),.agg #[.int .i64 t.root,.int .i64 t.height,.int .i64 t.items]] W λe H=>e=.returned (.int .i64 ((chk E t:Nat):Int))/\Below W.heap.size W H):=λW hb t=>by
    have h:=sS W M D af (a.o.r.keep hb) (by rw[a.o.rr];exact a.o.ok) t
    rw[a.o.rr] at h;exact h
   have KP:=e7 λ(W:World)(hb:Below d.heap.size d W)=>(show Calls prog 24 #[.pointer (some ⟨b,0,none⟩),.pointer (some ⟨M,0,none⟩)] W λe H=>e=.returned (.bool true)/\Below W.heap.size W H from tN _ W b M ak pb mb pc Z D af E (a.o.keep14 hb))
   clear S XL C a;go_wp2_with fail
   go_loopw [6] (λvi wx=>∃k:Nat,k<=m/\vi=.int .i64 (k:Int)/\Below d.heap.size d wx) (λvi _=>m-(intOf vi).toNat)
   case atStart=>exact⟨0,ar _,rfl,Below.refl _ _⟩
   case round=>
    obtain⟨k,hk,rfl,hb⟩:=hrel;have F:=e7 hb;have XR:=e7 (fF X2.o hb);clear hb;obtain⟨f,i,j,l⟩:=fO XR.o;by_cases aq:k<m
    . have ap:(k:Int)<(m:Int):=by omega
      have au:(0:Int)<=(k:Int):=by omega
      obtain⟨g,B,rfl,G⟩:=HT.o wr (bt r.o F.o) k (by rw[HM.o];exact aq)
      obtain⟨t,ht⟩:∃t,T.getD k ⟨0,0,0⟩=t:=⟨_,rfl⟩;rw[ht] at G;clear ht;have n:wr.cell? ⟨g,B+k*3,none⟩=some (.int .i64 t.root):=G 0 _ rfl;have q:=G 1 _ rfl;have s:=G 2 _ rfl;clear G;have P:=e7 (CR.o wr F.o t);have R:=e7 λ(W:World)(hb:Below d.heap.size d W)=>CK.o W hb t
      obtain⟨ci,ae⟩:∃am:Int,((chk E t:Nat):Int)=am:=⟨_,rfl⟩;simp only[ae] at P R;clear ae;have dn:(ci != ci)=false:=by simp
      have dk:∀W:World,Below wr.heap.size wr W->(W.cell? ⟨g,B+k*3,none⟩=some (.int .i64 t.root)/\W.cell? ⟨g,B+k*3+1,none⟩=some (.int .i64 t.height)/\W.cell? ⟨g,B+k*3+2,none⟩=some (.int .i64 t.items)):=λW hb=>⟨(hb.cell (p:=⟨g,B+k*3,none⟩) (block_lt_of_cell n)).trans n,(hb.cell (p:=⟨g,B+k*3+1,none⟩) (block_lt_of_cell q)).trans q,(hb.cell (p:=⟨g,B+k*3+2,none⟩) (block_lt_of_cell s)).trans s⟩
      have N:=e7 dk;clear dk;go_wp2_with fail
      refine P.o.mono ?_;rintro _ w4 ⟨rfl,v⟩;have J:=e7 v;have aa:=e7 (bt F.o v);have X4:=e7 (fF XR.o v);clear v f i j l n q s P;obtain⟨f,i,j,l⟩:=fO X4.o;obtain⟨n,q,s⟩:=N.o _ J.o;go_wp2_with fail
      refine(R.o _ aa.o).mono ?_;rintro _ w5 ⟨rfl,A⟩;have O:=e7 (bt J.o A);have ab:=e7 (bt aa.o A);have X5:=e7 (fF X4.o A);clear A f i j l n q s;obtain⟨f,i,j,l⟩:=fO X5.o;obtain⟨n,q,s⟩:=N.o _ O.o;go_wp2_with fail
      refine(R.o _ ab.o).mono ?_;rintro _ w6 ⟨rfl,ad⟩;have ao:=e7 (bt ab.o ad);clear ad f i j l n q s;go_wp2_with fail
      go_roundw
      case rel=>exact⟨k+1,by omega,by first|(go_num;done)|exact aU (Value.int IntKind.i64) (by omega),ao.o⟩
      case measure=>(simp[intOf];omega)
    . have ap:¬(k:Int)<(m:Int):=by omega
      go_wp2_with fail
      refine(KP.o _ F.o).mono ?_;rintro _ w4 ⟨rfl,v⟩;have J:=e7 (bt r.o (bt F.o v));clear v f i j l;go_wp2_with fail
      refine(c.o _).mono ?_;rintro _ w5 ⟨rfl,A⟩;have O:=e7 (bt J.o A);clear A;go_wp2_with fail
      go_ret;exact⟨rfl,O.o⟩
end Go.Proofs.YtnnieandfdbhgaaGreat
