import Derived.Test.YteaogidofpfmmaaGreatWgB21
import Derived.WalkMore
set_option linter.all false
set_option maxHeartbeats 16000000
set_option maxRecDepth 10000
namespace Go.Proofs.YteaogidofpfmmaaGreat
open Go.Proofs.Tryz
open Go.RowKit Go.Shelf
attribute [local go_sem] Oper.semAt_some
variable {x:Addr}{rd:Int->Option Pg}{G:List Int}{L OL:List Iv}{c k m mb n:Nat}{F S:Nat->Prop}{a:Option Addr}{A B V W:World}
theorem Ap:(prog.info? 143).map (·.size)=some 4:=by kernel_rfl
def PrI{τ:Type}(J:(Nat->Prop)->τ->World->Prop)(Y:Yc τ)(rd:Int->Option Pg)(cn:τ->Nat)(mb:Nat)(F:Nat->Prop)(s:Pst τ)(V:World):Prop:=∃Fc:Nat->Prop,(∀k,F k↔(Fc k\/k=mb))/\¬Fc mb/\J Fc s.c V/\StP Y rd cn s/\Mp V mb (gnf s.G)
def PrX{τ:Type}(J Jx:(Nat->Prop)->τ->World->Prop)(Y:Yc τ)(mb:Nat)(id:Nat)(c:Code)(F:Nat->Prop)(s:Pst τ)(V:World):Prop:=∃Fc:Nat->Prop,(∀k,F k↔(Fc k\/k=mb))/\¬Fc mb/\mb<V.heap.size/\c=.exit id/\Y.ystp s.c=true/\(J Fc s.c V\/Jx Fc s.c V)
def InI{τ:Type}(J:(Nat->Prop)->τ->World->Prop)(Y:Yc τ)(rd:Int->Option Pg)(cn:τ->Nat)(mb:Nat)(L OL:List Iv)(G:List Int)(F:Nat->Prop)(s:List Iv×τ)(V:World):Prop:=∃Fc:Nat->Prop,(∀k,F k↔(Fc k\/j6 L k))/\¬Fc mb/\J Fc s.2 V/\StI Y rd cn G s.1.length s.2/\(∃pre,OL=pre++s.1)/\(∀y∈s.1,Unt Fc V y)/\Mp V mb (gnf G)/\(∀k,j6 L k->k<V.heap.size)
def InX{τ:Type}(J Jx:(Nat->Prop)->τ->World->Prop)(Y:Yc τ)(mb:Nat)(L:List Iv)(c:Code)(F:Nat->Prop)(s:List Iv×τ)(V:World):Prop:=∃Fc:Nat->Prop,(∀k,F k↔(Fc k\/j6 L k))/\¬Fc mb/\c=.exit 0/\Y.ystp s.2=true/\(J Fc s.2 V\/Jx Fc s.2 V)/\(∀k,j6 L k->k<V.heap.size)/\mb<V.heap.size
theorem InI.abid{τ:Type}{J:(Nat->Prop)->τ->World->Prop}{Y:Yc τ}{j:τ->Nat}{s:List Iv×τ}(h:InI J Y rd j mb L OL G F s A)(K:∀y∈OL,y∈L)(q:lE m J)(hb:But (λk=>¬F k/\n<=k) A B)(I:m<=n)(N:mb<n):InI J Y rd j mb L OL G F s B:=by
 obtain⟨i,d,r,v,C,l,p,D,E⟩:=h
 have M:∀y∈s.1,y∈L:=λy b=>by
  obtain⟨pre,e⟩:=l;exact K y (by rw[e];exact dP _ b)
 exact⟨i,d,r,q i _ A B v (hb.mono λk _ e=>⟨λH=>e.1 ((d k).2 (.inl H)),az I e.2⟩),C,l,λy b=>(p y b).but hb (λt f x g e=>e.1 ((d _).2 (.inr ⟨t,lO (M y b) f,x,g,rfl⟩))) (λt f x g=>((p y b).rw t f).2.2 x g),D.but hb (λe=>by have:=e.2;omega),λk hk=>a6 (E k hk) hb.size⟩
theorem InI.siz{τ:Type}{J:(Nat->Prop)->τ->World->Prop}{Y:Yc τ}{b:τ->Nat}{s:List Iv×τ}(h:InI J Y rd b mb L OL G F s A)(g:mX J):∀k,F k->k<A.heap.size:=λk hk=>by
 obtain⟨i,d,j,e,l,p,q,r,f⟩:=h;rcases (d k).1 hk with h|h
 . exact g _ _ _ e k h
 . exact f k h
theorem InX.abid{τ:Type}{J f:(Nat->Prop)->τ->World->Prop}{Y:Yc τ}{c:Code}{s:List Iv×τ}(h:InX J f Y mb L c F s A)(i:lE m J)(y:lE m f)(hb:But (λk=>¬F k/\n<=k) A B)(d:m<=n):InX J f Y mb L c F s B:=by
 obtain⟨b,g,j,l,p,q,r,t⟩:=h;have d:But (λk=>¬b k/\m<=k) A B:=hb.mono λk _ e=>⟨λv=>e.1 ((g k).2 (.inl v)),az d e.2⟩
 exact⟨b,g,j,l,p,q.imp (λh=>i b _ A B h d) (λh=>y b _ A B h d),λk hk=>a6 (r k hk) hb.size,a6 t hb.size⟩
theorem InX.siz{τ:Type}{J d:(Nat->Prop)->τ->World->Prop}{Y:Yc τ}{c:Code}{s:List Iv×τ}(h:InX J d Y mb L c F s A)(i:mX J)(j:mX d):∀k,F k->k<A.heap.size:=λk hk=>by
 obtain⟨l,e,p,q,r,f,g,t⟩:=h;rcases (e k).1 hk with h|h
 . exact f.elim (λb=>i _ _ _ b k h) (λb=>j _ _ _ b k h)
 . exact g k h
theorem mT{bv:Type}(Y:Yc bv)(aS:∀c e,e≠0->Y.ystp (Y.ybad c e)=true)(rd:Int->Option Pg)(hA:ix rd)(cn:bv->Nat)(cG:∀c p,cn (Y.yl c p)<=cn c+1)(b7:Nat)(hN:j5 rd b7)(aN:Nat)(XV:Nat->Prop)(w:World)(t1 t2 t3 t4:Nat)(root U b6:Int)(h2:1<=U)(h3:U<=12)(r:Rv)(o:Bool)
 (bS:w.heap[t1]?=some (.cells #[.int .i64 root,.int .i64 U,.int .i64 b6] 34 (0,0))) (bT:w.heap[t2]?=some (.cells r.cs 62 (0,0))) (bn:w.cell? ⟨t3,0,none⟩=some (.pointer (some ⟨aN,0,none⟩))) (bo:w.cell? ⟨t4,0,none⟩=some (.int .i64 (if o=true then 0 else 1)))
 (cA:Ri w r) (dw:Rb r) (hR:iZ 52 (.pointer (some ⟨aN,0,none⟩)) rd XV w) (hX:∀k,XV k->k<w.heap.size) (cC:∀k,jn r k->k<w.heap.size) (s0:bv) (bX:Y.ystp s0=false) (cE:cn s0=0):
 lz prog 86 #[.pointer (some ⟨t1,0,none⟩),.pointer (some ⟨t2,0,none⟩),.pointer (some ⟨t3,0,none⟩),.pointer (some ⟨t4,0,none⟩)] Y.ystp (EnR Y cn (8*b7)) (λ_=>False) (λ_ _=>True) s0
  (λs=>s=(ib (prM Y rd r.rg o) rd (iG r.rg) o (U-1).toNat ⟨[],s0⟩ (iV root U)).c) w (λk=>k=t1\/k=t2\/k=t3\/k=t4\/XV k\/jn r k):=by
 intro aF ap Jx W F0 hW hS aJ sJ cu cM bm hY h0;have cW:=gW (hW.same bS (λh=>h (.inl rfl)))
 have dV:=gW (hW.same bT (λh=>h (.inr (.inl rfl))))
 have cX:=gW ((hW.cell (p:=⟨t3,0,none⟩) (block_lt_of_cell bn) (λh=>h (.inr (.inr (.inl rfl))))).trans bn)
 have bs:=gW ((hW.cell (p:=⟨t4,0,none⟩) (block_lt_of_cell bo) (λh=>h (.inr (.inr (.inr (.inl rfl)))))).trans bo)
 have RI:=gW (cA.but hW (λk hk h=>h (.inr (.inr (.inr (.inr (.inr hk)))))))
 have RW:=gW (hR.but hW (λk h hk=>h (.inr (.inr (.inr (.inr (.inl hk)))))))
 have dE:=hW.size;have L1:=(ae.1 bS).1;have L2:=(ae.1 bT).1;have L3:t3<w.heap.size:=block_lt_of_cell bn;have L4:t4<w.heap.size:=block_lt_of_cell bo
 have K:Hid (∀k,(k=t1\/k=t2\/k=t3\/k=t4\/XV k\/jn r k)->k<W.heap.size):=gW (λk hk=>by
  rcases hk with rfl|rfl|rfl|rfl|hk|hk
  . omega
  . omega
  . omega
  . omega
  . have:=hX k hk;omega
  . have:=cC k hk;omega)
 have HS:=gW hS;have AJ:=gW aJ;have SJ:=gW sJ;have bw:=gW cu;have cp:=gW cM;have YY:=gW hY;have J0:=gW h0;have a8:=gW (sJ _ _ _ h0);have HA:=gW hA;clear hW bS bT bn bo cA hR hS aJ sJ cu cM bm hY h0 hX cC L1 L2 L3 L4 dE hA;obtain⟨ov,bW⟩:∃ov:Int,(if o=true then (0:Int) else 1)=ov:=⟨_,rfl⟩
 have ch:=gW bW;rw[bW] at bs;clear bW;have d5:((decide (root=0)&&(decide (U=0)&&decide (b6=0))))=false:=by simp;omega
 have M:=λ(W:World)(k:Nat)(cs:Array Value)(t:TypeId)(e:W.heap.size=k)=>(e▸ah W (.cells cs t):(W.alloc (.cells cs t)).heap[k]?=some (.cells cs t (0,0)))
 have dD:= @run_makeMap prog;have A1:=gW (al W (.cells #[.func (.yield aF) #[] #[]] 165));obtain⟨c1,c2,c3⟩:=jq ((A1.o.block t1 (K.o t1 (.inl rfl))).trans cW.o);have c4:=(A1.o.cell (p:=⟨t3,0,none⟩) (K.o t3 (.inr (.inr (.inl rfl))))).trans cX.o;have c5:=(A1.o.cell (p:=⟨t4,0,none⟩) (K.o t4 (.inr (.inr (.inr (.inl rfl)))))).trans bs.o;have A2:=gW (bt A1.o (al (W.alloc (.cells #[.func (.yield aF) #[] #[]] 165)) (.map #[] 0)));have du:=(A2.o.cell (p:=⟨t4,0,none⟩) (K.o t4 (.inr (.inr (.inr (.inl rfl)))))).trans bs.o;refine dO func86 rfl trivial ?_ rfl;simp only[ntmps86,cZ,a7,bg,Nat.reduceAdd,Nat.reduceSub,da,db,dt,dm,cJ,cf];refine eC.2 ?_;go_upto_region 1 with fail
 refine wp_scope_straight ?_;go_upto_region 4 with(first|(refine bz rfl 143 _ _ rfl (W.heap.size+1+1) _ rfl rfl 143 _ (M _ _ _ _ (by simp[size_alloc])) Ap rfl (by simp[Value.oneCell']) ?_)|fail)
 apply wp_label;have RO:=gW (λ(W:World)=>qN W root U b6 h2 h3)
 obtain⟨a3,hU,Y0,XM,X3,BU,sU⟩:=Bf W #[.func (.yield aF) #[] #[]] #[.pointer none,.map none,.nilFunc,.int .i64 0] #[.pointer (some ⟨aN,0,none⟩),.map (some (W.heap.size+1)),.func (.func 87) #[] #[.pointer (some ⟨t2,0,none⟩)],.int .i64 ov];rw[hU];clear hU M dD c1 c2 c3 c4 c5 du A1 A2;have Y0:=gW Y0;have XM:=gW XM;have X3:=gW X3;have BU:=gW BU;obtain⟨c1,c2,c3⟩:=jq ((BU.o.block t1 (K.o t1 (.inl rfl))).trans cW.o);have ST:=gW (λ(W':World)=>oD W' (W.heap.size+2) ⟨root,U-1,⟨none,0,[],none,0,[],true⟩⟩)
 unfold Plv.vl at ST;simp only[Plv.cs,bg] at ST;go_wp2_with fail
 refine(RO.o _).mono ?_;rintro _ U1 ⟨rfl,cD⟩;have B1:=gW cD;clear cD RO;go_wp2_with fail
 refine(ST.o _).mono ?_;rintro _ U2 ⟨rfl,bR⟩;obtain⟨w1,w2,a4,dK⟩:=iN U1 (.cells #[.pointer (some ⟨W.heap.size+2,0,none⟩)] 198) (.cells #[.int .i64 root,.int .i64 (U-1),.slice none 0 0,.slice none 0 0,.bool true] 148) (Below.refl _ _);have ek:U2.heap.size=U1.heap.size+2:=by rw[bR,size_alloc,size_alloc]
 rw[<-bR] at w1 w2 a4 dK;have em:=gW a4;have B2:=gW (bt B1.o a4);have k1:U2.cell? ⟨U1.heap.size,0,none⟩=some (.pointer (some ⟨W.heap.size+2,0,none⟩)):=by rw[am _ _ _ _ _ _ w1];rfl
 have W2:=gW w2;have W1:=gW k1;have d7:a3.heap.size<=U1.heap.size:=B1.o.size;have ab:=gW (bt BU.o B2.o);have dh:=gW ((B2.o.block (W.heap.size+2) (ae.1 X3.o).1).trans X3.o);have ci:=gW (RW.o.keep ab.o);have R2:=gW ((ab.o.block t2 (K.o t2 (.inr (.inl rfl)))).trans dV.o);have co:=gW (RI.o.keep ab.o);have V2:=gW ((ab.o.cell (p:=⟨t3,0,none⟩) (K.o t3 (.inr (.inr (.inl rfl))))).trans cX.o);have O2:=gW ((ab.o.cell (p:=⟨t4,0,none⟩) (K.o t4 (.inr (.inr (.inr (.inl rfl)))))).trans bs.o);have Y2:=gW ((B2.o.block W.heap.size (ae.1 Y0.o).1).trans Y0.o);have M2:=gW (XM.o.keep B2.o)
 have TT:Hid (Tou U2 (W.heap.size+2) (W.heap.size+1) aN 87 #[.pointer (some ⟨t2,0,none⟩)] o rd XV (iG r.rg) (λk=>k=t2\/jn r k)):=gW ⟨by rw[dh.o];unfold oU;rw[ch.o],ci.o,wh U2 t2 r R2.o co.o dw,λk h=>by have:=K.o k (.inr (.inr (.inr (.inr (.inl h)))));omega,λk h=>by
  rcases h with h|h
  . have:=K.o k (.inr (.inl h));omega
  . have:=K.o k (.inr (.inr (.inr (.inr (.inr h)))));omega⟩
 have XX:Hid (∀k,XS (W.heap.size+2) U1.heap.size (U1.heap.size+1) ⟨root,U-1,⟨none,0,[],none,0,[],true⟩⟩ XV (λk=>k=t2\/jn r k) k->k<U2.heap.size/\¬(F0 k\/k=W.heap.size+1)):=gW (λk hk=>by
  have g:k=U1.heap.size\/k=U1.heap.size+1\/k=W.heap.size+2\/(k=t1\/k=t2\/k=t3\/k=t4\/XV k\/jn r k):=by
   rcases hk with h|h|h|h|h|⟨y,f,_⟩|⟨y,f,_⟩
   . exact .inl h
   . exact .inr (.inl h)
   . exact .inr (.inr (.inl h))
   . exact .inr (.inr (.inr (.inr (.inr (.inr (.inr (.inl h)))))))
   . rcases h with h|h
     . exact .inr (.inr (.inr (.inr (.inl h))))
     . exact .inr (.inr (.inr (.inr (.inr (.inr (.inr (.inr h)))))))
   all_goals
    cases f
  have b0:=a8.o k;rcases g with h|h|h|h
  . exact⟨by omega,λe=>by rcases e with e|e;have:=b0 e;omega;omega⟩
  . exact⟨by omega,λe=>by rcases e with e|e;have:=b0 e;omega;omega⟩
  . exact⟨by omega,λe=>by rcases e with e|e;have:=b0 e;omega;omega⟩
  . have h5:=K.o k h;exact⟨by omega,λe=>by rcases e with e|e;exact HS.o k e h;omega⟩)
 have SQ:=gW (ti (prM Y rd r.rg o) rd HA.o aN (W.heap.size+2) (W.heap.size+1) 87 #[.pointer (some ⟨t2,0,none⟩)] (enters_of func87 (by kernel_rfl) rfl) o XV (iG r.rg) (λk=>k=t2\/jn r k) (λ_ _=>rfl) (λs=>aS _ _ (by decide)) pk (U-1).toNat U2 U1.heap.size (U1.heap.size+1) ⟨root,U-1,⟨none,0,[],none,0,[],true⟩⟩ ⟨[],s0⟩ (by show U-1<=_;omega) W1.o W2.o ⟨Bs.nil _,ai _,Bs.nil _,ai _⟩ ⟨an _,an _⟩ (show N64 (U-1) from⟨by omega,by omega⟩) TT.o bX (λk hk=>(XX.o k hk).1))
 have I2:Hid (PrI ap Y rd cn (W.heap.size+1) (λk=>F0 k\/k=W.heap.size+1) ⟨[],s0⟩ U2):=gW ⟨F0,λk=>d9,λh=>by have:=a8.o _ h;omega,AJ.o F0 s0 W _ J0.o (But.ofBelow ab.o),⟨bX,Gok.nil _,Nat.le_of_eq cE⟩,M2.o⟩
 have dg:=gW cG;have HN:=gW hN;clear w1 w2 k1 a4 bR ST c1 c2 c3 bX cE cG hN;go_wp2_with fail
 refine(eC (n:=0)).1 ?_
 refine km (gf:=116) (lb:=#[.pointer (some ⟨U1.heap.size,0,none⟩),.pointer (some ⟨U1.heap.size+1,0,none⟩)]) rfl (enters_of func116 (by kernel_rfl) rfl) SQ.o (But.refl _ _) (λk hk=>(XX.o k hk).1)
  (by rintro s W0 W1 c6 D er Gv (⟨p',q',rfl,_⟩|⟨rfl,_⟩)<;>rfl)
  (λk=>F0 k\/k=W.heap.size+1) (λk hk d=>(XX.o k d).2 hk) (PrI ap Y rd cn (W.heap.size+1)) (PrX ap Jx Y (W.heap.size+1) 0)
  (λF s A B h hb=>by
    obtain⟨v,Z,q2,q3,q4,q5⟩:=h;exact⟨v,Z,q2,AJ.o v _ A B q3 (hb.mono λk _ e=>⟨λhf=>e.1 ((Z k).2 (.inl hf)),by have:=e.2;have:=ab.o.size;omega⟩),q4,q5.but hb (λe=>e.1 ((Z _).2 (.inr rfl)))⟩)
  (λF s A h k hk=>by
    obtain⟨v,Z,q2,q3,q4,q5⟩:=h;rcases (Z k).1 hk with h|rfl
    . exact SJ.o _ _ _ q3 k h
    . exact q5.lt)
  (λc F s A B h hb=>by
    obtain⟨v,Z,q2,q3,q4,q5,q6⟩:=h;have hm:But (λk=>¬v k/\W.heap.size<=k) A B:=hb.mono λk _ e=>⟨λhf=>e.1 ((Z k).2 (.inl hf)),by have:=e.2;have:=ab.o.size;omega⟩
    exact⟨v,Z,q2,a6 q3 hb.size,q4,q5,q6.imp (λh=>AJ.o v _ A B h hm) (λh=>bw.o v _ A B h hm)⟩)
  (λc F s A h k hk=>by
    obtain⟨v,Z,q2,q3,q4,q5,q6⟩:=h;rcases (Z k).1 hk with h|rfl
    . exact q6.elim (λh'=>SJ.o _ _ _ h' k h) (λh'=>cp.o _ _ _ h' k h)
    . exact q3)
  (λF s V h=>by
    obtain⟨v,Z,q2,q3,q4,q5⟩:=h;exact⟨q5,λk hk=>(Z k).2 (.inr hk)⟩)
  I2.o ?round ?done ?stop
 case round=>
  rintro I F s aH aa c6 D er Gv ⟨v,ax,a0,hJ,bp,hM⟩ aT dx bP en aR cy dz dB bL ⟨r0,d6⟩;have et:=aT.size;have d4:U2.heap.size<=I:=dz;have dC:I<aH.heap.size:=dB;have dd:∀k,W.heap.size<=k->¬F0 k:=λk hk h=>by have:=a8.o k h;omega
  have az:But (λk=>F0 k\/k=W.heap.size+1) U2 aa:=bL.trans (aT.mono (T:=λk=>F0 k\/k=W.heap.size+1) λk _ e=>.inr e) (λ_ _ e=>e)
  have nX:∀k,(k=t1\/k=t2\/k=t3\/k=t4\/XV k\/jn r k)->¬(F0 k\/k=W.heap.size+1):=λk hk e=>by
   have:=K.o k hk;rcases e with e|e
   . exact HS.o k e hk
   . omega
  have bJ:=gW (az.same Y2.o (λe=>by rcases e with e|e;exact dd _ (ai _) e;omega))
  have di:=gW (az.same R2.o (nX t2 (.inr (.inl rfl))));have dQ:=gW (co.o.but az (λk hk=>nX k (.inr (.inr (.inr (.inr (.inr hk)))))))
  have b9:=gW ((az.cell (p:=⟨t3,0,none⟩) (block_lt_of_cell V2.o) (nX t3 (.inr (.inr (.inl rfl))))).trans V2.o);have cl:=gW ((az.cell (p:=⟨t4,0,none⟩) (block_lt_of_cell O2.o) (nX t4 (.inr (.inr (.inr (.inl rfl)))))).trans O2.o);have dL:=gW (ci.o.but az (λk hk d=>nX k (.inr (.inr (.inr (.inr (.inl d))))) hk))
  have b3:∀k,v k->F0 k\/W.heap.size<=k:=λk hk=>by
   rcases aR k ((ax k).2 (.inl hk)) with(h|h)|h
   . exact .inl h
   . exact .inr (by omega)
   . exact .inr (by have:=ab.o.size;omega)
  have cB:=ab.o.size;rcases dx with⟨p,q,rfl,bm,hRb',hP',hrd',hlv',hng',hM',hs',rfl,hGv'⟩|⟨rfl,hM',rfl,hGv'⟩
  . obtain⟨no,lv,H⟩:=p;obtain⟨kq,lq,aq,cq,L,ad,cd,aZ,nx⟩:=q;have cr:=gW (HA.o _ _ hrd');have bb:=gW (show D=(prM Y rd r.rg o).tel {s with G:=no::s.G} ⟨no,lv,H.rg⟩ (Pv.pg ⟨kq,lq,aq,cq,L,ad,cd,aZ,nx⟩) from hs')
    clear hs';simp only[kr];gi_wp2
    refine⟨al _ _,λτ af dJ b4=>?_⟩
    have aw:=al aa (.cells #[.int .i64 no,.int .i64 lv,.slice H.aL H.lo.length H.cL,.slice H.aH H.hi.length H.cH,.bool H.op,.int .i64 kq,.int .i64 lq,.slice aq L.length cq,.slice ad aZ.length cd,.int .i64 nx] 151);have nw:=ah aa (.cells #[.int .i64 no,.int .i64 lv,.slice H.aL H.lo.length H.cL,.slice H.aH H.hi.length H.cH,.bool H.op,.int .i64 kq,.int .i64 lq,.slice aq L.length cq,.slice ad aZ.length cd,.int .i64 nx] 151);have sw:=size_alloc aa (.cells #[.int .i64 no,.int .i64 lv,.slice H.aL H.lo.length H.cL,.slice H.aH H.hi.length H.cH,.bool H.op,.int .i64 kq,.int .i64 lq,.slice aq L.length cq,.slice ad aZ.length cd,.int .i64 nx] 151);generalize aa.alloc (.cells #[.int .i64 no,.int .i64 lv,.slice H.aL H.lo.length H.cL,.slice H.aH H.hi.length H.cH,.bool H.op,.int .i64 kq,.int .i64 lq,.slice aq L.length cq,.slice ad aZ.length cd,.int .i64 nx] 151)=dp at *;have ar:=gW ((But.ofBelow (S:=λk=>k=I) aw).trans af (λ_ _ e=>e))
    have dZ:=af.size;have bc:=gW (AJ.o v _ aH τ hJ (((aT.mono (T:=λk=>¬v k/\W.heap.size<=k) λk _ e=>by have e:k=W.heap.size+1:=e;rw[e];exact⟨a0,by omega⟩).andBelow aw).trans af (λk _ e=>by have e:k=I:=e;rw[e];exact⟨λh=>cy ((ax I).2 (.inl h)),by omega⟩)))
    have bq:τ.cell? ⟨W.heap.size,0,none⟩=some (.func (.yield aF) #[] #[]):=by rw[am _ _ _ _ _ _ (ar.o.same bJ.o (λe=>by have e:W.heap.size=I:=e;omega))];rfl
    obtain⟨k0,k1,k2,k3,k4,k5,k6,k7,k8,k9⟩:=kE (af.same nw (λe=>by have e:aa.heap.size=I:=e;omega))
    have cj:=gW ((hM'.keep aw).but af (λe=>by have e:W.heap.size+1=I:=e;omega))
    have d3:Mp aa (W.heap.size+1) (gnf (no::s.G)):=hM';by_cases bV:kq=1
    . subst bV;have h8:L.length<=8:=by have:=(cr.o.node (.inl rfl)).2.2.1;simpa[Pv.pg] using this
      have aj:=gW (((hP'.keep aw).old af (λk e=>by have e:k=I:=e;rw[e];exact dC)))
      have JS:=aj.o.pi (show L.length<=2199023255520 by omega)
      have cO:jJ τ aq Iv.cs 4 L:=by
       rcases JS.it.2.2 with h|⟨c,o',e,h⟩
       . exact .inl h
       . refine .inr ⟨c,o',e,λb8 x d=>?_⟩
         obtain⟨hi,e2⟩:=bE.1 d;have:=h b8 hi;rw[show L.getD b8 Iv.zero=x by simp[hi,e2]] at this
         exact this
      have IN:=gW (BK τ aq cq L cO (by omega) (λx d=>aj.o.it.lt d) o)
      rw[ch.o] at IN;have AP:=gW (xZ (o:=o) (xv (show(iR L).Pairwise ji from(cF.1 aj.o.dist).2)))
      have RB:Hid (∀k,j6 L k->aH.heap.size<=k/\k<τ.heap.size):=gW (λk hk=>by
       obtain⟨t,C,x,d,rfl⟩:=hk;refine⟨?_,(aj.o.fr t C).1.lt d⟩;rcases (aj.o.fr t C).2.1 x d with⟨z,M,_⟩|h2
       . cases M
       . exact h2)
      have a9:Hid (∀k,v k->k<aH.heap.size):=gW (λk hk=>SJ.o _ _ _ hJ k hk)
      have cP:Hid (∀y∈L,Unt v τ y):=gW (λy f=>⟨λt C=>⟨(aj.o.fr t (lO f C)).1,(aj.o.fr t (lO f C)).2.2,λx d h=>by
       have h1:=a9.o _ h;have h2:=(RB.o x.block ⟨t,lO f C,x,d,rfl⟩).1;omega⟩,aj.o.ns y f⟩)
      have bh:Hid (D.G=no::s.G/\D.c=flw (λc (x:Iv)=>pst Y rd r.rg c x.it) Y.ystp (iH o L) s.c):=gW (by
       rw[bb.o];refine⟨rfl,?_⟩;show pit Y rd r.rg (iH o (L.map Iv.it)) s.c=_;rw[rB aS _ _ bp.1,pW,<-o6 (λc x=>pst Y rd r.rg c x) Y.ystp Iv.it])
      have AQ:Hid (∀x,aq=some x->aH.heap.size<=x.block/\¬j6 L x.block):=gW (λx d=>⟨by
       rcases aj.o.itn x d with⟨z,M,_⟩|h2
       . cases M
       . exact h2,λhk=>by
       obtain⟨t,C,y,f,e⟩:=hk;exact aj.o.it.ne (aj.o.fr t C).1 d f e.symm⟩)
      have dl:Hid (StI Y rd cn (no::s.G) (iH o L).length s.c):=gW (bp.inn hrd' hng' (by unfold iH;split;exact h8;rw[List.length_reverse];exact h8))
      have dj:=gW (ar.o.same di.o (λe=>by have e:t2=I:=e;have:=K.o t2 (.inr (.inl rfl));omega))
      have dR:=gW (dQ.o.but ar.o (λk hk e=>by have e:k=I:=e;have:=K.o k (.inr (.inr (.inr (.inr (.inr hk)))));omega))
      have ca:=gW ((ar.o.cell (p:=⟨t3,0,none⟩) (block_lt_of_cell b9.o) (λe=>by have e:t3=I:=e;have:=K.o t3 (.inr (.inr (.inl rfl)));omega)).trans b9.o)
      have dI:=(ar.o.cell (p:=⟨t4,0,none⟩) (block_lt_of_cell cl.o) (λe=>by have e:t4=I:=e;have:=K.o t4 (.inr (.inr (.inr (.inl rfl))));omega)).trans cl.o
      have dM:=gW (dL.o.but ar.o (λk hk d=>by have hk:k=I:=hk;have:=K.o k (.inr (.inr (.inr (.inr (.inl d)))));omega))
      have ds:=gW (ar.o.same bJ.o (λe=>by have e:W.heap.size=I:=e;omega))
      have ce:=gW b3;have aG:=gW ax;have d8:aa.heap.size<=τ.heap.size:=by omega
      clear bb hrd' hlv' hng' hM' bP hP' bm hRb' hJ ax b3 JS cO bL aT az nX nw aw af hM;gi_wp2_with (refine⟨trivial,rfl,?_⟩;refine CallsIn.mono (CallsIn.inRound I (dF.2 IN.o)) ?_;rintro _ bH ⟨gf,lb,dr,rfl,dW,cT,cS,cY⟩;have aA:=gW cT;have XQ:=gW cS;have dk:=gW (cY (λc (x:Iv)=>pst Y rd r.rg c x.it) Y.ystp s.c);clear cT cS cY IN)
      have eh:=aA.o.size;have dY:=(aA.o.block I (ae.1 b4).1).trans b4
      have dq:Hid (∀k,(v k\/j6 L k)->¬dr k):=gW (λk hk d=>by
       rcases (XQ.o k d).1 with h|⟨x,dG,e⟩
       . rcases hk with h2|h2
         . have:=a9.o k h2;omega
         . have:=(RB.o k h2).2;omega
       . have h3:=AQ.o x dG;rw[e] at h3;rcases hk with h2|h2
         . have:=a9.o k h2;omega
         . exact h3.2 h2)
      clear k0 k1 k2 k3 k4 k5 k6 k7 k8 k9 dI bq
      refine qP (l₀:=I) (r₀:=dJ) dY (gf:=gf) (lb:=lb) rfl dW dk.o (But.refl _ _) (λk hk=>(XQ.o k hk).2) (by rintro s W0 W1 c6 D er Gv ⟨x,aU,_,rfl,_⟩;rfl)
       (λk=>v k\/j6 L k) dq.o (InI ap Y rd cn (W.heap.size+1) L (iH o L) (no::s.G)) (InX ap Jx Y (W.heap.size+1) L)
       (λF s A B h hb=>h.abid (λy f=>mJ.1 f) AJ.o hb (by omega) (by omega))
       (λF s A h=>h.siz SJ.o)
       (λc F s A B h hb=>h.abid AJ.o bw.o hb (by omega))
       (λc F s A h=>h.siz SJ.o cp.o)
       (λF s A h=>⟨trivial,λk h=>h.elim⟩)
       ⟨v,λk=>d9,a0,AJ.o v _ τ bH bc.o (But.ofBelow aA.o),dl.o,⟨[],rfl⟩,λy f=>(cP.o y (mJ.1 f)).but (But.ofBelow (S:=λ_=>False) aA.o) (λt C x d h=>h) (λt C x d h=>(((cP.o y (mJ.1 f)).rw t C).2.2 x d h)),cj.o.keep aA.o,λk hk=>by have:=(RB.o k hk).2;omega⟩ ?round2 ?done2 ?stop2
      case round2=>
       rintro i b s2 bI aC ey ei d2 bA ⟨R,g1,g2,g3,g4,⟨pre,g5⟩,g6,g7,g8⟩ aM ⟨x,aU,dH,rfl,rfl,rfl,dv⟩ dU eo dT b2 dX ep cR ⟨ef,eq⟩;obtain⟨rl,c2⟩:=s2;have G5:=gW g5;have G1:=gW g1;clear g5 g1;obtain rfl:rl=x::aU:=dH;have aM:Below bI.heap.size bI aC:=aM.below (λ_ _ h=>h.elim)
       have eu:=aM.size
       have cN:∀k,R k->F0 k\/W.heap.size<=k:=λk hk=>by
        rcases dT k ((G1.o k).2 (.inl hk)) with(h|h)|h
        . exact ce.o k h
        . exact .inr (by have:=(RB.o k h).1;omega)
        . exact .inr (by omega)
       have a1:∀k,(k=t1\/k=t2\/k=t3\/k=t4\/XV k\/jn r k)->¬(v k\/j6 L k):=λk hk e=>by
        have h1:=K.o k hk;rcases e with e|e
        . rcases ce.o k e with h|h
          . exact HS.o k h hk
          . omega
        . have:=(RB.o k e).1;omega
       have yn:¬(v W.heap.size\/j6 L W.heap.size):=λe=>by
        rcases e with e|e
        . rcases aR W.heap.size ((aG.o _).2 (.inl e)) with(h|h)|h
          . have:=a8.o _ h;omega
          all_goals
           omega
        . have:=(RB.o _ e).1;omega
       have BB:=gW ((But.ofBelow (S:=λk=>v k\/j6 L k) aA.o).trans (cR.andBelow aM) (λ_ _ e=>e))
       simp only[sl,Iv.cs];obtain⟨j,E,g,O,P,val,child,X⟩:=x;gi_wp2
       refine⟨al _ _,λag aQ eg es=>?_⟩
       have bl:=al aC (.cells #[.slice j g.length E,.slice O val.length P,.int .i64 child,.int .i64 X] 89);have cL:=ah aC (.cells #[.slice j g.length E,.slice O val.length P,.int .i64 child,.int .i64 X] 89);have el:=size_alloc aC (.cells #[.slice j g.length E,.slice O val.length P,.int .i64 child,.int .i64 X] 89);generalize aC.alloc (.cells #[.slice j g.length E,.slice O val.length P,.int .i64 child,.int .i64 X] 89)=d1 at *;have ev:=aQ.size;have ed:bH.heap.size<=i:=dX
       have ee:¬(v i\/j6 L i):=λe=>b2 ((G1.o i).2 (by
        rcases e with e|e
        . have:=a9.o _ e;omega
        . exact .inr e))
       have aW:=gW (((BB.o.andBelow bl).mono (T:=λk=>(v k\/j6 L k)\/k=i) λ_ _ e=>.inl e).trans aQ (λ_ _ e=>.inr e))
       have cm:=gW (aW.o.same dj.o (λe=>by
        rcases e with e|e
        . exact a1 t2 (.inr (.inl rfl)) e
        . have:=K.o t2 (.inr (.inl rfl));omega))
       have dS:=gW (dR.o.but aW.o (λk hk e=>by
        rcases e with e|e
        . exact a1 k (.inr (.inr (.inr (.inr (.inr hk))))) e
        . have:=K.o k (.inr (.inr (.inr (.inr (.inr hk)))));omega))
       have cb:=gW ((aW.o.cell (p:=⟨t3,0,none⟩) (block_lt_of_cell ca.o) (λe=>by
        rcases e with e|e
        . exact a1 t3 (.inr (.inr (.inl rfl))) e
        . have e:t3=i:=e;have:=K.o t3 (.inr (.inr (.inl rfl)));omega)).trans ca.o)
       have dN:=gW (dM.o.but aW.o (λk hk d=>by
        rcases hk with e|e
        . exact a1 k (.inr (.inr (.inr (.inr (.inl d))))) e
        . have:=K.o k (.inr (.inr (.inr (.inr (.inl d)))));omega))
       have bk:=gW (aW.o.same ds.o (λe=>by
        rcases e with e|e
        . exact yn e
        . omega))
       have bd:=gW (AJ.o R _ bI ag g3 (((But.ofBelow (S:=λk=>¬R k/\W.heap.size<=k) aM).andBelow bl).trans aQ (λk _ e=>by have e:k=i:=e;rw[e];exact⟨λh=>b2 ((G1.o i).2 (.inl h)),by omega⟩)))
       have c7:=gW (((But.ofBelow (S:=λk=>k=i) aM).andBelow bl).trans aQ (λ_ _ e=>e))
       have bu:∀y∈(⟨j,E,g,O,P,val,child,X⟩:Iv)::aU,∀t∈y.rows,t∈iR L:=λy f t C=>lO (mJ.1 (by rw[G5.o];exact dP _ f)) C
       have UA:=gW (λy (f:y∈(⟨j,E,g,O,P,val,child,X⟩:Iv)::aU)=>(g6 y f).but (Fc':=R) c7.o (λt C x d e=>b2 ((G1.o i).2 (.inr ⟨t,bu y f t C,x,d,e⟩))) (((g6 y f).rw · · |>.2.2)))
       have br:=gW bu;have UX:=gW (UA.o _ bC);have ck:=gW (g7.but c7.o (λe=>by have e:W.heap.size+1=i:=e;omega))
       have bB:=gW (aQ.same cL (λe=>by have e:aC.heap.size=i:=e;omega))
       have cc:=gW cN
       have cv:∀y∈aU,apI ⟨j,E,g,O,P,val,child,X⟩ y:=λy f=>by
        have h:=AP.o;rw[G5.o,dA] at h;exact(cF.1 h.2.1).1 y f
       have c9:=gW cv;have aB:=gW (rH ag r j _ E g dS.o UX.o.ii.bk rfl)
       have be:Hid (∀k,(∃y,j=some y/\y.block=k)->aH.heap.size<=k/\k<τ.heap.size/\¬R k):=gW (λk ⟨y,f,e⟩=>by
        subst e;have h1:=RB.o y.block ⟨⟨j,E,g⟩,bu _ bC _ (by simp[Iv.rows]),y,f,rfl⟩
        exact⟨h1.1,h1.2,(UX.o.rw ⟨j,E,g⟩ (by simp[Iv.rows])).2.2 y f⟩)
       have ew:bH.heap.size<=ag.heap.size:=by omega
       have cH:∀k,j6 L k->k<ag.heap.size:=λk hk=>by have:=(RB.o k hk).2;omega
       have GX:=gW cH;clear g3 g6 g7 g8 cR aM bl cL aQ a1 yn bu cv cN dU dv cH;unfold Rv.val at aB;simp only[Rv.cs] at aB cm;obtain⟨i0,i1,i2,i3⟩:=jp bB.o;obtain⟨j0,j1,j2⟩:=jq cm.o;cases l:has r.rg g with
       |false=>
        rw[l] at aB;have PS:Hid (pst Y rd r.rg c2 (Iv.it ⟨j,E,g,O,P,val,child,X⟩)=c2):=gW (if_pos l);clear l;gi_wp2_with (refine⟨trivial,rfl,?_⟩;refine CallsIn.mono (CallsIn.inRound i (dF.2 aB.o)) ?_;rintro _ bi ⟨rfl,aE⟩;have au:=gW aE;clear aE aB)
        refine⟨b,(But.ofBelow (S:=b) au.o).ing,λk hk=>.inl hk,λ_=>by rw[PS.o];exact g4.1,R,G1.o,g2,by rw[PS.o];exact AJ.o R _ ag bi bd.o (But.ofBelow au.o),by rw[PS.o];exact g4.skip,⟨pre++[⟨j,E,g,O,P,val,child,X⟩],G5.o.trans (by simp)⟩,λy f=>(UA.o y (bj _ f)).but (But.ofBelow (S:=λ_=>False) au.o) (λt C x d h=>h) (λt C x d=>((UA.o y (bj _ f)).rw t C).2.2 x d),ck.o.keep au.o,λk hk=>a6 (GX.o k hk) au.o.size⟩
       |true=>
        rw[l] at aB;have aO:Hid (pst Y rd r.rg c2 (Iv.it ⟨j,E,g,O,P,val,child,X⟩)=if (ldI rd (Iv.it ⟨j,E,g,O,P,val,child,X⟩)).1≠0 then Y.ybad c2 (ldI rd (Iv.it ⟨j,E,g,O,P,val,child,X⟩)).1 else Y.yl c2 (g,(ldI rd (Iv.it ⟨j,E,g,O,P,val,child,X⟩)).2)):=gW (if_neg (by show ¬has r.rg g=false;rw[l];decide))
        have PO:=gW (λ(a3:World)(hb:Below ag.heap.size ag a3)=>xI a3 aN rd (dN.o.keep hb).reads ⟨j,E,g,O,P,val,child,X⟩ (UX.o.ii.keep hb))
        obtain⟨rr,cI⟩:∃rr,ldI rd (Iv.it ⟨j,E,g,O,P,val,child,X⟩)=rr:=⟨_,rfl⟩;rw[cI] at aO PO;clear l cI;obtain⟨e1,vv⟩:=rr;unfold Iv.vl at PO;simp only[Iv.cs] at PO aO;gi_wp2_with (refine⟨trivial,rfl,?_⟩;refine CallsIn.mono (CallsIn.inRound i (dF.2 aB.o)) ?_;rintro _ bi ⟨rfl,aE⟩;have au:=gW aE;obtain⟨p0,p1,p2,p3⟩:=jp ((aE.block _ (ae.1 bB.o).1).trans bB.o);have cx:=(aE.cell (p:=⟨t3,0,none⟩) (block_lt_of_cell cb.o)).trans cb.o;have bG:=gW (PO.o bi aE);clear aE aB)
        refine⟨trivial,rfl,?_⟩;refine CallsIn.mono (CallsIn.inRound i (dF.2 bG.o)) ?_;rintro _ ac (⟨M,rfl,cU⟩|⟨M,a5,c5,rfl,hO,bK⟩)
        . dsimp only;have M:e1≠0:=M;have aX:=gW (bt au.o cU);have PS:Hid (pst Y rd r.rg c2 (Iv.it ⟨j,E,g,O,P,val,child,X⟩)=Y.ybad c2 e1):=gW (aO.o.trans (if_pos M));have eb:((e1:Int)==0)=false:=by simp[M]
          have ec:¬(e1:Int)=0:=by omega
          clear bG PO p0 p1 p2 p3 cx cU aO i0 i1 i2 i3 j0 j1 j2;have ay:=gW (al ac (.cells #[.slice none 0 0,.slice none 0 0] 45));have av:=ah ac (.cells #[.slice none 0 0,.slice none 0 0] 45);have bY:=size_alloc ac (.cells #[.slice none 0 0,.slice none 0 0] 45);obtain⟨N,a2⟩:∃V,V=ac.alloc (.cells #[.slice none 0 0,.slice none 0 0] 45):=⟨_,rfl⟩;rw[<-a2] at ay av bY;have ao:=gW (bt aX.o ay.o);have d0:=aX.o.size;have bF:=gW (AJ.o R _ ag N bd.o (But.ofBelow ao.o));have bZ:N.cell? ⟨W.heap.size,0,none⟩=some (.func (.yield aF) #[] #[]):=by rw[am _ _ _ _ _ _ ((ao.o.block W.heap.size (ae.1 bk.o).1).trans bk.o)];rfl
          have z0:N.cell? ⟨ac.heap.size,0,none⟩=some (.slice none 0 0):=by rw[am _ _ _ _ _ _ av];rfl
          have z1:N.cell? ⟨ac.heap.size,1,none⟩=some (.slice none 0 0):=by rw[am _ _ _ _ _ _ av];rfl
          obtain⟨fn,c0,c8,cQ,f,aD⟩:=YY.o R c2 N N #[.agg #[.slice none 0 0,.slice none 0 0],.int .i64 (e1:Int)] (Y.ybad c2 e1) true (λ_=>False) bF.o (But.refl _ _) (.inr ⟨e1,rfl,M,rfl,rfl,λ_ h=>h⟩) (λ_ h=>h.elim) (by omega) cc.o
          clear av ay;subst a2;gi_wp2
          generalize ac.alloc (.cells #[.slice none 0 0,.slice none 0 0] 45)=N at *;refine⟨rfl,RoundIn.mono (F:=Fence.wide.inRound i) aD ?_⟩;rintro e aP ⟨G6,h6,aL,l⟩;have HH:Hid (ap G6 (Y.ybad c2 e1) aP\/Jx G6 (Y.ybad c2 e1) aP):=gW (l.imp (λh=>h.2.2) (λh=>h.2.2))
          have bU:e=.returned (.bool true)\/e=.returned (.bool false):=l.imp (λh=>h.1) (λh=>h.1)
          have H6:=gW h6.nog;have ba:=gW aL;clear l h6 aL f aD bZ z0 z1
          have bx:Hid (∃F':Nat->Prop,But (λk=>b k\/bA k) ag aP/\(∀k,F' k->b k\/bA k\/aC.heap.size<=k)/\Y.ystp (pst Y rd r.rg c2 (Iv.it ⟨j,E,g,O,P,val,child,X⟩))=true/\InX ap Jx Y (W.heap.size+1) L (.exit 0) F' (aU,pst Y rd r.rg c2 (Iv.it ⟨j,E,g,O,P,val,child,X⟩)) aP):=gW ⟨λk=>G6 k\/j6 L k,((But.ofBelow (S:=b) ao.o).trans (H6.o.mono (T:=b) λk _ e=>(G1.o k).2 (.inl e)) (λ_ _ e=>e)).ing,λk hk=>by
           rcases hk with hk|hk
           . rcases ba.o k hk with h|h|h
             . exact .inl ((G1.o k).2 (.inl h))
             . exact h.elim
             . exact .inr (.inr (by omega))
           . exact .inl ((G1.o k).2 (.inr hk)),by rw[PS.o];exact aS _ _ M,G6,λk=>d9,λh=>by
           rcases ba.o _ h with h|h|h
           . exact g2 h
           . exact h.elim
           . omega,rfl,by rw[PS.o];exact aS _ _ M,by rw[PS.o];exact HH.o,λk hk=>by have:=GX.o k hk;have:=H6.o.size;omega,by have:=H6.o.size;omega⟩
          rcases bU with rfl|rfl
          all_goals
           gi_wp2
           exact bx.o
        . dsimp only at hO bK M ⊢;have M:e1=0:=M;subst M;have OO:=gW hO;have df:=gW bK;have aX:=gW (bt au.o hO.b);have PS:Hid (pst Y rd r.rg c2 (Iv.it ⟨j,E,g,O,P,val,child,X⟩)=Y.yl c2 (g,vv)):=gW (aO.o.trans (if_neg (by simp)))
          have ex:=au.o.size;clear bG PO p0 p1 p2 p3 cx hO bK aO i0 i1 i2 i3 j0 j1 j2;have ay:=gW (al ac (.cells #[.slice j g.length E,.slice a5 vv.length c5] 45));have av:=ah ac (.cells #[.slice j g.length E,.slice a5 vv.length c5] 45);have bY:=size_alloc ac (.cells #[.slice j g.length E,.slice a5 vv.length c5] 45);obtain⟨N,a2⟩:∃V,V=ac.alloc (.cells #[.slice j g.length E,.slice a5 vv.length c5] 45):=⟨_,rfl⟩;rw[<-a2] at ay av bY;have ao:=gW (bt aX.o ay.o);have d0:=aX.o.size;have bF:=gW (AJ.o R _ ag N bd.o (But.ofBelow ao.o));have bZ:N.cell? ⟨W.heap.size,0,none⟩=some (.func (.yield aF) #[] #[]):=by rw[am _ _ _ _ _ _ ((ao.o.block W.heap.size (ae.1 bk.o).1).trans bk.o)];rfl
          have z0:N.cell? ⟨ac.heap.size,0,none⟩=some (.slice j g.length E):=by rw[am _ _ _ _ _ _ av];rfl
          have z1:N.cell? ⟨ac.heap.size,1,none⟩=some (.slice a5 vv.length c5):=by rw[am _ _ _ _ _ _ av];rfl
          have aI:Hid (∀k,(∃y,a5=some y/\y.block=k)->bi.heap.size<=k/\k<N.heap.size):=gW (λk ⟨y,f,e⟩=>by
           subst e;exact⟨OO.o.fresh f,by have:=OO.o.r.lt f;omega⟩)
          have de:Hid (∀k,R k->k<ag.heap.size):=gW (λk hk=>SJ.o _ _ _ bd.o k hk)
          have KR:=gW ((UX.o.rw ⟨j,E,g⟩ (by simp[Iv.rows])))
          obtain⟨fn,c0,c8,cQ,f,aD⟩:=YY.o R c2 N N #[.agg #[.slice j g.length E,.slice a5 vv.length c5],.int .i64 0] (Y.yl c2 (g,vv)) false (λk=>(∃y,j=some y/\y.block=k)\/∃y,a5=some y/\y.block=k) bF.o (But.refl _ _)
           (.inl ⟨⟨j,E,g⟩,⟨a5,c5,vv⟩,rfl,KR.o.1.keep ao.o,KR.o.2.1,OO.o.r.keep ay.o,df.o,λx y d f e=>by have h1:=(be.o x.block ⟨x,d,rfl⟩).2.1;have h2:=(aI.o y.block ⟨y,f,rfl⟩).1;omega,rfl,rfl,g4.less HN.o,λk=>d9⟩)
           (λk hk=>by
             rcases hk with hk|hk
             . have h:=be.o k hk;exact⟨h.2.2,by omega,by omega⟩
             . have h:=aI.o k hk;exact⟨λe=>by have:=de.o k e;omega,by omega,h.2⟩) (by omega) cc.o
          clear av ay;subst a2;gi_wp2
          generalize ac.alloc (.cells #[.slice j g.length E,.slice a5 vv.length c5] 45)=N at *;refine⟨rfl,RoundIn.mono (F:=Fence.wide.inRound i) aD ?_⟩;rintro e aP ⟨G6,h6,aL,l⟩;have H6:=gW h6;have ba:=gW aL
          have BF:Hid (But b ag aP):=gW ((But.ofBelow (S:=b) ao.o).trans h6 (λk hk e=>by
           rcases e with e|⟨y,f,e⟩|e
           . exact(G1.o k).2 (.inl e)
           . exact(G1.o k).2 (.inr ⟨⟨j,E,g⟩,br.o _ bC _ (by simp[Iv.rows]),y,f,e⟩)
           . have:=(aI.o k e).1;omega))
          have GF:Hid (∀k,(G6 k\/j6 L k)->b k\/bA k\/aC.heap.size<=k):=gW (λk hk=>by
           rcases hk with hk|hk
           . rcases aL k hk with h|(⟨y,f,e⟩|e)|h
             . exact .inl ((G1.o k).2 (.inl h))
             . exact .inl ((G1.o k).2 (.inr ⟨⟨j,E,g⟩,br.o _ bC _ (by simp[Iv.rows]),y,f,e⟩))
             . exact .inr (.inr (by have:=(aI.o k e).1;omega))
             . exact .inr (.inr (by omega))
           . exact .inl ((G1.o k).2 (.inr hk)))
          have GM:Hid (¬G6 (W.heap.size+1)):=gW (λh=>by
           rcases aL _ h with h|(h|h)|h
           . exact g2 h
           . have:=(be.o _ h).1;omega
           . have:=(aI.o _ h).1;omega
           . omega)
          have ej:=h6.size;clear h6 aL f aD bZ z0 z1;rcases l with⟨rfl,hst6,hJ6⟩|⟨rfl,hst6,hJ6⟩
          . have aY:=gW (hst6 rfl);have J6:=gW hJ6;clear hst6 hJ6;gi_wp2
            refine⟨λk=>G6 k\/j6 L k,BF.o.ing,GF.o,λ_=>by rw[PS.o];exact aY.o,G6,λk=>d9,GM.o,by rw[PS.o];exact J6.o,by rw[PS.o];exact g4.yl dg.o aY.o,⟨pre++[⟨j,E,g,O,P,val,child,X⟩],G5.o.trans (by simp)⟩,λy f=>?_,?_,λk hk=>by have:=GX.o k hk;omega⟩
            . have ct:=(UA.o y (bj _ f)).but (Fc':=R) (But.ofBelow (S:=λ_=>False) ao.o) (λt C x d h=>h) (λt C x d=>((UA.o y (bj _ f)).rw t C).2.2 x d)
              have b5:∀t∈y.rows,∀x,t.a=some x->¬(R x.block\/(∃z,j=some z/\z.block=x.block)\/∃z,a5=some z/\z.block=x.block):=λt C x d e=>by
               rcases e with e|⟨z,M,e⟩|e
               . exact(ct.rw t C).2.2 x d e
               . exact c9.o y f ⟨j,E,g⟩ (by simp[Iv.rows]) t C z x M d e
               . have h1:=(aI.o _ e).1;have h2:=(RB.o x.block ⟨t,br.o y (bj _ f) t C,x,d,rfl⟩).2;omega
              refine ct.but H6.o b5 (λt C x d e=>?_)
              rcases ba.o _ e with h|h|h
              . exact b5 t C x d (.inl h)
              . exact b5 t C x d (.inr h)
              . have h2:=(RB.o x.block ⟨t,br.o y (bj _ f) t C,x,d,rfl⟩).2;omega
            . refine(ck.o.keep ao.o).but H6.o (λe=>?_)
              rcases e with e|e|e
              . exact g2 e
              . have:=(be.o _ e).1;omega
              . have:=(aI.o _ e).1;omega
          . have aY:=gW hst6;have J6:=gW hJ6;clear hst6 hJ6;gi_wp2
            exact⟨λk=>G6 k\/j6 L k,BF.o.ing,GF.o,by rw[PS.o];exact aY.o,G6,λk=>d9,GM.o,rfl,by rw[PS.o];exact aY.o,by rw[PS.o];exact .inr J6.o,λk hk=>by have:=GX.o k hk;omega,by omega⟩
      case done2=>
       rintro b s2 V hI J bM bN;obtain⟨R,g1,g2,g3,g4,g5,g6,g7,g8⟩:=hI;have J:s2.2=flw (λc (x:Iv)=>pst Y rd r.rg c x.it) Y.ystp (iH o L) s.c:=J
       have hc:D.c=s2.2:=bh.o.2.trans J.symm;gi_wp2
       refine⟨λk=>R k\/k=W.heap.size+1,?_,?_,λ_=>by show Y.ystp D.c=false;rw[hc];exact g4.1,R,λk=>d9,g2,by rw[hc];exact g3,g4.o bh.o.1 hc,by rw[bh.o.1];exact g7⟩
       . exact(But.ofBelow (S:=λk=>F k\/Gv k) aA.o).trans bM (λk hk e=>by
          rcases e with e|e
          . exact .inl ((aG.o k).2 (.inl e))
          . obtain⟨t,C,x,d,rfl⟩:=e;exact .inr ((hGv' _).2 ⟨by first|rfl|trivial,.inr ⟨t,C,x,d,rfl⟩⟩))
       . intro k hk;rcases hk with hk|hk
         . rcases bN k ((g1 k).2 (.inl hk)) with(h|⟨t,C,x,d,rfl⟩)|h
           . exact .inl ((aG.o k).2 (.inl h))
           . exact .inr (.inl ((hGv' _).2 ⟨by first|rfl|trivial,.inr ⟨t,C,x,d,rfl⟩⟩))
           . exact .inr (.inr (by omega))
         . exact .inl ((aG.o k).2 (.inr hk))
      case stop2=>
       rintro c b s2 V hI J bM bN;obtain⟨R,g1,g2,rfl,g4,g5,g6,g7⟩:=hI;have J:s2.2=flw (λc (x:Iv)=>pst Y rd r.rg c x.it) Y.ystp (iH o L) s.c:=J
       have hc:D.c=s2.2:=bh.o.2.trans J.symm;gi_wp2
       refine⟨λk=>R k\/k=W.heap.size+1,?_,?_,by show Y.ystp D.c=true;rw[hc];exact g4,R,λk=>d9,g2,g7,rfl,by rw[hc];exact g4,by rw[hc];exact g5⟩
       . exact(But.ofBelow (S:=λk=>F k\/Gv k) aA.o).trans bM (λk hk e=>by
          rcases e with e|e
          . exact .inl ((aG.o k).2 (.inl e))
          . obtain⟨t,C,x,d,rfl⟩:=e;exact .inr ((hGv' _).2 ⟨by first|rfl|trivial,.inr ⟨t,C,x,d,rfl⟩⟩))
       . intro k hk;rcases hk with hk|hk
         . rcases bN k ((g1 k).2 (.inl hk)) with(h|⟨t,C,x,d,rfl⟩)|h
           . exact .inl ((aG.o k).2 (.inl h))
           . exact .inr (.inl ((hGv' _).2 ⟨by first|rfl|trivial,.inr ⟨t,C,x,d,rfl⟩⟩))
           . exact .inr (.inr (by omega))
         . exact .inl ((aG.o k).2 (.inr hk))
    . have dy:kq=2:=by
       rcases cr.o.kind with h|h|h
       . exact absurd h bV
       . exact h
       . exact absurd h (jb.1 hlv').1
      have b:Hid (D={s with G:=no::s.G}):=gW (bb.o.trans (if_neg bV));subst dy;have dn:Hid (StP Y rd cn D):=gW ((bp.inn hrd' hng' (m:=0) (by omega)).o (by rw[b.o]) (by rw[b.o]))
      clear bb hrd' hlv' hng' hM' hGv' bP hP' bm hRb' bq;gi_wp2
      exact⟨F,(But.refl F _).ing,λk hk=>.inl hk,λ_=>by show Y.ystp D.c=false;rw[b.o];exact bp.1,v,ax,a0,by rw[b.o];exact bc.o,dn.o,by rw[b.o];exact cj.o⟩
  . have HC:Hid (D.c=Y.ybad s.c 15):=gW (by rcases hM' with⟨rfl,_⟩|⟨n,rfl,_⟩<;>rfl)
    simp only[jA];gi_wp2
    refine⟨al _ _,λτ af b4=>?_⟩
    have aw:=al aa (.cells #[.int .i64 0,.int .i64 0,.slice none 0 0,.slice none 0 0,.bool false,.int .i64 0,.int .i64 0,.slice none 0 0,.slice none 0 0,.int .i64 0] 151);have nw:=ah aa (.cells #[.int .i64 0,.int .i64 0,.slice none 0 0,.slice none 0 0,.bool false,.int .i64 0,.int .i64 0,.slice none 0 0,.slice none 0 0,.int .i64 0] 151);have sw:=size_alloc aa (.cells #[.int .i64 0,.int .i64 0,.slice none 0 0,.slice none 0 0,.bool false,.int .i64 0,.int .i64 0,.slice none 0 0,.slice none 0 0,.int .i64 0] 151);generalize aa.alloc (.cells #[.int .i64 0,.int .i64 0,.slice none 0 0,.slice none 0 0,.bool false,.int .i64 0,.int .i64 0,.slice none 0 0,.slice none 0 0,.int .i64 0] 151)=dp at *;have ar:=gW ((But.ofBelow (S:=λk=>k=I) aw).trans af (λ_ _ e=>e))
    have dZ:=af.size;have bc:=gW (AJ.o v _ aH τ hJ (((aT.mono (T:=λk=>¬v k/\W.heap.size<=k) λk _ e=>by have e:k=W.heap.size+1:=e;rw[e];exact⟨a0,by omega⟩).andBelow aw).trans af (λk _ e=>by have e:k=I:=e;rw[e];exact⟨λh=>cy ((ax I).2 (.inl h)),by omega⟩)))
    have bq:τ.cell? ⟨W.heap.size,0,none⟩=some (.func (.yield aF) #[] #[]):=by rw[am _ _ _ _ _ _ (ar.o.same bJ.o (λe=>by have e:W.heap.size=I:=e;omega))];rfl
    obtain⟨k0,k1,k2,k3,k4,k5,k6,k7,k8,k9⟩:=kE (af.same nw (λe=>by have e:aa.heap.size=I:=e;omega))
    obtain⟨fn,c0,c8,cQ,f,aD⟩:=YY.o v s.c τ τ #[.agg #[.slice none 0 0,.slice none 0 0],.int .i64 15] (Y.ybad s.c 15) true (λ_=>False) bc.o (But.refl _ _) (.inr ⟨15,rfl,by decide,rfl,rfl,λ_ h=>h⟩) (λ_ h=>h.elim) (by omega) b3
    have ea:aa.heap.size<=τ.heap.size:=by omega
    clear hM' hGv' bP bL aT az nX aw nw af;gi_wp2
    refine⟨rfl,RoundIn.mono (F:=Fence.wide.inRound I) aD ?_⟩;rintro e V5 ⟨G5,h5,cz,l⟩;have HH:Hid (ap G5 (Y.ybad s.c 15) V5\/Jx G5 (Y.ybad s.c 15) V5):=gW (l.imp (λh=>h.2.2) (λh=>h.2.2))
    have bU:e=.returned (.bool true)\/e=.returned (.bool false):=l.imp (λh=>h.1) (λh=>h.1)
    have H5:=gW h5.nog;have cg:=gW cz;clear l h5 cz f aD k0 k1 k2 k3 k4 k5 k6 k7 k8 k9 bq
    have bx:Hid (∃F':Nat->Prop,But (λk=>F k\/Gv k) τ V5/\(∀k,F' k->F k\/Gv k\/aa.heap.size<=k)/\(prM Y rd r.rg o).stp D=true/\PrX ap Jx Y (W.heap.size+1) 0 (.exit 0) F' D V5):=gW ⟨λk=>G5 k\/k=W.heap.size+1,(H5.o.mono (T:=F) λk _ e=>(ax k).2 (.inl e)).ing,λk hk=>by
     rcases hk with hk|hk
     . rcases cg.o k hk with h|h|h
       . exact .inl ((ax k).2 (.inl h))
       . exact h.elim
       . exact .inr (.inr (by omega))
     . exact .inl ((ax k).2 (.inr hk)),by show Y.ystp D.c=true;rw[HC.o];exact aS _ _ (by decide),G5,λk=>d9,λh=>by
     rcases cg.o _ h with h|h|h
     . exact a0 h
     . exact h.elim
     . omega,by have:=H5.o.size;omega,rfl,by rw[HC.o];exact aS _ _ (by decide),by rw[HC.o];exact HH.o⟩
    rcases bU with rfl|rfl
    all_goals
     gi_wp2
     exact bx.o
 case done=>
  rintro ak F s V hD bO ⟨v,Z,q2,q3,q4,q5⟩ J hB aR bQ;have J:s=ib (prM Y rd r.rg o) rd (iG r.rg) o (U-1).toNat ⟨[],s0⟩ (iV root U):=J;have b1:=gW (bf Pst.c J);have Q3:=gW q3;clear J q3 q4;go_wp2_with fail
  refine⟨by simp,.inl ⟨_,_,rfl,dc bQ,?_⟩⟩
  have bD:=(But.refl (λk=>k=ak) V).putObj (λ_=>rfl) (.deferred none)
  have cB:=ab.o.size
  refine⟨_,cw rfl _ _ _,v,s.c,⟨_,rfl⟩,((((But.ofBelow (S:=F0) ab.o).trans hB (λk hk e=>by
   rcases e with e|e
   . exact e
   . omega))).trans bD (λk hk e=>by have e:k=ak:=e;omega)),λk hk=>by
   rcases aR k ((Z k).2 (.inl hk)) with(h|h)|h
   . exact .inl h
   . exact .inr (by omega)
   . exact .inr (by omega),b1.o,.inl (AJ.o v _ V _ Q3.o (bD.mono λk _ e=>by have e:k=ak:=e;rw[e];exact⟨λh=>bO ((Z ak).2 (.inl h)),by omega⟩))⟩
 case stop=>
  rintro ak c F s V hD bO ⟨v,Z,q2,q3,rfl,q4,q5⟩ J hB aR bQ;have J:s=ib (prM Y rd r.rg o) rd (iG r.rg) o (U-1).toNat ⟨[],s0⟩ (iV root U):=J;have b1:=gW (bf Pst.c J);have Q5:=gW q5;clear J q4 q5;gi_wp2
  go_wp2_with fail
  refine⟨by simp,.inl ⟨_,_,rfl,dc bQ,?_⟩⟩
  have bD:=(But.refl (λk=>k=ak) V).putObj (λ_=>rfl) (.deferred none)
  have cB:=ab.o.size;have hm:But (λk=>¬v k/\W.heap.size<=k) V (V.putObj ak (.deferred none)):=bD.mono λk _ e=>by have e:k=ak:=e;rw[e];exact⟨λh=>bO ((Z ak).2 (.inl h)),by omega⟩
  refine⟨_,cw rfl _ _ _,v,s.c,⟨_,rfl⟩,((((But.ofBelow (S:=F0) ab.o).trans hB (λk hk e=>by
   rcases e with e|e
   . exact e
   . omega))).trans bD (λk hk e=>by have e:k=ak:=e;omega)),λk hk=>by
   rcases aR k ((Z k).2 (.inl hk)) with(h|h)|h
   . exact .inl h
   . exact .inr (by omega)
   . exact .inr (by omega),b1.o,Q5.o.imp (λh=>AJ.o v _ V _ h hm) (λh=>bw.o v _ V _ h hm)⟩
theorem uq{F:Fence}{q:Nat}{r e:TypeId}{sz bs:Nat}{z:Value}(P:prog.underlying r=some (.slice e))(ac:(prog.info? e).map (λi=>(i.zero,i.size,i.bytes))=some (some z,sz,bs))(T:z.cells.size=sz)(D:0<sz){w:World}{v:Array Oper}{y:List Oper}{o:Oper}{a:Act}{t:Exit->Act->World->Prop}(aa:o.guard=none)(s x:Operand)
 (p:o.op=.call {callee:=.builtin .append,args:=#[s,x],argTypes:=#[r,r]}) (b:Option Addr) (n cap:Nat) (C:List Value) (O:a.eval s=.slice b n cap) (H:Q.Gw e sz w b cap n C)
 (l:Addr) (c:Nat) (xs:List Value) (R:a.eval x=.slice (some l) 1 c) (J:xs.length=1*sz) (I:∀j u,xs[j]?=some u->w.cell? (l.add j)=some u) (E:∀u∈xs,u.oneCell'=true) (M:n+1<=maxLen) (ab:(n+1)*bs<=140737488355328)
 (h:∀g f d,Q.Gw e sz d (some ⟨g,0,none⟩) f (n+1) (C++xs)->New w b (some ⟨g,0,none⟩)->But (Q.InA b) w d->wpListIn F q prog v t y (a.put o.dst (.slice (some ⟨g,0,none⟩) (n+1) f)) d):wpListIn F q prog v t (o::y) a w:=by
 obtain⟨g,f,d,N,U,X,Y⟩:=r8 P ac T D w o.type b n cap C H l c xs J I E M ab;refine wpListIn_plain aa λae Z=>?_
 unfold Oper.wpIn;refine⟨?_,?_⟩
 . simp[Oper.about,p,resolve,Target.leads,dT]
 . rw[Oper.semAt_plain F _ _ (by rw[p];intro c K;cases K)]
   simp[execOp,p,resolve,invoke,builtin,O,R,N,Result.andThen];exact Z _ _ (h g f d U X Y)
theorem sP:(prog.info? 45).map (λi=>(i.zero,i.size,i.bytes))=some (some (.agg #[.slice none 0 0,.slice none 0 0]),2,48):=by kernel_rfl
def prv(C:List (Br×Br)):List Value:=(C.map λp=>[Value.slice p.1.a p.1.l.length p.1.c,Value.slice p.2.a p.2.l.length p.2.c]).flatten
def prR(C:List (Br×Br)):List Br:=(C.map λp=>[p.1,p.2]).flatten
def prl(C:List (Br×Br)):List (List Nat×List Nat):=C.map λp=>(p.1.l,p.2.l)
def prO(a:Option Addr)(C:List (Br×Br))(k:Nat):Prop:=(∃x,a=some x/\x.block=k)\/∃t∈prR C,∃x,t.a=some x/\x.block=k
theorem CZ(C:List (Br×Br))(p:Br×Br):prv C++[Value.slice p.1.a p.1.l.length p.1.c,Value.slice p.2.a p.2.l.length p.2.c]=prv (C++[p]):=by simp[prv]
theorem qo(C:List (Br×Br))(p:Br×Br):prR (C++[p])=prR C++[p.1,p.2]:=by simp[prR]
theorem uv(C:List (Br×Br))(p:Br×Br):prl (C++[p])=prl C++[(p.1.l,p.2.l)]:=by simp[prl]
theorem kK(C:List (Br×Br)):(prl C).length=C.length:=by simp[prl]
structure Prs(W:World)(a:Option Addr)(c:Nat)(C:List (Br×Br)):Prop where
 row:Q.Gw 45 2 W a c C.length (prv C)
 ok:∀t∈prR C,Rw W t.a t.c t.l/\B8 t.l
 ap:(prR C).Pairwise ji
theorem Prs.nil(W:World):Prs W none 0 []:=⟨Q.Gw.nil _ _ _,λt b=>(by cases b),.nil⟩
theorem Prs.but{C:List (Br×Br)}(h:Prs W a c C)(hb:But S W V)(e:∀k,prO a C k->¬S k):Prs V a c C:=
 ⟨h.row.but hb (λx d=>e _ (.inl ⟨x,d,rfl⟩)),λt b=>⟨(h.ok t b).1.but hb (λx d=>e _ (.inr ⟨t,b,x,d,rfl⟩)),(h.ok t b).2⟩,h.ap⟩
theorem Prs.keep5{C:List (Br×Br)}(h:Prs W a c C)(hb:Below W.heap.size W V):Prs V a c C:=h.but (S:=λ_=>False) (But.ofBelow hb) (λ_ _ h=>h)
theorem Prs.lt{C:List (Br×Br)}(h:Prs W a c C)(hk:prO a C k):k<W.heap.size:=by
 rcases hk with⟨x,hx,rfl⟩|⟨t,ht,x,hx,rfl⟩
 . obtain⟨d,b⟩:=h.row.blk hx;exact(ae.1 b).1
 . exact(h.ok t ht).1.lt hx
theorem Rw.blk{w:World}{l:List Nat}(h:Rw w a c l)(b:a=some x):∃cur,w.heap[x.block]?=some (.cells cur 5 (0,0)):=by
 rcases h.cases with⟨e1,_⟩|⟨g,cur,e1,hg,_⟩
 . rw[e1] at b;cases b
 . rw[e1] at b;cases b;exact⟨cur,hg⟩
theorem Prs.ne{C:List (Br×Br)}(h:Prs W a c C)(e:a=some x){t:Br}(d:Rw W t.a t.c t.l){y:Addr}(f:t.a=some y):y.block≠x.block:=by
 obtain⟨i,b⟩:=h.row.blk e;obtain⟨j,g⟩:=d.blk f;exact iP g b (by decide)
theorem Prs.app{W V:World}{a:Option Addr}{c:Nat}{C:List (Br×Br)}(h:Prs W a c C){K Vl:Br}(j:Rw W K.a K.c K.l/\B8 K.l)(l:Rw W Vl.a Vl.c Vl.l/\B8 Vl.l)(D:ji K Vl)(q:∀k,prO a C k->(¬ ∃x,K.a=some x/\x.block=k)/\¬ ∃x,Vl.a=some x/\x.block=k)
 {g i:Nat} (r:Q.Gw 45 2 V (some ⟨g,0,none⟩) i (C.length+1) (prv C++[Value.slice K.a K.l.length K.c,Value.slice Vl.a Vl.l.length Vl.c])) (p:But (Q.InA a) W V):Prs V (some ⟨g,0,none⟩) i (C++[(K,Vl)]):=by
 have f:∀t:Br,Rw W t.a t.c t.l->Rw V t.a t.c t.l:=λt ht=>ht.but p (λx d ⟨y,b,e⟩=>h.ne b ht d e.symm)
 refine⟨by rw[af,<-CZ];exact r,λt ht=>?_,?_⟩
 . rw[qo] at ht;rcases bG.1 ht with ht|ht
   . exact⟨f t (h.ok t ht).1,(h.ok t ht).2⟩
   . simp only[bN,bX,fL] at ht;rcases ht with rfl|rfl
     . exact⟨f _ j.1,j.2⟩
     . exact⟨f _ l.1,l.2⟩
 . rw[qo,dA];refine⟨h.ap,.cons (λt ht=>by simp only[bN,bX,fL] at ht;rw[ht];exact D) (.cons (λt ht=>by cases ht) .nil),λs v t ht x y d b e=>?_⟩
   have hk:=q x.block (.inr ⟨s,v,x,d,rfl⟩);simp only[bN,bX,fL] at ht;rcases ht with rfl|rfl
   . exact hk.1 ⟨y,b,e.symm⟩
   . exact hk.2 ⟨y,b,e.symm⟩
theorem ny{C:List (Br×Br)}{K V:Br}:prO a (C++[(K,V)]) k↔((∃x,a=some x/\x.block=k)\/(∃t∈prR C,∃x,t.a=some x/\x.block=k)\/(∃x,K.a=some x/\x.block=k)\/∃x,V.a=some x/\x.block=k):=by
 unfold prO;rw[qo];constructor
 . rintro(h|⟨t,ht,h⟩)
   . exact .inl h
   . rcases bG.1 ht with ht|ht
     . exact .inr (.inl ⟨t,ht,h⟩)
     . simp only[bN,bX,fL] at ht;rcases ht with rfl|rfl
       . exact .inr (.inr (.inl h))
       . exact .inr (.inr (.inr h))
 . rintro(h|⟨t,ht,h⟩|h|h)
   . exact .inl h
   . exact .inr ⟨t,eb _ ht,h⟩
   . exact .inr ⟨K,dP _ (by simp),h⟩
   . exact .inr ⟨V,dP _ (by simp),h⟩
def Yl:Yc (List (List Nat×List Nat)×Nat):=⟨λc p=>(c.1++[p],0),λc e=>(c.1,e),λc=>decide (c.2≠0)⟩
theorem zj:∀c e,e≠0->Yl.ystp (Yl.ybad c e)=true:=λc e h=>by simp[Yl,h]
theorem Ga:∀c p,(Yl.yl c p).1.length<=c.1.length+1:=λc p=>by simp[Yl]
def CoI(n:Nat)(F:Nat->Prop)(s:List (List Nat×List Nat)×Nat)(W:World):Prop:=
 ∃(a:Option Addr)(c:Nat)(C:List (Br×Br)),(∀k,F k↔(k=n\/k=n+1\/k=n+2\/prO a C k))/\Prs W a c C/\s=(prl C,0)/\W.heap[n]?=some (.cells #[.slice none 0 0] 60 (0,0))/\W.heap[n+1]?=some (.cells #[.int .i64 0] 39 (0,0))/\W.heap[n+2]?=some (.cells #[.slice a C.length c] 60 (0,0))/\∀k,prO a C k->n+2<k
def CoX(n:Nat)(F:Nat->Prop)(s:List (List Nat×List Nat)×Nat)(W:World):Prop:=
 (∀k,F k->k<W.heap.size)/\F n/\F (n+1)/\s.2≠0/\W.heap[n]?=some (.cells #[.slice none 0 0] 60 (0,0))/\W.heap[n+1]?=some (.cells #[.int .i64 (s.2:Int)] 39 (0,0))
theorem CoI.but{s:List (List Nat×List Nat)×Nat}(h:CoI n F s W)(hb:But S W V)(d:∀k,F k->¬S k):CoI n F s V:=by
 obtain⟨a,c,C,b,e,f,g,i,j,l⟩:=h;exact⟨a,c,C,b,e.but hb (λk hk=>d k ((b k).2 (.inr (.inr (.inr hk))))),f,hb.same g (d _ ((b _).2 (.inl rfl))),hb.same i (d _ ((b _).2 (.inr (.inl rfl)))),hb.same j (d _ ((b _).2 (.inr (.inr (.inl rfl))))),l⟩
theorem CoI.siz{s:List (List Nat×List Nat)×Nat}(h:CoI n F s W):∀k,F k->k<W.heap.size:=λk hk=>by
 obtain⟨a,c,C,b,d,f,g,i,e,j⟩:=h;have l:=(ae.1 e).1;rcases (b k).1 hk with rfl|rfl|rfl|hk
 . omega
 . omega
 . omega
 . exact d.lt hk
theorem CoX.but{s:List (List Nat×List Nat)×Nat}(h:CoX n F s W)(hb:But S W V)(e:∀k,F k->¬S k):CoX n F s V:=by
 obtain⟨f,b,d,g,i,j⟩:=h;exact⟨λk hk=>a6 (f k hk) hb.size,b,d,g,hb.same i (e _ b),hb.same j (e _ d)⟩
theorem AF(w:World):∃U:World,((w.alloc (.cells #[.slice none 0 0] 60)).alloc (.cells #[.int .i64 0] 39)).alloc (.cells #[.slice none 0 0] 60)=U/\CoI w.heap.size (λk=>k=w.heap.size\/k=w.heap.size+1\/k=w.heap.size+2) ([],0) U/\Below w.heap.size w U/\U.heap.size=w.heap.size+3:=by
 obtain⟨b,f⟩:∃U,w.alloc (.cells #[.slice none 0 0] 60)=U:=⟨_,rfl⟩;obtain⟨d,g⟩:∃U,b.alloc (.cells #[.int .i64 0] 39)=U:=⟨_,rfl⟩;obtain⟨e,i⟩:∃U,d.alloc (.cells #[.slice none 0 0] 60)=U:=⟨_,rfl⟩;have q:b.heap.size=w.heap.size+1:=by rw[<-f,size_alloc]
 have r:d.heap.size=w.heap.size+2:=by rw[<-g,size_alloc,q]
 have v:e.heap.size=w.heap.size+3:=by rw[<-i,size_alloc,r]
 have s:Below w.heap.size w b:=by rw[<-f];exact al _ _
 have l:Below b.heap.size b d:=by rw[<-g];exact al _ _
 have j:Below d.heap.size d e:=by rw[<-i];exact al _ _
 have y:b.heap[w.heap.size]?=some (.cells #[.slice none 0 0] 60 (0,0)):=by rw[<-f];exact ah _ _
 have C:d.heap[w.heap.size+1]?=some (.cells #[.int .i64 0] 39 (0,0)):=by rw[<-q,<-g];exact ah _ _
 have D:e.heap[w.heap.size+2]?=some (.cells #[.slice none 0 0] 60 (0,0)):=by rw[<-r,<-i];exact ah _ _
 have p:∀k,¬prO none [] k:=λk hk=>by
  rcases hk with⟨x,hx,_⟩|⟨t,ht,_⟩
  . cases hx
  . cases ht
 exact⟨e,by rw[f,g,i],⟨none,0,[],λk=>⟨λh=>by rcases h with h|h|h;exact .inl h;exact .inr (.inl h);exact .inr (.inr (.inl h)),λh=>by rcases h with h|h|h|h;exact .inl h;exact .inr (.inl h);exact .inr (.inr h);exact(p k h).elim⟩,Prs.nil _,rfl,(bt l j).block _ (by omega) |>.trans y,(j.block _ (by omega)).trans C,D,λk hk=>(p k hk).elim⟩,bt (bt s l) j,v⟩
theorem qC{b:Func}{p q:Tmp}{d e:TypeId}(h:b.results=#[.cell p d,.cell q e])(tmps:Array Value)(w:World)(g k:Nat)(v u:Value)
 (i:tmps.getD p undef=.pointer (some ⟨g,0,none⟩)) (j:tmps.getD q undef=.pointer (some ⟨k,0,none⟩)) (f:(loadVar d ⟨g,0,none⟩).run prog w=.ok v w) (l:(loadVar e ⟨k,0,none⟩).run prog w=.ok u w):
 (results b tmps).run prog w=.ok (.tuple #[v,u]) w:=by
 have r:tmps[p]?.getD undef=.pointer (some ⟨g,0,none⟩):=by simpa using i
 have s:tmps[q]?.getD undef=.pointer (some ⟨k,0,none⟩):=by simpa using j
 simp[results,h,r,s,asAddr,f,l]
theorem rk(w:World)(g:Nat)(v:Value)(b:w.cell? ⟨g,0,none⟩=some v):(loadVar 60 ⟨g,0,none⟩).run prog w=.ok v w:=by
 go_simp
def CoR(w w':World)(e:Ending)(s:List (List Nat×List Nat)×Nat):Prop:=
 (s.2≠0/\e=.returned (.tuple #[.slice none 0 0,.int .i64 (s.2:Int)]))\/(s.2=0/\∃(a:Option Addr)(c:Nat)(C:List (Br×Br)),e=.returned (.tuple #[.slice a C.length c,.int .i64 0])/\Prs w' a c C/\prl C=s.1/\∀k,prO a C k->w.heap.size<=k)
end Go.Proofs.YteaogidofpfmmaaGreat
