import Derived.Test.YtbdkogimlbnlmaaGreatWqB10
set_option linter.unusedVariables false
set_option linter.unusedSimpArgs false
set_option maxHeartbeats 6400000
set_option maxRecDepth 8000
namespace Go.Proofs.YtbdkogimlbnlmaaGreat
open Go.RowKit
variable {b k n:Nat}{p:Pg}{t:TypeId}{w w':World}
theorem pQ(w:World):Ig (w.alloc (.cells #[] 3)) (some ⟨w.heap.size,0,none⟩) 0 []:=by
 refine⟨rfl,.inr ⟨w.heap.size,0,#[],rfl,aF _,aH _ _,ai _,aF _,rfl,rfl⟩⟩
theorem Dj(w:World)(p:Pv)(hP:Pi w p)(hk:p.kind=2):Calls Tryz.prog 76 #[p.vl] w λe w'=>∃a c,e=.returned (.slice a (p.pg.kids).length c)/\IOwn w w' a c p.pg.kids:=by
 rw[lF p (by omega)]
 have hin:p.items.length<=2199023255489:=hP.it.2.1;have HP:=gZ (hP.keep (al w (.cells p.cs 31)));have B0:=gZ (Bx.new w 31 p.cs);have HW:=gZ (al w (.cells p.cs 31));obtain⟨v,hv⟩:∃v,w.alloc (.cells p.cs 31)=v:=⟨_,rfl⟩;rw[hv] at HP B0 HW;have PG:=gZ λ(w1:World)(hb:Below v.heap.size v w1)=>Bx.page (B0.o.keep hb)
 have HR:=gZ λ(w1:World)(hb:Below v.heap.size v w1)(k:Nat)(hk:k<p.items.length)=>(HP.o.it.keep hb).at hk
 have HKS:=gZ λ(k:Nat)(hk:k<p.items.length)=>kF p.kind p.items k hk
 have HKL:=gZ λ(k:Nat)=>(show(iG p.kind (p.items.take k)).length<=k from aU (kN _ _) (by rw[bh];omega))
 have HALL:Hid (p.items.take p.items.length=p.items):=cM;clear hP;obtain⟨kind,level,aI,cI,items,aD,cD,data,next⟩:=p
 unfold Pv.vl;simp only[Pv.cs] at *;subst hk;obtain⟨b0,b1,b2,b3,b4⟩:=PG.o _ (Below.refl _ _);go_enter Tryz.func76,Tryz.ntmps76;go_wp2;go_loopw [3,4] (λo i wx=>∃(k:Nat)(ak:Option Addr)(ck:Nat),k<=items.length/\i=.int .i64 k/\o=.slice ak (iG 2 (items.take k)).length ck/\IOwn v wx ak ck (iG 2 (items.take k))) (λ_ i _=>items.length-(intOf i).toNat)
 case atStart=>exact⟨0,_,0,aF _,rfl,rfl,pQ _,λx hx=>.inr (by cases hx;exact ai _),al _ _⟩
 case round=>
  clear hv b0 b1 b2 b3 b4;obtain⟨k,ak,ck,hk,rfl,rfl,hO⟩:=hrel;have O0:=gZ hO;obtain⟨c0,c1,c2,c3,c4⟩:=PG.o _ hO.b;clear hO;by_cases hlt:k<items.length
  . have hlti:(k:Int)<(items.length:Int):=by omega
    have hj1:=w64 (j:=k) (by omega)
    obtain⟨bI,off,rfl,hr⟩:=HR.o _ O0.o.b k hlt;obtain⟨k0,k1,k2,k3⟩:=iY hr;have HS1:=gZ (HKS.o k hlt);have HL1:=HKL.o k;clear hr HR HKS HKL;generalize items.getD k Iv.zero=x at *;have O1:=O0;obtain⟨aK,cK,key,aV,cV,val,child,size⟩:=x;simp only at *;generalize iG 2 (items.take k)=L at *;have HLE:Hid (L++[child]=iG 2 (items.take (k+1))):=by show _=_;rw[HS1.o];simp
    go_wp2_with (at_builtin;refine i9 rfl _ _ rfl ak L.length ck L rfl rfl (O1.o.r.keep ((Below.refl _ _).alloc (ai _) _)) ⟨wr.heap.size,0,none⟩ 1 child rfl ?c1 (by omega) ?_)
    try case c1=>simp
    intro g c2' w2 hR hN hg hlt2;have O2:=gZ (O1.o.step (al _ _) hR hN hg);rw[HLE.o] at O2;have HLN:=gZ (aY List.length HLE.o);clear hR hN hg;go_wp2;go_roundw
    case rel=>exact⟨k+1,_,c2',by omega,by first|(go_num;done)|exact aY (Value.int IntKind.i64) (by omega),by rw[<-HLN.o];simp,O2.o⟩
    case measure=>first|exact iA _ _ _ hj1 hlt|exact iA _ _ _ rfl hlt|(simp[intOf];omega)
  . obtain rfl:k=items.length:=by omega
    rw[HALL.o] at O0 ⊢;go_wp2;go_ret;exact⟨ak,ck,rfl,O0.o.r,O0.o.n.mono HW.o.size,bt HW.o O0.o.b⟩
theorem Du(w:World)(p:Pv)(hP:Pi w p)(hk:p.kind=1):Calls Tryz.prog 76 #[p.vl] w λe w'=>∃a c,e=.returned (.slice a (p.pg.kids).length c)/\IOwn w w' a c p.pg.kids:=by
 rw[lF p (by omega)]
 have hin:p.items.length<=2199023255489:=hP.it.2.1;have HP:=gZ (hP.keep (al w (.cells p.cs 31)));have B0:=gZ (Bx.new w 31 p.cs);have HW:=gZ (al w (.cells p.cs 31));obtain⟨v,hv⟩:∃v,w.alloc (.cells p.cs 31)=v:=⟨_,rfl⟩;rw[hv] at HP B0 HW;have PG:=gZ λ(w1:World)(hb:Below v.heap.size v w1)=>Bx.page (B0.o.keep hb)
 have HR:=gZ λ(w1:World)(hb:Below v.heap.size v w1)(k:Nat)(hk:k<p.items.length)=>(HP.o.it.keep hb).at hk
 have HKS:=gZ λ(k:Nat)(hk:k<p.items.length)=>kF p.kind p.items k hk
 have HKL:=gZ λ(k:Nat)=>(show(iG p.kind (p.items.take k)).length<=k from aU (kN _ _) (by rw[bh];omega))
 have HALL:Hid (p.items.take p.items.length=p.items):=cM;clear hP;obtain⟨kind,level,aI,cI,items,aD,cD,data,next⟩:=p
 unfold Pv.vl;simp only[Pv.cs] at *;subst hk;obtain⟨b0,b1,b2,b3,b4⟩:=PG.o _ (Below.refl _ _);go_enter Tryz.func76,Tryz.ntmps76;go_wp2;go_loopw [3,4] (λo i wx=>∃(k:Nat)(ak:Option Addr)(ck:Nat),k<=items.length/\i=.int .i64 k/\o=.slice ak (iG 1 (items.take k)).length ck/\IOwn v wx ak ck (iG 1 (items.take k))) (λ_ i _=>items.length-(intOf i).toNat)
 case atStart=>exact⟨0,_,0,aF _,rfl,rfl,pQ _,λx hx=>.inr (by cases hx;exact ai _),al _ _⟩
 case round=>
  clear hv b0 b1 b2 b3 b4;obtain⟨k,ak,ck,hk,rfl,rfl,hO⟩:=hrel;have O0:=gZ hO;obtain⟨c0,c1,c2,c3,c4⟩:=PG.o _ hO.b;clear hO;by_cases hlt:k<items.length
  . have hlti:(k:Int)<(items.length:Int):=by omega
    have hj1:=w64 (j:=k) (by omega)
    obtain⟨bI,off,rfl,hr⟩:=HR.o _ O0.o.b k hlt;obtain⟨k0,k1,k2,k3⟩:=iY hr;have HS1:=gZ (HKS.o k hlt);have HL1:=HKL.o k;clear hr HR HKS HKL;generalize items.getD k Iv.zero=x at *;have O1:=O0;obtain⟨aK,cK,key,aV,cV,val,child,size⟩:=x;simp only at *;generalize iG 1 (items.take k)=L at *;by_cases h0:child=0
    . subst h0;have HLE:Hid (L=iG 1 (items.take (k+1))):=by show _=_;rw[HS1.o];simp
      go_wp2;go_roundw
      case rel=>exact⟨k+1,ak,ck,by omega,by first|(go_num;done)|exact aY (Value.int IntKind.i64) (by omega),by rw[<-HLE.o],by rw[<-HLE.o];exact O1.o⟩
      case measure=>first|exact iA _ _ _ hj1 hlt|exact iA _ _ _ rfl hlt|(simp[intOf];omega)
    . have h0':(child==0)=false:=by simpa using h0
      have HLE:Hid (L++[child]=iG 1 (items.take (k+1))):=by show _=_;rw[HS1.o];simp[h0]
      go_wp2_with (at_builtin;refine i9 rfl _ _ rfl ak L.length ck L rfl rfl (O1.o.r.keep ((Below.refl _ _).alloc (ai _) _)) ⟨wr.heap.size,0,none⟩ 1 child rfl ?c1 (by omega) ?_)
      try case c1=>simp
      intro g c2' w2 hR hN hg hlt2;have O2:=gZ (O1.o.step (al _ _) hR hN hg);rw[HLE.o] at O2;have HLN:=gZ (aY List.length HLE.o);clear hR hN hg;go_wp2;go_roundw
      case rel=>exact⟨k+1,_,c2',by omega,by first|(go_num;done)|exact aY (Value.int IntKind.i64) (by omega),by rw[<-HLN.o];simp,O2.o⟩
      case measure=>first|exact iA _ _ _ hj1 hlt|exact iA _ _ _ rfl hlt|(simp[intOf];omega)
  . obtain rfl:k=items.length:=by omega
    rw[HALL.o] at O0 ⊢;go_wp2;go_ret;exact⟨ak,ck,rfl,O0.o.r,O0.o.n.mono HW.o.size,bt HW.o O0.o.b⟩
theorem vW(w:World)(p:Pv)(hP:Pi w p)(h1:p.kind≠1)(h2:p.kind≠2):Calls Tryz.prog 76 #[p.vl] w λe w'=>∃a c,e=.returned (.slice a (p.pg.kids).length c)/\IOwn w w' a c p.pg.kids:=by
 have hk:p.pg.kids=if p.kind=3/\p.next≠0 then [p.next] else []:=by
  unfold Pg.kids;rw[if_neg (show ¬p.pg.kind=2 from h2),if_neg (show ¬p.pg.kind=1 from h1)]
  rfl
 have HK:=gZ hk;generalize p.pg.kids=L at *;clear hk;have hin:p.items.length<=2199023255489:=hP.it.2.1;have B0:=gZ (Bx.new w 31 p.cs);have HW:=gZ (al w (.cells p.cs 31));obtain⟨v,hv⟩:∃v,w.alloc (.cells p.cs 31)=v:=⟨_,rfl⟩;rw[hv] at B0 HW;have PG:=gZ λ(w1:World)(hb:Below v.heap.size v w1)=>Bx.page (B0.o.keep hb)
 clear hP;obtain⟨kind,level,aI,cI,items,aD,cD,data,next⟩:=p
 unfold Pv.vl;simp only[Pv.cs] at *;have h1':(kind==1)=false:=by simpa using h1
 have h2':(kind==2)=false:=by simpa using h2
 go_enter Tryz.func76,Tryz.ntmps76;go_wp2;generalize items.length=n at *;go_loopw [3,4] (λo i wx=>∃(k:Nat)(ak:Option Addr)(ck:Nat),k<=n/\i=.int .i64 k/\o=.slice ak 0 ck/\IOwn v wx ak ck []) (λ_ i _=>n-(intOf i).toNat)
 case atStart=>exact⟨0,_,0,aF _,rfl,rfl,pQ _,λx hx=>.inr (by cases hx;exact ai _),al _ _⟩
 case round=>
  clear hv;obtain⟨k,ak,ck,hk,rfl,rfl,hO⟩:=hrel;have O0:=gZ hO;obtain⟨c0,c1,c2,c3,c4⟩:=PG.o _ hO.b;clear hO;by_cases hlt:k<n
  . have hlti:(k:Int)<(n:Int):=by omega
    have hj1:=w64 (j:=k) (by omega)
    go_wp2;go_roundw
    case rel=>exact⟨k+1,ak,ck,by omega,by first|(go_num;done)|exact aY (Value.int IntKind.i64) (by omega),rfl,O0.o⟩
    case measure=>first|exact iA _ _ _ hj1 hlt|exact iA _ _ _ rfl hlt|(simp[intOf];omega)
  . obtain rfl:k=n:=by omega
    by_cases h3:kind=3
    . subst h3;by_cases h0:next=0
      . subst h0;have hL:L=[]:=by rw[HK.o];exact if_neg (λh=>h.2 rfl)
        clear HK;subst hL;go_wp2;go_ret;exact⟨ak,ck,rfl,O0.o.r,O0.o.n.mono HW.o.size,bt HW.o O0.o.b⟩
      . have h0':(next==0)=false:=by simpa using h0
        have hL:L=[next]:=by rw[HK.o];exact if_pos ⟨rfl,h0⟩
        clear HK;subst hL;go_wp2_with (at_builtin;refine i9 rfl _ _ rfl ak 0 ck [] rfl rfl (O0.o.r.keep ((Below.refl _ _).alloc (ai _) _)) ⟨wr.heap.size,0,none⟩ 1 next rfl ?c1 (by decide) ?_)
        try case c1=>simp
        intro g c2' w2 hR hN hg hlt2;have O2:=gZ (O0.o.step (al _ _) hR hN hg);clear hR hN hg;go_wp2;go_ret;exact⟨_,c2',rfl,O2.o.r,O2.o.n.mono HW.o.size,bt HW.o O2.o.b⟩
    . have h3':(kind==3)=false:=by simpa using h3
      have hL:L=[]:=by rw[HK.o];exact if_neg (λh=>h3 h.1)
      clear HK;subst hL;go_wp2;go_ret;exact⟨ak,ck,rfl,O0.o.r,O0.o.n.mono HW.o.size,bt HW.o O0.o.b⟩
theorem rS(w:World)(p:Pv)(hP:Pi w p):Calls Tryz.prog 76 #[p.vl] w λe w'=>∃a c,e=.returned (.slice a (p.pg.kids).length c)/\IOwn w w' a c p.pg.kids:=by
 by_cases h1:p.kind=1
 . exact Du w p hP h1
 . by_cases h2:p.kind=2
   . exact Dj w p hP h2
   . exact vW w p hP h1 h2
theorem mF(w:World)(n:Int):Calls Tryz.prog 129 #[.int .i64 n] w λe w'=>e=.returned (.bool (jT n))/\w'=w:=by
 unfold jT;by_cases h1:1<=n
 . have h1':decide (1<=n)=true:=by simpa using h1
   go_enter Tryz.func129,Tryz.ntmps129;go_wp2;go_ret;exact⟨by simp[h1],rfl⟩
 . have h1':decide (1<=n)=false:=by simpa using h1
   go_enter Tryz.func129,Tryz.ntmps129;go_wp2;go_ret;exact⟨by simp,rfl⟩
theorem mw{a b:Bool}(h:a=b):Ending.returned (.bool a)=.returned (.bool b):=by rw[h]
theorem nO(w:World)(p:Pv):Calls Tryz.prog 125 #[p.vl] w λe w'=>e=.returned (.bool p.pg.form)/\Below w.heap.size w w':=by
 unfold Pv.vl Pv.cs Pg.form Pv.pg;simp only[a7];obtain⟨kind,level,aI,cI,items,aD,cD,data,next⟩:=p
 dsimp only;generalize items.length=n;generalize data.length=d;by_cases k3:kind=3
 . subst k3;go_enter Tryz.func125,Tryz.ntmps125;go_wp2
   all_goals (go_ret;refine⟨mw ?_,al _ _⟩;first|grind|(simp;grind)|(simp[lL];grind))
 . have k3':(kind==3)=false:=by simpa using k3
   rw[if_neg k3];by_cases k1:kind=1
   . subst k1;go_enter Tryz.func125,Tryz.ntmps125;go_wp2
     all_goals (go_ret;refine⟨mw ?_,al _ _⟩;first|grind|(simp;grind)|(simp[lL];grind))
   . have k1':(kind==1)=false:=by simpa using k1
     rw[if_neg k1];go_enter Tryz.func125,Tryz.ntmps125;go_wp2
     all_goals (go_ret;refine⟨mw ?_,al _ _⟩;first|grind|(simp;grind)|(simp[lL];grind))
theorem uc(w:World)(p:Pv)(i:Nat)(hP:Pi w p)(hi:i<p.items.length):Calls Tryz.prog 126 #[p.vl,.int .i64 (i:Int)] w λe w'=>e=.returned (.bool (p.pg.keyOk i))/\Below w.heap.size w w':=by
 obtain⟨bI,off,hbo,hr⟩:=(hP.it.keep (al w (.cells p.cs 31))).at hi;obtain⟨k0,k1,k2,k3⟩:=iY hr;have hiI:(i:Int)<(p.items.length:Int):=by omega
 unfold Pg.keyOk;rw[Pv.at];generalize p.items.getD i Iv.zero=x at *;clear hr hP k1 k2 k3;obtain⟨kind,level,aI,cI,items,aD,cD,data,next⟩:=p
 unfold Pv.vl Iv.it;simp only[Pv.cs,Pv.pg] at *;subst hbo;generalize x.key.length=n at *;by_cases hk:kind=2/\i=0
 . obtain⟨rfl,rfl⟩:=hk;simp only[dR,bY] at k0;go_enter Tryz.func126,Tryz.ntmps126;go_wp2
   all_goals (go_ret;refine⟨mw ?_,al _ _⟩;first|grind|(simp;grind)|(simp[lL];grind))
 . by_cases k2:kind=2
   . subst k2;have i0:((i:Int)==0)=false:=by simp;omega
     go_enter Tryz.func126,Tryz.ntmps126;go_wp2
     all_goals (go_ret;refine⟨mw ?_,al _ _⟩;first|grind|(simp;grind)|(simp[lL];grind))
   . have k2':(kind==2)=false:=by simpa using k2
     go_enter Tryz.func126,Tryz.ntmps126;go_wp2
     all_goals (go_ret;refine⟨mw ?_,al _ _⟩;first|grind|(simp;grind)|(simp[lL];grind))
theorem qd(w:World)(p:Pv)(x:Iv):Calls Tryz.prog 127 #[p.vl,x.vl] w λe w'=>e=.returned (.bool (x.it.valOk p.kind))/\Below w.heap.size w w':=by
 unfold It.valOk;obtain⟨kind,level,aI,cI,items,aD,cD,data,next⟩:=p
 obtain⟨aK,cK,key,aV,cV,val,child,size⟩:=x;unfold Pv.vl Iv.vl Iv.it;simp only[Pv.cs,Iv.cs];generalize val.length=n;by_cases k2:kind=2
 . subst k2;go_enter Tryz.func127,Tryz.ntmps127;go_wp2
   all_goals (go_ret;refine⟨mw ?_,bt (al _ _) (al _ _)⟩;first|grind|(simp;grind)|(simp[lL];grind))
 . have k2':(kind==2)=false:=by simpa using k2
   rw[if_neg k2];go_enter Tryz.func127,Tryz.ntmps127;go_wp2
   all_goals (go_ret;refine⟨mw ?_,bt (al _ _) (al _ _)⟩;first|grind|(simp;grind)|(simp[lL];grind))
theorem qo(w:World)(p:Pv)(x:Iv):Calls Tryz.prog 128 #[p.vl,x.vl] w λe w'=>e=.returned (.bool (x.it.kidOk p.kind))/\Below w.heap.size w w':=by
 unfold It.kidOk;obtain⟨kind,level,aI,cI,items,aD,cD,data,next⟩:=p
 obtain⟨aK,cK,key,aV,cV,val,child,size⟩:=x;unfold Pv.vl Iv.vl Iv.it;simp only[Pv.cs,Iv.cs];by_cases k2:kind=1/\size<=32
 . obtain⟨rfl,h32⟩:=k2;have h32':decide (size<=32)=true:=by simpa using h32
   rw[if_pos ⟨rfl,h32⟩];go_enter Tryz.func128,Tryz.ntmps128;go_wp2
   all_goals (go_ret;refine⟨mw ?_,bt (al _ _) (al _ _)⟩;simp[lL])
 . rw[if_neg k2];by_cases k1:kind=1
   . subst k1;have h32':decide (size<=32)=false:=by simp;omega
     go_enter Tryz.func128,Tryz.ntmps128;go_wp2_with (go_at_call 129;refine(mF _ _).mono ?_;rintro y w1 ⟨rfl,hww⟩;obtain rfl:=hww.symm)
     go_ret;exact⟨rfl,bt (al _ _) (al _ _)⟩
   . have k1':(kind==1)=false:=by simpa using k1
     go_enter Tryz.func128,Tryz.ntmps128;go_wp2_with (go_at_call 129;refine(mF _ _).mono ?_;rintro y w1 ⟨rfl,hww⟩;obtain rfl:=hww.symm)
     go_ret;exact⟨rfl,bt (al _ _) (al _ _)⟩
theorem tC(h:p.formE=0)(h0:iN p.itemE k=0)(hk:k<p.items.length)(hx:p.itemE k≠0):p.check=p.itemE k:=by
 obtain⟨h1,h2⟩:=iZ h;unfold Pg.check;rw[if_neg (by rw[h1];simp),if_neg (by rw[h2];simp),oY h0 hx _ hk,if_pos hx]
theorem rP(h:p.formE=0)(h0:iN p.itemE p.items.length=0):p.check=if p.nextOk=false then 15 else 0:=by
 obtain⟨h1,h2⟩:=iZ h;unfold Pg.check;rw[if_neg (by rw[h1];simp),if_neg (by rw[h2];simp),h0,if_neg (by simp)]
theorem ju{a:Nat}(h:b=a):Ending.returned (.int .i64 (a:Int))=.returned (.int .i64 (b:Int)):=by rw[h]
theorem sG{bI off:Nat}{L:List Iv}(h:Js w (some ⟨bI,off,none⟩) L)(hk:k<L.length):w.cell? ⟨bI,off+k*4,none⟩=some (.slice (L.getD k Iv.zero).aK (L.getD k Iv.zero).key.length (L.getD k Iv.zero).cK)/\w.cell? ⟨bI,off+k*4+1,none⟩=some (.slice (L.getD k Iv.zero).aV (L.getD k Iv.zero).val.length (L.getD k Iv.zero).cV)/\w.cell? ⟨bI,off+k*4+2,none⟩=some (.int .i64 (L.getD k Iv.zero).child)/\w.cell? ⟨bI,off+k*4+3,none⟩=some (.int .i64 (L.getD k Iv.zero).size):=by
 obtain⟨b2,o2,e2,r2⟩:=h.at hk;simp only[aE,Addr.mk.injEq,dT] at e2;obtain⟨rfl,rfl⟩:=e2;exact iY r2
theorem rA(w:World)(p:Pv)(hP:Pi w p)(hf:p.pg.formE=0)(k1:p.kind=1\/p.kind=2):Calls Tryz.prog 68 #[p.vl] w λe w'=>e=.returned (.int .i64 (p.pg.check:Int))/\Below w.heap.size w w':=by
 have HP:=gZ (hP.keep (al w (.cells p.cs 31)));have hin:p.items.length<=2199023255489:=hP.it.2.1;have B0:=gZ (Bx.new w 31 p.cs);have HW:=gZ (al w (.cells p.cs 31));obtain⟨v,hv⟩:∃v,w.alloc (.cells p.cs 31)=v:=⟨_,rfl⟩;rw[hv] at HP B0 HW;have PG:=gZ λ(w1:World)(hb:Below v.heap.size v w1)=>Bx.page (B0.o.keep hb)
 have FO:=gZ λ(w1:World)=>nO w1 p
 have HX:=gZ (iZ hf);have HKD:=gZ (Pg.kindOk_iff.1 (iZ hf).1);have KYA:=gZ λ(k:Nat)(hk:k<p.items.length)(w1:World)(hb:Below v.heap.size v w1)=>uc w1 p k (HP.o.keep hb) hk
 have VAA:=gZ λ(x:Iv)(w1:World)(hb:Below v.heap.size v w1)=>qd w1 p x
 have CHA:=gZ λ(x:Iv)(w1:World)(hb:Below v.heap.size v w1)=>qo w1 p x
 have HEA:=gZ λ(k:Nat)(h0:iN p.pg.itemE k=0)(hk:k<p.items.length)(x:Nat)(hx:x≠0)(e:p.pg.itemE k=x)=>(show p.pg.check=x from by
  rw[tC hf h0 (by simpa[Pv.pg] using hk) (by rw[e];exact hx),e])
 have HEN:=gZ λ(h0:iN p.pg.itemE p.items.length=0)=>(rP hf (by simpa[Pv.pg] using h0))
 have HIT:=gZ λk=>(show p.pg.itemE k=if p.pg.keyOk k=false then 7 else if (decide (k=0)||decide (0<iI (p.items.getD k Iv.zero).key (p.items.getD (k-1) Iv.zero).key))=false then 11 else if (p.items.getD k Iv.zero).it.valOk p.kind=false then 8 else if (p.items.getD k Iv.zero).it.kidOk p.kind=false then 15 else 0 from by
  unfold Pg.itemE Pg.ordOk;rw[Pv.at,Pv.at];rfl)
 have HNL:=gZ λ(h:p.kind=3)=>(show p.items.length=0 from by have h2:=(iZ hf).2;unfold Pg.form at h2;rw[if_pos (show p.pg.kind=3 from h)] at h2;simp[Pv.pg] at h2;rw[h2.1.1.2];rfl)
 have HNX:Hid (p.pg.nextOk= !(decide (p.kind=3)&&decide (p.next≠0)&& !jT p.next)):=rfl;rw[HX.o.2] at FO;have hpk:p.pg.kind=p.kind:=rfl;rw[hpk] at HKD;clear hpk HX hP hf;generalize p.pg.check=ans at *;generalize p.pg.itemE=f at *;generalize p.pg.nextOk=nx at *;obtain⟨kind,level,aI,cI,items,aD,cD,data,next⟩:=p
 unfold Pv.vl;simp only[Pv.cs,Pv.vl] at *;rcases k1 with rfl|rfl
 all_goals
  obtain⟨b0,b1,b2,b3,b4⟩:=PG.o _ (Below.refl _ _);go_enter Tryz.func68,Tryz.ntmps68;go_wp2_with fail
  refine(FO.o _).mono ?_;rintro y w1 ⟨rfl,hb⟩;have T1:=gZ hb;clear hb hv FO b0 b1 b2 b3 b4;obtain⟨c0,c1,c2,c3,c4⟩:=PG.o _ T1.o;go_wp2;go_loopw [3] (λi wx=>∃k:Nat,k<=items.length/\i=.int .i64 k/\Below v.heap.size v wx/\iN f k=0) (λi _=>items.length-(intOf i).toNat)
  case atStart=>exact⟨0,aF _,rfl,T1.o,rfl⟩
  case round=>
   clear T1 c0 c1 c2 c3 c4;obtain⟨k,hk,rfl,hT,h0⟩:=hrel;have T1:=gZ hT;have H0:=gZ h0;clear hT h0;obtain⟨c0,c1,c2,c3,c4⟩:=PG.o _ T1.o;by_cases hlt:k<items.length
   . have hlti:(k:Int)<(items.length:Int):=by omega
     have hj1:=w64 (j:=k) (by omega)
     have KY:=gZ (KYA.o k hlt);have VA:=gZ (VAA.o (items.getD k Iv.zero));have CH:=gZ (CHA.o (items.getD k Iv.zero));have HE:=gZ (HEA.o k H0.o hlt);have E4:=gZ (HIT.o k);obtain⟨bI,off,rfl⟩:∃bI off,aI=some ⟨bI,off,none⟩:=by obtain⟨b2,o2,e2,_⟩:=HP.o.it.at hlt;exact⟨b2,o2,e2⟩
     have HR:=gZ λ(w1:World)(hb:Below v.heap.size v w1)=>sG (HP.o.it.keep hb) hlt
     have hlq:k-1<items.length:=by omega
     have HQ:=gZ λ(w1:World)(hb:Below v.heap.size v w1)=>(sG (HP.o.it.keep hb) hlq).1
     have CM:=gZ λ(w1:World)(hb:Below v.heap.size v w1)=>pq w1 (items.getD k Iv.zero).aK (items.getD (k-1) Iv.zero).aK _ _ (items.getD k Iv.zero).cK (items.getD (k-1) Iv.zero).cK (items.getD k Iv.zero).key (items.getD (k-1) Iv.zero).key ((HP.o.it.keep hb).1 _ (iy hlt)).bk ((HP.o.it.keep hb).1 _ (iy hlq)).bk rfl rfl
     generalize items.getD k Iv.zero=x at *;generalize items.getD (k-1) Iv.zero=y at *;simp only[Iv.vl] at VA CH;generalize Pg.keyOk _ k=kk at *;generalize hvv:x.it.valOk _=vv at *;generalize hcc:x.it.kidOk _=cc at *;clear hvv hcc;generalize iI x.key y.key=z at *;obtain⟨aK,cK,key,aV,cV,val,child,size⟩:=x;obtain⟨yaK,ycK,yk,yaV,ycV,yval,ychild,ysize⟩:=y;simp only[Iv.cs] at *;clear KYA VAA CHA HEA HIT HEN;by_cases hk0:k=0
     . subst hk0;simp only[dR,bY] at HR;go_wp2_with fail
       refine(KY.o _ T1.o).mono ?_;rintro y w1 ⟨rfl,hb⟩;have T1:=gZ (bt T1.o hb);clear hb;obtain⟨c0,c1,c2,c3,c4⟩:=PG.o _ T1.o;cases kk with
       |false=>
        go_wp2;go_ret;exact⟨ju (HE.o 7 (by decide) (by simp[E4.o])),bt HW.o T1.o⟩
       |true=>
        go_wp2;have T1:=gZ (bt T1.o (dr1 _));have S1:=And.intro (PG.o _ T1.o) (HR.o _ T1.o);refine bE (S:=λw'=>(w'.cell? ⟨w.heap.size,0,none⟩=some (.int .i64 _)/\w'.cell? ⟨w.heap.size,1,none⟩=some (.int .i64 level)/\w'.cell? ⟨w.heap.size,2,none⟩=some (.slice (some ⟨bI,off,none⟩) items.length cI)/\w'.cell? ⟨w.heap.size,3,none⟩=some (.slice aD data.length cD)/\w'.cell? ⟨w.heap.size,4,none⟩=some (.int .i64 next))/\(w'.cell? ⟨bI,off,none⟩=some (.slice aK key.length cK)/\w'.cell? ⟨bI,off+1,none⟩=some (.slice aV val.length cV)/\w'.cell? ⟨bI,off+2,none⟩=some (.int .i64 child)/\w'.cell? ⟨bI,off+3,none⟩=some (.int .i64 size))) (by kernel_rfl) (by exact S1) (λhHeld=>?_)
        refine tkb 0 1 ?_;refine tk 2 ?_;refine tu 3 ?_;refine tu 4 ?_;refine tu 5 ?_;refine tu 6 ?_;refine tu 7 ?_;refine tu 8 ?_;refine tu 9 ?_;refine tu 10 ?_;refine tu 11 ?_;refine tu 12 ?_;refine tu 13 ?_;refine tu 14 ?_;refine tu 15 ?_;refine tu 16 ?_;refine tu 17 ?_;refine tk 18 ?_;refine td ?_;clear S1;go_wp2;have T1:=gZ (bt T1.o (dr1 _));have S1:=And.intro (PG.o _ T1.o) (HR.o _ T1.o);refine bE (S:=λw'=>(w'.cell? ⟨w.heap.size,0,none⟩=some (.int .i64 _)/\w'.cell? ⟨w.heap.size,1,none⟩=some (.int .i64 level)/\w'.cell? ⟨w.heap.size,2,none⟩=some (.slice (some ⟨bI,off,none⟩) items.length cI)/\w'.cell? ⟨w.heap.size,3,none⟩=some (.slice aD data.length cD)/\w'.cell? ⟨w.heap.size,4,none⟩=some (.int .i64 next))/\(w'.cell? ⟨bI,off,none⟩=some (.slice aK key.length cK)/\w'.cell? ⟨bI,off+1,none⟩=some (.slice aV val.length cV)/\w'.cell? ⟨bI,off+2,none⟩=some (.int .i64 child)/\w'.cell? ⟨bI,off+3,none⟩=some (.int .i64 size))) (by kernel_rfl) (by exact S1) (λhHeld=>?_)
        refine tkd 0 1 2 3 ?_;refine tkb 4 5 ?_;refine tw 6 λK hK=>?_
        go_simp;refine(VA.o _ T1.o).mono ?_;rintro e w9 ⟨rfl,hb⟩;have T1:=gZ (bt T1.o hb);have S1:=And.intro (PG.o _ T1.o) (HR.o _ T1.o);clear hb;go_wp2_with fail
        refine hK.o _ _ (by exact S1) (λhHeld=>?_)
        clear hK K;try simp only[pt]
        refine tk 7 ?_;refine td ?_;clear S1;cases vv with
        |false=>
         go_wp2;go_ret;exact⟨ju (HE.o 8 (by decide) (by rw[E4.o];first|(simp;done)|(simp;omega))),bt HW.o T1.o⟩
        |true=>
         go_wp2;have T1:=gZ (bt T1.o (dr1 _));have S1:=And.intro (PG.o _ T1.o) (HR.o _ T1.o);refine bE (S:=λw'=>(w'.cell? ⟨w.heap.size,0,none⟩=some (.int .i64 _)/\w'.cell? ⟨w.heap.size,1,none⟩=some (.int .i64 level)/\w'.cell? ⟨w.heap.size,2,none⟩=some (.slice (some ⟨bI,off,none⟩) items.length cI)/\w'.cell? ⟨w.heap.size,3,none⟩=some (.slice aD data.length cD)/\w'.cell? ⟨w.heap.size,4,none⟩=some (.int .i64 next))/\(w'.cell? ⟨bI,off,none⟩=some (.slice aK key.length cK)/\w'.cell? ⟨bI,off+1,none⟩=some (.slice aV val.length cV)/\w'.cell? ⟨bI,off+2,none⟩=some (.int .i64 child)/\w'.cell? ⟨bI,off+3,none⟩=some (.int .i64 size))) (by kernel_rfl) (by exact S1) (λhHeld=>?_)
         refine tkd 0 1 2 3 ?_;refine tkb 4 5 ?_;refine tw 6 λK hK=>?_
         go_simp;refine(CH.o _ T1.o).mono ?_;rintro e w9 ⟨rfl,hb⟩;have T1:=gZ (bt T1.o hb);have S1:=And.intro (PG.o _ T1.o) (HR.o _ T1.o);clear hb;go_wp2_with fail
         refine hK.o _ _ (by exact S1) (λhHeld=>?_)
         clear hK K;try simp only[pt]
         refine tk 7 ?_;refine td ?_;clear S1;cases cc with
         |false=>
          go_wp2;go_ret;exact⟨ju (HE.o 15 (by decide) (by rw[E4.o];first|(simp;done)|(simp;omega))),bt HW.o T1.o⟩
         |true=>
          go_wp2;go_roundw
          case rel=>exact⟨0+1,by omega,by first|(go_num;done)|exact aY (Value.int IntKind.i64) (by omega),T1.o,by rw[lS,H0.o];show f 0=0;rw[E4.o];first|(simp;done)|(simp;omega)⟩
          case measure=>first|exact iA _ _ _ hj1 hlt|exact iA _ _ _ rfl hlt|(simp[intOf];omega)
     . obtain⟨j,rfl⟩:∃j,k=j+1:=⟨k-1,by omega⟩
       rw[show j+1-1=j by omega] at HQ
       have hwj:IntKind.i64.wrap (j:Int)=(j:Int):=im (by omega) (by omega)
       have hkq:(j:Int)<(items.length:Int):=by omega
       have hj0:(0:Int)<=(j:Int)+1:=by omega
       go_wp2_with fail
       refine(KY.o _ T1.o).mono ?_;rintro y w1 ⟨rfl,hb⟩;have T1:=gZ (bt T1.o hb);clear hb;obtain⟨c0,c1,c2,c3,c4⟩:=PG.o _ T1.o;cases kk with
       |false=>
        go_wp2;go_ret;exact⟨ju (HE.o 7 (by decide) (by simp[E4.o])),bt HW.o T1.o⟩
       |true=>
        go_wp2;have T1:=gZ (bt T1.o (dr1 _));have S1:=And.intro (PG.o _ T1.o) (And.intro (HR.o _ T1.o) (HQ.o _ T1.o));refine bE (S:=λw'=>(w'.cell? ⟨w.heap.size,0,none⟩=some (.int .i64 _)/\w'.cell? ⟨w.heap.size,1,none⟩=some (.int .i64 level)/\w'.cell? ⟨w.heap.size,2,none⟩=some (.slice (some ⟨bI,off,none⟩) items.length cI)/\w'.cell? ⟨w.heap.size,3,none⟩=some (.slice aD data.length cD)/\w'.cell? ⟨w.heap.size,4,none⟩=some (.int .i64 next))/\(w'.cell? ⟨bI,off+(j+1)*4,none⟩=some (.slice aK key.length cK)/\w'.cell? ⟨bI,off+(j+1)*4+1,none⟩=some (.slice aV val.length cV)/\w'.cell? ⟨bI,off+(j+1)*4+2,none⟩=some (.int .i64 child)/\w'.cell? ⟨bI,off+(j+1)*4+3,none⟩=some (.int .i64 size))/\w'.cell? ⟨bI,off+j*4,none⟩=some (.slice yaK yk.length ycK)) (by kernel_rfl) (by exact S1) (λhHeld=>?_)
        refine tkd 0 1 2 3 ?_;refine tkd 4 5 6 7 ?_;refine tkd 8 9 10 11 ?_;refine tkd 12 13 14 15 ?_;refine tw 16 λK hK=>?_
        go_simp;refine(CM.o _ T1.o).mono ?_;rintro e w9 ⟨rfl,hb⟩;have T1:=gZ (bt T1.o hb);have S1:=And.intro (PG.o _ T1.o) (And.intro (HR.o _ T1.o) (HQ.o _ T1.o));clear hb;go_wp2_with fail
        refine hK.o _ _ (by exact S1) (λhHeld=>?_)
        clear hK K;try simp only[pt]
        refine tkb 17 18 ?_;refine td ?_;clear S1;by_cases hz:z<=0
        . have hzd:decide (z<=0)=true:=by simpa using hz
          go_wp2;go_ret;exact⟨ju (HE.o 11 (by decide) (by rw[E4.o];first|(simp;done)|(simp;omega)|(simp[hz];done)|(simp[hz];omega))),bt HW.o T1.o⟩
        . have hzd:decide (z<=0)=false:=by simpa using hz
          go_wp2;have T1:=gZ (bt T1.o (dr1 _));have S1:=And.intro (PG.o _ T1.o) (HR.o _ T1.o);refine bE (S:=λw'=>(w'.cell? ⟨w.heap.size,0,none⟩=some (.int .i64 _)/\w'.cell? ⟨w.heap.size,1,none⟩=some (.int .i64 level)/\w'.cell? ⟨w.heap.size,2,none⟩=some (.slice (some ⟨bI,off,none⟩) items.length cI)/\w'.cell? ⟨w.heap.size,3,none⟩=some (.slice aD data.length cD)/\w'.cell? ⟨w.heap.size,4,none⟩=some (.int .i64 next))/\(w'.cell? ⟨bI,off+(j+1)*4,none⟩=some (.slice aK key.length cK)/\w'.cell? ⟨bI,off+(j+1)*4+1,none⟩=some (.slice aV val.length cV)/\w'.cell? ⟨bI,off+(j+1)*4+2,none⟩=some (.int .i64 child)/\w'.cell? ⟨bI,off+(j+1)*4+3,none⟩=some (.int .i64 size))) (by kernel_rfl) (by exact S1) (λhHeld=>?_)
          refine tkd 0 1 2 3 ?_;refine tkb 4 5 ?_;refine tw 6 λK hK=>?_
          go_simp;refine(VA.o _ T1.o).mono ?_;rintro e w9 ⟨rfl,hb⟩;have T1:=gZ (bt T1.o hb);have S1:=And.intro (PG.o _ T1.o) (HR.o _ T1.o);clear hb;go_wp2_with fail
          refine hK.o _ _ (by exact S1) (λhHeld=>?_)
          clear hK K;try simp only[pt]
          refine tk 7 ?_;refine td ?_;clear S1;cases vv with
          |false=>
           go_wp2;go_ret;exact⟨ju (HE.o 8 (by decide) (by rw[E4.o];first|(simp;done)|(simp;omega)|(simp[hz];done)|(simp[hz];omega))),bt HW.o T1.o⟩
          |true=>
           go_wp2;have T1:=gZ (bt T1.o (dr1 _));have S1:=And.intro (PG.o _ T1.o) (HR.o _ T1.o);refine bE (S:=λw'=>(w'.cell? ⟨w.heap.size,0,none⟩=some (.int .i64 _)/\w'.cell? ⟨w.heap.size,1,none⟩=some (.int .i64 level)/\w'.cell? ⟨w.heap.size,2,none⟩=some (.slice (some ⟨bI,off,none⟩) items.length cI)/\w'.cell? ⟨w.heap.size,3,none⟩=some (.slice aD data.length cD)/\w'.cell? ⟨w.heap.size,4,none⟩=some (.int .i64 next))/\(w'.cell? ⟨bI,off+(j+1)*4,none⟩=some (.slice aK key.length cK)/\w'.cell? ⟨bI,off+(j+1)*4+1,none⟩=some (.slice aV val.length cV)/\w'.cell? ⟨bI,off+(j+1)*4+2,none⟩=some (.int .i64 child)/\w'.cell? ⟨bI,off+(j+1)*4+3,none⟩=some (.int .i64 size))) (by kernel_rfl) (by exact S1) (λhHeld=>?_)
           refine tkd 0 1 2 3 ?_;refine tkb 4 5 ?_;refine tw 6 λK hK=>?_
           go_simp;refine(CH.o _ T1.o).mono ?_;rintro e w9 ⟨rfl,hb⟩;have T1:=gZ (bt T1.o hb);have S1:=And.intro (PG.o _ T1.o) (HR.o _ T1.o);clear hb;go_wp2_with fail
           refine hK.o _ _ (by exact S1) (λhHeld=>?_)
           clear hK K;try simp only[pt]
           refine tk 7 ?_;refine td ?_;clear S1;cases cc with
           |false=>
            go_wp2;go_ret;exact⟨ju (HE.o 15 (by decide) (by rw[E4.o];first|(simp;done)|(simp;omega)|(simp[hz];done)|(simp[hz];omega))),bt HW.o T1.o⟩
           |true=>
            go_wp2;go_roundw
            case rel=>exact⟨j+1+1,by omega,by first|(go_num;done)|exact aY (Value.int IntKind.i64) (by omega),T1.o,by rw[lS,H0.o];show f (j+1)=0;rw[E4.o];first|(simp;done)|(simp;omega)|(simp[hz];done)|(simp[hz];omega)⟩
            case measure=>first|exact iA _ _ _ hj1 hlt|exact iA _ _ _ rfl hlt|(simp[intOf];omega)
   . obtain rfl:k=items.length:=by omega
     go_wp2;go_ret;exact⟨ju (by rw[HEN.o H0.o,HNX.o];simp),bt HW.o T1.o⟩
theorem Aq(w:World)(p:Pv)(hP:Pi w p)(hf:p.pg.formE=0)(k1:p.kind=3):Calls Tryz.prog 68 #[p.vl] w λe w'=>e=.returned (.int .i64 (p.pg.check:Int))/\Below w.heap.size w w':=by
 have HP:=gZ (hP.keep (al w (.cells p.cs 31)));have hin:p.items.length<=2199023255489:=hP.it.2.1;have B0:=gZ (Bx.new w 31 p.cs);have HW:=gZ (al w (.cells p.cs 31));obtain⟨v,hv⟩:∃v,w.alloc (.cells p.cs 31)=v:=⟨_,rfl⟩;rw[hv] at HP B0 HW;have PG:=gZ λ(w1:World)(hb:Below v.heap.size v w1)=>Bx.page (B0.o.keep hb)
 have FO:=gZ λ(w1:World)=>nO w1 p
 have HX:=gZ (iZ hf);have HKD:=gZ (Pg.kindOk_iff.1 (iZ hf).1);have KYA:=gZ λ(k:Nat)(hk:k<p.items.length)(w1:World)(hb:Below v.heap.size v w1)=>uc w1 p k (HP.o.keep hb) hk
 have VAA:=gZ λ(x:Iv)(w1:World)(hb:Below v.heap.size v w1)=>qd w1 p x
 have CHA:=gZ λ(x:Iv)(w1:World)(hb:Below v.heap.size v w1)=>qo w1 p x
 have HEA:=gZ λ(k:Nat)(h0:iN p.pg.itemE k=0)(hk:k<p.items.length)(x:Nat)(hx:x≠0)(e:p.pg.itemE k=x)=>(show p.pg.check=x from by
  rw[tC hf h0 (by simpa[Pv.pg] using hk) (by rw[e];exact hx),e])
 have HEN:=gZ λ(h0:iN p.pg.itemE p.items.length=0)=>(rP hf (by simpa[Pv.pg] using h0))
 have HIT:=gZ λk=>(show p.pg.itemE k=if p.pg.keyOk k=false then 7 else if (decide (k=0)||decide (0<iI (p.items.getD k Iv.zero).key (p.items.getD (k-1) Iv.zero).key))=false then 11 else if (p.items.getD k Iv.zero).it.valOk p.kind=false then 8 else if (p.items.getD k Iv.zero).it.kidOk p.kind=false then 15 else 0 from by
  unfold Pg.itemE Pg.ordOk;rw[Pv.at,Pv.at];rfl)
 have HNL:=gZ λ(h:p.kind=3)=>(show p.items.length=0 from by have h2:=(iZ hf).2;unfold Pg.form at h2;rw[if_pos (show p.pg.kind=3 from h)] at h2;simp[Pv.pg] at h2;rw[h2.1.1.2];rfl)
 have HNX:Hid (p.pg.nextOk= !(decide (p.kind=3)&&decide (p.next≠0)&& !jT p.next)):=rfl;rw[HX.o.2] at FO;have hpk:p.pg.kind=p.kind:=rfl;rw[hpk] at HKD;clear hpk HX hP hf;generalize p.pg.check=ans at *;generalize p.pg.itemE=f at *;generalize p.pg.nextOk=nx at *;obtain⟨kind,level,aI,cI,items,aD,cD,data,next⟩:=p
 unfold Pv.vl;simp only[Pv.cs,Pv.vl] at *;subst k1;obtain rfl:=bR.1 (HNL.o rfl);simp only[bg] at *;obtain⟨b0,b1,b2,b3,b4⟩:=PG.o _ (Below.refl _ _);go_enter Tryz.func68,Tryz.ntmps68;go_wp2_with fail
 refine(FO.o _).mono ?_;rintro y w1 ⟨rfl,hb⟩;have T1:=gZ hb;clear hb hv FO b0 b1 b2 b3 b4;obtain⟨c0,c1,c2,c3,c4⟩:=PG.o _ T1.o;go_wp2;go_loopw [3] (λi wx=>∃k:Nat,k<=0/\i=.int .i64 k/\Below v.heap.size v wx/\iN f k=0) (λi _=>0-(intOf i).toNat)
 case atStart=>exact⟨0,aF _,rfl,T1.o,rfl⟩
 case round=>
  clear T1 c0 c1 c2 c3 c4;obtain⟨k,hk,rfl,hT,h0⟩:=hrel;have T1:=gZ hT;have H0:=gZ h0;clear hT h0;obtain⟨c0,c1,c2,c3,c4⟩:=PG.o _ T1.o;obtain rfl:k=0:=by simpa using hk
  by_cases hn0:next=0
  . subst hn0;go_wp2;go_ret;exact⟨ju (by rw[HEN.o rfl,HNX.o];simp),bt HW.o T1.o⟩
  . have hn0':(next==0)=false:=by simpa using hn0
    go_wp2_with fail
    refine(mF _ _).mono ?_;rintro y w2 ⟨rfl,hw⟩;obtain rfl:=hw.symm;cases hisn:jT next with
    |false=>
     go_wp2;go_ret;exact⟨ju (by rw[HEN.o rfl,HNX.o];simp[hn0,hisn]),bt HW.o T1.o⟩
    |true=>
     go_wp2;go_ret;exact⟨ju (by rw[HEN.o rfl,HNX.o];simp[hisn]),bt HW.o T1.o⟩
theorem qp(w:World)(p:Pv)(hP:Pi w p):Calls Tryz.prog 68 #[p.vl] w λe w'=>e=.returned (.int .i64 (p.pg.check:Int))/\Below w.heap.size w w':=by
 by_cases hf:p.pg.formE=0
 . rcases Pg.kindOk_iff.1 (iZ hf).1 with k|k|k
   . exact rA w p hP hf (.inl k)
   . exact rA w p hP hf (.inr k)
   . exact Aq w p hP hf k
 . rw[qC hf];have FO:=gZ λ(w1:World)=>nO w1 p
   cases hk:p.pg.kindOk with
   |false=>
    have he:p.pg.formE=22:=by unfold Pg.formE;rw[if_pos hk]
    have hn:¬p.kind=1/\¬p.kind=2/\¬p.kind=3:=by
     refine⟨λh=>?_,λh=>?_,λh=>?_⟩<;>simp[Pg.kindOk,Pv.pg,h] at hk
    rw[he];clear FO hf hP hk he;obtain⟨kind,level,aI,cI,items,aD,cD,data,next⟩:=p
    unfold Pv.vl;simp only[Pv.cs] at *;obtain⟨h1,h2,h3⟩:=hn;have h1':(kind==1)=false:=by simpa using h1
    have h2':(kind==2)=false:=by simpa using h2
    have h3':(kind==3)=false:=by simpa using h3
    have g1:(kind != 1)=true:=by simpa using h1
    have g2:(kind != 2)=true:=by simpa using h2
    have g3:(kind != 3)=true:=by simpa using h3
    go_enter Tryz.func68,Tryz.ntmps68;go_wp2;go_ret;exact⟨rfl,al _ _⟩
   |true=>
    have hff:p.pg.form=false:=by
     cases h:p.pg.form with
     |false=>rfl
     |true=>exact absurd (by unfold Pg.formE;simp[hk,h]) hf
    have he:p.pg.formE=5:=by unfold Pg.formE;simp[hk,hff]
    rw[he];rw[hff] at FO;have HB:=gZ (Bx.new w 31 p.cs);have hkk:=Pg.kindOk_iff.1 hk;have hpk:p.pg.kind=p.kind:=rfl;rw[hpk] at hkk;clear hf hP hk he hff hpk;obtain⟨kind,level,aI,cI,items,aD,cD,data,next⟩:=p
    unfold Pv.vl at *;simp only[Pv.cs] at *;rcases hkk with rfl|rfl|rfl
    all_goals
     go_enter Tryz.func68,Tryz.ntmps68;go_wp2_with fail
     refine(FO.o _).mono ?_;rintro y w1 ⟨rfl,hb⟩;go_wp2;go_ret;exact⟨rfl,bt (al _ _) hb⟩
def spF(l:List Nat)(i:Nat):Value:=if i<l.length then .int .u8 ((l.getD i 0:Nat):Int) else .int .u8 (bits .xor .i64 165 (i:Int)%256)
theorem uG{f:Nat->Value}(h:w.rowIs b t n f)(hb:Below w.heap.size w w'):w'.rowIs b t n f:=h.of_block (hb.block b h.lt)
theorem yM{S:Nat->Prop}{f:Nat->Value}(h:w.rowIs b t n f)(hb:But S w w')(hn:¬S b):w'.rowIs b t n f:=h.of_block (hb.block b h.lt hn)
theorem zE{g:Nat}{l:List Nat}(h:w.rowIs g 5 n (spF l))(hn:l.length<=n)(hl:∀x∈l,x<256)(hlen:l.length<=9223372036854775807):Bs w (some ⟨g,0,none⟩) l:=
 ⟨hl,hlen,.inr ⟨g,0,rfl,λi hi=>by rw[bG,h.cell (by omega)];unfold spF;rw[if_pos hi]⟩⟩
theorem ye(w:World)(aa:Option Addr)(n capa:Nat)(l:List Nat)(hB:Bs w aa l)(hn:n=l.length)(hlen:l.length+64<=281474976710656):
 Calls Tryz.prog 62 #[.slice aa n capa] w λx w'=>x=.returned (.slice (some ⟨w.heap.size,0,none⟩) l.length (l.length+64))/\w'.rowIs w.heap.size 5 (l.length+64) (spF l)/\Below w.heap.size w w':=by
 subst hn;have hmk:=uY (l.length+64) (l.length+64) (ai _) (by omega)
 have hadd:IntKind.i64.wrap ((l.length:Int)+64)=((l.length+64:Nat):Int):=by rw[im (by omega) (by omega)];omega
 have HB:=gZ hB;clear hB;generalize hN:l.length+64=N at *;have HN:=gZ hN;clear hN;go_enter Tryz.func62,Tryz.ntmps62;go_wp2;go_loopw [4] (λi wx=>∃j:Nat,j<=N/\i=.int .i64 j/\(wx.rowIs w.heap.size 5 N (λi=>if i<j then spF l i else .int .u8 0)/\Below w.heap.size w wx)) (λi _=>N-(intOf i).toNat)
 case atStart=>exact⟨0,aF _,rfl,(World.rowIs_made w (.int .u8 0) N 5).congr λi _=>by simp,(Below.refl _ _).alloc (ai _) _⟩
 case round=>
  obtain⟨j,hj,rfl,hG⟩:=hrel;have HG:=gZ hG;clear hG;by_cases hlt:j<N
  . have hi:(j:Int)<(N:Int):=by omega
    have cg:=HG.o.1.cell hlt;have fg:=HG.o.1.frozen j;simp only[dZ,if_false] at cg;by_cases hl:j<l.length
    . have hi2:(j:Int)<(l.length:Int):=by omega
      obtain⟨bs,off,rfl,hcs⟩:=oK HB.o HG.o.2 hl;have HV:Hid (spF l j=.int .u8 ((l.getD j 0:Nat):Int)):=by unfold spF;rw[if_pos hl];exact rfl
      generalize l.getD j 0=x at *;go_wp2;go_roundw
      case rel=>
       refine⟨j+1,by omega,by go_num,(HG.o.1.set j _).congr λi hi=>?_,HG.o.2.setCell (ai _) _⟩
       by_cases e:i=j
       . subst e;rw[if_pos rfl,if_pos (by omega),HV.o]
       . rw[if_neg e];by_cases e2:i<j
         . rw[if_pos e2,if_pos (by omega)]
         . rw[if_neg e2,if_neg (by omega)]
      case measure=>simp[intOf];omega
    . have hi2:¬(j:Int)<(l.length:Int):=by omega
      have HV:Hid (spF l j=.int .u8 (bits .xor .i64 165 (j:Int)%256)):=by unfold spF;rw[if_neg hl];exact rfl
      go_wp2;go_roundw
      case rel=>
       refine⟨j+1,by omega,by go_num,(HG.o.1.set j _).congr λi hi=>?_,HG.o.2.setCell (ai _) _⟩
       by_cases e:i=j
       . subst e;rw[if_pos rfl,if_pos (by omega),HV.o]
       . rw[if_neg e];by_cases e2:i<j
         . rw[if_pos e2,if_pos (by omega)]
         . rw[if_neg e2,if_neg (by omega)]
      case measure=>simp[intOf];omega
  . obtain rfl:N=j:=by omega
    have hI1:(l.length:Int)<=(N:Int):=by have:=HN.o;omega
    go_wp2;go_ret;exact⟨rfl,HG.o.1.congr λi hi=>by rw[if_pos hi],HG.o.2⟩
theorem zX(w:World)(g N:Nat)(ab:Option Addr)(n m capb:Nat)(l:List Nat)(hR:w.rowIs g 5 N (spF l))(hB:Bs w ab l)(hn:n=l.length)(hm:m=l.length)(hN:N=l.length+64)(hlen:l.length+64<=281474976710656):
 Calls Tryz.prog 70 #[.slice (some ⟨g,0,none⟩) n N,.slice ab m capb] w λx w'=>x=.returned (.bool true)/\Below w.heap.size w w':=by
 subst hn hm;have hadd:IntKind.i64.wrap ((l.length:Int)+64)=(N:Int):=by rw[im (by omega) (by omega)];omega
 have HE:=gZ (ke w (some ⟨g,0,none⟩) ab l.length l.length N capb l (zE hR (by omega) hB.1 hB.2.1) hB rfl rfl)
 have HR:=gZ hR;have HN:=gZ hN;have hNb:N<=281474976710656:=by omega
 clear hB hR hN;have hI1:(0:Int)<=(N:Int):=by omega
 go_enter Tryz.func70,Tryz.ntmps70;go_wp2_with fail
 refine HE.o.mono ?_;rintro e w1 ⟨rfl,hb1⟩;go_wp2;go_loopw [6] (λi wx=>∃j:Nat,l.length<=j/\j<=N/\i=.int .i64 j/\Below w.heap.size w wx) (λi _=>N-(intOf i).toNat)
 case atStart=>exact⟨l.length,ai _,by have:=HN.o;omega,rfl,hb1⟩
 case round=>
  clear hb1;obtain⟨j,hlj,hj,rfl,hb⟩:=hrel;by_cases hlt:j<N
  . have hi:(j:Int)<(N:Int):=by omega
    have cg:=(uG HR.o hb).cell hlt;unfold spF at cg;rw[if_neg (by omega)] at cg
    go_wp2;go_roundw
    case rel=>exact⟨j+1,by omega,by omega,by go_num,hb⟩
    case measure=>simp[intOf];omega
  . obtain rfl:N=j:=by omega
    go_wp2;go_ret;exact⟨rfl,hb⟩
end Go.Proofs.YtbdkogimlbnlmaaGreat
