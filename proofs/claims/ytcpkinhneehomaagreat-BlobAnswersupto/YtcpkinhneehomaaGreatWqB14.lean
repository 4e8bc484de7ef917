import Derived.Test.YtcpkinhneehomaaGreatWqB12
set_option linter.unusedVariables false
set_option linter.unusedSimpArgs false
set_option maxHeartbeats 3200000
set_option maxRecDepth 8000
namespace Go.Proofs.YtcpkinhneehomaaGreat
open Go.RowKit
variable {k:Nat}{p:Pg}
theorem ig_empty(w:World):Ig (w.alloc (.cells #[] 3)) (some ⟨w.heap.size,0,none⟩) 0 []:=by
 refine⟨rfl,.inr ⟨w.heap.size,0,#[],rfl,Nat.zero_le _,heap_alloc_new _ _,Nat.le_refl _,Nat.zero_le _,rfl,rfl⟩⟩
theorem iKids_2(w:World)(p:Pv)(hP:Pi w p)(hk:p.kind=2):Calls Tryz.prog 76 #[p.vl] w fun e w'=>∃a c,e=.returned (.slice a (p.pg.kids).length c)/\IOwn w w' a c p.pg.kids:=by
 rw[kids_node p (by omega)]
 have hin:p.items.length<=2199023255489:=hP.it.2.1;have HP:=hide (hP.keep (al w (.cells p.cs 31)));have B0:=hide (Bx.new w 31 p.cs);have HW:=hide (al w (.cells p.cs 31));obtain⟨v,hv⟩:∃v,w.alloc (.cells p.cs 31)=v:=⟨_,rfl⟩;rw[hv] at HP B0 HW;have PG:=hide fun(w1:World)(hb:Below v.heap.size v w1)=>Bx.page (B0.out.keep hb)
 have HR:=hide fun(w1:World)(hb:Below v.heap.size v w1)(k:Nat)(hk:k<p.items.length)=>(HP.out.it.keep hb).at hk
 have HKS:=hide fun(k:Nat)(hk:k<p.items.length)=>kidsTo_snoc p.kind p.items k hk
 have HKL:=hide fun(k:Nat)=>(show(kidsTo p.kind (p.items.take k)).length<=k from Nat.le_trans (kidsTo_len _ _) (by rw[List.length_take];omega))
 have HALL:Hid (p.items.take p.items.length=p.items):=List.take_length;clear hP;obtain⟨kind,level,aI,cI,items,aD,cD,data,next⟩:=p
 unfold Pv.vl;simp only[Pv.cs] at *;subst hk;obtain⟨b0,b1,b2,b3,b4⟩:=PG.out _ (Below.refl _ _);go_enter Tryz.func76,Tryz.ntmps76;go_wp2;go_loopw [3,4] (fun o i wx=>∃(k:Nat)(ak:Option Addr)(ck:Nat),k<=items.length/\i=.int .i64 k/\o=.slice ak (kidsTo 2 (items.take k)).length ck/\IOwn v wx ak ck (kidsTo 2 (items.take k))) (fun _ i _=>items.length-(intOf i).toNat)
 case atStart=>exact⟨0,_,0,Nat.zero_le _,rfl,rfl,ig_empty _,fun x hx=>.inr (by cases hx;exact Nat.le_refl _),al _ _⟩
 case round=>
  clear hv b0 b1 b2 b3 b4;obtain⟨k,ak,ck,hk,rfl,rfl,hO⟩:=hrel;have O0:=hide hO;obtain⟨c0,c1,c2,c3,c4⟩:=PG.out _ hO.b;clear hO;by_cases hlt:k<items.length
  · have hlti:(k:Int)<(items.length:Int):=by omega
    have hj1:=w64 (j:=k) (by omega)
    obtain⟨bI,off,rfl,hr⟩:=HR.out _ O0.out.b k hlt;obtain⟨k0,k1,k2,k3⟩:=range4 hr;have HS1:=hide (HKS.out k hlt);have HL1:=HKL.out k;clear hr HR HKS HKL;generalize items.getD k Iv.zero=x at *;have O1:=O0;obtain⟨aK,cK,key,aV,cV,val,child,size⟩:=x;simp only at *;generalize kidsTo 2 (items.take k)=L at *;have HLE:Hid (L++[child]=kidsTo 2 (items.take (k+1))):=by show _=_;rw[HS1.out];simp
    go_wp2_with (at_builtin;refine wpList_apI rfl _ _ rfl ak L.length ck L rfl rfl (O1.out.r.keep ((Below.refl _ _).alloc (Nat.le_refl _) _)) ⟨wr.heap.size,0,none⟩ 1 child rfl ?c1 (by omega) ?_)
    try case c1=>simp
    intro g c2' w2 hR hN hg hlt2;have O2:=hide (O1.out.step (al _ _) hR hN hg);rw[HLE.out] at O2;have HLN:=hide (congrArg List.length HLE.out);clear hR hN hg;go_wp2;go_roundw
    case rel=>exact⟨k+1,_,c2',by omega,by first|(go_num;done)|exact congrArg (Value.int IntKind.i64) (by omega),by rw[<-HLN.out];simp,O2.out⟩
    case measure=>first|exact meas_up _ _ _ hj1 hlt|exact meas_up _ _ _ rfl hlt|(simp[intOf];omega)
  · obtain rfl:k=items.length:=by omega
    rw[HALL.out] at O0 ⊢;go_wp2;go_ret;exact⟨ak,ck,rfl,O0.out.r,O0.out.n.mono HW.out.size,bt HW.out O0.out.b⟩
theorem iKids_1(w:World)(p:Pv)(hP:Pi w p)(hk:p.kind=1):Calls Tryz.prog 76 #[p.vl] w fun e w'=>∃a c,e=.returned (.slice a (p.pg.kids).length c)/\IOwn w w' a c p.pg.kids:=by
 rw[kids_node p (by omega)]
 have hin:p.items.length<=2199023255489:=hP.it.2.1;have HP:=hide (hP.keep (al w (.cells p.cs 31)));have B0:=hide (Bx.new w 31 p.cs);have HW:=hide (al w (.cells p.cs 31));obtain⟨v,hv⟩:∃v,w.alloc (.cells p.cs 31)=v:=⟨_,rfl⟩;rw[hv] at HP B0 HW;have PG:=hide fun(w1:World)(hb:Below v.heap.size v w1)=>Bx.page (B0.out.keep hb)
 have HR:=hide fun(w1:World)(hb:Below v.heap.size v w1)(k:Nat)(hk:k<p.items.length)=>(HP.out.it.keep hb).at hk
 have HKS:=hide fun(k:Nat)(hk:k<p.items.length)=>kidsTo_snoc p.kind p.items k hk
 have HKL:=hide fun(k:Nat)=>(show(kidsTo p.kind (p.items.take k)).length<=k from Nat.le_trans (kidsTo_len _ _) (by rw[List.length_take];omega))
 have HALL:Hid (p.items.take p.items.length=p.items):=List.take_length;clear hP;obtain⟨kind,level,aI,cI,items,aD,cD,data,next⟩:=p
 unfold Pv.vl;simp only[Pv.cs] at *;subst hk;obtain⟨b0,b1,b2,b3,b4⟩:=PG.out _ (Below.refl _ _);go_enter Tryz.func76,Tryz.ntmps76;go_wp2;go_loopw [3,4] (fun o i wx=>∃(k:Nat)(ak:Option Addr)(ck:Nat),k<=items.length/\i=.int .i64 k/\o=.slice ak (kidsTo 1 (items.take k)).length ck/\IOwn v wx ak ck (kidsTo 1 (items.take k))) (fun _ i _=>items.length-(intOf i).toNat)
 case atStart=>exact⟨0,_,0,Nat.zero_le _,rfl,rfl,ig_empty _,fun x hx=>.inr (by cases hx;exact Nat.le_refl _),al _ _⟩
 case round=>
  clear hv b0 b1 b2 b3 b4;obtain⟨k,ak,ck,hk,rfl,rfl,hO⟩:=hrel;have O0:=hide hO;obtain⟨c0,c1,c2,c3,c4⟩:=PG.out _ hO.b;clear hO;by_cases hlt:k<items.length
  · have hlti:(k:Int)<(items.length:Int):=by omega
    have hj1:=w64 (j:=k) (by omega)
    obtain⟨bI,off,rfl,hr⟩:=HR.out _ O0.out.b k hlt;obtain⟨k0,k1,k2,k3⟩:=range4 hr;have HS1:=hide (HKS.out k hlt);have HL1:=HKL.out k;clear hr HR HKS HKL;generalize items.getD k Iv.zero=x at *;have O1:=O0;obtain⟨aK,cK,key,aV,cV,val,child,size⟩:=x;simp only at *;generalize kidsTo 1 (items.take k)=L at *;by_cases h0:child=0
    · subst h0;have HLE:Hid (L=kidsTo 1 (items.take (k+1))):=by show _=_;rw[HS1.out];simp
      go_wp2;go_roundw
      case rel=>exact⟨k+1,ak,ck,by omega,by first|(go_num;done)|exact congrArg (Value.int IntKind.i64) (by omega),by rw[<-HLE.out],by rw[<-HLE.out];exact O1.out⟩
      case measure=>first|exact meas_up _ _ _ hj1 hlt|exact meas_up _ _ _ rfl hlt|(simp[intOf];omega)
    · have h0':(child==0)=false:=by simpa using h0
      have HLE:Hid (L++[child]=kidsTo 1 (items.take (k+1))):=by show _=_;rw[HS1.out];simp[h0]
      go_wp2_with (at_builtin;refine wpList_apI rfl _ _ rfl ak L.length ck L rfl rfl (O1.out.r.keep ((Below.refl _ _).alloc (Nat.le_refl _) _)) ⟨wr.heap.size,0,none⟩ 1 child rfl ?c1 (by omega) ?_)
      try case c1=>simp
      intro g c2' w2 hR hN hg hlt2;have O2:=hide (O1.out.step (al _ _) hR hN hg);rw[HLE.out] at O2;have HLN:=hide (congrArg List.length HLE.out);clear hR hN hg;go_wp2;go_roundw
      case rel=>exact⟨k+1,_,c2',by omega,by first|(go_num;done)|exact congrArg (Value.int IntKind.i64) (by omega),by rw[<-HLN.out];simp,O2.out⟩
      case measure=>first|exact meas_up _ _ _ hj1 hlt|exact meas_up _ _ _ rfl hlt|(simp[intOf];omega)
  · obtain rfl:k=items.length:=by omega
    rw[HALL.out] at O0 ⊢;go_wp2;go_ret;exact⟨ak,ck,rfl,O0.out.r,O0.out.n.mono HW.out.size,bt HW.out O0.out.b⟩
theorem iKids_rest(w:World)(p:Pv)(hP:Pi w p)(h1:p.kind≠1)(h2:p.kind≠2):Calls Tryz.prog 76 #[p.vl] w fun e w'=>∃a c,e=.returned (.slice a (p.pg.kids).length c)/\IOwn w w' a c p.pg.kids:=by
 have hk:p.pg.kids=if p.kind=3/\p.next≠0 then [p.next] else []:=by
  unfold Pg.kids;rw[if_neg (show ¬p.pg.kind=2 from h2),if_neg (show ¬p.pg.kind=1 from h1)]
  rfl
 have HK:=hide hk;generalize p.pg.kids=L at *;clear hk;have hin:p.items.length<=2199023255489:=hP.it.2.1;have B0:=hide (Bx.new w 31 p.cs);have HW:=hide (al w (.cells p.cs 31));obtain⟨v,hv⟩:∃v,w.alloc (.cells p.cs 31)=v:=⟨_,rfl⟩;rw[hv] at B0 HW;have PG:=hide fun(w1:World)(hb:Below v.heap.size v w1)=>Bx.page (B0.out.keep hb)
 clear hP;obtain⟨kind,level,aI,cI,items,aD,cD,data,next⟩:=p
 unfold Pv.vl;simp only[Pv.cs] at *;have h1':(kind==1)=false:=by simpa using h1
 have h2':(kind==2)=false:=by simpa using h2
 go_enter Tryz.func76,Tryz.ntmps76;go_wp2;generalize items.length=n at *;go_loopw [3,4] (fun o i wx=>∃(k:Nat)(ak:Option Addr)(ck:Nat),k<=n/\i=.int .i64 k/\o=.slice ak 0 ck/\IOwn v wx ak ck []) (fun _ i _=>n-(intOf i).toNat)
 case atStart=>exact⟨0,_,0,Nat.zero_le _,rfl,rfl,ig_empty _,fun x hx=>.inr (by cases hx;exact Nat.le_refl _),al _ _⟩
 case round=>
  clear hv;obtain⟨k,ak,ck,hk,rfl,rfl,hO⟩:=hrel;have O0:=hide hO;obtain⟨c0,c1,c2,c3,c4⟩:=PG.out _ hO.b;clear hO;by_cases hlt:k<n
  · have hlti:(k:Int)<(n:Int):=by omega
    have hj1:=w64 (j:=k) (by omega)
    go_wp2;go_roundw
    case rel=>exact⟨k+1,ak,ck,by omega,by first|(go_num;done)|exact congrArg (Value.int IntKind.i64) (by omega),rfl,O0.out⟩
    case measure=>first|exact meas_up _ _ _ hj1 hlt|exact meas_up _ _ _ rfl hlt|(simp[intOf];omega)
  · obtain rfl:k=n:=by omega
    by_cases h3:kind=3
    · subst h3;by_cases h0:next=0
      · subst h0;have hL:L=[]:=by rw[HK.out];exact if_neg (fun h=>h.2 rfl)
        clear HK;subst hL;go_wp2;go_ret;exact⟨ak,ck,rfl,O0.out.r,O0.out.n.mono HW.out.size,bt HW.out O0.out.b⟩
      · have h0':(next==0)=false:=by simpa using h0
        have hL:L=[next]:=by rw[HK.out];exact if_pos ⟨rfl,h0⟩
        clear HK;subst hL;go_wp2_with (at_builtin;refine wpList_apI rfl _ _ rfl ak 0 ck [] rfl rfl (O0.out.r.keep ((Below.refl _ _).alloc (Nat.le_refl _) _)) ⟨wr.heap.size,0,none⟩ 1 next rfl ?c1 (by decide) ?_)
        try case c1=>simp
        intro g c2' w2 hR hN hg hlt2;have O2:=hide (O0.out.step (al _ _) hR hN hg);clear hR hN hg;go_wp2;go_ret;exact⟨_,c2',rfl,O2.out.r,O2.out.n.mono HW.out.size,bt HW.out O2.out.b⟩
    · have h3':(kind==3)=false:=by simpa using h3
      have hL:L=[]:=by rw[HK.out];exact if_neg (fun h=>h3 h.1)
      clear HK;subst hL;go_wp2;go_ret;exact⟨ak,ck,rfl,O0.out.r,O0.out.n.mono HW.out.size,bt HW.out O0.out.b⟩
theorem iKids_any(w:World)(p:Pv)(hP:Pi w p):Calls Tryz.prog 76 #[p.vl] w fun e w'=>∃a c,e=.returned (.slice a (p.pg.kids).length c)/\IOwn w w' a c p.pg.kids:=by
 by_cases h1:p.kind=1
 · exact iKids_1 w p hP h1
 · by_cases h2:p.kind=2
   · exact iKids_2 w p hP h2
   · exact iKids_rest w p hP h1 h2
theorem IsPage_any(w:World)(n:Int):Calls Tryz.prog 129 #[.int .i64 n] w fun e w'=>e=.returned (.bool (isNum n))/\w'=w:=by
 unfold isNum;by_cases h1:1<=n
 · have h1':decide (1<=n)=true:=by simpa using h1
   go_enter Tryz.func129,Tryz.ntmps129;go_wp2;go_ret;exact⟨by simp[h1],rfl⟩
 · have h1':decide (1<=n)=false:=by simpa using h1
   go_enter Tryz.func129,Tryz.ntmps129;go_wp2;go_ret;exact⟨by simp,rfl⟩
theorem retb{a b:Bool}(h:a=b):Ending.returned (.bool a)=.returned (.bool b):=by rw[h]
theorem iform_any(w:World)(p:Pv):Calls Tryz.prog 125 #[p.vl] w fun e w'=>e=.returned (.bool p.pg.form)/\Below w.heap.size w w':=by
 unfold Pv.vl Pv.cs Pg.form Pv.pg;simp only[List.length_map];obtain⟨kind,level,aI,cI,items,aD,cD,data,next⟩:=p
 dsimp only;generalize items.length=n;generalize data.length=d;by_cases k3:kind=3
 · subst k3;go_enter Tryz.func125,Tryz.ntmps125;go_wp2
   all_goals (go_ret;refine⟨retb ?_,al _ _⟩;first|grind|(simp;grind)|(simp[beqd];grind))
 · have k3':(kind==3)=false:=by simpa using k3
   rw[if_neg k3];by_cases k1:kind=1
   · subst k1;go_enter Tryz.func125,Tryz.ntmps125;go_wp2
     all_goals (go_ret;refine⟨retb ?_,al _ _⟩;first|grind|(simp;grind)|(simp[beqd];grind))
   · have k1':(kind==1)=false:=by simpa using k1
     rw[if_neg k1];go_enter Tryz.func125,Tryz.ntmps125;go_wp2
     all_goals (go_ret;refine⟨retb ?_,al _ _⟩;first|grind|(simp;grind)|(simp[beqd];grind))
theorem ikey_any(w:World)(p:Pv)(i:Nat)(hP:Pi w p)(hi:i<p.items.length):Calls Tryz.prog 126 #[p.vl,.int .i64 (i:Int)] w fun e w'=>e=.returned (.bool (p.pg.keyOk i))/\Below w.heap.size w w':=by
 obtain⟨bI,off,hbo,hr⟩:=(hP.it.keep (al w (.cells p.cs 31))).at hi;obtain⟨k0,k1,k2,k3⟩:=range4 hr;have hiI:(i:Int)<(p.items.length:Int):=by omega
 unfold Pg.keyOk;rw[Pv.at];generalize p.items.getD i Iv.zero=x at *;clear hr hP k1 k2 k3;obtain⟨kind,level,aI,cI,items,aD,cD,data,next⟩:=p
 unfold Pv.vl Iv.it;simp only[Pv.cs,Pv.pg] at *;subst hbo;generalize x.key.length=n at *;by_cases hk:kind=2/\i=0
 · obtain⟨rfl,rfl⟩:=hk;simp only[Nat.zero_mul,Nat.add_zero] at k0;go_enter Tryz.func126,Tryz.ntmps126;go_wp2
   all_goals (go_ret;refine⟨retb ?_,al _ _⟩;first|grind|(simp;grind)|(simp[beqd];grind))
 · by_cases k2:kind=2
   · subst k2;have i0:((i:Int)==0)=false:=by simp;omega
     go_enter Tryz.func126,Tryz.ntmps126;go_wp2
     all_goals (go_ret;refine⟨retb ?_,al _ _⟩;first|grind|(simp;grind)|(simp[beqd];grind))
   · have k2':(kind==2)=false:=by simpa using k2
     go_enter Tryz.func126,Tryz.ntmps126;go_wp2
     all_goals (go_ret;refine⟨retb ?_,al _ _⟩;first|grind|(simp;grind)|(simp[beqd];grind))
theorem ivalue_any(w:World)(p:Pv)(x:Iv):Calls Tryz.prog 127 #[p.vl,x.vl] w fun e w'=>e=.returned (.bool (x.it.valOk p.kind))/\Below w.heap.size w w':=by
 unfold It.valOk;obtain⟨kind,level,aI,cI,items,aD,cD,data,next⟩:=p
 obtain⟨aK,cK,key,aV,cV,val,child,size⟩:=x;unfold Pv.vl Iv.vl Iv.it;simp only[Pv.cs,Iv.cs];generalize val.length=n;by_cases k2:kind=2
 · subst k2;go_enter Tryz.func127,Tryz.ntmps127;go_wp2
   all_goals (go_ret;refine⟨retb ?_,bt (al _ _) (al _ _)⟩;first|grind|(simp;grind)|(simp[beqd];grind))
 · have k2':(kind==2)=false:=by simpa using k2
   rw[if_neg k2];go_enter Tryz.func127,Tryz.ntmps127;go_wp2
   all_goals (go_ret;refine⟨retb ?_,bt (al _ _) (al _ _)⟩;first|grind|(simp;grind)|(simp[beqd];grind))
theorem ichild_any(w:World)(p:Pv)(x:Iv):Calls Tryz.prog 128 #[p.vl,x.vl] w fun e w'=>e=.returned (.bool (x.it.kidOk p.kind))/\Below w.heap.size w w':=by
 unfold It.kidOk;obtain⟨kind,level,aI,cI,items,aD,cD,data,next⟩:=p
 obtain⟨aK,cK,key,aV,cV,val,child,size⟩:=x;unfold Pv.vl Iv.vl Iv.it;simp only[Pv.cs,Iv.cs];by_cases k2:kind=1/\size<=32
 · obtain⟨rfl,h32⟩:=k2;have h32':decide (size<=32)=true:=by simpa using h32
   rw[if_pos ⟨rfl,h32⟩];go_enter Tryz.func128,Tryz.ntmps128;go_wp2
   all_goals (go_ret;refine⟨retb ?_,bt (al _ _) (al _ _)⟩;simp[beqd])
 · rw[if_neg k2];by_cases k1:kind=1
   · subst k1;have h32':decide (size<=32)=false:=by simp;omega
     go_enter Tryz.func128,Tryz.ntmps128;go_wp2_with (go_at_call 129;refine(IsPage_any _ _).mono ?_;rintro y w1 ⟨rfl,hww⟩;obtain rfl:=hww.symm)
     go_ret;exact⟨rfl,bt (al _ _) (al _ _)⟩
   · have k1':(kind==1)=false:=by simpa using k1
     go_enter Tryz.func128,Tryz.ntmps128;go_wp2_with (go_at_call 129;refine(IsPage_any _ _).mono ?_;rintro y w1 ⟨rfl,hww⟩;obtain rfl:=hww.symm)
     go_ret;exact⟨rfl,bt (al _ _) (al _ _)⟩
theorem check_at(h:p.formE=0)(h0:firstE p.itemE k=0)(hk:k<p.items.length)(hx:p.itemE k≠0):p.check=p.itemE k:=by
 obtain⟨h1,h2⟩:=form_zero h;unfold Pg.check;rw[if_neg (by rw[h1];simp),if_neg (by rw[h2];simp),firstE_stop h0 hx _ hk,if_pos hx]
theorem check_end(h:p.formE=0)(h0:firstE p.itemE p.items.length=0):p.check=if p.nextOk=false then 15 else 0:=by
 obtain⟨h1,h2⟩:=form_zero h;unfold Pg.check;rw[if_neg (by rw[h1];simp),if_neg (by rw[h2];simp),h0,if_neg (by simp)]
theorem ret_nat{a b:Nat}(h:b=a):Ending.returned (.int .i64 (a:Int))=.returned (.int .i64 (b:Int)):=by rw[h]
theorem rowAt{w:World}{bI off:Nat}{L:List Iv}(h:Js w (some ⟨bI,off,none⟩) L)(hk:k<L.length):w.cell? ⟨bI,off+k*4,none⟩=some (.slice (L.getD k Iv.zero).aK (L.getD k Iv.zero).key.length (L.getD k Iv.zero).cK)/\w.cell? ⟨bI,off+k*4+1,none⟩=some (.slice (L.getD k Iv.zero).aV (L.getD k Iv.zero).val.length (L.getD k Iv.zero).cV)/\w.cell? ⟨bI,off+k*4+2,none⟩=some (.int .i64 (L.getD k Iv.zero).child)/\w.cell? ⟨bI,off+k*4+3,none⟩=some (.int .i64 (L.getD k Iv.zero).size):=by
 obtain⟨b2,o2,e2,r2⟩:=h.at hk;simp only[Option.some.injEq,Addr.mk.injEq,and_true] at e2;obtain⟨rfl,rfl⟩:=e2;exact range4 r2
end Go.Proofs.YtcpkinhneehomaaGreat
