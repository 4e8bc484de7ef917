import Derived.Test.YtcpkinhneehomaaGreatWqB14
set_option linter.unusedVariables false
set_option linter.unusedSimpArgs false
set_option maxHeartbeats 3200000
set_option maxRecDepth 8000
namespace Go.Proofs.YtcpkinhneehomaaGreat
open Go.RowKit
theorem iCheck_1(w:World)(p:Pv)(hP:Pi w p)(hf:p.pg.formE=0)(k1:p.kind=1):Calls Tryz.prog 68 #[p.vl] w fun e w'=>e=.returned (.int .i64 (p.pg.check:Int))/\Below w.heap.size w w':=by
 have HP:=hide (hP.keep (al w (.cells p.cs 31)));have hin:p.items.length<=2199023255489:=hP.it.2.1;have B0:=hide (Bx.new w 31 p.cs);have HW:=hide (al w (.cells p.cs 31));obtain⟨v,hv⟩:∃v,w.alloc (.cells p.cs 31)=v:=⟨_,rfl⟩;rw[hv] at HP B0 HW;have PG:=hide fun(w1:World)(hb:Below v.heap.size v w1)=>Bx.page (B0.out.keep hb)
 have FO:=hide fun(w1:World)=>iform_any w1 p
 have HX:=hide (form_zero hf);have HKD:=hide (Pg.kindOk_iff.1 (form_zero hf).1);have KYA:=hide fun(k:Nat)(hk:k<p.items.length)(w1:World)(hb:Below v.heap.size v w1)=>ikey_any w1 p k (HP.out.keep hb) hk
 have VAA:=hide fun(x:Iv)(w1:World)(hb:Below v.heap.size v w1)=>ivalue_any w1 p x
 have CHA:=hide fun(x:Iv)(w1:World)(hb:Below v.heap.size v w1)=>ichild_any w1 p x
 have HEA:=hide fun(k:Nat)(h0:firstE p.pg.itemE k=0)(hk:k<p.items.length)(x:Nat)(hx:x≠0)(e:p.pg.itemE k=x)=>(show p.pg.check=x from by
  rw[check_at hf h0 (by simpa[Pv.pg] using hk) (by rw[e];exact hx),e])
 have HEN:=hide fun(h0:firstE p.pg.itemE p.items.length=0)=>(check_end hf (by simpa[Pv.pg] using h0))
 have HIT:=hide fun k=>(show p.pg.itemE k=if p.pg.keyOk k=false then 7 else if (decide (k=0)||decide (0<cmpB (p.items.getD k Iv.zero).key (p.items.getD (k-1) Iv.zero).key))=false then 11 else if (p.items.getD k Iv.zero).it.valOk p.kind=false then 8 else if (p.items.getD k Iv.zero).it.kidOk p.kind=false then 15 else 0 from by
  unfold Pg.itemE Pg.ordOk;rw[Pv.at,Pv.at];rfl)
 have HNL:=hide fun(h:p.kind=3)=>(show p.items.length=0 from by have h2:=(form_zero hf).2;unfold Pg.form at h2;rw[if_pos (show p.pg.kind=3 from h)] at h2;simp[Pv.pg] at h2;rw[h2.1.1.2];rfl)
 have HNX:Hid (p.pg.nextOk= !(decide (p.kind=3)&&decide (p.next≠0)&& !isNum p.next)):=rfl;rw[HX.out.2] at FO;have hpk:p.pg.kind=p.kind:=rfl;rw[hpk] at HKD;clear hpk HX hP hf;generalize p.pg.check=ans at *;generalize p.pg.itemE=f at *;generalize p.pg.nextOk=nx at *;obtain⟨kind,level,aI,cI,items,aD,cD,data,next⟩:=p
 unfold Pv.vl;simp only[Pv.cs,Pv.vl] at *;subst k1;obtain⟨b0,b1,b2,b3,b4⟩:=PG.out _ (Below.refl _ _);go_enter Tryz.func68,Tryz.ntmps68;go_wp2_with fail
 refine(FO.out _).mono ?_;rintro y w1 ⟨rfl,hb⟩;have T1:=hide hb;clear hb hv FO b0 b1 b2 b3 b4;obtain⟨c0,c1,c2,c3,c4⟩:=PG.out _ T1.out;go_wp2;go_loopw [3] (fun i wx=>∃k:Nat,k<=items.length/\i=.int .i64 k/\Below v.heap.size v wx/\firstE f k=0) (fun i _=>items.length-(intOf i).toNat)
 case atStart=>exact⟨0,Nat.zero_le _,rfl,T1.out,rfl⟩
 case round=>
  clear T1 c0 c1 c2 c3 c4;obtain⟨k,hk,rfl,hT,h0⟩:=hrel;have T1:=hide hT;have H0:=hide h0;clear hT h0;obtain⟨c0,c1,c2,c3,c4⟩:=PG.out _ T1.out;by_cases hlt:k<items.length
  · have hlti:(k:Int)<(items.length:Int):=by omega
    have hj1:=w64 (j:=k) (by omega)
    have KY:=hide (KYA.out k hlt);have VA:=hide (VAA.out (items.getD k Iv.zero));have CH:=hide (CHA.out (items.getD k Iv.zero));have HE:=hide (HEA.out k H0.out hlt);have E4:=hide (HIT.out k);obtain⟨bI,off,rfl⟩:∃bI off,aI=some ⟨bI,off,none⟩:=by obtain⟨b2,o2,e2,_⟩:=HP.out.it.at hlt;exact⟨b2,o2,e2⟩
    have HR:=hide fun(w1:World)(hb:Below v.heap.size v w1)=>rowAt (HP.out.it.keep hb) hlt
    have hlq:k-1<items.length:=by omega
    have HQ:=hide fun(w1:World)(hb:Below v.heap.size v w1)=>(rowAt (HP.out.it.keep hb) hlq).1
    have CM:=hide fun(w1:World)(hb:Below v.heap.size v w1)=>Compare_any w1 (items.getD k Iv.zero).aK (items.getD (k-1) Iv.zero).aK _ _ (items.getD k Iv.zero).cK (items.getD (k-1) Iv.zero).cK (items.getD k Iv.zero).key (items.getD (k-1) Iv.zero).key ((HP.out.it.keep hb).1 _ (getD_memR hlt)).bk ((HP.out.it.keep hb).1 _ (getD_memR hlq)).bk rfl rfl
    generalize items.getD k Iv.zero=x at *;generalize items.getD (k-1) Iv.zero=y at *;simp only[Iv.vl] at VA CH;generalize Pg.keyOk _ k=kk at *;generalize hvv:x.it.valOk _=vv at *;generalize hcc:x.it.kidOk _=cc at *;clear hvv hcc;generalize cmpB x.key y.key=z at *;obtain⟨aK,cK,key,aV,cV,val,child,size⟩:=x;obtain⟨yaK,ycK,yk,yaV,ycV,yval,ychild,ysize⟩:=y;simp only[Iv.cs] at *;clear KYA VAA CHA HEA HIT HEN;by_cases hk0:k=0
    · subst hk0;simp only[Nat.zero_mul,Nat.add_zero] at HR;go_wp2_with fail
      refine(KY.out _ T1.out).mono ?_;rintro y w1 ⟨rfl,hb⟩;have T1:=hide (bt T1.out hb);clear hb;obtain⟨c0,c1,c2,c3,c4⟩:=PG.out _ T1.out;cases kk with
      |false=>
       go_wp2;go_ret;exact⟨ret_nat (HE.out 7 (by decide) (by simp[E4.out])),bt HW.out T1.out⟩
      |true=>
       go_wp2;have T1:=hide (bt T1.out (dr1 _));have S1:=And.intro (PG.out _ T1.out) (HR.out _ T1.out);refine wp_region_held_drew (S:=fun w'=>(w'.cell? ⟨w.heap.size,0,none⟩=some (.int .i64 1)/\w'.cell? ⟨w.heap.size,1,none⟩=some (.int .i64 level)/\w'.cell? ⟨w.heap.size,2,none⟩=some (.slice (some ⟨bI,off,none⟩) items.length cI)/\w'.cell? ⟨w.heap.size,3,none⟩=some (.slice aD data.length cD)/\w'.cell? ⟨w.heap.size,4,none⟩=some (.int .i64 next))/\(w'.cell? ⟨bI,off,none⟩=some (.slice aK key.length cK)/\w'.cell? ⟨bI,off+1,none⟩=some (.slice aV val.length cV)/\w'.cell? ⟨bI,off+2,none⟩=some (.int .i64 child)/\w'.cell? ⟨bI,off+3,none⟩=some (.int .i64 size))) (by kernel_rfl) (by exact S1) (fun hHeld=>?_)
       refine tk 0 ?_;refine tk 1 ?_;refine tk 2 ?_;refine tu 3 ?_;refine tu 4 ?_;refine tu 5 ?_;refine tu 6 ?_;refine tu 7 ?_;refine tu 8 ?_;refine tu 9 ?_;refine tu 10 ?_;refine tu 11 ?_;refine tu 12 ?_;refine tu 13 ?_;refine tu 14 ?_;refine tu 15 ?_;refine tu 16 ?_;refine tu 17 ?_;refine tk 18 ?_;refine td ?_;clear S1;go_wp2;have T1:=hide (bt T1.out (dr1 _));have S1:=And.intro (PG.out _ T1.out) (HR.out _ T1.out);refine wp_region_held_drew (S:=fun w'=>(w'.cell? ⟨w.heap.size,0,none⟩=some (.int .i64 1)/\w'.cell? ⟨w.heap.size,1,none⟩=some (.int .i64 level)/\w'.cell? ⟨w.heap.size,2,none⟩=some (.slice (some ⟨bI,off,none⟩) items.length cI)/\w'.cell? ⟨w.heap.size,3,none⟩=some (.slice aD data.length cD)/\w'.cell? ⟨w.heap.size,4,none⟩=some (.int .i64 next))/\(w'.cell? ⟨bI,off,none⟩=some (.slice aK key.length cK)/\w'.cell? ⟨bI,off+1,none⟩=some (.slice aV val.length cV)/\w'.cell? ⟨bI,off+2,none⟩=some (.int .i64 child)/\w'.cell? ⟨bI,off+3,none⟩=some (.int .i64 size))) (by kernel_rfl) (by exact S1) (fun hHeld=>?_)
       refine tk 0 ?_;refine tk 1 ?_;refine tk 2 ?_;refine tk 3 ?_;refine tk 4 ?_;refine tk 5 ?_;refine tw 6 fun K hK=>?_
       go_simp;refine(VA.out _ T1.out).mono ?_;rintro e w9 ⟨rfl,hb⟩;have T1:=hide (bt T1.out hb);have S1:=And.intro (PG.out _ T1.out) (HR.out _ T1.out);clear hb;go_wp2_with fail
       refine hK.out _ _ (by exact S1) (fun hHeld=>?_)
       clear hK K;try simp only[pt]
       refine tk 7 ?_;refine td ?_;clear S1;cases vv with
       |false=>
        go_wp2;go_ret;exact⟨ret_nat (HE.out 8 (by decide) (by rw[E4.out];first|(simp;done)|(simp;omega))),bt HW.out T1.out⟩
       |true=>
        go_wp2;have T1:=hide (bt T1.out (dr1 _));have S1:=And.intro (PG.out _ T1.out) (HR.out _ T1.out);refine wp_region_held_drew (S:=fun w'=>(w'.cell? ⟨w.heap.size,0,none⟩=some (.int .i64 1)/\w'.cell? ⟨w.heap.size,1,none⟩=some (.int .i64 level)/\w'.cell? ⟨w.heap.size,2,none⟩=some (.slice (some ⟨bI,off,none⟩) items.length cI)/\w'.cell? ⟨w.heap.size,3,none⟩=some (.slice aD data.length cD)/\w'.cell? ⟨w.heap.size,4,none⟩=some (.int .i64 next))/\(w'.cell? ⟨bI,off,none⟩=some (.slice aK key.length cK)/\w'.cell? ⟨bI,off+1,none⟩=some (.slice aV val.length cV)/\w'.cell? ⟨bI,off+2,none⟩=some (.int .i64 child)/\w'.cell? ⟨bI,off+3,none⟩=some (.int .i64 size))) (by kernel_rfl) (by exact S1) (fun hHeld=>?_)
        refine tk 0 ?_;refine tk 1 ?_;refine tk 2 ?_;refine tk 3 ?_;refine tk 4 ?_;refine tk 5 ?_;refine tw 6 fun K hK=>?_
        go_simp;refine(CH.out _ T1.out).mono ?_;rintro e w9 ⟨rfl,hb⟩;have T1:=hide (bt T1.out hb);have S1:=And.intro (PG.out _ T1.out) (HR.out _ T1.out);clear hb;go_wp2_with fail
        refine hK.out _ _ (by exact S1) (fun hHeld=>?_)
        clear hK K;try simp only[pt]
        refine tk 7 ?_;refine td ?_;clear S1;cases cc with
        |false=>
         go_wp2;go_ret;exact⟨ret_nat (HE.out 15 (by decide) (by rw[E4.out];first|(simp;done)|(simp;omega))),bt HW.out T1.out⟩
        |true=>
         go_wp2;go_roundw
         case rel=>exact⟨0+1,by omega,by first|(go_num;done)|exact congrArg (Value.int IntKind.i64) (by omega),T1.out,by rw[firstE_snoc,H0.out];show f 0=0;rw[E4.out];first|(simp;done)|(simp;omega)⟩
         case measure=>first|exact meas_up _ _ _ hj1 hlt|exact meas_up _ _ _ rfl hlt|(simp[intOf];omega)
    · obtain⟨j,rfl⟩:∃j,k=j+1:=⟨k-1,by omega⟩
      rw[show j+1-1=j by omega] at HQ
      have hwj:IntKind.i64.wrap (j:Int)=(j:Int):=wrapI (by omega) (by omega)
      have hkq:(j:Int)<(items.length:Int):=by omega
      have hj0:(0:Int)<=(j:Int)+1:=by omega
      go_wp2_with fail
      refine(KY.out _ T1.out).mono ?_;rintro y w1 ⟨rfl,hb⟩;have T1:=hide (bt T1.out hb);clear hb;obtain⟨c0,c1,c2,c3,c4⟩:=PG.out _ T1.out;cases kk with
      |false=>
       go_wp2;go_ret;exact⟨ret_nat (HE.out 7 (by decide) (by simp[E4.out])),bt HW.out T1.out⟩
      |true=>
       go_wp2;have T1:=hide (bt T1.out (dr1 _));have S1:=And.intro (PG.out _ T1.out) (And.intro (HR.out _ T1.out) (HQ.out _ T1.out));refine wp_region_held_drew (S:=fun w'=>(w'.cell? ⟨w.heap.size,0,none⟩=some (.int .i64 1)/\w'.cell? ⟨w.heap.size,1,none⟩=some (.int .i64 level)/\w'.cell? ⟨w.heap.size,2,none⟩=some (.slice (some ⟨bI,off,none⟩) items.length cI)/\w'.cell? ⟨w.heap.size,3,none⟩=some (.slice aD data.length cD)/\w'.cell? ⟨w.heap.size,4,none⟩=some (.int .i64 next))/\(w'.cell? ⟨bI,off+(j+1)*4,none⟩=some (.slice aK key.length cK)/\w'.cell? ⟨bI,off+(j+1)*4+1,none⟩=some (.slice aV val.length cV)/\w'.cell? ⟨bI,off+(j+1)*4+2,none⟩=some (.int .i64 child)/\w'.cell? ⟨bI,off+(j+1)*4+3,none⟩=some (.int .i64 size))/\w'.cell? ⟨bI,off+j*4,none⟩=some (.slice yaK yk.length ycK)) (by kernel_rfl) (by exact S1) (fun hHeld=>?_)
       refine tk 0 ?_;refine tk 1 ?_;refine tk 2 ?_;refine tk 3 ?_;refine tk 4 ?_;refine tk 5 ?_;refine tk 6 ?_;refine tk 7 ?_;refine tk 8 ?_;refine tk 9 ?_;refine tk 10 ?_;refine tk 11 ?_;refine tk 12 ?_;refine tk 13 ?_;refine tk 14 ?_;refine tk 15 ?_;refine tw 16 fun K hK=>?_
       go_simp;refine(CM.out _ T1.out).mono ?_;rintro e w9 ⟨rfl,hb⟩;have T1:=hide (bt T1.out hb);have S1:=And.intro (PG.out _ T1.out) (And.intro (HR.out _ T1.out) (HQ.out _ T1.out));clear hb;go_wp2_with fail
       refine hK.out _ _ (by exact S1) (fun hHeld=>?_)
       clear hK K;try simp only[pt]
       refine tk 17 ?_;refine tk 18 ?_;refine td ?_;clear S1;by_cases hz:z<=0
       · have hzd:decide (z<=0)=true:=by simpa using hz
         go_wp2;go_ret;exact⟨ret_nat (HE.out 11 (by decide) (by rw[E4.out];first|(simp;done)|(simp;omega)|(simp[hz];done)|(simp[hz];omega))),bt HW.out T1.out⟩
       · have hzd:decide (z<=0)=false:=by simpa using hz
         go_wp2;have T1:=hide (bt T1.out (dr1 _));have S1:=And.intro (PG.out _ T1.out) (HR.out _ T1.out);refine wp_region_held_drew (S:=fun w'=>(w'.cell? ⟨w.heap.size,0,none⟩=some (.int .i64 1)/\w'.cell? ⟨w.heap.size,1,none⟩=some (.int .i64 level)/\w'.cell? ⟨w.heap.size,2,none⟩=some (.slice (some ⟨bI,off,none⟩) items.length cI)/\w'.cell? ⟨w.heap.size,3,none⟩=some (.slice aD data.length cD)/\w'.cell? ⟨w.heap.size,4,none⟩=some (.int .i64 next))/\(w'.cell? ⟨bI,off+(j+1)*4,none⟩=some (.slice aK key.length cK)/\w'.cell? ⟨bI,off+(j+1)*4+1,none⟩=some (.slice aV val.length cV)/\w'.cell? ⟨bI,off+(j+1)*4+2,none⟩=some (.int .i64 child)/\w'.cell? ⟨bI,off+(j+1)*4+3,none⟩=some (.int .i64 size))) (by kernel_rfl) (by exact S1) (fun hHeld=>?_)
         refine tk 0 ?_;refine tk 1 ?_;refine tk 2 ?_;refine tk 3 ?_;refine tk 4 ?_;refine tk 5 ?_;refine tw 6 fun K hK=>?_
         go_simp;refine(VA.out _ T1.out).mono ?_;rintro e w9 ⟨rfl,hb⟩;have T1:=hide (bt T1.out hb);have S1:=And.intro (PG.out _ T1.out) (HR.out _ T1.out);clear hb;go_wp2_with fail
         refine hK.out _ _ (by exact S1) (fun hHeld=>?_)
         clear hK K;try simp only[pt]
         refine tk 7 ?_;refine td ?_;clear S1;cases vv with
         |false=>
          go_wp2;go_ret;exact⟨ret_nat (HE.out 8 (by decide) (by rw[E4.out];first|(simp;done)|(simp;omega)|(simp[hz];done)|(simp[hz];omega))),bt HW.out T1.out⟩
         |true=>
          go_wp2;have T1:=hide (bt T1.out (dr1 _));have S1:=And.intro (PG.out _ T1.out) (HR.out _ T1.out);refine wp_region_held_drew (S:=fun w'=>(w'.cell? ⟨w.heap.size,0,none⟩=some (.int .i64 1)/\w'.cell? ⟨w.heap.size,1,none⟩=some (.int .i64 level)/\w'.cell? ⟨w.heap.size,2,none⟩=some (.slice (some ⟨bI,off,none⟩) items.length cI)/\w'.cell? ⟨w.heap.size,3,none⟩=some (.slice aD data.length cD)/\w'.cell? ⟨w.heap.size,4,none⟩=some (.int .i64 next))/\(w'.cell? ⟨bI,off+(j+1)*4,none⟩=some (.slice aK key.length cK)/\w'.cell? ⟨bI,off+(j+1)*4+1,none⟩=some (.slice aV val.length cV)/\w'.cell? ⟨bI,off+(j+1)*4+2,none⟩=some (.int .i64 child)/\w'.cell? ⟨bI,off+(j+1)*4+3,none⟩=some (.int .i64 size))) (by kernel_rfl) (by exact S1) (fun hHeld=>?_)
          refine tk 0 ?_;refine tk 1 ?_;refine tk 2 ?_;refine tk 3 ?_;refine tk 4 ?_;refine tk 5 ?_;refine tw 6 fun K hK=>?_
          go_simp;refine(CH.out _ T1.out).mono ?_;rintro e w9 ⟨rfl,hb⟩;have T1:=hide (bt T1.out hb);have S1:=And.intro (PG.out _ T1.out) (HR.out _ T1.out);clear hb;go_wp2_with fail
          refine hK.out _ _ (by exact S1) (fun hHeld=>?_)
          clear hK K;try simp only[pt]
          refine tk 7 ?_;refine td ?_;clear S1;cases cc with
          |false=>
           go_wp2;go_ret;exact⟨ret_nat (HE.out 15 (by decide) (by rw[E4.out];first|(simp;done)|(simp;omega)|(simp[hz];done)|(simp[hz];omega))),bt HW.out T1.out⟩
          |true=>
           go_wp2;go_roundw
           case rel=>exact⟨j+1+1,by omega,by first|(go_num;done)|exact congrArg (Value.int IntKind.i64) (by omega),T1.out,by rw[firstE_snoc,H0.out];show f (j+1)=0;rw[E4.out];first|(simp;done)|(simp;omega)|(simp[hz];done)|(simp[hz];omega)⟩
           case measure=>first|exact meas_up _ _ _ hj1 hlt|exact meas_up _ _ _ rfl hlt|(simp[intOf];omega)
  · obtain rfl:k=items.length:=by omega
    go_wp2;go_ret;exact⟨ret_nat (by rw[HEN.out H0.out,HNX.out];simp),bt HW.out T1.out⟩
theorem iCheck_2(w:World)(p:Pv)(hP:Pi w p)(hf:p.pg.formE=0)(k1:p.kind=2):Calls Tryz.prog 68 #[p.vl] w fun e w'=>e=.returned (.int .i64 (p.pg.check:Int))/\Below w.heap.size w w':=by
 have HP:=hide (hP.keep (al w (.cells p.cs 31)));have hin:p.items.length<=2199023255489:=hP.it.2.1;have B0:=hide (Bx.new w 31 p.cs);have HW:=hide (al w (.cells p.cs 31));obtain⟨v,hv⟩:∃v,w.alloc (.cells p.cs 31)=v:=⟨_,rfl⟩;rw[hv] at HP B0 HW;have PG:=hide fun(w1:World)(hb:Below v.heap.size v w1)=>Bx.page (B0.out.keep hb)
 have FO:=hide fun(w1:World)=>iform_any w1 p
 have HX:=hide (form_zero hf);have HKD:=hide (Pg.kindOk_iff.1 (form_zero hf).1);have KYA:=hide fun(k:Nat)(hk:k<p.items.length)(w1:World)(hb:Below v.heap.size v w1)=>ikey_any w1 p k (HP.out.keep hb) hk
 have VAA:=hide fun(x:Iv)(w1:World)(hb:Below v.heap.size v w1)=>ivalue_any w1 p x
 have CHA:=hide fun(x:Iv)(w1:World)(hb:Below v.heap.size v w1)=>ichild_any w1 p x
 have HEA:=hide fun(k:Nat)(h0:firstE p.pg.itemE k=0)(hk:k<p.items.length)(x:Nat)(hx:x≠0)(e:p.pg.itemE k=x)=>(show p.pg.check=x from by
  rw[check_at hf h0 (by simpa[Pv.pg] using hk) (by rw[e];exact hx),e])
 have HEN:=hide fun(h0:firstE p.pg.itemE p.items.length=0)=>(check_end hf (by simpa[Pv.pg] using h0))
 have HIT:=hide fun k=>(show p.pg.itemE k=if p.pg.keyOk k=false then 7 else if (decide (k=0)||decide (0<cmpB (p.items.getD k Iv.zero).key (p.items.getD (k-1) Iv.zero).key))=false then 11 else if (p.items.getD k Iv.zero).it.valOk p.kind=false then 8 else if (p.items.getD k Iv.zero).it.kidOk p.kind=false then 15 else 0 from by
  unfold Pg.itemE Pg.ordOk;rw[Pv.at,Pv.at];rfl)
 have HNL:=hide fun(h:p.kind=3)=>(show p.items.length=0 from by have h2:=(form_zero hf).2;unfold Pg.form at h2;rw[if_pos (show p.pg.kind=3 from h)] at h2;simp[Pv.pg] at h2;rw[h2.1.1.2];rfl)
 have HNX:Hid (p.pg.nextOk= !(decide (p.kind=3)&&decide (p.next≠0)&& !isNum p.next)):=rfl;rw[HX.out.2] at FO;have hpk:p.pg.kind=p.kind:=rfl;rw[hpk] at HKD;clear hpk HX hP hf;generalize p.pg.check=ans at *;generalize p.pg.itemE=f at *;generalize p.pg.nextOk=nx at *;obtain⟨kind,level,aI,cI,items,aD,cD,data,next⟩:=p
 unfold Pv.vl;simp only[Pv.cs,Pv.vl] at *;subst k1;obtain⟨b0,b1,b2,b3,b4⟩:=PG.out _ (Below.refl _ _);go_enter Tryz.func68,Tryz.ntmps68;go_wp2_with fail
 refine(FO.out _).mono ?_;rintro y w1 ⟨rfl,hb⟩;have T1:=hide hb;clear hb hv FO b0 b1 b2 b3 b4;obtain⟨c0,c1,c2,c3,c4⟩:=PG.out _ T1.out;go_wp2;go_loopw [3] (fun i wx=>∃k:Nat,k<=items.length/\i=.int .i64 k/\Below v.heap.size v wx/\firstE f k=0) (fun i _=>items.length-(intOf i).toNat)
 case atStart=>exact⟨0,Nat.zero_le _,rfl,T1.out,rfl⟩
 case round=>
  clear T1 c0 c1 c2 c3 c4;obtain⟨k,hk,rfl,hT,h0⟩:=hrel;have T1:=hide hT;have H0:=hide h0;clear hT h0;obtain⟨c0,c1,c2,c3,c4⟩:=PG.out _ T1.out;by_cases hlt:k<items.length
  · have hlti:(k:Int)<(items.length:Int):=by omega
    have hj1:=w64 (j:=k) (by omega)
    have KY:=hide (KYA.out k hlt);have VA:=hide (VAA.out (items.getD k Iv.zero));have CH:=hide (CHA.out (items.getD k Iv.zero));have HE:=hide (HEA.out k H0.out hlt);have E4:=hide (HIT.out k);obtain⟨bI,off,rfl⟩:∃bI off,aI=some ⟨bI,off,none⟩:=by obtain⟨b2,o2,e2,_⟩:=HP.out.it.at hlt;exact⟨b2,o2,e2⟩
    have HR:=hide fun(w1:World)(hb:Below v.heap.size v w1)=>rowAt (HP.out.it.keep hb) hlt
    have hlq:k-1<items.length:=by omega
    have HQ:=hide fun(w1:World)(hb:Below v.heap.size v w1)=>(rowAt (HP.out.it.keep hb) hlq).1
    have CM:=hide fun(w1:World)(hb:Below v.heap.size v w1)=>Compare_any w1 (items.getD k Iv.zero).aK (items.getD (k-1) Iv.zero).aK _ _ (items.getD k Iv.zero).cK (items.getD (k-1) Iv.zero).cK (items.getD k Iv.zero).key (items.getD (k-1) Iv.zero).key ((HP.out.it.keep hb).1 _ (getD_memR hlt)).bk ((HP.out.it.keep hb).1 _ (getD_memR hlq)).bk rfl rfl
    generalize items.getD k Iv.zero=x at *;generalize items.getD (k-1) Iv.zero=y at *;simp only[Iv.vl] at VA CH;generalize Pg.keyOk _ k=kk at *;generalize hvv:x.it.valOk _=vv at *;generalize hcc:x.it.kidOk _=cc at *;clear hvv hcc;generalize cmpB x.key y.key=z at *;obtain⟨aK,cK,key,aV,cV,val,child,size⟩:=x;obtain⟨yaK,ycK,yk,yaV,ycV,yval,ychild,ysize⟩:=y;simp only[Iv.cs] at *;clear KYA VAA CHA HEA HIT HEN;by_cases hk0:k=0
    · subst hk0;simp only[Nat.zero_mul,Nat.add_zero] at HR;go_wp2_with fail
      refine(KY.out _ T1.out).mono ?_;rintro y w1 ⟨rfl,hb⟩;have T1:=hide (bt T1.out hb);clear hb;obtain⟨c0,c1,c2,c3,c4⟩:=PG.out _ T1.out;cases kk with
      |false=>
       go_wp2;go_ret;exact⟨ret_nat (HE.out 7 (by decide) (by simp[E4.out])),bt HW.out T1.out⟩
      |true=>
       go_wp2;have T1:=hide (bt T1.out (dr1 _));have S1:=And.intro (PG.out _ T1.out) (HR.out _ T1.out);refine wp_region_held_drew (S:=fun w'=>(w'.cell? ⟨w.heap.size,0,none⟩=some (.int .i64 2)/\w'.cell? ⟨w.heap.size,1,none⟩=some (.int .i64 level)/\w'.cell? ⟨w.heap.size,2,none⟩=some (.slice (some ⟨bI,off,none⟩) items.length cI)/\w'.cell? ⟨w.heap.size,3,none⟩=some (.slice aD data.length cD)/\w'.cell? ⟨w.heap.size,4,none⟩=some (.int .i64 next))/\(w'.cell? ⟨bI,off,none⟩=some (.slice aK key.length cK)/\w'.cell? ⟨bI,off+1,none⟩=some (.slice aV val.length cV)/\w'.cell? ⟨bI,off+2,none⟩=some (.int .i64 child)/\w'.cell? ⟨bI,off+3,none⟩=some (.int .i64 size))) (by kernel_rfl) (by exact S1) (fun hHeld=>?_)
       refine tk 0 ?_;refine tk 1 ?_;refine tk 2 ?_;refine tu 3 ?_;refine tu 4 ?_;refine tu 5 ?_;refine tu 6 ?_;refine tu 7 ?_;refine tu 8 ?_;refine tu 9 ?_;refine tu 10 ?_;refine tu 11 ?_;refine tu 12 ?_;refine tu 13 ?_;refine tu 14 ?_;refine tu 15 ?_;refine tu 16 ?_;refine tu 17 ?_;refine tk 18 ?_;refine td ?_;clear S1;go_wp2;have T1:=hide (bt T1.out (dr1 _));have S1:=And.intro (PG.out _ T1.out) (HR.out _ T1.out);refine wp_region_held_drew (S:=fun w'=>(w'.cell? ⟨w.heap.size,0,none⟩=some (.int .i64 2)/\w'.cell? ⟨w.heap.size,1,none⟩=some (.int .i64 level)/\w'.cell? ⟨w.heap.size,2,none⟩=some (.slice (some ⟨bI,off,none⟩) items.length cI)/\w'.cell? ⟨w.heap.size,3,none⟩=some (.slice aD data.length cD)/\w'.cell? ⟨w.heap.size,4,none⟩=some (.int .i64 next))/\(w'.cell? ⟨bI,off,none⟩=some (.slice aK key.length cK)/\w'.cell? ⟨bI,off+1,none⟩=some (.slice aV val.length cV)/\w'.cell? ⟨bI,off+2,none⟩=some (.int .i64 child)/\w'.cell? ⟨bI,off+3,none⟩=some (.int .i64 size))) (by kernel_rfl) (by exact S1) (fun hHeld=>?_)
       refine tk 0 ?_;refine tk 1 ?_;refine tk 2 ?_;refine tk 3 ?_;refine tk 4 ?_;refine tk 5 ?_;refine tw 6 fun K hK=>?_
       go_simp;refine(VA.out _ T1.out).mono ?_;rintro e w9 ⟨rfl,hb⟩;have T1:=hide (bt T1.out hb);have S1:=And.intro (PG.out _ T1.out) (HR.out _ T1.out);clear hb;go_wp2_with fail
       refine hK.out _ _ (by exact S1) (fun hHeld=>?_)
       clear hK K;try simp only[pt]
       refine tk 7 ?_;refine td ?_;clear S1;cases vv with
       |false=>
        go_wp2;go_ret;exact⟨ret_nat (HE.out 8 (by decide) (by rw[E4.out];first|(simp;done)|(simp;omega))),bt HW.out T1.out⟩
       |true=>
        go_wp2;have T1:=hide (bt T1.out (dr1 _));have S1:=And.intro (PG.out _ T1.out) (HR.out _ T1.out);refine wp_region_held_drew (S:=fun w'=>(w'.cell? ⟨w.heap.size,0,none⟩=some (.int .i64 2)/\w'.cell? ⟨w.heap.size,1,none⟩=some (.int .i64 level)/\w'.cell? ⟨w.heap.size,2,none⟩=some (.slice (some ⟨bI,off,none⟩) items.length cI)/\w'.cell? ⟨w.heap.size,3,none⟩=some (.slice aD data.length cD)/\w'.cell? ⟨w.heap.size,4,none⟩=some (.int .i64 next))/\(w'.cell? ⟨bI,off,none⟩=some (.slice aK key.length cK)/\w'.cell? ⟨bI,off+1,none⟩=some (.slice aV val.length cV)/\w'.cell? ⟨bI,off+2,none⟩=some (.int .i64 child)/\w'.cell? ⟨bI,off+3,none⟩=some (.int .i64 size))) (by kernel_rfl) (by exact S1) (fun hHeld=>?_)
        refine tk 0 ?_;refine tk 1 ?_;refine tk 2 ?_;refine tk 3 ?_;refine tk 4 ?_;refine tk 5 ?_;refine tw 6 fun K hK=>?_
        go_simp;refine(CH.out _ T1.out).mono ?_;rintro e w9 ⟨rfl,hb⟩;have T1:=hide (bt T1.out hb);have S1:=And.intro (PG.out _ T1.out) (HR.out _ T1.out);clear hb;go_wp2_with fail
        refine hK.out _ _ (by exact S1) (fun hHeld=>?_)
        clear hK K;try simp only[pt]
        refine tk 7 ?_;refine td ?_;clear S1;cases cc with
        |false=>
         go_wp2;go_ret;exact⟨ret_nat (HE.out 15 (by decide) (by rw[E4.out];first|(simp;done)|(simp;omega))),bt HW.out T1.out⟩
        |true=>
         go_wp2;go_roundw
         case rel=>exact⟨0+1,by omega,by first|(go_num;done)|exact congrArg (Value.int IntKind.i64) (by omega),T1.out,by rw[firstE_snoc,H0.out];show f 0=0;rw[E4.out];first|(simp;done)|(simp;omega)⟩
         case measure=>first|exact meas_up _ _ _ hj1 hlt|exact meas_up _ _ _ rfl hlt|(simp[intOf];omega)
    · obtain⟨j,rfl⟩:∃j,k=j+1:=⟨k-1,by omega⟩
      rw[show j+1-1=j by omega] at HQ
      have hwj:IntKind.i64.wrap (j:Int)=(j:Int):=wrapI (by omega) (by omega)
      have hkq:(j:Int)<(items.length:Int):=by omega
      have hj0:(0:Int)<=(j:Int)+1:=by omega
      go_wp2_with fail
      refine(KY.out _ T1.out).mono ?_;rintro y w1 ⟨rfl,hb⟩;have T1:=hide (bt T1.out hb);clear hb;obtain⟨c0,c1,c2,c3,c4⟩:=PG.out _ T1.out;cases kk with
      |false=>
       go_wp2;go_ret;exact⟨ret_nat (HE.out 7 (by decide) (by simp[E4.out])),bt HW.out T1.out⟩
      |true=>
       go_wp2;have T1:=hide (bt T1.out (dr1 _));have S1:=And.intro (PG.out _ T1.out) (And.intro (HR.out _ T1.out) (HQ.out _ T1.out));refine wp_region_held_drew (S:=fun w'=>(w'.cell? ⟨w.heap.size,0,none⟩=some (.int .i64 2)/\w'.cell? ⟨w.heap.size,1,none⟩=some (.int .i64 level)/\w'.cell? ⟨w.heap.size,2,none⟩=some (.slice (some ⟨bI,off,none⟩) items.length cI)/\w'.cell? ⟨w.heap.size,3,none⟩=some (.slice aD data.length cD)/\w'.cell? ⟨w.heap.size,4,none⟩=some (.int .i64 next))/\(w'.cell? ⟨bI,off+(j+1)*4,none⟩=some (.slice aK key.length cK)/\w'.cell? ⟨bI,off+(j+1)*4+1,none⟩=some (.slice aV val.length cV)/\w'.cell? ⟨bI,off+(j+1)*4+2,none⟩=some (.int .i64 child)/\w'.cell? ⟨bI,off+(j+1)*4+3,none⟩=some (.int .i64 size))/\w'.cell? ⟨bI,off+j*4,none⟩=some (.slice yaK yk.length ycK)) (by kernel_rfl) (by exact S1) (fun hHeld=>?_)
       refine tk 0 ?_;refine tk 1 ?_;refine tk 2 ?_;refine tk 3 ?_;refine tk 4 ?_;refine tk 5 ?_;refine tk 6 ?_;refine tk 7 ?_;refine tk 8 ?_;refine tk 9 ?_;refine tk 10 ?_;refine tk 11 ?_;refine tk 12 ?_;refine tk 13 ?_;refine tk 14 ?_;refine tk 15 ?_;refine tw 16 fun K hK=>?_
       go_simp;refine(CM.out _ T1.out).mono ?_;rintro e w9 ⟨rfl,hb⟩;have T1:=hide (bt T1.out hb);have S1:=And.intro (PG.out _ T1.out) (And.intro (HR.out _ T1.out) (HQ.out _ T1.out));clear hb;go_wp2_with fail
       refine hK.out _ _ (by exact S1) (fun hHeld=>?_)
       clear hK K;try simp only[pt]
       refine tk 17 ?_;refine tk 18 ?_;refine td ?_;clear S1;by_cases hz:z<=0
       · have hzd:decide (z<=0)=true:=by simpa using hz
         go_wp2;go_ret;exact⟨ret_nat (HE.out 11 (by decide) (by rw[E4.out];first|(simp;done)|(simp;omega)|(simp[hz];done)|(simp[hz];omega))),bt HW.out T1.out⟩
       · have hzd:decide (z<=0)=false:=by simpa using hz
         go_wp2;have T1:=hide (bt T1.out (dr1 _));have S1:=And.intro (PG.out _ T1.out) (HR.out _ T1.out);refine wp_region_held_drew (S:=fun w'=>(w'.cell? ⟨w.heap.size,0,none⟩=some (.int .i64 2)/\w'.cell? ⟨w.heap.size,1,none⟩=some (.int .i64 level)/\w'.cell? ⟨w.heap.size,2,none⟩=some (.slice (some ⟨bI,off,none⟩) items.length cI)/\w'.cell? ⟨w.heap.size,3,none⟩=some (.slice aD data.length cD)/\w'.cell? ⟨w.heap.size,4,none⟩=some (.int .i64 next))/\(w'.cell? ⟨bI,off+(j+1)*4,none⟩=some (.slice aK key.length cK)/\w'.cell? ⟨bI,off+(j+1)*4+1,none⟩=some (.slice aV val.length cV)/\w'.cell? ⟨bI,off+(j+1)*4+2,none⟩=some (.int .i64 child)/\w'.cell? ⟨bI,off+(j+1)*4+3,none⟩=some (.int .i64 size))) (by kernel_rfl) (by exact S1) (fun hHeld=>?_)
         refine tk 0 ?_;refine tk 1 ?_;refine tk 2 ?_;refine tk 3 ?_;refine tk 4 ?_;refine tk 5 ?_;refine tw 6 fun K hK=>?_
         go_simp;refine(VA.out _ T1.out).mono ?_;rintro e w9 ⟨rfl,hb⟩;have T1:=hide (bt T1.out hb);have S1:=And.intro (PG.out _ T1.out) (HR.out _ T1.out);clear hb;go_wp2_with fail
         refine hK.out _ _ (by exact S1) (fun hHeld=>?_)
         clear hK K;try simp only[pt]
         refine tk 7 ?_;refine td ?_;clear S1;cases vv with
         |false=>
          go_wp2;go_ret;exact⟨ret_nat (HE.out 8 (by decide) (by rw[E4.out];first|(simp;done)|(simp;omega)|(simp[hz];done)|(simp[hz];omega))),bt HW.out T1.out⟩
         |true=>
          go_wp2;have T1:=hide (bt T1.out (dr1 _));have S1:=And.intro (PG.out _ T1.out) (HR.out _ T1.out);refine wp_region_held_drew (S:=fun w'=>(w'.cell? ⟨w.heap.size,0,none⟩=some (.int .i64 2)/\w'.cell? ⟨w.heap.size,1,none⟩=some (.int .i64 level)/\w'.cell? ⟨w.heap.size,2,none⟩=some (.slice (some ⟨bI,off,none⟩) items.length cI)/\w'.cell? ⟨w.heap.size,3,none⟩=some (.slice aD data.length cD)/\w'.cell? ⟨w.heap.size,4,none⟩=some (.int .i64 next))/\(w'.cell? ⟨bI,off+(j+1)*4,none⟩=some (.slice aK key.length cK)/\w'.cell? ⟨bI,off+(j+1)*4+1,none⟩=some (.slice aV val.length cV)/\w'.cell? ⟨bI,off+(j+1)*4+2,none⟩=some (.int .i64 child)/\w'.cell? ⟨bI,off+(j+1)*4+3,none⟩=some (.int .i64 size))) (by kernel_rfl) (by exact S1) (fun hHeld=>?_)
          refine tk 0 ?_;refine tk 1 ?_;refine tk 2 ?_;refine tk 3 ?_;refine tk 4 ?_;refine tk 5 ?_;refine tw 6 fun K hK=>?_
          go_simp;refine(CH.out _ T1.out).mono ?_;rintro e w9 ⟨rfl,hb⟩;have T1:=hide (bt T1.out hb);have S1:=And.intro (PG.out _ T1.out) (HR.out _ T1.out);clear hb;go_wp2_with fail
          refine hK.out _ _ (by exact S1) (fun hHeld=>?_)
          clear hK K;try simp only[pt]
          refine tk 7 ?_;refine td ?_;clear S1;cases cc with
          |false=>
           go_wp2;go_ret;exact⟨ret_nat (HE.out 15 (by decide) (by rw[E4.out];first|(simp;done)|(simp;omega)|(simp[hz];done)|(simp[hz];omega))),bt HW.out T1.out⟩
          |true=>
           go_wp2;go_roundw
           case rel=>exact⟨j+1+1,by omega,by first|(go_num;done)|exact congrArg (Value.int IntKind.i64) (by omega),T1.out,by rw[firstE_snoc,H0.out];show f (j+1)=0;rw[E4.out];first|(simp;done)|(simp;omega)|(simp[hz];done)|(simp[hz];omega)⟩
           case measure=>first|exact meas_up _ _ _ hj1 hlt|exact meas_up _ _ _ rfl hlt|(simp[intOf];omega)
  · obtain rfl:k=items.length:=by omega
    go_wp2;go_ret;exact⟨ret_nat (by rw[HEN.out H0.out,HNX.out];simp),bt HW.out T1.out⟩
theorem iCheck_3(w:World)(p:Pv)(hP:Pi w p)(hf:p.pg.formE=0)(k1:p.kind=3):Calls Tryz.prog 68 #[p.vl] w fun e w'=>e=.returned (.int .i64 (p.pg.check:Int))/\Below w.heap.size w w':=by
 have HP:=hide (hP.keep (al w (.cells p.cs 31)));have hin:p.items.length<=2199023255489:=hP.it.2.1;have B0:=hide (Bx.new w 31 p.cs);have HW:=hide (al w (.cells p.cs 31));obtain⟨v,hv⟩:∃v,w.alloc (.cells p.cs 31)=v:=⟨_,rfl⟩;rw[hv] at HP B0 HW;have PG:=hide fun(w1:World)(hb:Below v.heap.size v w1)=>Bx.page (B0.out.keep hb)
 have FO:=hide fun(w1:World)=>iform_any w1 p
 have HX:=hide (form_zero hf);have HKD:=hide (Pg.kindOk_iff.1 (form_zero hf).1);have KYA:=hide fun(k:Nat)(hk:k<p.items.length)(w1:World)(hb:Below v.heap.size v w1)=>ikey_any w1 p k (HP.out.keep hb) hk
 have VAA:=hide fun(x:Iv)(w1:World)(hb:Below v.heap.size v w1)=>ivalue_any w1 p x
 have CHA:=hide fun(x:Iv)(w1:World)(hb:Below v.heap.size v w1)=>ichild_any w1 p x
 have HEA:=hide fun(k:Nat)(h0:firstE p.pg.itemE k=0)(hk:k<p.items.length)(x:Nat)(hx:x≠0)(e:p.pg.itemE k=x)=>(show p.pg.check=x from by
  rw[check_at hf h0 (by simpa[Pv.pg] using hk) (by rw[e];exact hx),e])
 have HEN:=hide fun(h0:firstE p.pg.itemE p.items.length=0)=>(check_end hf (by simpa[Pv.pg] using h0))
 have HIT:=hide fun k=>(show p.pg.itemE k=if p.pg.keyOk k=false then 7 else if (decide (k=0)||decide (0<cmpB (p.items.getD k Iv.zero).key (p.items.getD (k-1) Iv.zero).key))=false then 11 else if (p.items.getD k Iv.zero).it.valOk p.kind=false then 8 else if (p.items.getD k Iv.zero).it.kidOk p.kind=false then 15 else 0 from by
  unfold Pg.itemE Pg.ordOk;rw[Pv.at,Pv.at];rfl)
 have HNL:=hide fun(h:p.kind=3)=>(show p.items.length=0 from by have h2:=(form_zero hf).2;unfold Pg.form at h2;rw[if_pos (show p.pg.kind=3 from h)] at h2;simp[Pv.pg] at h2;rw[h2.1.1.2];rfl)
 have HNX:Hid (p.pg.nextOk= !(decide (p.kind=3)&&decide (p.next≠0)&& !isNum p.next)):=rfl;rw[HX.out.2] at FO;have hpk:p.pg.kind=p.kind:=rfl;rw[hpk] at HKD;clear hpk HX hP hf;generalize p.pg.check=ans at *;generalize p.pg.itemE=f at *;generalize p.pg.nextOk=nx at *;obtain⟨kind,level,aI,cI,items,aD,cD,data,next⟩:=p
 unfold Pv.vl;simp only[Pv.cs,Pv.vl] at *;subst k1;obtain rfl:=List.length_eq_zero_iff.1 (HNL.out rfl);simp only[List.length_nil] at *;obtain⟨b0,b1,b2,b3,b4⟩:=PG.out _ (Below.refl _ _);go_enter Tryz.func68,Tryz.ntmps68;go_wp2_with fail
 refine(FO.out _).mono ?_;rintro y w1 ⟨rfl,hb⟩;have T1:=hide hb;clear hb hv FO b0 b1 b2 b3 b4;obtain⟨c0,c1,c2,c3,c4⟩:=PG.out _ T1.out;go_wp2;go_loopw [3] (fun i wx=>∃k:Nat,k<=0/\i=.int .i64 k/\Below v.heap.size v wx/\firstE f k=0) (fun i _=>0-(intOf i).toNat)
 case atStart=>exact⟨0,Nat.zero_le _,rfl,T1.out,rfl⟩
 case round=>
  clear T1 c0 c1 c2 c3 c4;obtain⟨k,hk,rfl,hT,h0⟩:=hrel;have T1:=hide hT;have H0:=hide h0;clear hT h0;obtain⟨c0,c1,c2,c3,c4⟩:=PG.out _ T1.out;obtain rfl:k=0:=by simpa using hk
  by_cases hn0:next=0
  · subst hn0;go_wp2;go_ret;exact⟨ret_nat (by rw[HEN.out rfl,HNX.out];simp),bt HW.out T1.out⟩
  · have hn0':(next==0)=false:=by simpa using hn0
    go_wp2_with fail
    refine(IsPage_any _ _).mono ?_;rintro y w2 ⟨rfl,hw⟩;obtain rfl:=hw.symm;cases hisn:isNum next with
    |false=>
     go_wp2;go_ret;exact⟨ret_nat (by rw[HEN.out rfl,HNX.out];simp[hn0,hisn]),bt HW.out T1.out⟩
    |true=>
     go_wp2;go_ret;exact⟨ret_nat (by rw[HEN.out rfl,HNX.out];simp[hisn]),bt HW.out T1.out⟩
theorem iCheck_any(w:World)(p:Pv)(hP:Pi w p):Calls Tryz.prog 68 #[p.vl] w fun e w'=>e=.returned (.int .i64 (p.pg.check:Int))/\Below w.heap.size w w':=by
 by_cases hf:p.pg.formE=0
 · rcases Pg.kindOk_iff.1 (form_zero hf).1 with k|k|k
   · exact iCheck_1 w p hP hf k
   · exact iCheck_2 w p hP hf k
   · exact iCheck_3 w p hP hf k
 · rw[check_form hf];have FO:=hide fun(w1:World)=>iform_any w1 p
   cases hk:p.pg.kindOk with
   |false=>
    have he:p.pg.formE=22:=by unfold Pg.formE;rw[if_pos hk]
    have hn:¬p.kind=1/\¬p.kind=2/\¬p.kind=3:=by
     refine⟨fun h=>?_,fun h=>?_,fun h=>?_⟩<;>simp[Pg.kindOk,Pv.pg,h] at hk
    rw[he];clear FO hf hP hk he;obtain⟨kind,level,aI,cI,items,aD,cD,data,next⟩:=p
    unfold Pv.vl;simp only[Pv.cs] at *;obtain⟨h1,h2,h3⟩:=hn;have h1':(kind==1)=false:=by simpa using h1
    have h2':(kind==2)=false:=by simpa using h2
    have h3':(kind==3)=false:=by simpa using h3
    have g1:(kind != 1)=true:=by simpa using h1
    have g2:(kind != 2)=true:=by simpa using h2
    have g3:(kind != 3)=true:=by simpa using h3
    go_enter Tryz.func68,Tryz.ntmps68;go_wp2;go_ret;exact⟨rfl,al _ _⟩
   |true=>
    have hff:p.pg.form=false:=by
     cases h:p.pg.form with
     |false=>rfl
     |true=>exact absurd (by unfold Pg.formE;simp[hk,h]) hf
    have he:p.pg.formE=5:=by unfold Pg.formE;simp[hk,hff]
    rw[he];rw[hff] at FO;have HB:=hide (Bx.new w 31 p.cs);have hkk:=Pg.kindOk_iff.1 hk;have hpk:p.pg.kind=p.kind:=rfl;rw[hpk] at hkk;clear hf hP hk he hff hpk;obtain⟨kind,level,aI,cI,items,aD,cD,data,next⟩:=p
    unfold Pv.vl at *;simp only[Pv.cs] at *;rcases hkk with rfl|rfl|rfl
    · go_enter Tryz.func68,Tryz.ntmps68;go_wp2_with fail
      refine(FO.out _).mono ?_;rintro y w1 ⟨rfl,hb⟩;go_wp2;go_ret;exact⟨rfl,bt (al _ _) hb⟩
    · go_enter Tryz.func68,Tryz.ntmps68;go_wp2_with fail
      refine(FO.out _).mono ?_;rintro y w1 ⟨rfl,hb⟩;go_wp2;go_ret;exact⟨rfl,bt (al _ _) hb⟩
    · go_enter Tryz.func68,Tryz.ntmps68;go_wp2_with fail
      refine(FO.out _).mono ?_;rintro y w1 ⟨rfl,hb⟩;go_wp2;go_ret;exact⟨rfl,bt (al _ _) hb⟩
end Go.Proofs.YtcpkinhneehomaaGreat
