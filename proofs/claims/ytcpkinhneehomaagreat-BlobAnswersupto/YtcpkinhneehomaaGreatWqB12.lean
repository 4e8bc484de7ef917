import Derived.Test.YtcpkinhneehomaaGreatWqB11
set_option linter.unusedVariables false
set_option linter.unusedSimpArgs false
set_option maxHeartbeats 3200000
set_option maxRecDepth 8000
namespace Go.Proofs.YtcpkinhneehomaaGreat
open Go.RowKit
variable {l:List Int}{cap:Nat}{a:Option Addr}{p:Pg}{w w' wx wy:World}
theorem check_form(h:p.formE≠0):p.check=p.formE:=by
 unfold Pg.check Pg.formE at *;split
 · rfl
 · rename_i h1;rw[if_neg h1] at h;split
   · rfl
   · rename_i h2;rw[if_neg h2] at h;exact absurd rfl h
theorem form_zero(h:p.formE=0):p.kindOk=true/\p.form=true:=by
 unfold Pg.formE at h;cases hk:p.kindOk<;>cases hf:p.form<;>simp[hk,hf] at h ⊢
theorem check_on(h:p.formE=0):p.check=tel (firstE p.itemE p.items.length) (decide (p.next≠0)&& !isNum p.next) 15:=by
 obtain⟨h1,h2⟩:=form_zero h;unfold Pg.check tel;rw[if_neg (by rw[h1];simp),if_neg (by rw[h2];simp)]
 by_cases he:firstE p.itemE p.items.length=0
 · rw[if_neg (by rw[he];simp),he]
   unfold Pg.nextOk
   have hn:p.kind≠3->p.next=0:=by
    intro hk;unfold Pg.form at h2;rw[if_neg hk] at h2;simp at h2;exact h2.1.1.2
   by_cases hk:p.kind=3
   · simp[hk]
   · simp[hk,hn hk]
 · rw[if_pos he,if_neg (by simp[he])]
theorem firstE_snoc(f:Nat->Nat)(n:Nat):firstE f (n+1)=els (firstE f n) (f n):=rfl
theorem kinds(h:p.formE=0)(hi:0<p.items.length):p.kind=1\/p.kind=2:=by
 obtain⟨h1,h2⟩:=form_zero h;rcases Pg.kindOk_iff.1 h1 with h|h|h
 · exact .inl h
 · exact .inr h
 · unfold Pg.form at h2;rw[if_pos h] at h2;simp at h2;rw[h2.1.1.2] at hi;simp at hi
theorem Check_any(w:World)(p:Pv)(hP:Pi w p):Calls Tryz.prog 124 #[p.vl] w fun e w'=>e=.returned (.int .i64 (p.pg.check:Int))/\Below w.heap.size w w':=by
 have HP:=hide (hP.keep (al w (.cells p.cs 31)));have hin:p.items.length<=9223372036854775807:=by have:=hP.it.2.1;omega
 have B0:=hide (Bx.new w 31 p.cs);have hsz:=size_alloc w (.cells p.cs 31);have HW:=hide (al w (.cells p.cs 31));obtain⟨v,hv⟩:∃v,w.alloc (.cells p.cs 31)=v:=⟨_,rfl⟩;rw[hv] at HP B0 hsz HW;have hne:w.heap.size≠v.heap.size:=by omega
 have FA:=hide (faults_any v);have H0:Hid (Kt v v.heap.size (v.alloc (.cells #[.int .i64 0] 42)) 0):=⟨Bx.new v 42 #[.int .i64 0],al _ _,Nat.le_refl _⟩;have TN:=hide fun(w1:World)(e:Nat)(hk:Kt v v.heap.size w1 e)(wrong:Bool)(xi:Int)(hx:0<=xi)=>tell_any v w1 v.heap.size e 31 w.heap.size p.cs hk (B0.out.keep hk.b) hne wrong xi xi.toNat (by omega)
 have CF:=hide fun(w1:World)(hk:Kt v v.heap.size w1 0)=>checkForm_any v w1 v.heap.size p hk
 have CI:=hide fun(w1:World)(e i:Nat)(hk:Kt v v.heap.size w1 e)(hi:i<p.items.length)(hkd:p.kind=1\/p.kind=2)=>checkItem_any v w1 v.heap.size e i p hk HP.out hi hkd
 have PG:=hide fun(w1:World)(hb:Below v.heap.size v w1)=>Bx.page (B0.out.keep hb)
 have HF:=hide (fun h:p.pg.formE≠0=>check_form h)
 have HO:=hide (fun h:p.pg.formE=0=>check_on h)
 have HK:=hide (fun(h:p.pg.formE=0)(hi:0<p.pg.items.length)=>kinds h hi)
 have HS:=hide fun n=>firstE_snoc p.pg.itemE n
 have hpl:p.pg.items.length=p.items.length:=by simp[Pv.pg]
 have hpn:p.pg.next=p.next:=rfl;have hpk:p.pg.kind=p.kind:=rfl;rw[hpl,hpn] at HO;rw[hpl,hpk] at HK;clear hpl hpn hpk hP;generalize p.pg.check=ans at *;generalize p.pg.formE=fe at *;generalize p.pg.itemE=f at *;obtain⟨kind,level,aI,cI,items,aD,cD,data,next⟩:=p
 unfold Pv.vl;simp only[Pv.cs,Pv.vl,tv,fv] at *;generalize hvb:v.heap.size=kb at *;have HVB:=hide hvb;rw[<-hvb] at PG;clear hvb;by_cases hfe:fe=0
 · subst hfe;obtain rfl:=HO.out rfl;clear HF HO;have HK2:Hid (0<items.length->kind=1\/kind=2):=fun h=>HK.out rfl h
   go_enter Tryz.func124,Tryz.ntmps124;go_wp2_with fail
   refine FA.out.mono ?_;rintro y w1 ⟨rfl,hw⟩;obtain rfl:=hw.symm;clear hv hsz hw FA;obtain⟨b0,b1,b2,b3,b4⟩:=PG.out _ (al v (.cells #[.int .i64 0] 42));go_wp2_with (first|(go_at_call 157;refine(CF.out _ H0.out).mono ?_;rintro y w1 ⟨rfl,hk⟩;have H:=hide hk;obtain⟨c0,c1,c2,c3,c4⟩:=PG.out _ hk.b;clear hk)|(go_at_call 180;refine(first_any _ _ _ H.out.c).mono ?_;rintro y w2 ⟨rfl,hw⟩;obtain rfl:=hw.symm))
   go_loopw [6,22] (fun _ i wx=>∃k:Nat,k<=items.length/\i=.int .i64 k/\Hid (Kt v kb wx (firstE f k))) (fun _ i _=>items.length-(intOf i).toNat)
   case atStart=>exact⟨0,Nat.zero_le _,rfl,H.out⟩
   case round=>
    obtain⟨k,hk,rfl,H⟩:=hrel;obtain⟨c0,c1,c2,c3,c4⟩:=PG.out _ H.out.b;by_cases hlt:k<items.length
    · have hlti:(k:Int)<(items.length:Int):=by omega
      have hj1:=w64 (j:=k) (by omega)
      go_wp2_with fail
      refine(CI.out _ _ k H.out hlt (HK2.out (by omega))).mono ?_
      rintro y w1 ⟨rfl,hk1⟩;have H:=hide hk1;clear hk1;go_wp2;go_roundw
      case rel=>exact⟨k+1,by omega,by first|(go_num;done)|exact congrArg (Value.int IntKind.i64) (by omega),by rw[HS.out];exact H.out⟩
      case measure=>first|exact meas_up _ _ _ hj1 hlt|exact meas_up _ _ _ rfl hlt|(simp[intOf];omega)
    · obtain rfl:k=items.length:=by omega
      by_cases hn0:next=0
      · subst hn0;go_wp2_with (first|(go_at_call 179;refine(TN.out _ _ H.out _ _ (by decide)).mono ?_;rintro y w1 ⟨rfl,hk1,_,_⟩;have H:=hide hk1;clear hk1)|(go_at_call 180;refine(first_any _ _ _ H.out.c).mono ?_;rintro y w2 ⟨rfl,hw⟩;obtain rfl:=hw.symm))
        go_ret;exact⟨by simp,bt HW.out H.out.b⟩
      · have hn0':(next==0)=false:=by simpa using hn0
        go_wp2_with (first|(go_at_call 159;refine(isNumber_any _ _).mono ?_;rintro y w1 ⟨rfl,hww⟩;obtain rfl:=hww.symm)|(go_at_call 179;refine(TN.out _ _ H.out _ _ (by decide)).mono ?_;rintro y w1 ⟨rfl,hk1,_,_⟩;have H:=hide hk1;clear hk1)|(go_at_call 180;refine(first_any _ _ _ H.out.c).mono ?_;rintro y w2 ⟨rfl,hw⟩;obtain rfl:=hw.symm))
        go_ret;exact⟨by simp[bne,hn0',hn0],bt HW.out H.out.b⟩
 · have hfe':(((fe:Nat):Int)==0)=false:=by simpa using hfe
   obtain rfl:=HF.out hfe;clear HO;go_enter Tryz.func124,Tryz.ntmps124;go_wp2_with fail
   refine FA.out.mono ?_;rintro y w1 ⟨rfl,hw⟩;obtain rfl:=hw.symm;clear hv hsz hw FA;obtain⟨b0,b1,b2,b3,b4⟩:=PG.out _ (al v (.cells #[.int .i64 0] 42));go_wp2_with (first|(go_at_call 157;refine(CF.out _ H0.out).mono ?_;rintro y w1 ⟨rfl,hk⟩;have H:=hide hk;obtain⟨c0,c1,c2,c3,c4⟩:=PG.out _ hk.b;clear hk)|(go_at_call 180;refine(first_any _ _ _ H.out.c).mono ?_;rintro y w2 ⟨rfl,hw⟩;obtain rfl:=hw.symm))
   go_ret;exact⟨rfl,bt HW.out H.out.b⟩
theorem own_but{T:Nat->Prop}{e s n:Nat}{m c:Nat}{C:List Value}(h:w.ownsRow 0 e s (.slice a m c) n C)(hb:But T w w')(hn:∀x,a=some x->¬T x.block):w'.ownsRow 0 e s (.slice a m c) n C:=by
 obtain⟨h1,h2⟩:=h;refine⟨h1,?_⟩;rcases h2 with⟨hv,h0⟩|⟨g,cap',cur,hv,h3,hg,hr⟩
 · exact .inl ⟨hv,h0⟩
 · simp only[Value.slice.injEq] at hv;exact .inr ⟨g,cap',cur,by simp only[Value.slice.injEq];exact hv,h3,(hb.block g (Array.getElem?_eq_some_iff.1 hg).1 (hn _ hv.1)).trans hg,hr⟩
def vi(l:List Int):List Value:=l.map fun x=>Value.int .i64 x
theorem vi_append(a b:List Int):vi (a++b)=vi a++vi b:=by unfold vi;rw[List.map_append]
theorem vi_get(l:List Int)(i:Nat)(hi:i<l.length):(vi l)[i]?=some (.int .i64 (l.getD i 0)):=by simp[vi,hi]
def Ig(w:World)(a:Option Addr)(cap:Nat)(l:List Int):Prop:=w.ownsRow 0 3 1 (.slice a l.length cap) l.length (vi l)
theorem infoI64:(Tryz.prog.info? 3).map (fun i=>(i.zero,i.size,i.bytes))=some (some (.int .i64 0),1,8):=by kernel_rfl
theorem Ig.nil(w:World):Ig w none 0 []:=World.ownsRow_nil w 0 3 1
theorem Ig.keep(h:Ig w a cap l)(hb:Below w.heap.size w w'):Ig w' a cap l:=own_but (T:=fun _=>False) h (But.ofBelow hb) (fun _ _ h=>h)
def Ir(w:World)(a:Option Addr)(l:List Int):Prop:=l=[]\/∃b off,a=some ⟨b,off,none⟩/\∀i,i<l.length->w.cell? ⟨b,off+i,none⟩=some (.int .i64 (l.getD i 0))
theorem Ig.but{S:Nat->Prop}(h:Ig w a cap l)(hb:But S w w')(hn:∀x,a=some x->¬S x.block):Ig w' a cap l:=own_but h hb hn
theorem Ir.at(h:Ir w a l){j:Nat}(hj:j<l.length):∃b off,a=some ⟨b,off,none⟩/\w.cell? ⟨b,off+j,none⟩=some (.int .i64 (l.getD j 0)):=by
 rcases h with rfl|⟨b,off,rfl,hc⟩
 · simp at hj
 · exact⟨b,off,rfl,hc j hj⟩
theorem Ig.ir(h:Ig w a cap l):Ir w a l:=by
 obtain⟨_,h2⟩:=h;rcases h2 with⟨_,h0⟩|⟨g,cap',cur,hv,h3,hg,hn,hm,hs,ht⟩
 · exact .inl (List.length_eq_zero_iff.1 h0)
 · simp only[Value.slice.injEq] at hv;obtain⟨e1,_,rfl⟩:=hv;refine .inr ⟨g,0,e1,fun i hi=>?_⟩
   rw[Nat.zero_add,cell_of_row _ _ _ _ _ _ hg,<-vi_get l i hi,<-ht,List.getElem?_take,if_pos (by omega)]
   simp
theorem run_apI(w:World)(ty:TypeId)(a:Option Addr)(n cap:Nat)(l:List Int)(hn:n=l.length)(hR:Ig w a cap l)(ad:Addr)(c:Nat)(x:Int)(hc:w.cell? ad=some (.int .i64 x))(hlen:l.length+1<=17592186044416):
 ∃g cap' w',(Builtin.append_ #[35,35] ty #[.slice a n cap,.slice (some ad) 1 c]).run Tryz.prog w=.ok (.slice (some ⟨g,0,none⟩) (n+1) cap') w'/\
  Ig w' (some ⟨g,0,none⟩) cap' (l++[x])/\New w a (some ⟨g,0,none⟩)/\w.grownBy w' (a.map Addr.block)/\g<w'.heap.size:=by
 subst hn;obtain⟨i0,hi,hz0,hz1,hz2⟩:=info_parts infoI64
 obtain⟨g,cap',w',hr,h1,h2,h3,h4⟩:=run_append_lies (P:=Tryz.prog) w 35 ty 0 3 i0 (.int .i64 0) 1 8 Tryz.underlying35 hi hz0 hz1 hz2 rfl (by decide) (.slice a l.length cap) l.length (vi l) hR ad 1 c [.int .i64 x] rfl
  (by intro j u hj
      match j,hj with
      |0,hj=>simp at hj;subst hj;simpa[Addr.add] using hc) (by intro u hu;simp at hu;subst hu;rfl) (by decide) (by unfold maxLen;omega) (by omega) (Nat.zero_le _) w.heap.size rfl
 rw[ob_eq] at h2 h3;refine⟨g,cap',w',hr,?_,?_,h2,h4⟩
 · unfold Ig;rw[vi_append,List.length_append];exact h1
 · intro y hy;simp only[Option.some.injEq] at hy;subst hy;rcases h3 with h3|h3
   · obtain⟨z,hz,e⟩:=map_some h3;exact .inl ⟨z,hz,e⟩
   · exact .inr (by show _<=g;omega)
theorem wp_apI{w:World}{o:Oper}{a:Act}{K:Act->World->Prop}{Q:Exit->Act->World->Prop}(s x:Operand)
 (ho:o.op=.call {callee:=.builtin .append,args:=#[s,x],argTypes:=#[35,35]}) (ao:Option Addr) (n cap:Nat) (l:List Int) (hs:a.eval s=.slice ao n cap) (hn:n=l.length) (hR:Ig w ao cap l)
 (ad:Addr) (c:Nat) (xx:Int) (hx:a.eval x=.slice (some ad) 1 c) (hc:w.cell? ad=some (.int .i64 xx)) (hlen:l.length+1<=17592186044416)
 (h:∀g cap' w',Ig w' (some ⟨g,0,none⟩) cap' (l++[xx])->New w ao (some ⟨g,0,none⟩)->w.grownBy w' (ao.map Addr.block)->g<w'.heap.size->K (a.put o.dst (.slice (some ⟨g,0,none⟩) (n+1) cap')) w'):o.wp Tryz.prog a w K Q:=by
 obtain⟨g,cap',w',hr,h1,h2,h3,h4⟩:=run_apI w o.type ao n cap l hn hR ad c xx hc hlen;unfold Oper.wp execOp;simp only[ho,resolve,invoke,builtin,Sem.run_bind,Sem.run_pure,Result.andThen_ok,List.map_toArray,List.map_cons,List.map_nil,hs,hx,hr];exact h g cap' w' h1 h2 h3 h4
theorem wpList_apI{w:World}{ops:Array Oper}{rest:List Oper}{o:Oper}{a:Act}{Q:Exit->Act->World->Prop}(hgd:o.guard=none)(s x:Operand)
 (ho:o.op=.call {callee:=.builtin .append,args:=#[s,x],argTypes:=#[35,35]}) (ao:Option Addr) (n cap:Nat) (l:List Int) (hs:a.eval s=.slice ao n cap) (hn:n=l.length) (hR:Ig w ao cap l)
 (ad:Addr) (c:Nat) (xx:Int) (hx:a.eval x=.slice (some ad) 1 c) (hc:w.cell? ad=some (.int .i64 xx)) (hlen:l.length+1<=17592186044416)
 (h:∀g cap' w',Ig w' (some ⟨g,0,none⟩) cap' (l++[xx])->New w ao (some ⟨g,0,none⟩)->w.grownBy w' (ao.map Addr.block)->g<w'.heap.size->wpList Tryz.prog ops Q rest (a.put o.dst (.slice (some ⟨g,0,none⟩) (n+1) cap')) w'):wpList Tryz.prog ops Q (o::rest) a w:=
 wpList_plain hgd fun _ hK=>wp_apI s x ho ao n cap l hs hn hR ad c xx hx hc hlen fun g cap' w' h1 h2 h3 h4=>hK _ _ (h g cap' w' h1 h2 h3 h4)
structure IOwn(w wx:World)(a:Option Addr)(cap:Nat)(l:List Int):Prop where
 r:Ig wx a cap l
 n:New w none a
 b:Below w.heap.size w wx
theorem IOwn.keep(h:IOwn w wx a cap l)(hb:Below wx.heap.size wx wy):IOwn w wy a cap l:=⟨h.r.keep hb,h.n,bt h.b hb⟩
theorem IOwn.step{w1:World}{a':Option Addr}{cap':Nat}{l':List Int}(h:IOwn w wx a cap l)(hb:Below wx.heap.size wx w1)(hR:Ig wy a' cap' l')(hN:New w1 a a')(hg:w1.grownBy wy (a.map Addr.block)):IOwn w wy a' cap' l':=by
 refine⟨hR,h.n.trans hN (Nat.le_trans h.b.size hb.size),?_⟩;have h1:=bt h.b hb
 have hh:But (fun _=>False) w wy:=(But.ofBelow h1).grown hg fun k hk hlt=>by
  obtain⟨y,hy,e⟩:=map_some hk;rcases h.n y hy with⟨z,hz,_⟩|h2
  · cases hz
  · omega
 exact hh.below fun _ _ h=>h
def kidsTo(kind:Int)(L:List Iv):List Int:=if kind=2 then L.map Iv.child else (L.map Iv.child).filter (fun c=>decide (c≠0))
theorem kidsTo_snoc(kind:Int)(L:List Iv)(k:Nat)(hk:k<L.length):kidsTo kind (L.take (k+1))=kidsTo kind (L.take k)++(if kind=2\/(L.getD k Iv.zero).child≠0 then [(L.getD k Iv.zero).child] else []):=by
 have e:L.getD k Iv.zero=L[k]:=by simp[hk]
 unfold kidsTo;rw[List.take_succ_eq_append_getElem hk,e];by_cases h2:kind=2
 · rw[if_pos h2,if_pos h2,if_pos (.inl h2),List.map_append];rfl
 · rw[if_neg h2,if_neg h2,List.map_append,List.filter_append];by_cases h0:L[k].child=0
   · rw[if_neg (by simp[h2,h0])]
     generalize List.filter (fun c=>decide (c≠0)) (List.map Iv.child (List.take k L))=F
     simp[h0]
   · rw[if_pos (.inr h0)];generalize List.filter (fun c=>decide (c≠0)) (List.map Iv.child (List.take k L))=F
     simp[h0]
theorem kidsTo_len(kind:Int)(L:List Iv):(kidsTo kind L).length<=L.length:=by
 unfold kidsTo;split
 · simp
 · exact Nat.le_trans (List.length_filter_le _ _) (by simp)
theorem kids_node(P:Pv)(hk:P.kind=1\/P.kind=2):P.pg.kids=kidsTo P.kind P.items:=by
 unfold Pg.kids kidsTo;have h1:P.pg.kind=P.kind:=rfl;have h2:P.pg.items.map It.child=P.items.map Iv.child:=by simp[Pv.pg,Iv.it]
 rw[h1,h2];rcases hk with hk|hk
 · rw[if_neg (by omega),if_pos hk,if_neg (by omega)]
 · rw[if_pos hk,if_pos hk]
theorem Kids_2(w:World)(p:Pv)(hP:Pi w p)(hk:p.kind=2):Calls Tryz.prog 148 #[p.vl] w fun e w'=>∃a c,e=.returned (.slice a (p.pg.kids).length c)/\IOwn w w' a c p.pg.kids:=by
 rw[kids_node p (by omega)]
 have hin:p.items.length<=2199023255489:=hP.it.2.1;have HP:=hide (hP.keep (al w (.cells p.cs 31)));have B0:=hide (Bx.new w 31 p.cs);have HW:=hide (al w (.cells p.cs 31));obtain⟨v,hv⟩:∃v,w.alloc (.cells p.cs 31)=v:=⟨_,rfl⟩;rw[hv] at HP B0 HW;have PG:=hide fun(w1:World)(hb:Below v.heap.size v w1)=>Bx.page (B0.out.keep hb)
 have HR:=hide fun(w1:World)(hb:Below v.heap.size v w1)(k:Nat)(hk:k<p.items.length)=>(HP.out.it.keep hb).at hk
 have HKS:=hide fun(k:Nat)(hk:k<p.items.length)=>kidsTo_snoc p.kind p.items k hk
 have HKL:=hide fun(k:Nat)=>(show(kidsTo p.kind (p.items.take k)).length<=k from Nat.le_trans (kidsTo_len _ _) (by rw[List.length_take];omega))
 have HALL:Hid (p.items.take p.items.length=p.items):=List.take_length;clear hP;obtain⟨kind,level,aI,cI,items,aD,cD,data,next⟩:=p
 unfold Pv.vl;simp only[Pv.cs] at *;subst hk;obtain⟨b0,b1,b2,b3,b4⟩:=PG.out _ (Below.refl _ _);go_enter Tryz.func148,Tryz.ntmps148;go_wp2;go_loopw [3,5,14] (fun o _ i wx=>∃(k:Nat)(ak:Option Addr)(ck:Nat),k<=items.length/\i=.int .i64 k/\o=.slice ak (kidsTo 2 (items.take k)).length ck/\IOwn v wx ak ck (kidsTo 2 (items.take k))) (fun _ _ i _=>items.length-(intOf i).toNat)
 case atStart=>exact⟨0,none,0,Nat.zero_le _,rfl,rfl,Ig.nil _,New.none _ _,Below.refl _ _⟩
 case round=>
  clear hv b0 b1 b2 b3 b4;obtain⟨k,ak,ck,hk,rfl,rfl,hO⟩:=hrel;have O0:=hide hO;obtain⟨c0,c1,c2,c3,c4⟩:=PG.out _ hO.b;clear hO;by_cases hlt:k<items.length
  · have hlti:(k:Int)<(items.length:Int):=by omega
    have hj1:=w64 (j:=k) (by omega)
    obtain⟨bI,off,rfl,hr⟩:=HR.out _ O0.out.b k hlt;obtain⟨k0,k1,k2,k3⟩:=range4 hr;have HS1:=hide (HKS.out k hlt);have HL1:=HKL.out k;clear hr HR HKS HKL;generalize items.getD k Iv.zero=x at *;have hb1:=al wr (.cells x.cs 51);have O1:=hide (O0.out.keep hb1);obtain⟨e0,e1,e2,e3,e4⟩:=PG.out _ O1.out.b;obtain⟨aK,cK,key,aV,cV,val,child,size⟩:=x;simp only[Iv.cs] at *;generalize kidsTo 2 (items.take k)=L at *;have HLE:Hid (L++[child]=kidsTo 2 (items.take (k+1))):=by show _=_;rw[HS1.out];simp
    go_wp2_with (at_builtin;refine wpList_apI rfl _ _ rfl ak L.length ck L rfl rfl (O1.out.r.keep ((Below.refl _ _).alloc (Nat.le_refl _) _)) ⟨wr.heap.size+1,0,none⟩ 1 child rfl ?c1 (by omega) ?_)
    try case c1=>simp
    intro g c2' w2 hR hN hg hlt2;have O2:=hide (O1.out.step (al _ _) hR hN hg);rw[HLE.out] at O2;have HLN:=hide (congrArg List.length HLE.out);clear hR hN hg;go_wp2;go_roundw
    case rel=>exact⟨k+1,_,c2',by omega,by first|(go_num;done)|exact congrArg (Value.int IntKind.i64) (by omega),by rw[<-HLN.out];simp,O2.out⟩
    case measure=>first|exact meas_up _ _ _ hj1 hlt|exact meas_up _ _ _ rfl hlt|(simp[intOf];omega)
  · obtain rfl:k=items.length:=by omega
    rw[HALL.out] at O0 ⊢;go_wp2;go_ret;exact⟨ak,ck,rfl,O0.out.r,O0.out.n.mono HW.out.size,bt HW.out O0.out.b⟩
theorem Kids_1(w:World)(p:Pv)(hP:Pi w p)(hk:p.kind=1):Calls Tryz.prog 148 #[p.vl] w fun e w'=>∃a c,e=.returned (.slice a (p.pg.kids).length c)/\IOwn w w' a c p.pg.kids:=by
 rw[kids_node p (by omega)]
 have hin:p.items.length<=2199023255489:=hP.it.2.1;have HP:=hide (hP.keep (al w (.cells p.cs 31)));have B0:=hide (Bx.new w 31 p.cs);have HW:=hide (al w (.cells p.cs 31));obtain⟨v,hv⟩:∃v,w.alloc (.cells p.cs 31)=v:=⟨_,rfl⟩;rw[hv] at HP B0 HW;have PG:=hide fun(w1:World)(hb:Below v.heap.size v w1)=>Bx.page (B0.out.keep hb)
 have HR:=hide fun(w1:World)(hb:Below v.heap.size v w1)(k:Nat)(hk:k<p.items.length)=>(HP.out.it.keep hb).at hk
 have HKS:=hide fun(k:Nat)(hk:k<p.items.length)=>kidsTo_snoc p.kind p.items k hk
 have HKL:=hide fun(k:Nat)=>(show(kidsTo p.kind (p.items.take k)).length<=k from Nat.le_trans (kidsTo_len _ _) (by rw[List.length_take];omega))
 have HALL:Hid (p.items.take p.items.length=p.items):=List.take_length;clear hP;obtain⟨kind,level,aI,cI,items,aD,cD,data,next⟩:=p
 unfold Pv.vl;simp only[Pv.cs] at *;subst hk;obtain⟨b0,b1,b2,b3,b4⟩:=PG.out _ (Below.refl _ _);go_enter Tryz.func148,Tryz.ntmps148;go_wp2;go_loopw [3,5,14] (fun o _ i wx=>∃(k:Nat)(ak:Option Addr)(ck:Nat),k<=items.length/\i=.int .i64 k/\o=.slice ak (kidsTo 1 (items.take k)).length ck/\IOwn v wx ak ck (kidsTo 1 (items.take k))) (fun _ _ i _=>items.length-(intOf i).toNat)
 case atStart=>exact⟨0,none,0,Nat.zero_le _,rfl,rfl,Ig.nil _,New.none _ _,Below.refl _ _⟩
 case round=>
  clear hv b0 b1 b2 b3 b4;obtain⟨k,ak,ck,hk,rfl,rfl,hO⟩:=hrel;have O0:=hide hO;obtain⟨c0,c1,c2,c3,c4⟩:=PG.out _ hO.b;clear hO;by_cases hlt:k<items.length
  · have hlti:(k:Int)<(items.length:Int):=by omega
    have hj1:=w64 (j:=k) (by omega)
    obtain⟨bI,off,rfl,hr⟩:=HR.out _ O0.out.b k hlt;obtain⟨k0,k1,k2,k3⟩:=range4 hr;have HS1:=hide (HKS.out k hlt);have HL1:=HKL.out k;clear hr HR HKS HKL;generalize items.getD k Iv.zero=x at *;have hb1:=al wr (.cells x.cs 51);have O1:=hide (O0.out.keep hb1);obtain⟨e0,e1,e2,e3,e4⟩:=PG.out _ O1.out.b;obtain⟨aK,cK,key,aV,cV,val,child,size⟩:=x;simp only[Iv.cs] at *;generalize kidsTo 1 (items.take k)=L at *;by_cases h0:child=0
    · subst h0;have HLE:Hid (L=kidsTo 1 (items.take (k+1))):=by show _=_;rw[HS1.out];simp
      go_wp2;go_roundw
      case rel=>exact⟨k+1,ak,ck,by omega,by first|(go_num;done)|exact congrArg (Value.int IntKind.i64) (by omega),by rw[<-HLE.out],by rw[<-HLE.out];exact O1.out⟩
      case measure=>first|exact meas_up _ _ _ hj1 hlt|exact meas_up _ _ _ rfl hlt|(simp[intOf];omega)
    · have h0':(child==0)=false:=by simpa using h0
      have HLE:Hid (L++[child]=kidsTo 1 (items.take (k+1))):=by show _=_;rw[HS1.out];simp[h0]
      go_wp2_with (at_builtin;refine wpList_apI rfl _ _ rfl ak L.length ck L rfl rfl (O1.out.r.keep ((Below.refl _ _).alloc (Nat.le_refl _) _)) ⟨wr.heap.size+1,0,none⟩ 1 child rfl ?c1 (by omega) ?_)
      try case c1=>simp
      intro g c2' w2 hR hN hg hlt2;have O2:=hide (O1.out.step (al _ _) hR hN hg);rw[HLE.out] at O2;have HLN:=hide (congrArg List.length HLE.out);clear hR hN hg;go_wp2;go_roundw
      case rel=>exact⟨k+1,_,c2',by omega,by first|(go_num;done)|exact congrArg (Value.int IntKind.i64) (by omega),by rw[<-HLN.out];simp,O2.out⟩
      case measure=>first|exact meas_up _ _ _ hj1 hlt|exact meas_up _ _ _ rfl hlt|(simp[intOf];omega)
  · obtain rfl:k=items.length:=by omega
    rw[HALL.out] at O0 ⊢;go_wp2;go_ret;exact⟨ak,ck,rfl,O0.out.r,O0.out.n.mono HW.out.size,bt HW.out O0.out.b⟩
theorem Kids_rest(w:World)(p:Pv)(h1:p.kind≠1)(h2:p.kind≠2):Calls Tryz.prog 148 #[p.vl] w fun e w'=>∃a c,e=.returned (.slice a (p.pg.kids).length c)/\IOwn w w' a c p.pg.kids:=by
 have hk:p.pg.kids=if p.kind=3/\p.next≠0 then [p.next] else []:=by
  unfold Pg.kids;rw[if_neg (show ¬p.pg.kind=2 from h2),if_neg (show ¬p.pg.kind=1 from h1)]
  rfl
 rw[hk];clear hk;obtain⟨kind,level,aI,cI,items,aD,cD,data,next⟩:=p
 unfold Pv.vl;simp only[Pv.cs] at *;have h1':(kind==1)=false:=by simpa using h1
 have h2':(kind==2)=false:=by simpa using h2
 by_cases h3:kind=3
 · subst h3;by_cases h0:next=0
   · subst h0;go_enter Tryz.func148,Tryz.ntmps148;go_wp2;go_ret;exact⟨none,0,by simp,Ig.nil _,New.none _ _,al _ _⟩
   · have h0':(next==0)=false:=by simpa using h0
     rw[if_pos ⟨rfl,h0⟩];go_enter Tryz.func148,Tryz.ntmps148;go_wp2_with (at_builtin;refine wpList_apI rfl _ _ rfl none 0 0 [] rfl rfl (Ig.nil _) ⟨w.heap.size+1,0,none⟩ 1 next rfl ?c1 (by decide) ?_)
     try case c1=>simp
     intro g c2' w2 hR hN hg hlt2;have O2:Hid (IOwn w w2 (some ⟨g,0,none⟩) c2' ([]++[next])):=IOwn.step (w:=w) (wx:=w) ⟨Ig.nil _,New.none _ _,Below.refl _ _⟩ (bt (al _ _) (al _ _)) hR hN hg
     clear hR hN hg;go_wp2;go_ret;exact⟨_,c2',rfl,O2.out⟩
 · have h3':(kind==3)=false:=by simpa using h3
   rw[if_neg (fun h=>h3 h.1)]
   go_enter Tryz.func148,Tryz.ntmps148;go_wp2;go_ret;exact⟨none,0,rfl,Ig.nil _,New.none _ _,al _ _⟩
theorem Kids_any(w:World)(p:Pv)(hP:Pi w p):Calls Tryz.prog 148 #[p.vl] w fun e w'=>∃a c,e=.returned (.slice a (p.pg.kids).length c)/\IOwn w w' a c p.pg.kids:=by
 by_cases h1:p.kind=1
 · exact Kids_1 w p hP h1
 · by_cases h2:p.kind=2
   · exact Kids_2 w p hP h2
   · exact Kids_rest w p h1 h2
end Go.Proofs.YtcpkinhneehomaaGreat
