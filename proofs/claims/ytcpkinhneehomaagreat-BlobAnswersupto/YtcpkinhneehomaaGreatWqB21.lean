import Derived.Test.YtcpkinhneehomaaGreatWqB20
set_option linter.unusedVariables false
set_option linter.unusedSimpArgs false
set_option maxHeartbeats 16000000
set_option maxRecDepth 8000
namespace Go.Proofs.YtcpkinhneehomaaGreat
open Go.RowKit
variable {nx:Int}{l:List Nat}{b c g i off:Nat}{col:Nat->Nat}{a:Option Addr}{t:TypeId}{W w:World}
def bpn(n:Int):Int:=if n<=32 then 0 else (n-1)/480+1
theorem bPages_any(w:World)(n:Int)(hn:N64 n):Calls Tryz.prog 80 #[.int .i64 n] w fun e w'=>e=.returned (.int .i64 (bpn n))/\w'=w:=by
 unfold N64 at hn;by_cases h:n<=32
 · have e:bpn n=0:=by unfold bpn;rw[if_pos h]
   rw[e];go_enter Tryz.func80,Tryz.ntmps80;go_wp2;go_ret;exact⟨rfl,rfl⟩
 · have e:Hid (bpn n=(n-1).tdiv 480+1):=by show _=_;unfold bpn;rw[if_neg h,Int.tdiv_eq_ediv_of_nonneg (by omega)]
   have q1:Hid (0<=(n-1).tdiv 480/\(n-1).tdiv 480<=n-1):=by show _/\_;rw[Int.tdiv_eq_ediv_of_nonneg (by omega)];omega
   have q2:=q1.out.1;have q3:=q1.out.2;rw[e.out];go_enter Tryz.func80,Tryz.ntmps80;go_wp2;go_ret;exact⟨rfl,rfl⟩
theorem bpn_nat{n:Nat}(h:32<n):bpn (n:Int)=(((n-1)/480+1:Nat):Int):=by
 unfold bpn;rw[if_neg (by omega)]
 omega
def cnk(l:List Nat)(i:Nat):List Nat:=(l.drop (480*i)).take 480
theorem cnk_len(h:480*i<l.length):(cnk l i).length=min 480 (l.length-480*i):=by
 unfold cnk;rw[List.length_take,List.length_drop]
theorem Bs.dropA(h:Bs w (some ⟨g,off,none⟩) l)(n:Nat):Bs w (some ⟨g,off+n,none⟩) (l.drop n):=by
 refine⟨fun x hx=>h.1 x (List.mem_of_mem_drop hx),Nat.le_trans (by rw[List.length_drop];omega) h.2.1,?_⟩
 rcases h.2.2 with h0|⟨b,o,e,hc⟩
 · exact .inl (by rw[h0];simp)
 · cases e;refine .inr ⟨g,off+n,rfl,fun i hi=>?_⟩
   rw[List.length_drop] at hi;have:=hc (n+i) (by omega)
   rw[Nat.add_assoc];rw[this];simp[List.getD_eq_getElem?_getD]
theorem Bs.takeA(h:Bs w a l)(n:Nat):Bs w a (l.take n):=by
 refine⟨fun x hx=>h.1 x (List.mem_of_mem_take hx),Nat.le_trans (by rw[List.length_take];omega) h.2.1,?_⟩
 rcases h.2.2 with h0|⟨b,o,e,hc⟩
 · exact .inl (by rw[h0];simp)
 · refine .inr ⟨b,o,e,fun i hi=>?_⟩
   rw[List.length_take] at hi;have:=hc i (by omega)
   rw[this];simp[List.getD_eq_getElem?_getD,List.getElem?_take,show i<n by omega]
theorem bchunk_any(w:World)(g off c:Nat)(l:List Nat)(i:Nat)(hB:Bs w (some ⟨g,off,none⟩) l)(hc:l.length<=c)(hi:480*i<l.length)(hl:l.length<=3840):
 Calls Tryz.prog 163 #[.slice (some ⟨g,off,none⟩) l.length c,.int .i64 (i:Int)] w fun e w'=>∃c',e=.returned (.slice (some ⟨g,off+480*i,none⟩) (cnk l i).length c')/\Bs w (some ⟨g,off+480*i,none⟩) (cnk l i)/\(cnk l i).length<=c'/\w'=w:=by
 have HB:Hid (Bs w (some ⟨g,off+480*i,none⟩) (cnk l i)):=(hB.dropA (480*i)).takeA 480;rw[cnk_len hi];clear hB;generalize l.length=n at *;obtain⟨m,hm⟩:∃m,min 480 (n-480*i)=m:=⟨_,rfl⟩;have HM:=hide hm;rw[hm];have e1:m<=n-480*i:=by omega
 have e0:1<=m:=by omega
 have e2:min ((i:Int)*480+480) (n:Int)=((480*i+m:Nat):Int):=by omega
 have e3:Hid (480*i+m<=c):=by show _<=_;omega
 have i1:(0:Int)<=(i:Int)*480:=by omega
 have i2:(i:Int)*480+480<=9223372036854775807:=by omega
 clear hm;go_enter Tryz.func163,Tryz.ntmps163;go_wp2;go_ret;refine⟨c-i*480,?_,HB.out,by have:=e3.out;omega,rfl⟩
 rw[show 480*i+m-i*480=m by omega,show i*480=480*i by omega]
 rfl
def mkp(l:List Nat)(i:Nat)(nx:Int):Pg:=⟨3,0,[],cnk l i,nx⟩
theorem mkp_check(h:480*i<l.length)(h0:0<=nx)(h1:nx<=65536):(mkp l i nx).check=0:=by
 have hl:=cnk_len h;refine Pg.check_zero.2 ⟨Pg.kindOk_iff.2 (.inr (.inr rfl)),?_,fun i hi=>absurd hi (Nat.not_lt_zero _),?_⟩
 · unfold Pg.form;rw[if_pos (show(mkp l i nx).kind=3 from rfl)]
   show(decide ((0:Int)=0)&&decide (([]:List It).length=0)&&decide (1<=(cnk l i).length)&&decide ((cnk l i).length<=480))=true;rw[hl];simp;omega
 · unfold Pg.nextOk;show(!(decide ((3:Int)=3)&&decide (nx≠0)&& !isNum nx))=true;by_cases hz:nx=0
   · simp[hz]
   · have:isNum nx=true:=by simp[isNum];omega
     simp[this]
def Spr(l:List Nat)(k:Nat)(S0:Vs):Nat->Vs->Int->Prop
 |0,S,nx=>S=S0/\nx=0
 |m+1,S,nx=>∃(S1:Vs)(n1:Int)(q:Pv),Spr l k S0 m S1 n1/\q.pg=mkp l (k-1-m) n1/\nx=(S1.makeR (mkp l (k-1-m) n1)).1/\S=S1.makeS (mkp l (k-1-m) n1) q
theorem pf_blob{d:List Nat}(hB:Bs w (some ⟨g,off,none⟩) d)(hg:col g=0)(hc:d.length<=c)(hn:N64 nx):Pf col w ⟨3,0,none,0,[],some ⟨g,off,none⟩,c,d,nx⟩:=fun w' hb=>
 ⟨⟨fun _ h=>(List.not_mem_nil h).elim,Nat.zero_le _,.inl rfl⟩,Nat.le_refl _,hB.but hb (fun x hx _=>by
   cases hx;show ¬ ¬ ¬(1<=col g/\col g<=5);omega),hc,by simp[N64],by simp[N64],hn⟩
theorem cnk_le(l:List Nat)(i:Nat):(cnk l i).length<=480:=by unfold cnk;rw[List.length_take];omega
theorem spreadC_idle(w:World)(pe pv pb:Addr)(h:w.cell? pe=some (.int .i64 0)):CallsD Tryz.prog 162 #[.pointer (some pe),.pointer (some pv),.pointer (some pb)] .returning w fun e u' w'=>u'=.returning/\(e=.returned (.tuple #[])/\w'=w):=by
 go_enter_d Tryz.func162,Tryz.ntmps162
 go_wp2;go_end0
 exact⟨rfl,rfl⟩
theorem results_tc(tmps:Array Value)(w:World)(p:Addr)(z:Int)(h5:tmps.getD 5 undef=.pointer (some p))(hc:w.cell? p=some (.int .i64 z)):(results Tryz.f133 tmps).run Tryz.prog w=.ok (.tuple #[tmps.getD 4 undef,.int .i64 z]) w:=by
 have h5':tmps[5]?.getD undef=.pointer (some p):=by simpa using h5
 simp[results,Tryz.results133,go_sem,h5',hc]
theorem two_blk(w:World)(o p:Obj):((w.alloc o).alloc p).heap[w.heap.size]?=some o/\((w.alloc o).alloc p).heap[w.heap.size+1]?=some p/\Below w.heap.size w ((w.alloc o).alloc p):=by
 have h:=two_blocks w o p (Below.refl _ _);exact⟨h.1,h.2.1,h.2.2.1⟩
theorem blk13{W':World}{o:Obj}(h:W.heap[g]?=some o)(hb:Below W.heap.size W W'):W'.heap[g]?=some o:=(hb.block _ (Array.getElem?_eq_some_iff.1 h).1).trans h
theorem mkf13:∀(fn:Fn)(first cap:Array Value)(w:World),(Instr.makeFunc fn first cap).run Tryz.prog w=.ok (.func fn first cap) w:=fun _ _ _ _=>rfl
theorem Vw.but13{S:Nat->Prop}{w':World}{T:Vs}{pb mb:Nat}{pc:Nat->Nat}(h:Vw w b T pb mb pc col)(hb:But S w w')(hn:∀k,col k≠0->¬S k):Vw w' b T pb mb pc col:=by
 obtain⟨ac,cc,aa,ca,h⟩:=h;exact⟨ac,cc,aa,ca,h.but hb hn⟩
structure Sl13(w W:World)(b pb mb:Nat)(col:Nat->Nat)(l:List Nat)(k:Nat)(S:Vs)(m:Nat)(bg:Nat)(S':Vs)(nx:Int)(pc' col':Nat->Nat):Prop where
 s:Spr l k S m S' nx
 v:Vw W b S' pb mb pc' col'
 f:Vf w col W col'
 xv:W.heap[w.heap.size]?=some (.cells #[.pointer (some ⟨b,0,none⟩)] 41 (0,0))
 xe:W.heap[w.heap.size+1]?=some (.cells #[.int .i64 0] 42 (0,0))
 cv:col' w.heap.size=0
 ce:col' (w.heap.size+1)=0
theorem spread_ok(w:World)(b:Nat)(S:Vs)(pb mb:Nat)(pc col:Nat->Nat)(h:Vw w b S pb mb pc col)(g off c:Nat)(l:List Nat)(hB:Bs w (some ⟨g,off,none⟩) l)(hg:col g=0)(hgl:g<w.heap.size)(hc:l.length<=c)(h1:32<l.length)(h2:l.length<=3840)(k:Nat)(hk:k=(l.length-1)/480+1)(hm:S.fl+S.al.length<=9223372036854775807)
 (hok:∀m S1 n1,m<k->Spr l k S m S1 n1->(S1.makeR (mkp l (k-1-m) n1)).2=0/\N64 n1/\S1.X.P.mark+1<=17592186044416/\S1.X.ch.length+1<=1759218604441/\S1.al.length+1<=8796093022208):
 Calls Tryz.prog 133 #[.pointer (some ⟨b,0,none⟩),.slice (some ⟨g,off,none⟩) l.length c] w fun e w'=>∃(S':Vs)(nx:Int),e=.returned (.tuple #[.int .i64 nx,.int .i64 0])/\Spr l k S k S' nx/\∃pc' col',Vw w' b S' pb mb pc' col'/\Vf w col w' col':=by
 have hmf:=mkf13;have HV:=hide h
 have MK:=hide (show ∀W:World,Below w.heap.size w W->Calls Tryz.prog 54 #[.pointer (some ⟨b,0,none⟩)] W fun e w'=>e=.returned (.int .i64 ((S.fl+S.al.length:Nat):Int))/\Below W.heap.size W w' from fun W hb=>by
  obtain⟨ac,cc,aa,ca,hq⟩:=h.keep hb;exact vMark_any W b _ _ _ _ _ hq hm)
 have PGS:=hide fun(W:World)=>bPages_any W (l.length:Int) (by unfold N64;omega)
 rw[bpn_nat h1,<-hk] at PGS;have U:=hide (two_blk w (.cells #[.pointer (some ⟨b,0,none⟩)] 41) (.cells #[.int .i64 0] 42));have OK:=hide hok;have HB:=hide hB;have HK:=hide hk;have hkl:480*(k-1)<l.length:=by omega
 have hkp:1<=k:=by omega
 have hk8:k<=8:=by omega
 have CH:=hide fun(W:World)(i:Nat)(hbW:Bs W (some ⟨g,off,none⟩) l)(hi:480*i<l.length)=>bchunk_any W g off c l i hbW hc hi h2
 have HG:=hide hg;have hb0:b<w.heap.size:=by obtain⟨aa,ca,hx⟩:=h.vx;exact hx.lb
 have Z0:=hide fun(k:Nat)(hk:w.heap.size<=k)=>h.z hk
 generalize S.fl+S.al.length=mk at *;clear h hok hB hk hg hm;obtain⟨n,hn⟩:∃n,l.length=n:=⟨_,rfl⟩;have HN:=hide hn;rw[hn];simp only[hn] at CH PGS;rw[hn] at h1 h2 hkl hc;clear hn;go_enter_defers Tryz.func133,Tryz.ntmps133
 go_wp2_with fail
 refine(MK.out _ U.out.2.2).mono ?_;rintro _ w3 ⟨rfl,hb⟩;have A3:=hide (al w3 (.cells #[.int .i64 (mk:Int)] 3));have XV:=hide (blk13 U.out.1 (bt hb A3.out));have XE:=hide (blk13 U.out.2.1 (bt hb A3.out));have B3:=hide (bt U.out.2.2 (bt hb A3.out));clear hb U MK;go_wp2_with fail
 refine(PGS.out _).mono ?_;rintro _ w4 ⟨rfl,hw4⟩;rw[hw4];clear hw4 PGS;have WK:Hid (IntKind.i64.wrap ((k:Int)-1)=((k:Int)-1)):=wrapI (by omega) (by omega)
 go_wp2_with fail
 generalize (w3.alloc (.cells #[.int .i64 (mk:Int)] 3))=w5 at *;have S0:Hid (Sl13 w w5 b pb mb col l k S 0 0 S 0 pc col):=⟨⟨rfl,rfl⟩,HV.out.keep B3.out,Vf.keep B3.out,XV.out,XE.out,Z0.out _ (Nat.le_refl _),Z0.out _ (by omega)⟩
 go_loopw [7,8] (fun nv a wx=>∃(m:Nat)(S':Vs)(nx:Int)(pc' col':Nat->Nat),m<=k/\nv=.int .i64 nx/\a=.int .i64 ((k:Int)-1-(m:Int))/\Sl13 w wx b pb mb col l k S m 0 S' nx pc' col') (fun _ a _=>(intOf a+1).toNat)
 case atStart=>exact⟨0,S,0,pc,col,Nat.zero_le _,rfl,by first|rfl|(simp;done),S0.out⟩
 case round=>
  clear S0 XV XE B3 A3;obtain⟨m,S',nx,pc',col',hm,rfl,rfl,hS⟩:=hrel;have SL:=hide hS;clear hS;by_cases hlt:m<k
  · obtain⟨i,hi⟩:∃i:Nat,(k:Int)-1-(m:Int)=(i:Int):=⟨k-1-m,by omega⟩
    have hik:i=k-1-m:=by omega
    obtain⟨o1,o2,o3,o4,o5⟩:=OK.out m S' nx hlt SL.out.s;rw[<-hik] at o1;have O1:=hide o1;have hi0:(0:Int)<=(i:Int):=by omega
    have hil:480*i<n:=by omega
    have IK:=hide hik;have BL:Hid (∀W:World,Below wr.heap.size wr W->Bs W (some ⟨g,off,none⟩) l):=fun W hb=>(HB.out.but SL.out.f.b (fun x hx _=>by cases hx;show ¬(1<=col g/\col g<=5);have:=HG.out;omega)).keep hb
    have GC:Hid (col' g=0):=(SL.out.f.c g hgl).trans HG.out;have MA:=hide fun(W:World)(hb:Below wr.heap.size wr W)(c':Nat)(hB:Bs W (some ⟨g,off+480*i,none⟩) (cnk l i))(hc':(cnk l i).length<=c')=>Make_any W b S' pb mb pc' col' (SL.out.v.keep hb) ⟨3,0,none,0,[],some ⟨g,off+480*i,none⟩,c',cnk l i,nx⟩ (pf_blob hB GC.out hc' o2) ⟨Nat.le_trans (cnk_le l i) (by decide),fun x hx=>(List.not_mem_nil hx).elim⟩ (Nat.zero_le _) o3 o4 o5
    have PE:Hid (∀c',(⟨3,0,none,0,[],some ⟨g,off+480*i,none⟩,c',cnk l i,nx⟩:Pv).pg=mkp l i nx):=fun _=>rfl
    simp only[PE.out] at MA;unfold Pv.vl at MA;simp only[Pv.cs,List.length_nil] at MA;rw[O1.out] at MA;have SS:=hide fun(W:World)(hx:W.heap[w.heap.size]?=some (.cells #[.pointer (some ⟨b,0,none⟩)] 41 (0,0)))=>(show W.cell? ⟨w.heap.size,0,none⟩=some (.pointer (some ⟨b,0,none⟩)) from by rw[cell_of_row _ _ _ _ _ _ hx];rfl)
    have DD:=hide (dr2 wr);have XV:=hide SL.out.xv;have XE:=hide SL.out.xe;have CV:=hide SL.out.cv;have CE:=hide SL.out.ce;rw[hi];have HI:=hide hi;clear o1 o2 o3 o4 o5 OK hi hik;go_upto_region 7 with fail
    refine wp_region_noPanic ?_;refine wp_region_held_drew (S:=fun W=>W.cell? ⟨w.heap.size,0,none⟩=some (.pointer (some ⟨b,0,none⟩))) (by kernel_rfl) (SS.out _ XV.out) (fun hHeld=>?_)
    refine tk 0 ?_;refine tk 1 ?_;refine tk 2 ?_;refine tk 4 ?_;refine tw 3 fun K hK=>?_
    go_simp;refine(CH.out _ i (BL.out _ DD.out) hil).mono ?_;rintro _ w6 ⟨c',rfl,hB6,hc6,hw6⟩;subst hw6;have MM:=hide (MA.out _ DD.out c' hB6 hc6);clear hB6 hc6;go_wp2_with fail
    refine hK.out _ _ (SS.out _ XV.out) (fun hHeld=>?_)
    clear hK K;try simp only[pt]
    refine tk 5 ?_;refine tw 6 fun K hK=>?_
    go_simp;refine MM.out.mono ?_;rintro _ w7 ⟨q,hq,rfl,pc2,col2,v2,f2⟩;have Q2:=hide hq;have V2:=hide v2;have F2:=hide ((Vf.keep DD.out).trans f2);have XV2:=hide (F2.out.b.same XV.out (fun e=>by rw[CV.out] at e;omega))
    have XE2:=hide (F2.out.b.same XE.out (fun e=>by rw[CE.out] at e;omega))
    clear hq v2 f2;go_wp2_with fail
    refine hK.out _ _ (SS.out _ XV2.out) (fun hHeld=>?_)
    clear hK K;try simp only[pt]
    refine tk 7 ?_;refine tk 8 ?_;refine tk 9 ?_;refine tk 10 ?_;refine tw 11 fun K hK=>?_
    have c0:w7.cell? ⟨w.heap.size+1,0,none⟩=some (.int .i64 0):=by rw[cell_of_row _ _ _ _ _ _ XE2.out];rfl
    have f0:w7.frozen? ⟨w.heap.size+1,0,none⟩=false:=frozen_of_row _ _ _ _ _ XE2.out;go_simp;have XV3:=hide ((Below.heap_setCell w7 ⟨w.heap.size+1,0,none⟩ (.int .i64 0) w.heap.size (show w.heap.size≠w.heap.size+1 by omega)).trans XV2.out)
    have XE3:=hide (heap_setCell_same w7 (w.heap.size+1) 0 _ 42 (.int .i64 0) XE2.out);have C2:Hid (col2 w.heap.size=0/\col2 (w.heap.size+1)=0):=⟨(F2.out.c _ (Array.getElem?_eq_some_iff.1 XV.out).1).trans CV.out,(F2.out.c _ (Array.getElem?_eq_some_iff.1 XE.out).1).trans CE.out⟩;have NB:=hide (But.cell1 w7 (w.heap.size+1) 0 (.int .i64 0));have V3:=hide (V2.out.but13 NB.out (fun k hk e=>hk (by rw[e];exact C2.out.2)))
    have F3:Hid (Vf w col (w7.setCell ⟨w.heap.size+1,0,none⟩ (.int .i64 0)) col2):=⟨(SL.out.f.trans F2.out).b.trans NB.out (fun x hx e=>by omega),(SL.out.f.trans F2.out).c⟩
    refine hK.out _ _ (SS.out _ XV3.out) (fun hHeld=>?_)
    clear hK K c0 f0;try simp only[pt]
    refine td ?_;refine NoPanic.normal ?_;clear hHeld MM NB;generalize w7.setCell ⟨w.heap.size+1,0,none⟩ (.int .i64 0)=w8 at *;have c0:w8.cell? ⟨w.heap.size+1,0,none⟩=some (.int .i64 0):=by rw[cell_of_row _ _ _ _ _ _ XE3.out];rfl
    have N3:Hid (Spr l k S (m+1) (S'.makeS (mkp l i nx) q) (S'.makeR (mkp l i nx)).1):=⟨S',nx,q,SL.out.s,by rw[<-IK.out];exact Q2.out,by rw[<-IK.out],by rw[<-IK.out]⟩
    obtain⟨nx2,hnx2⟩:∃nx2,(S'.makeR (mkp l i nx)).1=nx2:=⟨_,rfl⟩;obtain⟨S2,hS2⟩:∃S2,S'.makeS (mkp l i nx) q=S2:=⟨_,rfl⟩;rw[hnx2,hS2] at N3;rw[hS2] at V3;rw[hnx2];clear hnx2 hS2;go_wp2_with fail
    go_roundw
    case rel=>exact⟨m+1,S2,nx2,pc2,col2,by omega,rfl,by have:=HI.out;first|(go_num;done)|exact congrArg (Value.int IntKind.i64) (by omega),⟨N3.out,V3.out,F3.out,XV3.out,XE3.out,C2.out.1,C2.out.2⟩⟩
    case measure=>simp[intOf]
  · obtain rfl:m=k:=by omega
    have e1:(m:Int)-1-(m:Int)= -1:=by omega
    rw[e1];clear e1;have c0:wr.cell? ⟨w.heap.size+1,0,none⟩=some (.int .i64 0):=by rw[cell_of_row _ _ _ _ _ _ SL.out.xe];rfl
    have f0:wr.frozen? ⟨w.heap.size+1,0,none⟩=false:=frozen_of_row _ _ _ _ _ SL.out.xe;have XE3:=hide (heap_setCell_same wr (w.heap.size+1) 0 _ 42 (.int .i64 0) SL.out.xe);have NB:=hide (But.cell1 wr (w.heap.size+1) 0 (.int .i64 0));have V3:=hide (SL.out.v.but13 NB.out (fun k hk e=>hk (by rw[e];exact SL.out.ce)))
    have F3:Hid (Vf w col (wr.setCell ⟨w.heap.size+1,0,none⟩ (.int .i64 0)) col'):=⟨SL.out.f.b.trans NB.out (fun x hx e=>by omega),SL.out.f.c⟩
    have SP:=hide SL.out.s;clear SL NB OK CH;go_wp2_with fail
    generalize wr.setCell ⟨w.heap.size+1,0,none⟩ (.int .i64 0)=w8 at *;have c8:w8.cell? ⟨w.heap.size+1,0,none⟩=some (.int .i64 0):=by rw[cell_of_row _ _ _ _ _ _ XE3.out];rfl
    refine leaves_cons (f:=162) (args:=#[.pointer (some ⟨w.heap.size+1,0,none⟩),.pointer (some ⟨w.heap.size,0,none⟩),.pointer (some ⟨w3.heap.size,0,none⟩)]) (by simp) (by simp[go_sem]) ?_
    refine(spreadC_idle w8 _ _ _ c8).mono ?_;rintro e u' w9 ⟨rfl,rfl,rfl⟩;simp only[settle];exact⟨_,results_tc _ _ ⟨w.heap.size+1,0,none⟩ 0 rfl c8,S',nx,rfl,SP.out,pc',col',V3.out,F3.out⟩
theorem Rw.nty13(h:Rw w a c l){cs:Array Value}(hg:w.heap[g]?=some (.cells cs t (0,0)))(ht:t≠5){x:Addr}(hx:a=some x):x.block≠g:=by
 intro e;rcases h.cases with⟨h0,_⟩|⟨g',cur,ha,hg',_⟩
 · rw[h0] at hx;cases hx
 · rw[ha] at hx;cases hx;subst e;rw[hg] at hg';cases hg';exact ht rfl
def Chn(S:Vs)(l:List Nat)(k:Nat):Nat->Int->Prop
 |0,n=>n=0
 |r+1,n=>0<S.X.P.count n/\∃nx,(S.X.on n).pg=mkp l (k-1-r) nx/\(nx=0↔r=0)/\Chn S l k r nx
theorem cnk_next(l:List Nat)(i:Nat):l.take (480*i)++cnk l i=l.take (480*(i+1)):=by
 unfold cnk;rw[show 480*(i+1)=480*i+480 by omega,List.take_add]
theorem on_sml{S:Vs}{n:Int}(h:(S.X.on n).pg=mkp l i nx):Sml (S.X.on n):=by
 have h1:(S.X.on n).data=cnk l i:=congrArg Pg.data h;have h2:(S.X.on n).items.map Iv.it=[]:=congrArg Pg.items h;have h3:(S.X.on n).items=[]:=List.map_eq_nil_iff.1 h2;refine⟨by rw[h1];exact Nat.le_trans (cnk_le l i) (by decide),fun x hx=>?_⟩
 rw[h3] at hx;cases hx
theorem made_size(n:Nat):(madeCells #[.int .u8 0] n).size=n:=by
 exact size_madeCells _ _
def lenOf13:Value->Nat
 | .slice _ n _=>n
 |_=>0
theorem gather_ok(w:World)(b:Nat)(S:Vs)(pb mb:Nat)(pc col:Nat->Nat)(h:Vw w b S pb mb pc col)(l:List Nat)(h1:32<l.length)(h2:l.length<=3840)(h8:B8 l)(k:Nat)(hk:k=(l.length-1)/480+1)(n:Int)(hC:Chn S l k k n):
 Calls Tryz.prog 134 #[.pointer (some ⟨b,0,none⟩),.int .i64 n,.int .i64 (l.length:Int)] w fun e w'=>∃(a:Option Addr)(c:Nat),e=.returned (.tuple #[.slice a l.length c,.int .i64 0])/\Own w w' a c l:=by
 have RD:=hide fun(W:World)(hb:Below w.heap.size w W)(z:Int)(hs:Sml (S.X.on z))=>Read_any W b S pb mb pc col (h.keep hb) z hs
 have HC:=hide hC;have HK:=hide hk;have H8:=hide h8;obtain⟨s,hs⟩:∃s,l.length=s:=⟨_,rfl⟩;have HS:=hide hs;rw[hs] at h1 h2 ⊢;have hmk:∀w:World,(Instr.makeSlice 29 (.int .i64 0) (.int .i64 (s:Int))).run Tryz.prog w=.ok (.slice (some ⟨w.heap.size,0,none⟩) 0 s) (w.alloc (.cells (madeCells #[.int .u8 0] s) 5)):=make_u8 0 s (Nat.zero_le _) (by omega)
 have hk1:480*(k-1)<s:=by omega
 have hk2:s<=480*k:=by omega
 have hk3:1<=k:=by omega
 have A0:=hide (al w (.cells (madeCells #[.int .u8 0] s) 5));have R0:Hid (Rw (w.alloc (.cells (madeCells #[.int .u8 0] s) 5)) (some ⟨w.heap.size,0,none⟩) s []):=Rw.mk (cur:=madeCells #[.int .u8 0] s) (heap_alloc_new _ _) (Nat.zero_le _) (Nat.le_trans h2 (by decide)) (made_size s) (by simp[vb])
 clear h hC hk h8 hs;go_enter Tryz.func134,Tryz.ntmps134;go_wp2_with fail
 generalize (w.alloc (.cells (madeCells #[.int .u8 0] s) 5))=w1 at *;go_loopw [8,1] (fun vv nv wx=>∃(r:Nat)(n':Int)(a:Option Addr)(c m:Nat),r<=k/\vv=.slice a m c/\nv=.int .i64 n'/\m=(l.take (480*(k-r))).length/\Chn S l k r n'/\Rw wx a c (l.take (480*(k-r)))/\New w none a/\Below w.heap.size w wx) (fun vv _ _=>s-(lenOf13 vv))
 case atStart=>exact⟨k,n,some ⟨w.heap.size,0,none⟩,s,0,Nat.le_refl _,rfl,rfl,by simp,HC.out,by rw[Nat.sub_self];exact R0.out,fun x hx=>.inr (by cases hx;exact Nat.le_refl _),A0.out⟩
 case round=>
  obtain⟨r,n',a,c,m,hr,rfl,rfl,hm,hC,hR,hN,hb⟩:=hrel;have hml:m=min (480*(k-r)) s:=by rw[hm,List.length_take,HS.out]
  have HM:=hide hm;have RW:=hide hR;have NW:=hide hN;have BB:=hide hb;cases r with
  |zero=>
   have e1:m=s:=by omega
   have FIN:Hid (Rw wr a c l):=by
    have:=RW.out;rw[List.take_of_length_le (by rw[HS.out];omega)] at this
    exact this
   clear hm hR hN hb hC hml HM;subst e1;go_wp2_with fail
   refine bodyPost_ret (results_tmp2 rfl _ _ _) rfl ?_;exact⟨a,c,rfl,FIN.out,NW.out,BB.out⟩
  |succ r=>
   obtain⟨c1,nx,p1,nr,c2⟩:=hC;have hlt:m<s:=by omega
   have hlti:(m:Int)<(s:Int):=by omega
   obtain⟨i,hi⟩:∃i,k-1-r=i:=⟨_,rfl⟩;have hkr:k-(r+1)=i:=by omega
   have hmi:m=480*i:=by omega
   have hkr2:k-r=i+1:=by omega
   rw[hi] at p1;rw[hkr] at RW HM;have P1:=hide p1;have NR:=hide nr;have C2:=hide c2;have CL:Hid ((cnk l i).length=min 480 (s-m)):=by show _=_;rw[cnk_len (by rw[HS.out];omega),HS.out,hmi]
   have hir:Hid (r=0↔s-m<=480):=by show _↔_;constructor<;>intro h<;>omega
   have HI:=hide (And.intro hkr (And.intro hkr2 hmi));have RR:=hide (RD.out wr BB.out n' (on_sml p1));rw[if_pos c1,if_pos c1,p1] at RR;clear hm hR hN hb hml hi hkr hkr2 hmi p1 nr c2 c1;go_wp2_with fail
   refine RR.out.mono ?_;rintro _ w3 ⟨q,rfl,hn3,hq3,hb3⟩;have PN:=hide (hn3.keep (al w3 (.cells #[.int .i64 q.kind,.int .i64 q.level,.slice q.aI q.items.length q.cI,.slice q.aD q.data.length q.cD,.int .i64 q.next] 31)));have QG:=hide hq3;have A3:=hide (al w3 (.cells #[.int .i64 q.kind,.int .i64 q.level,.slice q.aI q.items.length q.cI,.slice q.aD q.data.length q.cD,.int .i64 q.next] 31));have X3:=hide (heap_alloc_new w3 (.cells #[.int .i64 q.kind,.int .i64 q.level,.slice q.aI q.items.length q.cI,.slice q.aD q.data.length q.cD,.int .i64 q.next] 31));have B3:=hide (bt BB.out (bt hb3 A3.out));have R3:=hide ((RW.out.keep hb3).keep A3.out);clear hn3 hq3 hb3 RR;have qk:q.kind=3:=congrArg Pg.kind QG.out;have qd:q.data=cnk l i:=congrArg Pg.data QG.out;have qn:q.next=nx:=congrArg Pg.next QG.out;have BD:=hide (PN.out.d.bs PN.out.d8 PN.out.d.len_le);obtain⟨qkind,qlevel,qaI,qcI,qitems,qaD,qcD,qdata,qnext⟩:=q;simp only at qk qd qn BD;subst qk;subst qd;subst qn;unfold Pv.vl;simp only[Pv.cs] at X3 B3 R3 ⊢;obtain⟨cl,hcl⟩:∃cl,(cnk l i).length=cl:=⟨_,rfl⟩;have HCL:=hide hcl;rw[hcl] at BD CL X3 B3 R3 ⊢;clear hcl;have e2:min ((s:Int)-(m:Int)) 480=(cl:Int):=by have:=CL.out;omega
   have hclb:cl<=480:=by have:=CL.out;omega
   have hml:(l.take (480*i)).length+cl<=140737488355328:=by rw[<-HM.out];omega
   have ne3:Hid (∀x,a=some x->x.block≠w3.heap.size):=fun x hx=>R3.out.nty13 (t:=31) X3.out (by decide) hx
   go_upto_region 4 with fail
   generalize (w3.alloc (.cells #[.int .i64 3,.int .i64 qlevel,.slice qaI qitems.length qcI,.slice qaD cl qcD,.int .i64 qnext] 31))=w4 at *;have hz3:w3.heap.size<w4.heap.size:=(Array.getElem?_eq_some_iff.1 X3.out).1;generalize w3.heap.size=gp at *;obtain⟨y0,y1,y2,y3,y4⟩:=five_cells X3.out;have BDD:=hide BD.out;have CNT:Hid (Bs w4 qaD (cnk l i)):=BDD.out;by_cases hr0:r=0
   · have q0:qnext=0:=NR.out.2 hr0;have d1:decide ((s:Int)-(m:Int)<=480)=true:=decide_eq_true (by have:=hir.out.1 hr0;omega)
     have d0:(qnext==0)=true:=by simpa using q0
     clear q0;go_wp2_with (at_builtin;refine wpList_apB rfl _ _ rfl a m c (l.take (480*i)) rfl HM.out R3.out qaD cl qcD (cnk l i) rfl HCL.out.symm CNT.out (by rw[HCL.out];exact hml) ?_)
     intro a' c' w5 hR hN hg _;have R5:=hide hR
     have X5:=hide ((hg.block gp hz3 (fun e=>by
      cases ha:a with
      |none=>rw[ha] at e;cases e
      |some x=>rw[ha] at e;exact ne3.out x ha (by simpa using e.symm))).trans X3.out)
     have N5:Hid (New w none a'):=fun y hy=>by
      rcases hN y hy with⟨z,hz,e⟩|h
      · rcases NW.out z hz with⟨_,h0,_⟩|h1
        · cases h0
        · exact .inr (by rw[<-e];exact h1)
      · exact .inr (Nat.le_trans B3.out.size h)
     have B5:Hid (Below w.heap.size w w5):=(But.grown (S:=fun k=>∃x,a=some x/\x.block=k) (But.ofBelow B3.out) hg (by
      intro k e _;cases ha:a with
      |none=>rw[ha] at e;simp at e
      |some x=>rw[ha] at e;exact⟨x,rfl,by first|(simpa using e)|(simpa using e.symm)⟩)).below (fun k hk ⟨x,hx,e⟩=>by
       rcases NW.out x hx with⟨_,h0,_⟩|h1
       · cases h0
       · omega)
     clear hR hN hg y0 y1 y2 y3 y4;obtain⟨y0,y1,y2,y3,y4⟩:=five_cells X5.out;rw[cnk_next] at R5;go_wp2_with fail
     go_roundw
     case rel=>exact⟨r,qnext,a',c',m+cl,by omega,rfl,rfl,by rw[HI.out.2.1,<-cnk_next,List.length_append,<-HM.out,HCL.out],C2.out,by rw[HI.out.2.1];exact R5.out,N5.out,B5.out⟩
     case measure=>simp[lenOf13];have:=CL.out;omega
   · have q0:¬qnext=0:=fun e=>hr0 (NR.out.1 e)
     have d1:decide ((s:Int)-(m:Int)<=480)=false:=decide_eq_false (fun e=>hr0 (hir.out.2 (by omega)))
     have d0:(qnext==0)=false:=by simpa using q0
     clear q0;go_wp2_with (at_builtin;refine wpList_apB rfl _ _ rfl a m c (l.take (480*i)) rfl HM.out R3.out qaD cl qcD (cnk l i) rfl HCL.out.symm CNT.out (by rw[HCL.out];exact hml) ?_)
     intro a' c' w5 hR hN hg _;have R5:=hide hR
     have X5:=hide ((hg.block gp hz3 (fun e=>by
      cases ha:a with
      |none=>rw[ha] at e;cases e
      |some x=>rw[ha] at e;exact ne3.out x ha (by simpa using e.symm))).trans X3.out)
     have N5:Hid (New w none a'):=fun y hy=>by
      rcases hN y hy with⟨z,hz,e⟩|h
      · rcases NW.out z hz with⟨_,h0,_⟩|h1
        · cases h0
        · exact .inr (by rw[<-e];exact h1)
      · exact .inr (Nat.le_trans B3.out.size h)
     have B5:Hid (Below w.heap.size w w5):=(But.grown (S:=fun k=>∃x,a=some x/\x.block=k) (But.ofBelow B3.out) hg (by
      intro k e _;cases ha:a with
      |none=>rw[ha] at e;simp at e
      |some x=>rw[ha] at e;exact⟨x,rfl,by first|(simpa using e)|(simpa using e.symm)⟩)).below (fun k hk ⟨x,hx,e⟩=>by
       rcases NW.out x hx with⟨_,h0,_⟩|h1
       · cases h0
       · omega)
     clear hR hN hg y0 y1 y2 y3 y4;obtain⟨y0,y1,y2,y3,y4⟩:=five_cells X5.out;rw[cnk_next] at R5;go_wp2_with fail
     go_roundw
     case rel=>exact⟨r,qnext,a',c',m+cl,by omega,rfl,rfl,by rw[HI.out.2.1,<-cnk_next,List.length_append,<-HM.out,HCL.out],C2.out,by rw[HI.out.2.1];exact R5.out,N5.out,B5.out⟩
     case measure=>simp[lenOf13];have:=CL.out;omega
theorem four13{v0 v1 v2 v3:Value}(h:W.heap[b]?=some (.cells #[v0,v1,v2,v3] t (0,0))):W.cell? ⟨b,0,none⟩=some v0/\W.cell? ⟨b,1,none⟩=some v1/\W.cell? ⟨b,2,none⟩=some v2/\W.cell? ⟨b,3,none⟩=some v3:=by
 refine⟨?_,?_,?_,?_⟩<;>(rw[cell_of_row _ _ _ _ _ _ h];rfl)
theorem Load_ok(w:World)(b:Nat)(S:Vs)(pb mb:Nat)(pc col:Nat->Nat)(h:Vw w b S pb mb pc col)(l:List Nat)(h1:32<l.length)(h2:l.length<=3840)(h8:B8 l)(k:Nat)(hk:k=(l.length-1)/480+1)(x:Iv)(hz:x.size=(l.length:Int))(hC:Chn S l k k x.child):
 Calls Tryz.prog 79 #[.pointer (some ⟨b,0,none⟩),x.vl] w fun e w'=>∃(a:Option Addr)(c:Nat),e=.returned (.tuple #[.slice a l.length c,.int .i64 0])/\Own w w' a c l:=by
 have A0:=hide (al w (.cells x.cs 51));have X0:=hide (heap_alloc_new w (.cells x.cs 51));have GA:=hide (gather_ok (w.alloc (.cells x.cs 51)) b S pb mb pc col (h.keep A0.out) l h1 h2 h8 k hk x.child hC);clear h h8 hk hC;obtain⟨xK,xcK,xkey,xV,xcV,xval,xch,xsz⟩:=x;simp only at hz;subst hz;unfold Iv.vl;simp only[Iv.cs] at A0 X0 GA ⊢;obtain⟨s,hs⟩:∃s,l.length=s:=⟨_,rfl⟩;rw[hs] at h1 h2 GA A0 X0 ⊢;clear hs;have d1:decide ((s:Int)<0)=false:=decide_eq_false (by omega)
 have d2:decide ((3840:Int)<(s:Int))=false:=decide_eq_false (by omega)
 have d3:decide ((32:Int)<(s:Int))=true:=decide_eq_true (by omega)
 obtain⟨x0,x1,x2,x3⟩:=four13 X0.out;go_enter Tryz.func79,Tryz.ntmps79;go_wp2_with fail
 refine GA.out.mono ?_;rintro _ w3 ⟨a,c,rfl,hO⟩;have OO:Hid (Own w w3 a c l):=⟨hO.r,hO.n.mono A0.out.size,bt A0.out hO.b⟩;clear hO;go_wp2_with fail
 refine bodyPost_ret (results_tmp2 rfl _ _ _) rfl ?_;exact⟨a,c,rfl,OO.out⟩
theorem bs_vf{col':Nat->Nat}(h:Bs w a l)(hf:Vf w col W col')(hc:∀x,a=some x->col x.block=0):Bs W a l:=h.but hf.b (fun x hx _=>by have:=hc x hx;show ¬(1<=col x.block/\col x.block<=5);omega)
theorem Store_ok(w:World)(b:Nat)(S:Vs)(pb mb:Nat)(pc col:Nat->Nat)(h:Vw w b S pb mb pc col)(ak:Option Addr)(ck:Nat)(key:List Nat)(hK:Bs w ak key)(hkc:∀x,ak=some x->col x.block=0)(k1:1<=key.length)(k2:key.length<=24)(g off c:Nat)(l:List Nat)(hB:Bs w (some ⟨g,off,none⟩) l)(hg:col g=0)(hgl:g<w.heap.size)(hc:l.length<=c)(h1:32<l.length)(h2:l.length<=3840)(k:Nat)(hk:k=(l.length-1)/480+1)(hm:S.fl+S.al.length<=9223372036854775807)
 (hok:∀m S1 n1,m<k->Spr l k S m S1 n1->(S1.makeR (mkp l (k-1-m) n1)).2=0/\N64 n1/\S1.X.P.mark+1<=17592186044416/\S1.X.ch.length+1<=1759218604441/\S1.al.length+1<=8796093022208):
 Calls Tryz.prog 78 #[.pointer (some ⟨b,0,none⟩),.slice ak key.length ck,.slice (some ⟨g,off,none⟩) l.length c] w fun e w'=>∃(S':Vs)(x:Iv),e=.returned (.tuple #[x.vl,.int .i64 0])/\x.key=key/\x.val=[]/\x.size=(l.length:Int)/\Spr l k S k S' x.child/\∃pc' col',Vw w' b S' pb mb pc' col'/\Vf w col w' col':=by
 have A0:=hide (al w (.cells #[.slice none 0 0,.slice none 0 0,.int .i64 0,.int .i64 0] 51));have X0:=hide (heap_alloc_new w (.cells #[.slice none 0 0,.slice none 0 0,.int .i64 0,.int .i64 0] 51));have hgl1:g<(w.alloc (.cells #[.slice none 0 0,.slice none 0 0,.int .i64 0,.int .i64 0] 51)).heap.size:=Nat.lt_of_lt_of_le hgl A0.out.size;have SP:=hide (spread_ok (w.alloc (.cells #[.slice none 0 0,.slice none 0 0,.int .i64 0,.int .i64 0] 51)) b S pb mb pc col (h.keep A0.out) g off c l (hB.keep A0.out) hg hgl1 hc h1 h2 k hk hm hok);have Z0:Hid (col w.heap.size=0):=h.z (Nat.le_refl _);have CL:=hide fun(W:World)(col':Nat->Nat)(hf:Vf (w.alloc (.cells #[.slice none 0 0,.slice none 0 0,.int .i64 0,.int .i64 0] 51)) col W col')=>Clone_own W ak ck key (bs_vf (hK.keep A0.out) hf hkc) (by omega)
 have HL:Hid (l.length=l.length):=rfl;clear h hK hkc hB hg hgl hc hk hm hok hgl1;generalize hn:key.length=n at *;have HN:=hide hn;obtain⟨s,hs⟩:∃s,l.length=s:=⟨_,rfl⟩;rw[hs] at h1 h2 SP ⊢;clear hn hs;have d1:((n:Int)==0)=false:=by simp;omega
 have d2:decide ((24:Int)<(n:Int))=false:=decide_eq_false (by omega)
 have d3:decide ((3840:Int)<(s:Int))=false:=decide_eq_false (by omega)
 have d4:decide ((s:Int)<=32)=false:=decide_eq_false (by omega)
 go_enter Tryz.func78,Tryz.ntmps78;go_wp2_with fail
 refine SP.out.mono ?_;rintro _ w3 ⟨S',nx,rfl,hS,pc',col',hV,hF⟩;have SS:=hide hS;have VV:=hide hV;have FF:=hide hF;have X3:=hide (hF.b.same X0.out (fun e=>by rw[Z0.out] at e;omega))
 have Z3:Hid (col' w.heap.size=0):=(hF.c _ (Array.getElem?_eq_some_iff.1 X0.out).1).trans Z0.out;have CC:=hide (CL.out _ _ hF);clear hS hV hF SP CL X0;go_wp2_with fail
 refine CC.out.mono ?_;rintro _ w4 ⟨a4,c4,rfl,hO⟩;have V4:=hide (VV.out.keep hO.b);have F4:=hide ((Vf.keep A0.out).trans (FF.out.trans (Vf.keep hO.b)));have X4:=hide (blk13 X3.out hO.b);clear hO CC VV FF X3;go_wp2_with (first|(refine wpList_store_row rfl 51 _ _ rfl w.heap.size _ rfl rfl 51 _ X4.out sizeItem rfl (by simp[Value.oneCell']) ?_)|fail)
 refine bodyPost_ret (v:=.tuple #[.agg _,_]) (results_cell_one Tryz.results78 _ _ w.heap.size 51 _ (0,0) _ rfl (setRow_heap _ _ _ _ _ _ X4.out) Tryz.underlying51 rfl sizeItem) rfl ?_;have nb:=setRow_butv w4 w.heap.size #[.slice a4 n c4,.slice none 0 0,.int .i64 nx,.int .i64 (s:Int)];refine⟨S',⟨a4,c4,key,none,0,[],nx,(s:Int)⟩,by unfold Iv.vl;simp only[Iv.cs,HN.out];rfl,rfl,rfl,rfl,SS.out,pc',col',V4.out.but13 nb (fun k hk e=>hk (by rw[e];exact Z3.out)),⟨F4.out.b.trans nb (fun x hx e=>by omega),F4.out.c⟩⟩
end Go.Proofs.YtcpkinhneehomaaGreat
