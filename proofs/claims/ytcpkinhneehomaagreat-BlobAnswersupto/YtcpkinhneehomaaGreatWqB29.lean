import Derived.Test.YtcpkinhneehomaaGreatWqB28
set_option linter.unusedVariables false
set_option linter.unusedSimpArgs false
set_option maxHeartbeats 16000000
set_option maxRecDepth 8000
namespace Go.Proofs.YtcpkinhneehomaaGreat
open Go.RowKit
variable {rd:Int->Option Pg}{x:Iv}{w w':World}
def ldv(rd:Int->Option Pg)(x:Iv):Nat×List Nat:=if x.size<0\/3840<x.size then (8,[]) else if 32<x.size then gatF rd x.size.toNat x.size.toNat [] x.child else if (x.val.length:Int)≠x.size then (8,[]) else (0,x.val)
theorem ldv_bad(h:x.size<0\/3840<x.size):ldv rd x=(8,[]):=by unfold ldv;rw[if_pos h]
theorem ldv_long{s:Nat}(h1:32<s)(h2:s<=3840)(h:x.size=(s:Int)):ldv rd x=gatF rd s s [] x.child:=by
 unfold ldv;rw[if_neg (by omega),if_pos (by omega),h]
 rfl
theorem ldv_not(h1:0<=x.size)(h2:x.size<=32)(h:(x.val.length:Int)≠x.size):ldv rd x=(8,[]):=by unfold ldv;rw[if_neg (by omega),if_neg (by omega),if_pos h]
theorem ldv_short(h2:x.size<=32)(h:(x.val.length:Int)=x.size):ldv rd x=(0,x.val):=by unfold ldv;rw[if_neg (by omega),if_neg (by omega),if_neg (fun e=>e h)]
theorem ReadsAs.keep{f:FuncId}{v:Value}(h:ReadsAs f v rd w)(hb:Below w.heap.size w w'):ReadsAs f v rd w':=fun W hW z=>h W (bt hb hW) z
theorem bLoad_any(w:World)(v:Value)(rd:Int->Option Pg)(hR:ReadsAs 44 v rd w)(x:Iv)(hx:Ii w x):Calls Tryz.prog 79 #[v,x.vl] w fun e w'=>Gvn w w' e (ldv rd x):=by
 by_cases hs:0<=x.size/\x.size<=32/\(x.val.length:Int)=x.size
 · rw[ldv_short hs.2.1 hs.2.2];refine(Load_short w v x hx.bv (by omega) hs.2.2.symm).mono ?_
   rintro _ w' ⟨a,c,rfl,hO⟩;exact .inr ⟨rfl,a,c,rfl,hO,hx.bv.1⟩
 have A0:=hide (al w (.cells x.cs 51));have X0:=hide (heap_alloc_new w (.cells x.cs 51));by_cases hb:x.size<0\/3840<x.size
 · rw[ldv_bad hb];clear hR hx hs;obtain⟨xK,xcK,xkey,xV,xcV,xval,xch,xsz⟩:=x;simp only at hb;unfold Iv.vl;simp only[Iv.cs] at A0 X0 ⊢;obtain⟨x0,x1,x2,x3⟩:=four13 X0.out;by_cases h0:xsz<0
   · have d1:decide (xsz<0)=true:=decide_eq_true h0;go_enter Tryz.func79,Tryz.ntmps79;go_wp2_with fail
     refine bodyPost_ret (results_tmp2 rfl _ _ _) rfl ?_;exact .inl ⟨by decide,rfl,A0.out⟩
   · have d1:decide (xsz<0)=false:=decide_eq_false h0;have d2:decide ((3840:Int)<xsz)=true:=decide_eq_true (by omega)
     go_enter Tryz.func79,Tryz.ntmps79;go_wp2_with fail
     refine bodyPost_ret (results_tmp2 rfl _ _ _) rfl ?_;exact .inl ⟨by decide,rfl,A0.out⟩
 by_cases hl:32<x.size
 · obtain⟨s,hz⟩:∃s:Nat,x.size=(s:Int):=⟨x.size.toNat,by omega⟩
   have h1:32<s:=by omega
   have h2:s<=3840:=by omega
   rw[ldv_long h1 h2 hz];have GA:=hide (gather_any (w.alloc (.cells x.cs 51)) v rd (hR.keep A0.out) s h1 h2 x.child);obtain⟨res,hres⟩:∃res,gatF rd s s [] x.child=res:=⟨_,rfl⟩;rw[hres] at GA ⊢;clear hR hx hs hb hl hres;obtain⟨xK,xcK,xkey,xV,xcV,xval,xch,xsz⟩:=x;simp only at hz;subst hz;unfold Iv.vl;simp only[Iv.cs] at A0 X0 GA ⊢;have d1:decide ((s:Int)<0)=false:=decide_eq_false (by omega)
   have d2:decide ((3840:Int)<(s:Int))=false:=decide_eq_false (by omega)
   have d3:decide ((32:Int)<(s:Int))=true:=decide_eq_true (by omega)
   obtain⟨x0,x1,x2,x3⟩:=four13 X0.out;go_enter Tryz.func79,Tryz.ntmps79;go_wp2_with fail
   refine GA.out.mono ?_;rintro _ w3 (⟨q1,rfl,q3⟩|⟨q1,a,c,rfl,q3,q4⟩)
   · have B3:=hide (bt A0.out q3);have HQ:=hide q1;clear q3 q1;go_wp2_with fail
     refine bodyPost_ret (results_tmp2 rfl _ _ _) rfl ?_;exact .inl ⟨HQ.out,rfl,B3.out⟩
   · have O3:Hid (Own w w3 a c res.2):=⟨q3.r,q3.n.mono A0.out.size,bt A0.out q3.b⟩;have Q4:=hide q4;have HQ:=hide q1;clear q3 q4 q1;go_wp2_with fail
     refine bodyPost_ret (results_tmp2 rfl _ _ _) rfl ?_;exact .inr ⟨HQ.out,a,c,rfl,O3.out,Q4.out⟩
 · have hne:(x.val.length:Int)≠x.size:=fun e=>hs ⟨by omega,by omega,e⟩
   rw[ldv_not (by omega) (by omega) hne]
   clear hR hx hs;obtain⟨xK,xcK,xkey,xV,xcV,xval,xch,xsz⟩:=x;simp only at hb hl hne;unfold Iv.vl;simp only[Iv.cs] at A0 X0 ⊢;obtain⟨s,hs⟩:∃s,xval.length=s:=⟨_,rfl⟩;rw[hs] at hne A0 X0 ⊢;clear hs;obtain⟨x0,x1,x2,x3⟩:=four13 X0.out;have d1:decide (xsz<0)=false:=decide_eq_false (by omega)
   have d2:decide ((3840:Int)<xsz)=false:=decide_eq_false (by omega)
   have d3:decide ((32:Int)<xsz)=false:=decide_eq_false (by omega)
   have d4:((s:Int) != xsz)=true:=by simpa using hne
   go_enter Tryz.func79,Tryz.ntmps79;go_wp2_with fail
   refine bodyPost_ret (results_tmp2 rfl _ _ _) rfl ?_;exact .inl ⟨by decide,rfl,A0.out⟩
theorem rbLoad_any(w:World)(v:Value)(rd:Int->Option Pg)(hR:ReadsAs 45 v rd w)(x:Iv)(hx:Ii w x):Calls Tryz.prog 137 #[v,x.vl] w fun e w'=>Gvn w w' e (ldv rd x):=by
 have A0:=hide (al w (.cells x.cs 51));have X0:=hide (heap_alloc_new w (.cells x.cs 51));by_cases hb:x.size<0\/3840<x.size
 · rw[ldv_bad hb];clear hR hx;obtain⟨xK,xcK,xkey,xV,xcV,xval,xch,xsz⟩:=x;simp only at hb;unfold Iv.vl;simp only[Iv.cs] at A0 X0 ⊢;obtain⟨x0,x1,x2,x3⟩:=four13 X0.out;by_cases h0:xsz<0
   · have d1:decide (xsz<0)=true:=decide_eq_true h0;go_enter Tryz.func137,Tryz.ntmps137;go_wp2_with fail
     refine bodyPost_ret (results_tmp2 rfl _ _ _) rfl ?_;exact .inl ⟨by decide,rfl,A0.out⟩
   · have d1:decide (xsz<0)=false:=decide_eq_false h0;have d2:decide ((3840:Int)<xsz)=true:=decide_eq_true (by omega)
     go_enter Tryz.func137,Tryz.ntmps137;go_wp2_with fail
     refine bodyPost_ret (results_tmp2 rfl _ _ _) rfl ?_;exact .inl ⟨by decide,rfl,A0.out⟩
 by_cases hl:32<x.size
 · obtain⟨s,hz⟩:∃s:Nat,x.size=(s:Int):=⟨x.size.toNat,by omega⟩
   have h1:32<s:=by omega
   have h2:s<=3840:=by omega
   rw[ldv_long h1 h2 hz];have RD:=hide hR;obtain⟨n,hn⟩:∃n,x.child=n:=⟨_,rfl⟩;obtain⟨res,hres⟩:∃res,gatF rd s s [] n=res:=⟨_,rfl⟩;have HRES:=hide hres;rw[hn,hres];clear hR hx hb hl hres;obtain⟨xK,xcK,xkey,xV,xcV,xval,xch,xsz⟩:=x;simp only at hz hn;subst hz;subst hn;unfold Iv.vl;simp only[Iv.cs] at A0 X0 ⊢;have d1:decide ((s:Int)<0)=false:=decide_eq_false (by omega)
   have d2:decide ((3840:Int)<(s:Int))=false:=decide_eq_false (by omega)
   have d3:decide ((s:Int)<=32)=false:=decide_eq_false (by omega)
   obtain⟨x0,x1,x2,x3⟩:=four13 X0.out;go_enter Tryz.func137,Tryz.ntmps137;go_wp2_with fail
   have A1:=hide (al (w.alloc (.cells #[.slice xK xkey.length xcK,.slice xV xval.length xcV,.int .i64 xch,.int .i64 (s:Int)] 51)) (.cells #[] 5));have X1:=hide (heap_alloc_new (w.alloc (.cells #[.slice xK xkey.length xcK,.slice xV xval.length xcV,.int .i64 xch,.int .i64 (s:Int)] 51)) (.cells #[] 5));rw[size_alloc] at X1;have R1:Hid (Rw ((w.alloc (.cells #[.slice xK xkey.length xcK,.slice xV xval.length xcV,.int .i64 xch,.int .i64 (s:Int)] 51)).alloc (.cells #[] 5)) (some ⟨w.heap.size+1,0,none⟩) 0 []):=Rw.mk (cur:=#[]) X1.out (Nat.zero_le _) (Nat.zero_le _) rfl rfl;have XB:=hide (blk13 X0.out A1.out);have BA:=hide (bt A0.out A1.out);generalize ((w.alloc (.cells #[.slice xK xkey.length xcK,.slice xV xval.length xcV,.int .i64 xch,.int .i64 (s:Int)] 51)).alloc (.cells #[] 5))=w1 at *;clear A0 A1 X0 X1 x0 x1 x2 x3;obtain⟨gx,hgx⟩:∃gx,w.heap.size=gx:=⟨_,rfl⟩;have HGX:=hide hgx;rw[hgx] at XB R1 ⊢;clear hgx;go_loopw [6,7] (fun vv nv wx=>∃(acc:List Nat)(n':Int)(a:Option Addr)(c m:Nat),vv=.slice a m c/\nv=.int .i64 n'/\m=acc.length/\m<=s/\Rw wx a c acc/\New w none a/\Below w.heap.size w wx/\B8 acc/\wx.heap[gx]?=some (.cells #[.slice xK xkey.length xcK,.slice xV xval.length xcV,.int .i64 xch,.int .i64 (s:Int)] 51 (0,0))/\gatF rd s (s-m) acc n'=res) (fun vv _ _=>s-(lenOf13 vv))
   case atStart=>exact⟨[],xch,some ⟨gx+1,0,none⟩,0,0,rfl,rfl,rfl,Nat.zero_le _,R1.out,fun x hx=>.inr (by cases hx;rw[HGX.out];exact Nat.le_succ _),BA.out,(fun x hx=>absurd hx (List.not_mem_nil)),XB.out,by rw[Nat.sub_zero];exact HRES.out⟩
   case round=>
    clear R1 BA XB;obtain⟨acc,n',a,c,m,rfl,rfl,hm,hms,hR,hN,hb,h8,hXB,hE⟩:=hrel;have HM:=hide hm;have RW:=hide hR;have NW:=hide hN;have BB:=hide hb;have H8:=hide h8;have EE:=hide hE;have XB:=hide hXB;clear hm hR hN hb h8 hE hXB;obtain⟨x0,x1,x2,x3⟩:=four13 XB.out;have gxl:gx<wr.heap.size:=(Array.getElem?_eq_some_iff.1 XB.out).1;by_cases hlt:m<s
    · have hlti:(m:Int)<(s:Int):=by omega
      have RR:=hide (RD.out wr BB.out n');obtain⟨t,ht⟩:∃t,s-m=t+1:=⟨s-m-1,by omega⟩
      have hE:=EE.out;rw[ht] at hE;unfold gatF at hE;rw[if_pos (by rw[<-HM.out];exact hlt)] at hE
      obtain⟨o,ho⟩:∃o,rd n'=o:=⟨_,rfl⟩;rw[ho] at RR hE;clear ho EE;cases o with
      |none=>
       simp only at hE;have E1:Hid ((15,[])=res):=hE;clear hE;go_wp2_with fail
       refine RR.out.mono ?_;rintro _ w3 ⟨q,rfl,hn3,hq3,hb3⟩;have A3:=hide (al w3 (.cells #[.int .i64 q.kind,.int .i64 q.level,.slice q.aI q.items.length q.cI,.slice q.aD q.data.length q.cD,.int .i64 q.next] 31));have B3:=hide (bt BB.out (bt hb3 A3.out));clear hn3 hq3 hb3 RR;obtain⟨qkind,qlevel,qaI,qcI,qitems,qaD,qcD,qdata,qnext⟩:=q;unfold Pv.vl;simp only[Pv.cs] at B3 ⊢;go_wp2_with fail
       refine bodyPost_ret (results_tmp2 rfl _ _ _) rfl ?_;rw[<-E1.out];exact .inl ⟨by decide,rfl,B3.out⟩
      |some pg=>
       simp only at hE
       have GEN:Hid ((pg.kind≠3->(15,[])=res)/\(pg.kind=3->pg.data.length≠min (s-m) 480->(5,[])=res)/\(pg.kind=3->pg.data.length=min (s-m) 480->decide (pg.next=0)≠decide (s-m<=480)->(5,[])=res)/\(pg.kind=3->pg.data.length=min (s-m) 480->decide (pg.next=0)=decide (s-m<=480)->gatF rd s (s-(m+pg.data.length)) (acc++pg.data) pg.next=res)):=by
        rw[<-HM.out] at hE;refine⟨fun k1=>?_,fun k1 k2=>?_,fun k1 k2 k3=>?_,fun k1 k2 k3=>?_⟩
        · rw[if_pos k1] at hE;exact hE
        · rw[if_neg (fun e=>e k1),if_pos k2] at hE;exact hE
        · rw[if_neg (fun e=>e k1),if_neg (fun e=>e k2),if_pos k3] at hE;exact hE
        · rw[if_neg (fun e=>e k1),if_neg (fun e=>e k2),if_neg (fun e=>e k3)] at hE
          rw[<-hE];exact gatF_fuel _ _ _ _ (by rw[List.length_append,<-HM.out];omega) (by rw[List.length_append,<-HM.out];omega)
       clear hE;rw[if_pos (show(some pg).isSome=true from rfl)] at RR
       go_wp2_with fail
       refine RR.out.mono ?_;rintro _ w3 ⟨q,rfl,hn3,hq3,hb3⟩;have hq4:q.pg=pg:=hq3;have A3:=hide (al w3 (.cells q.cs 31));have X3:=hide (heap_alloc_new w3 (.cells q.cs 31));have XB3:=hide (blk13 XB.out (bt hb3 A3.out));have B3:=hide (bt BB.out (bt hb3 A3.out));have PN:=hide (hn3.keep A3.out);have R3:=hide ((RW.out.keep hb3).keep A3.out);rw[<-hq4] at GEN;clear hn3 hq3 hb3 RR hq4 x0 x1 x2 x3 gxl;have BD:=hide (PN.out.d.bs PN.out.d8 PN.out.d.len_le);have D8:Hid (B8 q.data):=PN.out.d8;have GE2:Hid ((q.kind≠3->(15,[])=res)/\(q.kind=3->q.data.length≠min (s-m) 480->(5,[])=res)/\(q.kind=3->q.data.length=min (s-m) 480->decide (q.next=0)≠decide (s-m<=480)->(5,[])=res)/\(q.kind=3->q.data.length=min (s-m) 480->decide (q.next=0)=decide (s-m<=480)->gatF rd s (s-(m+q.data.length)) (acc++q.data) q.next=res)):=GEN.out;clear GEN PN;obtain⟨qkind,qlevel,qaI,qcI,qitems,qaD,qcD,qdata,qnext⟩:=q;unfold Pv.vl;simp only[Pv.cs] at X3 B3 R3 GE2 BD D8 XB3 ⊢;obtain⟨cl,hcl⟩:∃cl,qdata.length=cl:=⟨_,rfl⟩;have HCL:=hide hcl;simp only[hcl] at X3 B3 R3 BD GE2 XB3 ⊢;clear hcl;have ne3:Hid (∀x,a=some x->x.block≠w3.heap.size):=fun x hx=>R3.out.nty13 (t:=31) X3.out (by decide) hx
       have ne4:Hid (∀x,a=some x->x.block≠gx):=fun x hx=>R3.out.nty13 (t:=51) XB3.out (by decide) hx
       go_upto_region 9 with fail
       generalize (w3.alloc (.cells #[.int .i64 qkind,.int .i64 qlevel,.slice qaI qitems.length qcI,.slice qaD cl qcD,.int .i64 qnext] 31))=w4 at *;have hz3:w3.heap.size<w4.heap.size:=(Array.getElem?_eq_some_iff.1 X3.out).1;have gxl:gx<w4.heap.size:=(Array.getElem?_eq_some_iff.1 XB3.out).1;generalize w3.heap.size=gp at *;obtain⟨y0,y1,y2,y3,y4⟩:=five_cells X3.out;obtain⟨x0,x1,x2,x3⟩:=four13 XB3.out;by_cases hk3:qkind=3
       · have HK3:=hide hk3;have dk:(qkind != 3)=false:=by simpa using hk3
         clear hk3;have sm1:(s:Int)-(m:Int)<=3840:=by omega
         have sm2:1<=(s:Int)-(m:Int):=by omega
         by_cases hl:s-m<=480
         · have d480:decide ((480:Int)<(s:Int)-(m:Int))=false:=decide_eq_false (by omega)
           have dms:((m:Int)+((s:Int)-(m:Int))==(s:Int))=true:=by simp;omega
           by_cases hcl:cl=min (s-m) 480
           · have HCM:=hide hcl;have hcs:m+cl<=s:=by omega
             have hcl1:1<=cl:=by omega
             have dcl:((cl:Int) != (s:Int)-(m:Int))=false:=by simp;omega
             have hml:acc.length+cl<=140737488355328:=by rw[<-HM.out];omega
             clear hcl;by_cases hq0:qnext=0
             · have d0:(qnext==0)=true:=by simpa using hq0
               have E1:Hid (gatF rd s (s-(m+cl)) (acc++qdata) qnext=res):=GE2.out.2.2.2 HK3.out HCM.out (by rw[decide_eq_true hq0,decide_eq_true hl])
               clear hq0 GE2;go_wp2_with (at_builtin;refine wpList_apB rfl _ _ rfl a m c acc rfl HM.out R3.out qaD cl qcD qdata rfl HCL.out.symm BD.out (by rw[HCL.out];exact hml) ?_)
               intro a' c' w5 hR hN hg _;have R5:=hide hR
               have X5:=hide ((hg.block gp hz3 (fun e=>by
                cases ha:a with
                |none=>rw[ha] at e;cases e
                |some x=>rw[ha] at e;exact ne3.out x ha (by simpa using e.symm))).trans X3.out)
               have XB5:=hide ((hg.block gx gxl (fun e=>by
                cases ha:a with
                |none=>rw[ha] at e;cases e
                |some x=>rw[ha] at e;exact ne4.out x ha (by simpa using e.symm))).trans XB3.out)
               have N5:Hid (New w none a'):=fun y hy=>by
                rcases hN y hy with⟨z,hz,e⟩|h
                · rcases NW.out z hz with⟨_,h0,_⟩|h1
                  · cases h0
                  · exact .inr (by rw[<-e];exact h1)
                · exact .inr (Nat.le_trans B3.out.size h)
               have B5:Hid (Below w.heap.size w w5):=(But.grown (S:=fun k=>∃x,a=some x/\x.block=k) (But.ofBelow B3.out) hg (by
                intro k e _;cases ha:a with
                |none=>rw[ha] at e;simp at e
                |some x=>rw[ha] at e;exact⟨x,rfl,by first|(simpa using e)|(simpa using e.symm)⟩)).below (fun k hk ⟨x,hx,e⟩=>by
                 rcases NW.out x hx with⟨_,h0,_⟩|h1
                 · cases h0
                 · omega)
               clear hR hN hg y0 y1 y2 y3 y4 x0 x1 x2 x3;obtain⟨y0,y1,y2,y3,y4⟩:=five_cells X5.out;go_wp2_with fail
               go_roundw
               case rel=>exact⟨acc++qdata,qnext,a',c',m+cl,by first|rfl|trivial,by first|rfl|trivial,by rw[List.length_append,<-HM.out,HCL.out],by omega,R5.out,N5.out,B5.out,(fun x hx=>by
                rcases List.mem_append.1 hx with hx|hx
                · exact H8.out x hx
                · exact D8.out x hx),XB5.out,E1.out⟩
               case measure=>simp[lenOf13];omega
             · have d0:(qnext==0)=false:=by simpa using hq0
               have E1:Hid ((5,[])=res):=GE2.out.2.2.1 HK3.out HCM.out (by rw[decide_eq_false hq0,decide_eq_true hl];decide)
               clear hq0 GE2;go_wp2_with fail
               refine bodyPost_ret (results_tmp2 rfl _ _ _) rfl ?_;rw[<-E1.out];exact .inl ⟨by decide,rfl,B3.out⟩
           · have dcl:((cl:Int) != (s:Int)-(m:Int))=true:=by
              have:¬((cl:Int)=(s:Int)-(m:Int)):=by omega
              simpa using this
             have E1:Hid ((5,[])=res):=GE2.out.2.1 HK3.out hcl;clear hcl GE2;go_wp2_with fail
             refine bodyPost_ret (results_tmp2 rfl _ _ _) rfl ?_;rw[<-E1.out];exact .inl ⟨by decide,rfl,B3.out⟩
         · have d480:decide ((480:Int)<(s:Int)-(m:Int))=true:=decide_eq_true (by omega)
           have dms:((m:Int)+480==(s:Int))=false:=by
            have:¬((m:Int)+480=(s:Int)):=by omega
            simpa using this
           by_cases hcl:cl=min (s-m) 480
           · have HCM:=hide hcl;have hcl8:cl=480:=by omega
             have hcs:m+cl<=s:=by omega
             have hcl1:1<=cl:=by omega
             have dcl:((cl:Int) != 480)=false:=by simp;omega
             have hml:acc.length+cl<=140737488355328:=by rw[<-HM.out];omega
             clear hcl hcl8;by_cases hq0:qnext=0
             · have d0:(qnext==0)=true:=by simpa using hq0
               have E1:Hid ((5,[])=res):=GE2.out.2.2.1 HK3.out HCM.out (by rw[decide_eq_true hq0,decide_eq_false hl];decide)
               clear hq0 GE2;go_wp2_with fail
               refine bodyPost_ret (results_tmp2 rfl _ _ _) rfl ?_;rw[<-E1.out];exact .inl ⟨by decide,rfl,B3.out⟩
             · have d0:(qnext==0)=false:=by simpa using hq0
               have E1:Hid (gatF rd s (s-(m+cl)) (acc++qdata) qnext=res):=GE2.out.2.2.2 HK3.out HCM.out (by rw[decide_eq_false hq0,decide_eq_false hl])
               clear hq0 GE2;go_wp2_with (at_builtin;refine wpList_apB rfl _ _ rfl a m c acc rfl HM.out R3.out qaD cl qcD qdata rfl HCL.out.symm BD.out (by rw[HCL.out];exact hml) ?_)
               intro a' c' w5 hR hN hg _;have R5:=hide hR
               have X5:=hide ((hg.block gp hz3 (fun e=>by
                cases ha:a with
                |none=>rw[ha] at e;cases e
                |some x=>rw[ha] at e;exact ne3.out x ha (by simpa using e.symm))).trans X3.out)
               have XB5:=hide ((hg.block gx gxl (fun e=>by
                cases ha:a with
                |none=>rw[ha] at e;cases e
                |some x=>rw[ha] at e;exact ne4.out x ha (by simpa using e.symm))).trans XB3.out)
               have N5:Hid (New w none a'):=fun y hy=>by
                rcases hN y hy with⟨z,hz,e⟩|h
                · rcases NW.out z hz with⟨_,h0,_⟩|h1
                  · cases h0
                  · exact .inr (by rw[<-e];exact h1)
                · exact .inr (Nat.le_trans B3.out.size h)
               have B5:Hid (Below w.heap.size w w5):=(But.grown (S:=fun k=>∃x,a=some x/\x.block=k) (But.ofBelow B3.out) hg (by
                intro k e _;cases ha:a with
                |none=>rw[ha] at e;simp at e
                |some x=>rw[ha] at e;exact⟨x,rfl,by first|(simpa using e)|(simpa using e.symm)⟩)).below (fun k hk ⟨x,hx,e⟩=>by
                 rcases NW.out x hx with⟨_,h0,_⟩|h1
                 · cases h0
                 · omega)
               clear hR hN hg y0 y1 y2 y3 y4 x0 x1 x2 x3;obtain⟨y0,y1,y2,y3,y4⟩:=five_cells X5.out;go_wp2_with fail
               go_roundw
               case rel=>exact⟨acc++qdata,qnext,a',c',m+cl,by first|rfl|trivial,by first|rfl|trivial,by rw[List.length_append,<-HM.out,HCL.out],by omega,R5.out,N5.out,B5.out,(fun x hx=>by
                rcases List.mem_append.1 hx with hx|hx
                · exact H8.out x hx
                · exact D8.out x hx),XB5.out,E1.out⟩
               case measure=>simp[lenOf13];omega
           · have dcl:((cl:Int) != 480)=true:=by
              have:¬((cl:Int)=480):=by omega
              simpa using this
             have E1:Hid ((5,[])=res):=GE2.out.2.1 HK3.out hcl;clear hcl GE2;go_wp2_with fail
             refine bodyPost_ret (results_tmp2 rfl _ _ _) rfl ?_;rw[<-E1.out];exact .inl ⟨by decide,rfl,B3.out⟩
       · have dk:(qkind != 3)=true:=by simpa using hk3
         have E1:Hid ((15,[])=res):=GE2.out.1 hk3;clear hk3 GE2;go_wp2_with fail
         refine bodyPost_ret (results_tmp2 rfl _ _ _) rfl ?_;rw[<-E1.out];exact .inl ⟨by decide,rfl,B3.out⟩
    · have e1:m=s:=by omega
      have E1:Hid ((0,acc)=res):=by
       show _=_;rw[<-EE.out];exact(gatF_end (by rw[<-HM.out];omega) _).symm
      subst e1;go_wp2_with fail
      refine bodyPost_ret (results_tmp2 rfl _ _ _) rfl ?_;rw[<-E1.out];exact .inr ⟨rfl,a,c,(by show Ending.returned (.tuple #[.slice a m c,.int .i64 0])=_;rw[HM.out]),⟨RW.out,NW.out,BB.out⟩,H8.out⟩
 · have CB:=hide fun(W:World)(hb:Below w.heap.size w W)(hl:x.val.length<=32)=>CopyBytes_any W x.aV x.val.length x.cV x.val (hx.bv.keep hb) rfl (by omega)
   have H8:Hid (B8 x.val):=hx.bv.1;by_cases hne:(x.val.length:Int)=x.size
   · rw[ldv_short (by omega) hne]
     have CC:=hide (CB.out _ A0.out (by omega))
     clear hR hx CB;obtain⟨xK,xcK,xkey,xV,xcV,xval,xch,xsz⟩:=x;simp only at hb hl hne H8;unfold Iv.vl;simp only[Iv.cs] at A0 X0 CC ⊢;obtain⟨s,hs⟩:∃s,xval.length=s:=⟨_,rfl⟩;have HSS:=hide hs;rw[hs] at hne A0 X0 CC ⊢;clear hs;subst hne;obtain⟨x0,x1,x2,x3⟩:=four13 X0.out;have d1:decide ((s:Int)<0)=false:=decide_eq_false (by omega)
     have d2:decide ((3840:Int)<(s:Int))=false:=decide_eq_false (by omega)
     have d3:decide ((s:Int)<=32)=true:=decide_eq_true (by omega)
     have d4:((s:Int) != (s:Int))=false:=by simp
     go_enter Tryz.func137,Tryz.ntmps137;go_wp2_with fail
     refine CC.out.mono ?_;rintro _ w3 hC3;obtain⟨a3,c3,rfl,hr3,hn3,hb3⟩:=hC3;have OO:Hid (Own w w3 a3 c3 xval):=⟨hr3,hn3.mono A0.out.size,bt A0.out hb3⟩;clear hr3 hn3 hb3;go_wp2_with fail
     refine bodyPost_ret (results_tmp2 rfl _ _ _) rfl ?_;exact .inr ⟨rfl,a3,c3,(by show Ending.returned (.tuple #[.slice a3 s c3,.int .i64 0])=_;rw[<-HSS.out]),OO.out,H8.out⟩
   · rw[ldv_not (by omega) (by omega) hne]
     clear hR hx CB H8;obtain⟨xK,xcK,xkey,xV,xcV,xval,xch,xsz⟩:=x;simp only at hb hl hne;unfold Iv.vl;simp only[Iv.cs] at A0 X0 ⊢;obtain⟨s,hs⟩:∃s,xval.length=s:=⟨_,rfl⟩;rw[hs] at hne A0 X0 ⊢;clear hs;obtain⟨x0,x1,x2,x3⟩:=four13 X0.out;have d1:decide (xsz<0)=false:=decide_eq_false (by omega)
     have d2:decide ((3840:Int)<xsz)=false:=decide_eq_false (by omega)
     have d3:decide (xsz<=32)=true:=decide_eq_true (by omega)
     have d4:((s:Int) != xsz)=true:=by simpa using hne
     go_enter Tryz.func137,Tryz.ntmps137;go_wp2_with fail
     refine bodyPost_ret (results_tmp2 rfl _ _ _) rfl ?_;exact .inl ⟨by decide,rfl,A0.out⟩
structure Spi(w w':World)(i:Iv)(gK gV:Nat):Prop where
 k:w'.rowIs gK 5 (i.key.length+64) (spF i.key)
 v:w'.rowIs gV 5 (i.val.length+64) (spF i.val)
 nk:w.heap.size<=gK
 nv:w.heap.size<=gV
 ne:gK≠gV
 b:Below w.heap.size w w'
def spi(i:Iv)(gK gV:Nat):Iv:=⟨some ⟨gK,0,none⟩,i.key.length+64,i.key,some ⟨gV,0,none⟩,i.val.length+64,i.val,i.child,i.size⟩
theorem spared_any(w:World)(i:Iv)(hi:Ii w i)(hk:i.key.length+64<=281474976710656)(hv:i.val.length+64<=281474976710656):
 Calls Tryz.prog 136 #[i.vl] w fun e w'=>∃gK gV:Nat,e=.returned (spi i gK gV).vl/\Spi w w' i gK gV:=by
 have A0:=hide (al w (.cells i.cs 51));have X0:=hide (heap_alloc_new w (.cells i.cs 51));have A1:=hide (al (w.alloc (.cells i.cs 51)) (.cells #[.slice none 0 0,.slice none 0 0,.int .i64 0,.int .i64 0] 51));have X1:=hide (heap_alloc_new (w.alloc (.cells i.cs 51)) (.cells #[.slice none 0 0,.slice none 0 0,.int .i64 0,.int .i64 0] 51));rw[size_alloc] at X1;have SK:=hide fun(W:World)(hb:Below w.heap.size w W)=>Spare_any W i.aK i.key.length i.cK i.key (hi.bk.keep hb) rfl hk
 have SV:=hide fun(W:World)(hb:Below w.heap.size w W)=>Spare_any W i.aV i.val.length i.cV i.val (hi.bv.keep hb) rfl hv
 clear hi hk hv;obtain⟨xK,xcK,xkey,xV,xcV,xval,xch,xsz⟩:=i;unfold Iv.vl;simp only[Iv.cs,spi] at A0 X0 A1 X1 SK SV ⊢;go_enter Tryz.func136,Tryz.ntmps136;go_upto_region 1 with fail
 have X0':=hide (blk13 X0.out A1.out);have B1:=hide (bt A0.out A1.out);generalize ((w.alloc (.cells #[.slice xK xkey.length xcK,.slice xV xval.length xcV,.int .i64 xch,.int .i64 xsz] 51)).alloc (.cells #[.slice none 0 0,.slice none 0 0,.int .i64 0,.int .i64 0] 51))=w1 at *;clear A0 A1 X0;obtain⟨gx,hgx⟩:∃gx,w.heap.size=gx:=⟨_,rfl⟩;have HGX:=hide hgx;simp only[hgx] at X0' X1 ⊢;clear hgx;have DR:=hide (dr2 w1);have SS:Hid (∀W:World,Below w1.heap.size w1 W->W.cell? ⟨gx,0,none⟩=some (.slice xK xkey.length xcK)/\W.cell? ⟨gx,1,none⟩=some (.slice xV xval.length xcV)/\W.cell? ⟨gx,2,none⟩=some (.int .i64 xch)/\W.cell? ⟨gx,3,none⟩=some (.int .i64 xsz)):=fun W hb=>four13 (blk13 X0'.out hb)
 refine wp_region_held_drew (S:=fun W=>W.cell? ⟨gx,0,none⟩=some (.slice xK xkey.length xcK)/\W.cell? ⟨gx,1,none⟩=some (.slice xV xval.length xcV)/\W.cell? ⟨gx,2,none⟩=some (.int .i64 xch)/\W.cell? ⟨gx,3,none⟩=some (.int .i64 xsz)) (by kernel_rfl) (SS.out _ DR.out) (fun hHeld=>?_)
 refine tk 0 ?_;refine tk 1 ?_;refine tk 3 ?_;refine tk 4 ?_;refine tk 6 ?_;refine tk 7 ?_;refine tk 8 ?_;refine tk 9 ?_;refine tw 2 fun K hK=>?_
 go_simp;refine(SK.out _ (bt B1.out DR.out)).mono ?_;rintro _ w2 ⟨rfl,hr2,hb2⟩;have K2:=hide hr2;have B2:=hide (bt DR.out hb2);clear hr2 hb2;go_wp2_with fail
 refine hK.out _ _ (SS.out _ B2.out) (fun hHeld=>?_)
 clear hK K;try simp only[pt]
 refine tw 5 fun K hK=>?_
 go_simp;refine(SV.out _ (bt B1.out B2.out)).mono ?_;rintro _ w3 ⟨rfl,hr3,hb3⟩;have V3:=hide hr3;have K3:=hide (rowIs_below K2.out hb3);have B3:=hide (bt B2.out hb3);have L2:Hid (w1.heap.size<w2.heap.size):=K2.out.lt;clear hr3 hb3;go_wp2_with fail
 refine hK.out _ _ (SS.out _ B3.out) (fun hHeld=>?_)
 clear hK K;try simp only[pt]
 refine tk 10 ?_;have X3:=hide (blk13 X1.out B3.out);have S3:Hid (∀cs:Array Value,But (fun k=>k=gx+1) w3 (w3.setRow (gx+1) cs)):=fun cs=>setRow_butv w3 (gx+1) cs
 refine tw 11 fun K hK=>?_
 rw[if_pos (by rfl)]
 refine wp_store_row 51 _ _ rfl (gx+1) _ rfl rfl 51 _ X3.out sizeItem rfl (by simp[Value.oneCell']) ?_
 have S4:Hid (∀cs:Array Value,(w3.setRow (gx+1) cs).heap[gx]?=some (.cells #[.slice xK xkey.length xcK,.slice xV xval.length xcV,.int .i64 xch,.int .i64 xsz] 51 (0,0))):=fun cs=>(setRow_butv w3 (gx+1) cs).same (blk13 X0'.out B3.out) (fun e=>by omega)
 refine hK.out _ _ (four13 (S4.out _)) (fun hHeld=>?_)
 clear hK K;try simp only[pt]
 refine td ?_;clear hHeld SS DR SK SV;have L1:Hid (gx+1<w1.heap.size):=(Array.getElem?_eq_some_iff.1 X1.out).1;have K4:=hide (rowIs_but K3.out (setRow_butv w3 (gx+1) #[.slice (some ⟨w1.heap.size,0,none⟩) xkey.length (xkey.length+64),.slice (some ⟨w2.heap.size,0,none⟩) xval.length (xval.length+64),.int .i64 xch,.int .i64 xsz]) (show ¬(w1.heap.size=gx+1) from fun e=>by have:=L1.out;omega))
 have V4:=hide (rowIs_but V3.out (setRow_butv w3 (gx+1) #[.slice (some ⟨w1.heap.size,0,none⟩) xkey.length (xkey.length+64),.slice (some ⟨w2.heap.size,0,none⟩) xval.length (xval.length+64),.int .i64 xch,.int .i64 xsz]) (show ¬(w2.heap.size=gx+1) from fun e=>by have:=L1.out;have:=L2.out;omega))
 go_wp2_with fail
 refine bodyPost_ret (v:=.agg _) (results_cell_row Tryz.results136 _ _ (gx+1) 51 _ (0,0) _ rfl (setRow_heap _ _ _ _ _ _ X3.out) Tryz.underlying51 rfl sizeItem) rfl ?_;refine⟨w1.heap.size,w2.heap.size,rfl,⟨K4.out,V4.out,?_,?_,?_,?_⟩⟩
 · have:=B1.out.size;exact this
 · have:=B1.out.size;have:=L2.out;omega
 · have:=L2.out;omega
 · exact below_row _ (bt B1.out B3.out) (by rw[HGX.out];exact Nat.le_succ _)
theorem kept_any(w:World)(i:Iv)(hi:Ii w i)(hk:i.key.length+64<=281474976710656)(hv:i.val.length+64<=281474976710656)(gK gV:Nat)(rK:w.rowIs gK 5 (i.key.length+64) (spF i.key))(rV:w.rowIs gV 5 (i.val.length+64) (spF i.val)):
 Calls Tryz.prog 138 #[(spi i gK gV).vl,i.vl] w fun e w'=>e=.returned (.bool true)/\Below w.heap.size w w':=by
 have KK:=hide fun(W:World)(hb:Below w.heap.size w W)=>Kept_any W gK (i.key.length+64) i.aK i.key.length i.key.length i.cK i.key (rowIs_below rK hb) (hi.bk.keep hb) rfl rfl rfl hk
 have KV:=hide fun(W:World)(hb:Below w.heap.size w W)=>Kept_any W gV (i.val.length+64) i.aV i.val.length i.val.length i.cV i.val (rowIs_below rV hb) (hi.bv.keep hb) rfl rfl rfl hv
 clear hi hk hv rK rV;obtain⟨xK,xcK,xkey,xV,xcV,xval,xch,xsz⟩:=i;unfold Iv.vl;simp only[Iv.cs,spi] at KK KV ⊢;have U:=hide (two_blk w (.cells #[.slice (some ⟨gK,0,none⟩) xkey.length (xkey.length+64),.slice (some ⟨gV,0,none⟩) xval.length (xval.length+64),.int .i64 xch,.int .i64 xsz] 51) (.cells #[.slice xK xkey.length xcK,.slice xV xval.length xcV,.int .i64 xch,.int .i64 xsz] 51));have e1:(xch==xch)=true:=by simp
 have e2:(xsz==xsz)=true:=by simp
 go_enter Tryz.func138,Tryz.ntmps138;go_wp2_with fail
 refine(KK.out _ U.out.2.2).mono ?_;rintro _ w2 ⟨rfl,hb2⟩;have B2:=hide (bt U.out.2.2 hb2);have M0:=hide (blk13 U.out.1 hb2);have M1:=hide (blk13 U.out.2.1 hb2);clear hb2;obtain⟨x0,x1,x2,x3⟩:=four13 M0.out;obtain⟨y0,y1,y2,y3⟩:=four13 M1.out;go_wp2_with fail
 refine(KV.out _ B2.out).mono ?_;rintro _ w3 ⟨rfl,hb3⟩;have B3:=hide (bt B2.out hb3);clear hb3 x0 x1 x2 x3 y0 y1 y2 y3;go_wp2_with fail
 go_ret;exact⟨rfl,B3.out⟩
theorem Gvn.uni{e:Ending}{r:Nat×List Nat}(h:Gvn w w' e r):∃(a:Option Addr)(c:Nat),e=.returned (.tuple #[.slice a (if r.1=0 then r.2 else []).length c,.int .i64 ((r.1:Nat):Int)])/\Own w w' a c (if r.1=0 then r.2 else [])/\B8 (if r.1=0 then r.2 else []):=by
 rcases h with⟨h1,h2,h3⟩|⟨h1,a,c,h2,h3,h4⟩
 · rw[if_neg h1];exact⟨none,0,h2,Own.nil w h3,fun x hx=>absurd hx (List.not_mem_nil)⟩
 · rw[if_pos h1];refine⟨a,c,?_,h3,h4⟩;rw[h2,h1];rfl
theorem ldv_it{y:Iv}(h:x.it=y.it):ldv rd x=ldv rd y:=by
 have e1:x.val=y.val:=congrArg It.val h;have e2:x.child=y.child:=congrArg It.child h;have e3:x.size=y.size:=congrArg It.size h;unfold ldv;rw[e1,e2,e3]
theorem one_cell'{W:World}{g:Nat}{v:Value}{t:TypeId}(h:W.heap[g]?=some (.cells #[v] t (0,0))):W.cell? ⟨g,0,none⟩=some v:=by
 rw[cell_of_row _ _ _ _ _ _ h];rfl
theorem spF_set{l:List Nat}{j z:Nat}(hj:j<l.length)(i:Nat):(if i=j then Value.int .u8 ((z:Nat):Int) else spF l i)=spF (l.set j z) i:=by
 unfold spF;rw[List.length_set];by_cases e:i=j
 · subst e;rw[if_pos rfl,if_pos hj];simp[hj]
 · rw[if_neg e];by_cases hi:i<l.length
   · rw[if_pos hi,if_pos hi];simp[List.getElem?_set_ne (Ne.symm e)]
   · rw[if_neg hi,if_neg hi]
end Go.Proofs.YtcpkinhneehomaaGreat
