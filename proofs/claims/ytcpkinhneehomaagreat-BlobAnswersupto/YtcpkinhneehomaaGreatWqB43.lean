import Derived.Test.YtcpkinhneehomaaGreatWqB42
set_option linter.unusedVariables false
set_option linter.unusedSimpArgs false
set_option maxHeartbeats 16000000
set_option maxRecDepth 16000
namespace Go.Proofs.YtcpkinhneehomaaGreat
open Go.RowKit
variable {g:Int->Option Pg}{C:List Int}{D:Rd}{S:Vs}{w w':World}
theorem kind_of_check{q:Pv}(h:q.pg.check=0):q.kind≠0:=fun e=>by
 have e2:q.pg.kind=0:=e;have k:q.pg.kindOk=false:=by unfold Pg.kindOk;rw[e2];rfl
 unfold Pg.check at h;rw[if_pos k] at h;exact absurd h (by decide)
theorem pair_fine{r:Int}(hS:PV r C g S):Fine S.X.f:=by
 obtain⟨f,rfl,_,hc⟩:=hS;exact fun k q e=>kind_of_check (hc k q e)
theorem pair_zero{r:Int}(hS:PV r C g S):S.X.P.mark=0/\S.X.ch.length=0/\S.al.length=0/\S.fl=0:=by
 obtain⟨f,rfl,_,hc⟩:=hS;exact⟨rfl,rfl,rfl,rfl⟩
theorem zip_mapR{α β:Type}(f:α->β):∀C:List α,C.zip (C.map f)=C.map fun c=>(c,f c)
 | []=>rfl
 |c::C=>by simp[zip_mapR f C]
theorem pair_rel{r:Int}(hS:PV r C g S)(hD:PR C g D)(hR:D.R=r)(hok:(Q.Po.start r C).Ok):Rel S.X D:=by
 have rd:=pair_reads hS hD;have ct:=hD.count;obtain⟨f,rfl,hf,hc⟩:=hS;obtain⟨hC,hL,hP,hp⟩:=hD;refine⟨?_,hR.symm,fun z hz=>?_,by rw[hL,hC];exact List.length_map _,by rw[hP,hC],hok⟩
 · show(C.map fun c=>(c,decide (0<c)))=D.C.zip D.L
   rw[hL,hC];exact(zip_mapR (fun c=>decide (0<c)) C).symm
 · have h0:=(count_le hok z).1;have hz:(Q.Po.start r C).count z≠0:=hz;have h1:0<(ldS r C f).X.P.count z:=by show 0<(Q.Po.start r C).count z;omega
   have h2:0<D.count z:=by rw[ct,<-start_count r C z];exact h1
   have e:=congrFun rd z;unfold rdV rdR at e;rw[if_pos h1,if_pos h2] at e;exact Option.some.inj e
theorem ld_ok{r:Int}{l:List (Int×Pg)}(h:(ldAll r C l).1=0):(Q.Po.start r C).Ok:=by
 by_cases hf:Q.fits C.length r=false
 · rw[ldAll_fits hf] at h;exact absurd h (by decide)
 · have hf:Q.fits C.length r=true:=by simpa using hf
   by_cases hb:badC r C=true
   · rw[ldAll_bad hf hb] at h;exact absurd h (by decide)
   · obtain⟨⟨h1,h2⟩,h3,h4⟩:=Q.fits_iff.1 hf;have hl:(Q.Po.start r C).pg.length=C.length:=List.length_map _;refine⟨by rw[hl];omega,by rw[hl];omega,h3,h4,fun x hx=>?_,fun a ha=>absurd ha (List.not_mem_nil)⟩
     obtain⟨c,hc,rfl⟩:=List.mem_map.1 hx;show 0<=c/\c<=r
     have hn:¬(c<0\/r<c):=fun e=>hb (by
      unfold badC;rw[List.any_eq_true];exact⟨c,hc,by simpa using e⟩)
     omega
theorem rep_ok{r:Int}{n:Nat}(h:Q.fits (n:Int) r=true):(Q.Po.start r (List.replicate n 0)).Ok:=by
 obtain⟨⟨h1,h2⟩,h3,h4⟩:=Q.fits_iff.1 h;have hl:(Q.Po.start r (List.replicate n 0)).pg.length=n:=by show(List.map _ _).length=n;rw[List.length_map,List.length_replicate]
 refine⟨by rw[hl];omega,by rw[hl];omega,h3,h4,fun x hx=>?_,fun a ha=>absurd ha (List.not_mem_nil)⟩
 obtain⟨c,hc,rfl⟩:=List.mem_map.1 hx;rw[List.eq_of_mem_replicate hc];show(0:Int)<=0/\0<=r;omega
structure Bgx(w:World)(S:Vs)(col:Nat->Nat)(D:Rd)(colR:Nat->Nat):Prop where
 dj:∀k,col k≠0->colR k=0
 vn:∀k,col k≠0->w.heap.size<=k
 rn:∀k,colR k≠0->w.heap.size<=k
 hu:D.aA=none/\D.nA=0/\D.cA=0/\D.fl=0/\D.hush=true
 fi:Fine S.X.f
 rel:Rel S.X D
 z:S.X.P.mark=0/\S.X.ch.length=0/\S.al.length=0/\S.fl=0
def Begun2(w w':World)(e:Ending):Prop:=(e=.returned (.tuple #[.pointer none,.bool true])/\Below w.heap.size w w')\/
 ∃(wb b rb:Nat)(S:Vs)(pb mb:Nat)(pc col:Nat->Nat)(D:Rd)(colR:Nat->Nat),e=.returned (.tuple #[.pointer (some ⟨wb,0,none⟩),.bool true])/\Bg w w' wb b rb S pb mb pc col D colR/\Bgx w S col D colR
theorem begunLe2(w:World)(p r:Int)(aC:Option Addr)(nC cC:Nat)(aN:Option Addr)(m cN:Nat)(hC3:nC<=300)(hp3:p<=300)(hm4:m<=400)(hn0:0<nC)(er:Nat)(VC:Hid (∀W:World,Below w.heap.size w W->Calls Tryz.prog 15 #[.int .i64 r,.slice aC nC cC,.slice aN m cN] W fun e w'=>e=.returned (.tuple #[.pointer none,.int .i64 ((er:Nat):Int)])/\Below W.heap.size W w'))(RC:Hid (∀W:World,Below w.heap.size w W->Calls Tryz.prog 16 #[.int .i64 r,.slice aC nC cC,.slice aN m cN] W fun e w'=>e=.returned (.tuple #[.pointer none,.int .i64 ((er:Nat):Int)])/\Below W.heap.size W w')):
 Calls Tryz.prog 23 #[.agg #[.int .i64 p,.int .i64 r,.slice aC nC cC,.slice aN m cN]] w fun e w'=>Begun2 w w' e:=by
 have J0:=hide (Jb.start w #[.int .i64 p,.int .i64 r,.slice aC nC cC,.slice aN m cN]);have k1:¬((300:Int)<(nC:Int)):=by omega
 have k2:¬((300:Int)<p):=by omega
 have k3:¬((400:Int)<(m:Int)):=by omega
 have k4:(0:Int)<(nC:Int):=by omega
 clear hC3 hp3 hm4 hn0;go_enter Tryz.func23,Tryz.ntmps23;go_wp2_with fail
 refine(VC.out _ J0.out.b).mono ?_;rintro _ w3 ⟨rfl,hb3⟩;have J1:=hide (J0.out.keep hb3);have J2:=hide (J1.out.set0 (.pointer none));clear hb3 J0;generalize w.heap.size+1=y at *;obtain⟨c0,c1,z0,z1⟩:=J1.out.cells;go_upto_region 7 with fail
 generalize w3.setCell ⟨y,0,none⟩ (.pointer none)=w4 at *;clear c0 c1 z0 z1 J1;obtain⟨x0,x1,x2,x3⟩:=four13 J2.out.bx;go_wp2_with fail
 refine(RC.out _ J2.out.b).mono ?_;clear x0 x1 x2 x3;rintro _ w5 ⟨rfl,hb5⟩;have J3:=hide (J2.out.keep hb5);have J4:=hide (J3.out.set1 (.pointer none));clear hb5 J2;obtain⟨c0,c1,z0,z1⟩:=J3.out.cells;go_upto_region 10 with fail
 generalize w5.setCell ⟨y,1,none⟩ (.pointer none)=w6 at *;clear c0 c1 z0 z1 J3;obtain⟨c0,c1,z0,z1⟩:=J4.out.cells;have e1:((er:Int)==(er:Int))=true:=by simp
 go_wp2_with fail
 go_quiet (fail)
 go_wp2_with fail
 go_ret2
 exact .inl ⟨rfl,bt J4.out.b (drN _ _)⟩
theorem begunLm2(w:World)(p r:Int)(aC:Option Addr)(nC cC:Nat)(aN:Option Addr)(m cN:Nat)(hC3:nC<=300)(hp3:p<=300)(hm4:m<=400)(hn0:0<nC)(C:List Int)(h6:C.length<=65536)(g:Int->Option Pg)(VC:Hid (∀W:World,Below w.heap.size w W->Calls Tryz.prog 15 #[.int .i64 r,.slice aC nC cC,.slice aN m cN] W fun e w'=>∃(b:Nat)(S:Vs),e=.returned (.tuple #[.pointer (some ⟨b,0,none⟩),.int .i64 0])/\VMade W w' b S/\PV r C g S))(RC:Hid (∀W:World,Below w.heap.size w W->Calls Tryz.prog 16 #[.int .i64 r,.slice aC nC cC,.slice aN m cN] W fun e w'=>∃(rb:Nat)(D:Rd),e=.returned (.tuple #[.pointer (some ⟨rb,0,none⟩),.int .i64 0])/\Rn W w' rb D/\PR C g D/\D.R=r))(hok:(Q.Po.start r C).Ok):
 Calls Tryz.prog 23 #[.agg #[.int .i64 p,.int .i64 r,.slice aC nC cC,.slice aN m cN]] w fun e w'=>Begun2 w w' e:=by
 have J0:=hide (Jb.start w #[.int .i64 p,.int .i64 r,.slice aC nC cC,.slice aN m cN]);have k1:¬((300:Int)<(nC:Int)):=by omega
 have k2:¬((300:Int)<p):=by omega
 have k3:¬((400:Int)<(m:Int)):=by omega
 have k4:(0:Int)<(nC:Int):=by omega
 clear hC3 hp3 hm4 hn0;go_enter Tryz.func23,Tryz.ntmps23;go_wp2_with fail
 refine(VC.out _ J0.out.b).mono ?_;rintro _ w3 ⟨b,S,rfl,hM,hPV⟩;obtain⟨pb,mb,pc,col,hV,hbV,hcV⟩:=hM;have J1:=hide (J0.out.keep hbV);have J2:=hide (J1.out.set0 (.pointer (some ⟨b,0,none⟩)))
 have NV:Hid (∀k,col k≠0->k≠w.heap.size+1):=fun k hk e=>by
  have h1:=hcV k hk;have h2:=J0.out.lt;omega
 have V2:=hide (hV.but13 (Jb.but (w.heap.size+1) 0 (.pointer (some ⟨b,0,none⟩))) NV.out);have SV:=hide hPV;have NVW:Hid (∀k,col k≠0->w.heap.size<=k):=fun k hk=>Nat.le_trans J0.out.b.size (hcV k hk)
 have LV4:Hid (∀k,col k≠0->k<(w3.setCell ⟨w.heap.size+1,0,none⟩ (.pointer (some ⟨b,0,none⟩))).heap.size):=fun k hk=>by
  by_cases e:k<(w3.setCell ⟨w.heap.size+1,0,none⟩ (.pointer (some ⟨b,0,none⟩))).heap.size
  · exact e
  · exact absurd (V2.out.z (Nat.le_of_not_lt e)) hk
 clear hV hbV hcV hPV J0;generalize w.heap.size+1=y at *;obtain⟨c0,c1,z0,z1⟩:=J1.out.cells;go_upto_region 7 with fail
 generalize w3.setCell ⟨y,0,none⟩ (.pointer (some ⟨b,0,none⟩))=w4 at *;clear c0 c1 z0 z1 J1;obtain⟨x0,x1,x2,x3⟩:=four13 J2.out.bx;go_wp2_with fail
 refine(RC.out _ J2.out.b).mono ?_;clear x0 x1 x2 x3;rintro _ w5 ⟨rb,D,rfl,hM,hPR,hDR⟩;have J3:=hide (J2.out.keep hM.b);have J4:=hide (J3.out.set1 (.pointer (some ⟨rb,0,none⟩)));obtain⟨hR,hcR⟩:=hM.rq (by rw[hPR.2.1,hPR.1];simp) (by rw[hPR.2.2.1,hPR.1]) (by rw[hPR.1];exact h6)
 have NR:Hid (∀k,rcol w4 w5 rb D k≠0->k≠y):=fun k hk e=>by
  have h1:=hcR k hk;have h2:=J2.out.lt;omega
 have R4:=hide (hR.but (Jb.but y 1 (.pointer (some ⟨rb,0,none⟩))) NR.out);have V4:=hide ((V2.out.keep hM.b).but13 (Jb.but y 1 (.pointer (some ⟨rb,0,none⟩))) NV.out);have SR:=hide hPR;have DR:=hide hDR;have HCR:=hide hcR;have WW4:Hid (w.heap.size<=w4.heap.size):=J2.out.b.size;have S46:Hid (w4.heap.size<=(w5.setCell ⟨y,1,none⟩ (.pointer (some ⟨rb,0,none⟩))).heap.size):=Nat.le_trans hM.b.size (Jb.but y 1 (.pointer (some ⟨rb,0,none⟩))).size;generalize rcol w4 w5 rb D=colR at *;clear hR hcR hM hPR hDR V2 J2;obtain⟨c0,c1,z0,z1⟩:=J3.out.cells;go_upto_region 10 with fail
 generalize w5.setCell ⟨y,1,none⟩ (.pointer (some ⟨rb,0,none⟩))=w6 at *;clear c0 c1 z0 z1 J3;obtain⟨c0,c1,z0,z1⟩:=J4.out.cells;go_wp2_with fail
 refine(rCopy_any w6 rb D colR R4.out).mono ?_;rintro _ w7 ⟨rb2,D2,colR2,rfl,hR2,hSame,hb7,hc7⟩;have J5:=hide (J4.out.keep hb7)
 have NR2:Hid (∀k,colR2 k≠0->k≠y):=fun k hk e=>by
  rcases hc7 k hk with h|h
  · exact NR.out k (by rw[h];decide) e
  · have h2:=J4.out.lt;omega
 have J6:=hide (J5.out.set1 (.pointer (some ⟨rb2,0,none⟩)));have R6:=hide (hR2.but (Jb.but y 1 (.pointer (some ⟨rb2,0,none⟩))) NR2.out);have V6:=hide ((V4.out.keep hb7).but13 (Jb.but y 1 (.pointer (some ⟨rb2,0,none⟩))) NV.out);have SR2:=hide (SR.out.same hSame);have DR2:Hid (D2.R=r):=hSame.R.trans DR.out;have HU2:=hide hSame.a
 have HC2:Hid (∀k,colR2 k≠0->w4.heap.size<=k):=fun k hk=>by
  rcases hc7 k hk with h|h
  · exact HCR.out k (by rw[h];decide)
  · exact Nat.le_trans S46.out h
 clear c0 c1 z0 z1 hR2 hSame hb7 hc7 R4 V4 J4 SR;obtain⟨c0,c1,z0,z1⟩:=J5.out.cells;go_upto_region 13 with fail
 generalize w7.setCell ⟨y,1,none⟩ (.pointer (some ⟨rb2,0,none⟩))=w8 at *;clear c0 c1 z0 z1 J5;go_wp2_with fail
 go_ret2
 exact .inr ⟨y,b,rb2,S,pb,mb,pc,col,D2,colR2,rfl,⟨J6.out.by',J6.out.ly,J6.out.b,V6.out,R6.out,pair_sml SV.out,pair_reads SV.out SR2.out,pair_counts SV.out SR2.out,pair_states SV.out SR2.out,NV.out,NR2.out⟩,⟨fun k hk=>by
  by_cases e:colR2 k=0
  · exact e
  · have h1:=HC2.out k e;have h2:=LV4.out k hk;omega,NVW.out,fun k hk=>Nat.le_trans WW4.out (HC2.out k hk),HU2.out,pair_fine SV.out,pair_rel SV.out SR2.out DR2.out hok,pair_zero SV.out⟩⟩
theorem begunNe2(w:World)(p r:Int)(aC:Option Addr)(nC cC:Nat)(aN:Option Addr)(m cN:Nat)(hC3:nC<=300)(hp3:p<=300)(hm4:m<=400)(hn0:nC=0)(er:Nat)(VC:Hid (∀W:World,Below w.heap.size w W->Calls Tryz.prog 19 #[.int .i64 p,.int .i64 r] W fun e w'=>e=.returned (.tuple #[.pointer none,.int .i64 ((er:Nat):Int)])/\Below W.heap.size W w'))(RC:Hid (∀W:World,Below w.heap.size w W->Calls Tryz.prog 33 #[.int .i64 p,.int .i64 r] W fun e w'=>e=.returned (.tuple #[.pointer none,.int .i64 ((er:Nat):Int)])/\Below W.heap.size W w')):
 Calls Tryz.prog 23 #[.agg #[.int .i64 p,.int .i64 r,.slice aC nC cC,.slice aN m cN]] w fun e w'=>Begun2 w w' e:=by
 have J0:=hide (Jb.start w #[.int .i64 p,.int .i64 r,.slice aC nC cC,.slice aN m cN]);have k1:¬((300:Int)<(nC:Int)):=by omega
 have k2:¬((300:Int)<p):=by omega
 have k3:¬((400:Int)<(m:Int)):=by omega
 have k4:¬((0:Int)<(nC:Int)):=by omega
 clear hC3 hp3 hm4 hn0;go_enter Tryz.func23,Tryz.ntmps23;go_wp2_with fail
 refine(VC.out _ J0.out.b).mono ?_;rintro _ w3 ⟨rfl,hb3⟩;have J1:=hide (J0.out.keep hb3);have J2:=hide (J1.out.set0 (.pointer none));clear hb3 J0;generalize w.heap.size+1=y at *;obtain⟨c0,c1,z0,z1⟩:=J1.out.cells;go_upto_region 9 with fail
 generalize w3.setCell ⟨y,0,none⟩ (.pointer none)=w4 at *;clear c0 c1 z0 z1 J1;obtain⟨x0,x1,x2,x3⟩:=four13 J2.out.bx;go_wp2_with fail
 refine(RC.out _ J2.out.b).mono ?_;clear x0 x1 x2 x3;rintro _ w5 ⟨rfl,hb5⟩;have J3:=hide (J2.out.keep hb5);have J4:=hide (J3.out.set1 (.pointer none));clear hb5 J2;obtain⟨c0,c1,z0,z1⟩:=J3.out.cells;go_upto_region 10 with fail
 generalize w5.setCell ⟨y,1,none⟩ (.pointer none)=w6 at *;clear c0 c1 z0 z1 J3;obtain⟨c0,c1,z0,z1⟩:=J4.out.cells;have e1:((er:Int)==(er:Int))=true:=by simp
 go_wp2_with fail
 go_quiet (fail)
 go_wp2_with fail
 go_ret2
 exact .inl ⟨rfl,bt J4.out.b (drN _ _)⟩
theorem begunNm2(w:World)(p r:Int)(aC:Option Addr)(nC cC:Nat)(aN:Option Addr)(m cN:Nat)(hC3:nC<=300)(hp3:p<=300)(hm4:m<=400)(hn0:nC=0)(C:List Int)(h6:C.length<=65536)(g:Int->Option Pg)(VC:Hid (∀W:World,Below w.heap.size w W->Calls Tryz.prog 19 #[.int .i64 p,.int .i64 r] W fun e w'=>∃(b:Nat)(S:Vs),e=.returned (.tuple #[.pointer (some ⟨b,0,none⟩),.int .i64 0])/\VMade W w' b S/\PV r C g S))(RC:Hid (∀W:World,Below w.heap.size w W->Calls Tryz.prog 33 #[.int .i64 p,.int .i64 r] W fun e w'=>∃(rb:Nat)(D:Rd),e=.returned (.tuple #[.pointer (some ⟨rb,0,none⟩),.int .i64 0])/\Rn W w' rb D/\PR C g D/\D.R=r))(hok:(Q.Po.start r C).Ok):
 Calls Tryz.prog 23 #[.agg #[.int .i64 p,.int .i64 r,.slice aC nC cC,.slice aN m cN]] w fun e w'=>Begun2 w w' e:=by
 have J0:=hide (Jb.start w #[.int .i64 p,.int .i64 r,.slice aC nC cC,.slice aN m cN]);have k1:¬((300:Int)<(nC:Int)):=by omega
 have k2:¬((300:Int)<p):=by omega
 have k3:¬((400:Int)<(m:Int)):=by omega
 have k4:¬((0:Int)<(nC:Int)):=by omega
 clear hC3 hp3 hm4 hn0;go_enter Tryz.func23,Tryz.ntmps23;go_wp2_with fail
 refine(VC.out _ J0.out.b).mono ?_;rintro _ w3 ⟨b,S,rfl,hM,hPV⟩;obtain⟨pb,mb,pc,col,hV,hbV,hcV⟩:=hM;have J1:=hide (J0.out.keep hbV);have J2:=hide (J1.out.set0 (.pointer (some ⟨b,0,none⟩)))
 have NV:Hid (∀k,col k≠0->k≠w.heap.size+1):=fun k hk e=>by
  have h1:=hcV k hk;have h2:=J0.out.lt;omega
 have V2:=hide (hV.but13 (Jb.but (w.heap.size+1) 0 (.pointer (some ⟨b,0,none⟩))) NV.out);have SV:=hide hPV;have NVW:Hid (∀k,col k≠0->w.heap.size<=k):=fun k hk=>Nat.le_trans J0.out.b.size (hcV k hk)
 have LV4:Hid (∀k,col k≠0->k<(w3.setCell ⟨w.heap.size+1,0,none⟩ (.pointer (some ⟨b,0,none⟩))).heap.size):=fun k hk=>by
  by_cases e:k<(w3.setCell ⟨w.heap.size+1,0,none⟩ (.pointer (some ⟨b,0,none⟩))).heap.size
  · exact e
  · exact absurd (V2.out.z (Nat.le_of_not_lt e)) hk
 clear hV hbV hcV hPV J0;generalize w.heap.size+1=y at *;obtain⟨c0,c1,z0,z1⟩:=J1.out.cells;go_upto_region 9 with fail
 generalize w3.setCell ⟨y,0,none⟩ (.pointer (some ⟨b,0,none⟩))=w4 at *;clear c0 c1 z0 z1 J1;obtain⟨x0,x1,x2,x3⟩:=four13 J2.out.bx;go_wp2_with fail
 refine(RC.out _ J2.out.b).mono ?_;clear x0 x1 x2 x3;rintro _ w5 ⟨rb,D,rfl,hM,hPR,hDR⟩;have J3:=hide (J2.out.keep hM.b);have J4:=hide (J3.out.set1 (.pointer (some ⟨rb,0,none⟩)));obtain⟨hR,hcR⟩:=hM.rq (by rw[hPR.2.1,hPR.1];simp) (by rw[hPR.2.2.1,hPR.1]) (by rw[hPR.1];exact h6)
 have NR:Hid (∀k,rcol w4 w5 rb D k≠0->k≠y):=fun k hk e=>by
  have h1:=hcR k hk;have h2:=J2.out.lt;omega
 have R4:=hide (hR.but (Jb.but y 1 (.pointer (some ⟨rb,0,none⟩))) NR.out);have V4:=hide ((V2.out.keep hM.b).but13 (Jb.but y 1 (.pointer (some ⟨rb,0,none⟩))) NV.out);have SR:=hide hPR;have DR:=hide hDR;have HCR:=hide hcR;have WW4:Hid (w.heap.size<=w4.heap.size):=J2.out.b.size;have S46:Hid (w4.heap.size<=(w5.setCell ⟨y,1,none⟩ (.pointer (some ⟨rb,0,none⟩))).heap.size):=Nat.le_trans hM.b.size (Jb.but y 1 (.pointer (some ⟨rb,0,none⟩))).size;generalize rcol w4 w5 rb D=colR at *;clear hR hcR hM hPR hDR V2 J2;obtain⟨c0,c1,z0,z1⟩:=J3.out.cells;go_upto_region 10 with fail
 generalize w5.setCell ⟨y,1,none⟩ (.pointer (some ⟨rb,0,none⟩))=w6 at *;clear c0 c1 z0 z1 J3;obtain⟨c0,c1,z0,z1⟩:=J4.out.cells;go_wp2_with fail
 refine(rCopy_any w6 rb D colR R4.out).mono ?_;rintro _ w7 ⟨rb2,D2,colR2,rfl,hR2,hSame,hb7,hc7⟩;have J5:=hide (J4.out.keep hb7)
 have NR2:Hid (∀k,colR2 k≠0->k≠y):=fun k hk e=>by
  rcases hc7 k hk with h|h
  · exact NR.out k (by rw[h];decide) e
  · have h2:=J4.out.lt;omega
 have J6:=hide (J5.out.set1 (.pointer (some ⟨rb2,0,none⟩)));have R6:=hide (hR2.but (Jb.but y 1 (.pointer (some ⟨rb2,0,none⟩))) NR2.out);have V6:=hide ((V4.out.keep hb7).but13 (Jb.but y 1 (.pointer (some ⟨rb2,0,none⟩))) NV.out);have SR2:=hide (SR.out.same hSame);have DR2:Hid (D2.R=r):=hSame.R.trans DR.out;have HU2:=hide hSame.a
 have HC2:Hid (∀k,colR2 k≠0->w4.heap.size<=k):=fun k hk=>by
  rcases hc7 k hk with h|h
  · exact HCR.out k (by rw[h];decide)
  · exact Nat.le_trans S46.out h
 clear c0 c1 z0 z1 hR2 hSame hb7 hc7 R4 V4 J4 SR;obtain⟨c0,c1,z0,z1⟩:=J5.out.cells;go_upto_region 13 with fail
 generalize w7.setCell ⟨y,1,none⟩ (.pointer (some ⟨rb2,0,none⟩))=w8 at *;clear c0 c1 z0 z1 J5;go_wp2_with fail
 go_ret2
 exact .inr ⟨y,b,rb2,S,pb,mb,pc,col,D2,colR2,rfl,⟨J6.out.by',J6.out.ly,J6.out.b,V6.out,R6.out,pair_sml SV.out,pair_reads SV.out SR2.out,pair_counts SV.out SR2.out,pair_states SV.out SR2.out,NV.out,NR2.out⟩,⟨fun k hk=>by
  by_cases e:colR2 k=0
  · exact e
  · have h1:=HC2.out k e;have h2:=LV4.out k hk;omega,NVW.out,fun k hk=>Nat.le_trans WW4.out (HC2.out k hk),HU2.out,pair_fine SV.out,pair_rel SV.out SR2.out DR2.out hok,pair_zero SV.out⟩⟩
theorem begun2_any(w:World)(p r:Int)(aC:Option Addr)(nC cC:Nat)(C:List Int)(hC:Q.Ir w aC C)(hn:nC=C.length)(aN:Option Addr)(m cN:Nat)(NL:List (Int×Pv))(hN:Nm w aN NL)(hm:m=NL.length):
 Calls Tryz.prog 23 #[.agg #[.int .i64 p,.int .i64 r,.slice aC nC cC,.slice aN m cN]] w fun e w'=>Begun2 w w' e:=by
 by_cases h1:300<nC
 · have e1:decide ((300:Int)<(nC:Int))=true:=decide_eq_true (by omega)
   have B:=hide (al w (.cells #[.int .i64 p,.int .i64 r,.slice aC nC cC,.slice aN m cN] 68));clear hC hn hN hm h1;go_enter Tryz.func23,Tryz.ntmps23;go_wp2_with fail
   go_ret2
   exact .inl ⟨rfl,B.out⟩
 have e1:decide ((300:Int)<(nC:Int))=false:=decide_eq_false (by omega)
 by_cases h2:300<p
 · have e2:decide ((300:Int)<p)=true:=decide_eq_true (by omega)
   have B:=hide (al w (.cells #[.int .i64 p,.int .i64 r,.slice aC nC cC,.slice aN m cN] 68));clear hC hn hN hm h1 h2;go_enter Tryz.func23,Tryz.ntmps23;go_wp2_with fail
   go_ret2
   exact .inl ⟨rfl,B.out⟩
 have e2:decide ((300:Int)<p)=false:=decide_eq_false (by omega)
 by_cases h3:400<m
 · have e3:decide ((400:Int)<(m:Int))=true:=decide_eq_true (by omega)
   have B:=hide (al w (.cells #[.int .i64 p,.int .i64 r,.slice aC nC cC,.slice aN m cN] 68));clear hC hn hN hm h1 h2 h3;go_enter Tryz.func23,Tryz.ntmps23;go_wp2_with fail
   go_ret2
   exact .inl ⟨rfl,B.out⟩
 by_cases h0:0<nC
 · by_cases hl:(ldAll r C (nmg NL)).1=0
   · refine begunLm2 w p r aC nC cC aN m cN (by omega) (by omega) (by omega) h0 C (by omega) (ldAll r C (nmg NL)).2 (hide fun W hb=>?_) (hide fun W hb=>?_) (ld_ok hl)
     · refine(vLoad_any W r aC nC cC C (hC.keep hb) hn aN m cN NL (hN.keep hb) hm (by omega)).mono ?_
       rintro e w' (⟨er,hne,he,_⟩|⟨_,b,f,he,hM,hf,hc,_⟩)
       · exact absurd (he.symm.trans hl) hne
       · exact⟨b,_,he,hM,f,rfl,hf,hc⟩
     · refine(rLoad_any W r aC nC cC C (hC.keep hb) hn aN m cN NL (hN.keep hb) hm (by omega)).mono ?_
       rintro e w' (⟨er,hne,he,_⟩|⟨_,rb,D,he,hM,hDR,hDC,hDL,hDP,hDp,_⟩)
       · exact absurd (he.symm.trans hl) hne
       · exact⟨rb,D,he,hM,⟨hDC,hDL,hDP,hDp⟩,hDR⟩
   · refine begunLe2 w p r aC nC cC aN m cN (by omega) (by omega) (by omega) h0 (ldAll r C (nmg NL)).1 (hide fun W hb=>?_) (hide fun W hb=>?_)
     · refine(vLoad_any W r aC nC cC C (hC.keep hb) hn aN m cN NL (hN.keep hb) hm (by omega)).mono ?_
       rintro e w' (⟨er,hne,he,hr,hb2⟩|⟨h,_⟩)
       · exact⟨by rw[he];exact hr,hb2⟩
       · exact absurd h hl
     · refine(rLoad_any W r aC nC cC C (hC.keep hb) hn aN m cN NL (hN.keep hb) hm (by omega)).mono ?_
       rintro e w' (⟨er,hne,he,hr,hb2⟩|⟨h,_⟩)
       · exact⟨by rw[he];exact hr,hb2⟩
       · exact absurd h hl
 · by_cases hf:Q.fits p r=true
   · have hp1:1<=p:=by
      unfold Q.fits at hf;simp only[Bool.and_eq_true,decide_eq_true_eq] at hf;omega
     obtain⟨n,rfl⟩:∃n:Nat,p=(n:Int):=⟨p.toNat,by omega⟩
     refine begunNm2 w _ r aC nC cC aN m cN (by omega) (by omega) (by omega) (by omega) (List.replicate n 0) (by rw[List.length_replicate];omega) (fun _=>none) (hide fun W hb=>?_) (hide fun W hb=>?_) (rep_ok hf)
     · refine(vNew_yes W _ r hf).mono ?_;rintro e w' ⟨b,he,hM⟩;exact⟨b,_,he,hM,PV.fresh⟩
     · refine(rNew_yes W n r hf).mono ?_;rintro e w' ⟨rb,D,he,hM,hF⟩;exact⟨rb,D,he,hM,PR.fresh hF,hF.1⟩
   · have hf2:Q.fits p r=false:=by simpa using hf
     refine begunNe2 w p r aC nC cC aN m cN (by omega) (by omega) (by omega) (by omega) 1 (hide fun W hb=>?_) (hide fun W hb=>?_)
     · refine(vNew_no W p r hf2).mono ?_;rintro e w' ⟨he,rfl⟩;exact⟨he,Below.refl _ _⟩
     · refine(rNew_no W p r hf2).mono ?_;rintro e w' ⟨he,rfl⟩;exact⟨he,Below.refl _ _⟩
def Ov.zero:Ov:=⟨0,0,none,0,[],none,0,[],Iv.zero⟩
structure Oi(w:World)(o:Ov):Prop where
 bk:Bs w o.aK o.key
 ck:o.key.length<=o.cK
 bv:Bs w o.aV o.val
 cv:o.val.length<=o.cV
 i:Ii w o.i
 nn:N64 o.n
 lk:o.key.length+64<=140737488355328
 lv:o.val.length+64<=140737488355328
 ik:o.i.key.length+64<=140737488355328
 iv:o.i.val.length+64<=140737488355328
theorem Oi.keep{o:Ov}(h:Oi w o)(hb:Below w.heap.size w w'):Oi w' o:=⟨h.bk.keep hb,h.ck,h.bv.keep hb,h.cv,h.i.keep hb,h.nn,h.lk,h.lv,h.ik,h.iv⟩
structure Os(w:World)(a:Option Addr)(L:List Ov):Prop where
 c:∀j,j<L.length->∃g off,a=some ⟨g,off,none⟩/\∀k u,(L.getD j Ov.zero).cs[k]?=some u->w.cell? ⟨g,off+j*8+k,none⟩=some u
 o:∀x∈L,Oi w x
theorem Os.keep{a:Option Addr}{L:List Ov}(h:Os w a L)(hb:Below w.heap.size w w'):Os w' a L:=
 ⟨fun j hj=>by
   obtain⟨g,off,e,hc⟩:=h.c j hj;exact⟨g,off,e,fun k u hu=>(hb.cell (p:=⟨g,off+j*8+k,none⟩) (block_lt_of_cell (hc k u hu))).trans (hc k u hu)⟩,fun x hx=>(h.o x hx).keep hb⟩
def Bks.nil:Bks:=⟨none,0,[],none,0,[],none,0,[],none,0,[]⟩
section
variable {v w:World} {wb b rb pb mb:Nat} {S:Vs} {D:Rd} {pc col colR:Nat->Nat} {K:Bks}
theorem Oi.fo{o:Ov}(h:Oi v o)(hs:St v w wb b rb pb mb S D pc col colR K):Fo w col colR o:=by
 have z:∀{k:Nat},k<v.heap.size->col k=0/\colR k=0:=fun{k} hk=>by
  refine⟨?_,?_⟩
  · by_cases e:col k=0
    · exact e
    · have:=hs.vn k e;omega
  · by_cases e:colR k=0
    · exact e
    · have:=hs.rn k e;omega
 exact⟨h.bk.keep hs.bl,h.ck,fun y hy h0=>z (h.bk.ltA hy h0),h.bv.keep hs.bl,h.cv,fun y hy h0=>z (h.bv.ltA hy h0),⟨h.i.keep hs.bl,fun y hy h0=>z (h.i.bk.ltA hy h0),fun y hy h0=>z (h.i.bv.ltA hy h0)⟩,h.nn,h.lk,h.lv,h.ik,h.iv⟩
theorem St.first(h:Bg v w wb b rb S pb mb pc col D colR)(hx:Bgx v S col D colR):St v w wb b rb pb mb S D pc col colR Bks.nil:=by
 have c1:col wb=0:=by
  by_cases e:col wb=0
  · exact e
  · exact absurd rfl (h.nv wb e)
 have c2:colR wb=0:=by
  by_cases e:colR wb=0
  · exact e
  · exact absurd rfl (h.nr wb e)
 have no:Out v col colR none:=fun y hy=>by cases hy
 exact⟨h.box,h.v,h.r,hx.dj,hx.vn,hx.rn,⟨c1,c2,h.lw⟩,Jw.nil _,Jw.nil _,Ar.nil _,Ar.nil _,no,no,no,no,fun y z hy=>(by cases hy),fun y z hy=>(by cases hy),fun t ht=>absurd ht (List.not_mem_nil),fun t ht=>absurd ht (List.not_mem_nil),List.Pairwise.nil,fun t ht=>absurd ht (List.not_mem_nil),h.bl,rfl,rfl,fun r hr=>absurd hr (List.not_mem_nil),hx.hu,hx.fi,h.s⟩
theorem Bnd.first(hx:Bgx v S col D colR):Bnd S 4294967296:=by
 have h1:=tot_lt hx.rel.ok;obtain⟨z1,z2,z3,z4⟩:=hx.z;exact⟨by omega,by omega,by omega⟩
theorem Rel.cnts{X:Vm}{D:Rd}(h:Rel X D):X.P.counts=D.C:=h.counts
end
section
variable {v w w':World} {wb b rb pb mb:Nat} {S:Vs} {D:Rd} {pc col colR:Nat->Nat} {K:Bks}
theorem St.iiB(h:St v w wb b rb pb mb S D pc col colR K){j:Nat}(hj:j<K.B.length):Ii w (K.B.getD j Iv.zero):=by
 have hm:K.B.getD j Iv.zero∈K.B:=getD_memR hj;generalize K.B.getD j Iv.zero=r at *;obtain⟨n1,n2,n3,n4⟩:=h.ns r (List.mem_append_left _ hm)
 have mr:∀t∈r.rows,t∈K.T++rowsOf K.B:=fun t ht=>List.mem_append_right _ (by
  unfold rowsOf;exact List.mem_flatten.2 ⟨r.rows,List.mem_map.2 ⟨r,hm,rfl⟩,ht⟩)
 have k:=h.r1 ⟨r.aK,r.cK,r.key⟩ (mr _ (by simp[Iv.rows]))
 have q:=h.r1 ⟨r.aV,r.cV,r.val⟩ (mr _ (by simp[Iv.rows]))
 exact⟨k.1.bs k.2.1 k.1.len_le,k.1.cap,q.1.bs q.2.1 q.1.len_le,q.1.cap,n1,n2⟩
theorem St.iiN(h:St v w wb b rb pb mb S D pc col colR K){j:Nat}(hj:j<K.N.length):Ii w (K.N.getD j Iv.zero):=by
 have k:=(h.item (j:Int)).1.ii;unfold itm at k;rw[if_pos ⟨by omega,by omega⟩] at k
 exact k
theorem getD_mapE{α β:Type}(f:α->β)(d:α){A B:List α}(h:A.map f=B.map f)(j:Nat):f (A.getD j d)=f (B.getD j d):=by
 have e:(A.map f)[j]?=(B.map f)[j]?:=by rw[h]
 simp only[List.getElem?_map,List.getD_eq_getElem?_getD] at e ⊢;cases ha:A[j]?<;>cases hb:B[j]?<;>rw[ha,hb] at e<;>simp at e ⊢ <;>exact e
theorem St.itE(h:St v w wb b rb pb mb S D pc col colR K)(j:Nat):(K.B.getD j Iv.zero).it=(K.N.getD j Iv.zero).it:=getD_mapE Iv.it Iv.zero h.e2 j
def Br1:Br:=⟨none,0,[]⟩
theorem St.lE(h:St v w wb b rb pb mb S D pc col colR K)(j:Nat):(K.T.getD j Br1).l=(K.X.getD j Br1).l:=getD_mapE Br.l Br1 h.e1 j
theorem St.tBs(h:St v w wb b rb pb mb S D pc col colR K){j:Nat}(hj:j<K.T.length):Bs w (K.T.getD j Br1).a (K.T.getD j Br1).l:=by
 have hm:K.T.getD j Br1∈K.T:=by simp[hj]
 obtain⟨k1,k2,_⟩:=h.r1 _ (List.mem_append_left _ hm);exact k1.bs k2 k1.len_le
theorem St.xBs(h:St v w wb b rb pb mb S D pc col colR K){j:Nat}(hj:j<K.X.length):Bs w (K.X.getD j Br1).a (K.X.getD j Br1).l:=by
 have hm:K.X.getD j Br1∈K.X:=by simp[hj]
 obtain⟨k1,k2,_⟩:=h.r2 _ (List.mem_append_left _ hm);exact k1.bs k2 k1.len_le
end
def uA(T:List Br)(i:Nat):Option Addr:=(T.getD i Br1).a
def uC(T:List Br)(i:Nat):Nat:=(T.getD i Br1).c
def uL(T:List Br)(i:Nat):List Nat:=(T.getD i Br1).l
theorem u_mem{T:List Br}{i:Nat}(h:i<T.length):T.getD i Br1∈T:=by simp[h]
theorem bv_getU(T:List Br){i:Nat}(hi:i<T.length):(T.map bv)[i]?=some (.slice (uA T i) (uL T i).length (uC T i)):=by
 simp[hi,bv,uA,uL,uC]
theorem rows_valU(T:List Br):T.map bv=(List.range T.length).map (fun i=>Value.slice (uA T i) (uL T i).length (uC T i)):=by
 apply List.ext_getElem?;intro i;by_cases hi:i<T.length
 · rw[bv_getU _ hi];simp only[List.getElem?_map,List.getElem?_range hi,Option.map_some]
 · rw[List.getElem?_eq_none (by rw[List.length_map];omega),List.getElem?_eq_none (by rw[List.length_map,List.length_range];omega)]
theorem apart_rows(w:World)(a:Option Addr)(ct:Nat)(T:List Br)(hA:Ar w a ct (T.map bv))(hr:∀t∈T,Rw w t.a t.c t.l)(hp:T.Pairwise brApart)(hn:T.length<=2932031007410)(hl:∀t∈T,t.l.length<=3840):
 Calls Tryz.prog 30 #[.slice a T.length ct] w fun x w'=>x=.returned (.bool true)/\But (fun k=>∃t∈T,Q.InA t.a k) w w':=by
 rw[rows_valU] at hA
 have hd:Dist T.length (uA T):=by
  intro i j hi hj hne x y hx hy;have hp:=List.pairwise_iff_getElem.1 hp;have ei:T.getD i Br1=T[i]:=by simp[hi]
  have ej:T.getD j Br1=T[j]:=by simp[hj]
  unfold uA at hx hy;rw[ei] at hx;rw[ej] at hy;rcases Nat.lt_or_gt_of_ne hne with h1|h1
  · exact hp i j hi hj h1 x y hx hy
  · exact fun e=>hp j i hj hi h1 y x hy hx e.symm
 refine(Apart_some w a ct T.length (uA T) (uC T) (uL T) hA (fun i hi=>hr _ (u_mem hi)) hd hn fun i hi=>?_).mono ?_
 · have:=hl _ (u_mem hi);unfold uL;omega
 · rintro x w' ⟨rfl,hb⟩;exact⟨rfl,hb.mono (fun k _ ⟨i,hi,y,hy,e⟩=>⟨_,u_mem hi,y,hy,e⟩)⟩
theorem rowsOf_len2:∀L:List Iv,(rowsOf L).length=2*L.length
 | []=>rfl
 |x::L=>by
  rw[rowsOf_cons,List.length_append,rowsOf_len2 L];show 2+2*L.length=2*(L.length+1);omega
theorem Rel.stt{X:Vm}(h:Rel X D)(z:Int):X.P.state z=D.state z:=by
 have hl:X.P.pg.length=D.C.length:=h.len;have eh:X.P.has z=D.has z:=by unfold Q.Po.has Rd.has;rw[hl]
 unfold Q.Po.state Rd.state;rw[eh];by_cases hz:D.has z=true
 · rw[if_pos hz,if_pos hz,h.pg];have k:=Rd.has_iff.1 hz;rw[Rd.pg_get h.nL (i:=(z-1).toNat) (by omega)]
   rfl
 · rw[if_neg hz,if_neg hz]
theorem Rel.rd2(h:Rel S.X D):rdR D=rdV S:=h.rd.symm
structure Lq(w wx:World)(K:Bks)(j:Nat)(aL:Option Addr)(cL:Nat):Prop where
 r:Ar wx aL cL ((K.T++rowsOf (K.B.take j)).map bv)
 n:New w K.aT aL
 b:But (Q.InA K.aT) w wx
section
variable {v w w' wx:World} {wb b rb pb mb:Nat} {S:Vs} {D:Rd} {pc col colR:Nat->Nat} {K:Bks}
theorem St.offT(h:St v w wb b rb pb mb S D pc col colR K)(hb:But (Q.InA K.aT) w w'):w'.heap[wb]?=w.heap[wb]?/\Jw w' K.aB K.cB K.B/\(∀t∈K.T++rowsOf K.B,Rw w' t.a t.c t.l)/\Vw w' b S pb mb pc col/\Rq w' rb D colR/\Below v.heap.size v w':=by
 have ty:∀{k:Nat}{cs:Array Value}{t:TypeId},w.heap[k]?=some (.cells cs t (0,0))->t≠29->¬Q.InA K.aT k:=fun hk ht ⟨z,hz,e⟩=>by
  obtain⟨cs2,hc⟩:=ar_bxs h.tt hz;exact blk_ty hc hk (fun e=>ht e.symm) e
 refine⟨(hb.same h.box (ty h.box (by decide))).trans h.box.symm,h.jb.but hb (fun x hx=>?_),fun t ht=>(h.r1 t ht).1.but hb (fun x hx=>?_),h.V.but13 hb (fun k hk ⟨z,hz,e⟩=>hk (by rw[<-e];exact(h.oT z hz).1)),h.R.but hb (fun k hk ⟨z,hz,e⟩=>hk (by rw[<-e];exact(h.oT z hz).2.1)),((But.ofBelow (S:=fun _=>False) h.bl).trans hb (fun k hk ⟨z,hz,e⟩=>by have:=(h.oT z hz).2.2;omega)).below (fun _ _ e=>e)⟩
 · rcases h.jb.cases with⟨h0,_⟩|⟨g,cur,h0,hg,_⟩
   · rw[h0] at hx;cases hx
   · rw[h0] at hx;cases hx;exact ty hg (by decide)
 · rintro⟨z,hz,e⟩;exact h.tt.ne (h.r1 t ht).1 hz hx e
theorem Lq.start(h:St v w wb b rb pb mb S D pc col colR K):Lq w w K 0 K.aT K.cT:=⟨by
 have e:K.T++rowsOf (K.B.take 0)=K.T:=by simp[rowsOf]
 rw[e];exact h.tt,fun x hx=>.inl ⟨x,hx,rfl⟩,But.refl _ _⟩
theorem Lq.step{j:Nat}{aL:Option Addr}{cL:Nat}(h:Lq w wx K j aL cL)(hj:j<K.B.length){wB w5:World}(hA:Below wx.heap.size wx wB){g c5:Nat}(R:Ar w5 (some ⟨g,0,none⟩) c5 ((K.T++rowsOf (K.B.take j)).map bv++[bv ⟨(K.B.getD j Iv.zero).aK,(K.B.getD j Iv.zero).cK,(K.B.getD j Iv.zero).key⟩,bv ⟨(K.B.getD j Iv.zero).aV,(K.B.getD j Iv.zero).cV,(K.B.getD j Iv.zero).val⟩]))(N:New wB aL (some ⟨g,0,none⟩))(G:wB.grownBy w5 (aL.map Addr.block)):Lq w w5 K (j+1) (some ⟨g,0,none⟩) c5:=by
 have e:rowsOf (K.B.take (j+1))=rowsOf (K.B.take j)++(K.B.getD j Iv.zero).rows:=by
  have e1:K.B.take (j+1)=K.B.take j++[K.B.getD j Iv.zero]:=by
   rw[List.take_succ_eq_append_getElem hj];simp[hj]
  rw[e1,rowsOf_append,rowsOf_one]
 have hB:But (Q.InA aL) wB w5:=But.inA G;refine⟨?_,fun x hx=>?_,?_⟩
 · rw[e,<-List.append_assoc,List.map_append];exact R
 · rcases N x hx with⟨y,hy,e1⟩|e1
   · rcases h.n y hy with⟨q,hq,e2⟩|e2
     · exact .inl ⟨q,hq,e2.trans e1⟩
     · rw[e1] at e2;exact .inr e2
   · exact .inr (Nat.le_trans h.b.size (Nat.le_trans hA.size e1))
 · refine(h.b.trans (But.ofBelow (S:=Q.InA K.aT) hA) (fun _ _ e=>e)).trans hB (fun k hk ⟨y,hy,e1⟩=>?_)
   rcases h.n y hy with⟨q,hq,e2⟩|e2
   · exact⟨q,hq,e2.trans e1⟩
   · omega
end
end Go.Proofs.YtcpkinhneehomaaGreat
