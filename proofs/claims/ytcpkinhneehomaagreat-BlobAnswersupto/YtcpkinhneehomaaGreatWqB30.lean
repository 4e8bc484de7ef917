import Derived.Test.YtcpkinhneehomaaGreatWqB29
set_option linter.unusedVariables false
set_option linter.unusedSimpArgs false
set_option maxHeartbeats 16000000
set_option maxRecDepth 16000
namespace Go.Proofs.YtcpkinhneehomaaGreat
open Go.RowKit
variable {cs:Array Value}{g:Int->Option Pg}{C:List Int}{i n rb x y:Nat}{col:Nat->Nat}{D:Rd}{q:Value}{S:Vs}{W w w':World}
def PV(r:Int)(C:List Int)(g:Int->Option Pg)(S:Vs):Prop:=∃f:Int->Option Pv,S=ldS r C f/\(∀k,(f k).map Pv.pg=g k)/\∀k q,f k=some q->q.pg.check=0
def PR(C:List Int)(g:Int->Option Pg)(D:Rd):Prop:=D.C=C/\(D.L=C.map fun c=>decide (0<c))/\D.P.length=C.length/\∀i,i<C.length->(D.P.getD i Pv.zero).pg=(g ((i:Int)+1)).getD Pv.zero.pg
theorem PR.count(h:PR C g D)(z:Int):D.count z=cntOf C z:=by
 obtain⟨hC,_⟩:=h;unfold Rd.count cntOf;rw[hC];by_cases hz:1<=z/\z<=C.length
 · rw[if_pos hz,if_pos (Rd.has_iff.2 (by rw[hC];exact hz))]
 · rw[if_neg hz,if_neg (fun e=>hz (by have:=Rd.has_iff.1 e;rw[hC] at this;exact this))]
theorem pair_reads{r:Int}(hS:PV r C g S)(hD:PR C g D):rdV S=rdR D:=by
 funext z
 unfold rdV rdR;rw[hD.count z];obtain⟨f,rfl,hf,_⟩:=hS;rw[show(ldS r C f).X.P.count z=cntOf C z from start_count r C z]
 by_cases h:0<cntOf C z
 · rw[if_pos h,if_pos h]
   have hz:1<=z/\z<=C.length:=by
    unfold cntOf at h;split at h
    · assumption
    · omega
   have hi:(z-1).toNat<C.length:=by omega
   have e:=hD.2.2.2 _ hi;have ez:(((z-1).toNat:Nat):Int)+1=z:=by omega
   rw[ez,<-hf z] at e
   have e2:((ldS r C f).X.on z).pg=((f z).map Pv.pg).getD Pv.zero.pg:=by
    show((f z).getD Pv.zero).pg=_;cases f z<;>rfl
   rw[e2,<-e];rfl
 · rw[if_neg h,if_neg h]
theorem pair_counts{r:Int}(hS:PV r C g S)(hD:PR C g D):S.X.P.counts=D.C:=by
 obtain⟨f,rfl,_⟩:=hS;rw[hD.1];show(C.map fun c=>(c,decide (0<c))).map Prod.fst=C
 rw[List.map_map];exact(List.map_congr_left (fun _ _=>rfl)).trans (List.map_id C)
theorem pair_states{r:Int}(hS:PV r C g S)(hD:PR C g D)(z:Int):S.X.P.state z=D.state z:=by
 obtain⟨f,rfl,_⟩:=hS;obtain⟨hC,hL,_⟩:=hD;have hl:(Q.Po.start r C).pg.length=C.length:=by unfold Q.Po.start;exact List.length_map _
 show(Q.Po.start r C).state z=_;unfold Q.Po.state Rd.state
 have eh:(Q.Po.start r C).has z=D.has z:=by
  unfold Q.Po.has Rd.has;rw[hl,hC]
 rw[eh];by_cases h:D.has z=true
 · rw[if_pos h,if_pos h];have hz:=Rd.has_iff.1 h;rw[hC] at hz;have hi:(z-1).toNat<C.length:=by omega
   unfold Rd.lasts;rw[hC,hL];congr 1
   unfold Q.Po.start;have hi2:z.toNat-1<C.length:=by omega
   simp[hi2]
 · rw[if_neg h,if_neg h]
theorem pair_sml{r:Int}{C:List Int}{g:Int->Option Pg}{S:Vs}(hS:PV r C g S)(z:Int):Sml (S.X.on z):=by
 obtain⟨f,rfl,_,hc⟩:=hS;show Sml ((f z).getD Pv.zero);cases e:f z with
 |none=>exact(sml_ps (.inr rfl)).1
 |some q=>exact(sml_ps (.inl (hc z q e))).1
theorem PR.same{D':Rd}(h:PR C g D)(hs:D.Same D'):PR C g D':=by
 obtain⟨h1,h2,h3,h4⟩:=h;exact⟨hs.C.trans h1,hs.L.trans h2,by rw[hs.P];exact h3,by rw[hs.P];exact h4⟩
theorem PR.fresh{r:Int}(h:D.Fresh r n):PR (List.replicate n 0) (fun _=>none) D:=by
 obtain⟨q1,q2,q3,q4,_⟩:=h;refine⟨q2,by rw[q3];simp,by rw[q4];simp,fun i hi=>?_⟩
 have hi:i<n:=by simpa using hi
 rw[q4];simp[hi]
theorem PV.fresh{r:Int}:PV r (List.replicate n 0) (fun _=>none) (Vs.start (Q.Po.start r (List.replicate n 0))):=⟨fun _=>none,rfl,fun _=>rfl,fun k q e=>by cases e⟩
structure Jb(w W:World)(x y:Nat)(cs:Array Value)(v q:Value):Prop where
 bx:W.heap[x]?=some (.cells cs 68 (0,0))
 by':W.heap[y]?=some (.cells #[v,q,.slice none 0 0,.slice none 0 0,.slice none 0 0,.slice none 0 0] 78 (0,0))
 b:Below w.heap.size w W
 ly:w.heap.size<=y
theorem Jb.keep{W':World}{v:Value}(h:Jb w W x y cs v q)(hb:Below W.heap.size W W'):Jb w W' x y cs v q:=⟨blk13 h.bx hb,blk13 h.by' hb,bt h.b hb,h.ly⟩
theorem Jb.ne{v:Value}(h:Jb w W x y cs v q):x≠y:=blk_ty h.bx h.by' (by decide)
theorem Jb.lt{v:Value}(h:Jb w W x y cs v q):y<W.heap.size:=(Array.getElem?_eq_some_iff.1 h.by').1
theorem Jb.but(y i:Nat)(u:Value):But (fun k=>k=y) W (W.setCell ⟨y,i,none⟩ u):=(But.refl (fun k=>k=y) W).setCell (p:=⟨y,i,none⟩) (fun _=>rfl) _
theorem Jb.set0{v:Value}(h:Jb w W x y cs v q)(u:Value):Jb w (W.setCell ⟨y,0,none⟩ u) x y cs u q:=
 ⟨(Jb.but y 0 u).same h.bx h.ne,by rw[heap_setCell_same _ _ _ _ _ _ h.by'];rfl,((But.ofBelow (S:=fun k=>k=y) h.b).trans (Jb.but y 0 u) (fun _ _ e=>e)).below (fun k hk e=>by have:=h.ly;omega),h.ly⟩
theorem Jb.set1{v:Value}(h:Jb w W x y cs v q)(u:Value):Jb w (W.setCell ⟨y,1,none⟩ u) x y cs v u:=
 ⟨(Jb.but y 1 u).same h.bx h.ne,by rw[heap_setCell_same _ _ _ _ _ _ h.by'];rfl,((But.ofBelow (S:=fun k=>k=y) h.b).trans (Jb.but y 1 u) (fun _ _ e=>e)).below (fun k hk e=>by have:=h.ly;omega),h.ly⟩
theorem Jb.cells{v:Value}(h:Jb w W x y cs v q):W.cell? ⟨y,0,none⟩=some v/\W.cell? ⟨y,1,none⟩=some q/\W.frozen? ⟨y,0,none⟩=false/\W.frozen? ⟨y,1,none⟩=false:=by
 obtain⟨x0,x1,_⟩:=six_cells h.by';exact⟨x0,x1,by simp[World.frozen?,h.by'],by simp[World.frozen?,h.by']⟩
theorem Jb.start(w:World)(cs:Array Value):Jb w ((w.alloc (.cells cs 68)).alloc (.cells #[.pointer none,.pointer none,.slice none 0 0,.slice none 0 0,.slice none 0 0,.slice none 0 0] 78)) w.heap.size (w.heap.size+1) cs (.pointer none) (.pointer none):=by
 obtain⟨h1,h2,h3⟩:=two_blk w (.cells cs 68) (.cells #[.pointer none,.pointer none,.slice none 0 0,.slice none 0 0,.slice none 0 0,.slice none 0 0] 78);exact⟨h1,h2,h3,by omega⟩
structure Bg(w W:World)(wb b rb:Nat)(S:Vs)(pb mb:Nat)(pc col:Nat->Nat)(D:Rd)(colR:Nat->Nat):Prop where
 box:W.heap[wb]?=some (.cells #[.pointer (some ⟨b,0,none⟩),.pointer (some ⟨rb,0,none⟩),.slice none 0 0,.slice none 0 0,.slice none 0 0,.slice none 0 0] 78 (0,0))
 lw:w.heap.size<=wb
 bl:Below w.heap.size w W
 v:Vw W b S pb mb pc col
 r:Rq W rb D colR
 s:∀z,Sml (S.X.on z)
 rd:rdV S=rdR D
 c:S.X.P.counts=D.C
 st:∀z,S.X.P.state z=D.state z
 nv:∀k,col k≠0->k≠wb
 nr:∀k,colR k≠0->k≠wb
def P3:Q.Po:=Q.Po.start 2 [0,0,0]
def S3:Vs:=Vs.start P3
theorem p3a:P3.alloc.1=(1,0):=by decide
theorem p3b:P3.alloc.2.alloc.1=(2,0):=by decide
theorem make_s{p:Pg}{q:Pv}{n:Int}(hc:p.check=0)(ha:S.X.P.alloc.1=(n,0)):S.makeR p=(n,0)/\S.makeS p q=⟨S.X.allocd.lay n q,S.al++[(S.X.P.mark,S.X.ch.length)],S.fl⟩:=by
 constructor
 · unfold Vs.makeR;rw[if_pos hc,ha]
 · unfold Vs.makeS;rw[if_pos hc,ha];unfold Vs.done;simp
theorem spr_two{l:List Nat}(h1:480<l.length)(h2:l.length<=960){S':Vs}{nx:Int}(h:Spr l 2 S3 2 S' nx):nx=2/\Chn S' l 2 2 2/\S'.X.P=P3.alloc.2.alloc.2:=by
 obtain⟨S1,n1,q1,⟨S0,n0,q0,⟨rfl,rfl⟩,g0,e0,rfl⟩,g1,e1,rfl⟩:=h;obtain⟨r0,s0⟩:=make_s (S:=S3) (q:=q0) (mkp_check (l:=l) (i:=1) (nx:=0) (by omega) (by omega) (by omega)) p3a
 rw[show 2-1-0=1 from rfl] at e0 g0 ⊢
 rw[r0] at e0;subst e0;rw[show 2-1-1=0 from rfl] at e1 g1 ⊢
 have hp1:(S3.makeS (mkp l 1 0) q0).X.P=P3.alloc.2:=by rw[s0];rfl
 obtain⟨r1,s1⟩:=make_s (S:=S3.makeS (mkp l 1 0) q0) (q:=q1) (mkp_check (l:=l) (i:=0) (nx:=1) (by omega) (by omega) (by omega)) (by rw[hp1];exact p3b)
 rw[r1] at e1;subst e1;have k0:q0.kind=3:=congrArg Pg.kind g0;have k1:q1.kind=3:=congrArg Pg.kind g1
 have hP:((S3.makeS (mkp l 1 0) q0).makeS (mkp l 0 1) q1).X.P=P3.alloc.2.alloc.2:=by
  rw[s1];show(S3.makeS (mkp l 1 0) q0).X.P.alloc.2=_;rw[hp1]
 have hF:((S3.makeS (mkp l 1 0) q0).makeS (mkp l 0 1) q1).X.f=fput (fput (fun _=>none) 1 q0) 2 q1:=by
  rw[s1,s0];rfl
 have o2:((S3.makeS (mkp l 1 0) q0).makeS (mkp l 0 1) q1).X.on 2=q1:=by
  unfold Vm.on;rw[hF];simp[fput,k1]
 have o1:((S3.makeS (mkp l 1 0) q0).makeS (mkp l 0 1) q1).X.on 1=q0:=by
  unfold Vm.on;rw[hF];simp[fput,k0]
 have c2:0<P3.alloc.2.alloc.2.count 2:=by decide
 have c1:0<P3.alloc.2.alloc.2.count 1:=by decide
 refine⟨rfl,⟨by rw[hP];exact c2,1,by rw[o2];exact g1,by simp,⟨by rw[hP];exact c1,0,by rw[o1];exact g0,by simp,rfl⟩⟩,hP⟩
theorem ok_two{l:List Nat}(h1:480<l.length)(h2:l.length<=960):∀m S1 n1,m<2->Spr l 2 S3 m S1 n1->(S1.makeR (mkp l (2-1-m) n1)).2=0/\N64 n1/\S1.X.P.mark+1<=17592186044416/\S1.X.ch.length+1<=1759218604441/\S1.al.length+1<=8796093022208:=by
 intro m S1 n1 hm h;cases m with
 |zero=>
  obtain⟨rfl,rfl⟩:=h;rw[show 2-1-0=1 from rfl,(make_s (S:=S3) (q:=Pv.zero) (mkp_check (l:=l) (i:=1) (nx:=0) (by omega) (by omega) (by omega)) p3a).1]
  exact⟨rfl,by simp[N64],by decide,by decide,by decide⟩
 |succ m=>
  cases m with
  |zero=>
   obtain⟨S0,n0,q0,⟨rfl,rfl⟩,g0,e0,rfl⟩:=h;obtain⟨r0,s0⟩:=make_s (S:=S3) (q:=q0) (mkp_check (l:=l) (i:=1) (nx:=0) (by omega) (by omega) (by omega)) p3a
   rw[show 2-1-0=1 from rfl] at e0 ⊢
   rw[r0] at e0;subst e0;have hp1:(S3.makeS (mkp l 1 0) q0).X.P=P3.alloc.2:=by rw[s0];rfl
   rw[show 2-1-(0+1)=0 from rfl,(make_s (S:=S3.makeS (mkp l 1 0) q0) (q:=Pv.zero) (mkp_check (l:=l) (i:=0) (nx:=1) (by omega) (by omega) (by omega)) (by rw[hp1];exact p3b)).1]
   rw[hp1];refine⟨rfl,by simp[N64],by decide,?_,?_⟩
   · rw[s0];show(([]:List (Int×Pv))++[_]).length+1<=_;simp
   · rw[s0];show(([]:List (Nat×Nat))++[_]).length+1<=_;simp
  |succ m=>omega
def l500:List Nat:=List.replicate 499 0++[7]
theorem l500_len:l500.length=500:=by rw[l500,List.length_append,List.length_replicate];rfl
theorem l500_b8:B8 l500:=fun x hx=>by
 unfold l500 at hx;rcases List.mem_append.1 hx with h|h
 · have:=List.eq_of_mem_replicate h;omega
 · have:=List.mem_singleton.1 h;omega
theorem made_at:(madeCells #[.int .u8 0] 500)[499]?=some (.int .u8 0):=by kernel_rfl
theorem l500_at:l500.getD 499 0=7:=by kernel_rfl
theorem l500_vb:((madeCells #[.int .u8 0] 500).setIfInBounds 499 (.int .u8 7)).toList.take 500=vb l500:=by kernel_rfl
theorem l500_row{g:Nat}(h:w.heap[g]?=some (.cells ((madeCells #[.int .u8 0] 500).setIfInBounds 499 (.int .u8 7)) 5 (0,0))):Rw w (some ⟨g,0,none⟩) 500 l500:=by
 refine Rw.mk h (by rw[l500_len];omega) (by decide) (by rw[Array.size_setIfInBounds,size_madeCells]) ?_
 rw[l500_len];exact l500_vb
theorem fixed13_any(w:World):Calls Tryz.prog 22 #[] w fun e w'=>e=.returned (.bool true)/\Below w.heap.size w w':=by
 have NW:=hide (vNew_yes w 3 2 (by decide))
 have PG:=hide fun(W:World)=>bPages_any W 481 (by unfold N64;omega)
 obtain⟨mc,hmc⟩:∃mc,madeCells #[.int .u8 0] 500=mc:=⟨_,rfl⟩
 have hmk:∀w:World,(Instr.makeSlice 29 (.int .i64 500) (.int .i64 500)).run Tryz.prog w=.ok (.slice (some ⟨w.heap.size,0,none⟩) 500 500) (w.alloc (.cells mc 5)):=by
  rw[<-hmc];exact make_u8 500 500 (Nat.le_refl _) (by decide)
 have M0:Hid (mc[499]?=some (.int .u8 0)):=by show _=_;rw[<-hmc];exact made_at
 have MR:=hide fun(w:World)(g:Nat)(h:w.heap[g]?=some (.cells (mc.setIfInBounds 499 (.int .u8 7)) 5 (0,0)))=>l500_row (w:=w) (g:=g) (by rw[hmc];exact h)
 obtain⟨ms,hms⟩:∃ms,mc.setIfInBounds 499 (.int .u8 7)=ms:=⟨_,rfl⟩;rw[hms] at MR;have HMS:=hide hms;clear hms;clear hmc
 have hcv:∀(W:World)(C:Array Value)(n c g:Nat),W.heap.size=g->(convert 29 29 (.slice (some ⟨g,0,none⟩) n c)).run Tryz.prog (W.alloc (.cells C 5))=.ok (.slice (some ⟨g,0,none⟩) n c) (W.alloc (.cells C 5 (C.size,C.size+1))):=by
  intro W C n c g hg;subst hg;exact Lib.run_convert_bytes_const W 29 5 C n c Tryz.underlying29 Tryz.underlying5
 go_enter Tryz.func22,Tryz.ntmps22;go_wp2_with fail
 refine NW.out.mono ?_;rintro _ w1 ⟨b,rfl,pb,mb,pc,col,hV,hb1,hcol⟩;have V1:Hid (Vw w1 b S3 pb mb pc col):=hV;have B1:=hide hb1;have CN:=hide hcol;clear hV hb1 hcol NW;go_upto_region 5 with fail
 have X1:=hide (heap_alloc_new w1 (.cells mc 5));have A1:=hide (al w1 (.cells mc 5));have c0:(w1.alloc (.cells mc 5)).cell? ⟨w1.heap.size,499,none⟩=some (.int .u8 0):=by rw[cell_of_row _ _ _ _ _ _ X1.out];exact M0.out
 have f0:(w1.alloc (.cells mc 5)).frozen? ⟨w1.heap.size,499,none⟩=false:=frozen_of_row _ _ _ _ _ X1.out;go_upto_region 6 with fail
 clear c0 f0;try rw[HMS.out]
 have X2:=hide (heap_alloc_new w1 (.cells ms 5));have B2:=hide (al w1 (.cells ms 5));have R2:=hide (MR.out _ _ X2.out);have hz2:w1.heap.size<(w1.alloc (.cells ms 5)).heap.size:=(Array.getElem?_eq_some_iff.1 X2.out).1;generalize w1.alloc (.cells ms 5)=w2 at *;have A3:=hide (al w2 (.cells #[.int .u8 107] 5 (1,2)));have X3:=hide (heap_alloc_new w2 (.cells #[.int .u8 107] 5 (1,2)));have V3:=hide (V1.out.keep (bt B2.out A3.out));have ZC:Hid (∀k,w1.heap.size<=k->col k=0):=fun k hk=>V1.out.z hk
 have KB:Hid (Bs (w2.alloc (.cells #[.int .u8 107] 5 (1,2))) (some ⟨w2.heap.size,0,none⟩) [107]):=⟨fun x hx=>by have:=List.mem_singleton.1 hx;omega,by decide,.inr ⟨_,_,rfl,fun i hi=>by
  have:i=0:=by simpa using hi
  subst this;rw[cell_of_row _ _ _ _ _ _ X3.out];rfl⟩⟩
 have ST:=hide (Store_ok (w2.alloc (.cells #[.int .u8 107] 5 (1,2))) b S3 pb mb pc col V3.out (some ⟨w2.heap.size,0,none⟩) 1 [107] KB.out (fun x hx=>by cases hx;exact ZC.out _ (Nat.le_of_lt hz2)) (by decide) (by decide) w1.heap.size 0 500 l500 ((R2.out.bs l500_b8 R2.out.len_le).keep A3.out) (ZC.out _ (Nat.le_refl _)) (Nat.lt_of_lt_of_le hz2 A3.out.size) (by rw[l500_len];exact Nat.le_refl _) (by rw[l500_len];decide) (by rw[l500_len];decide) 2 (by rw[l500_len]) (by decide) (ok_two (by rw[l500_len];decide) (by rw[l500_len];decide)))
 rw[l500_len] at ST;simp only[List.length_cons,List.length_nil,Nat.zero_add] at ST;go_wp2_with fail
 refine ST.out.mono ?_;rintro _ w4 ⟨S',x,rfl,xk,xv,xs,hSp,pc',col',hV4,hF4⟩;obtain⟨n2,hCh,hP⟩:=spr_two (by rw[l500_len];decide) (by rw[l500_len];decide) hSp
 have V4:=hide hV4;have PP:=hide hP;have CH:=hide hCh
 have B4:Hid (Below w.heap.size w w4):=by
  have f1:=hF4.b;refine(But.below (S:=fun k=>k<w4.heap.size/\w.heap.size<=k) ?_ (fun k hk e=>by omega))
  have g1:But (fun k=>1<=col k/\col k<=5) w w4:=(But.ofBelow (S:=fun k=>1<=col k/\col k<=5) (bt B1.out (bt B2.out A3.out))).trans f1 (fun _ _ e=>e)
  exact g1.mono (fun k hk e=>by
   have:=CN.out k (by show col k≠0;omega)
   omega)
 have A5:=hide (al w4 (.cells x.cs 51));have X5:=hide (heap_alloc_new w4 (.cells x.cs 51));have LD:=hide (Load_ok (w4.alloc (.cells x.cs 51)) b S' pb mb pc' col' (hV4.keep A5.out) l500 (by rw[l500_len];decide) (by rw[l500_len];decide) l500_b8 2 (by rw[l500_len]) x (by rw[l500_len];exact xs) (by rw[n2];exact hCh))
 rw[l500_len] at LD;clear hSp hV4 hF4 hCh hP ST KB;obtain⟨xK,xcK,xkey,xV,xcV,xval,xch,xsz⟩:=x;simp only at xk xv xs n2;subst xs;subst n2;subst xv;subst xk;unfold Iv.vl at LD ⊢;simp only[Iv.cs,List.length_nil,List.length_cons,Nat.zero_add] at LD A5 X5 ⊢;obtain⟨x0,x1,x2,x3⟩:=four13 X5.out;go_wp2_with fail
 refine LD.out.mono ?_;rintro _ w6 ⟨a,c,rfl,hO⟩;have R6:=hide hO.r;have B6:=hide (bt B4.out (bt A5.out hO.b));have V6:=hide (V4.out.keep (bt A5.out hO.b));have X6:=hide (blk13 X5.out hO.b);clear hO LD x0 x1 x2 x3
 obtain⟨ga,oa,ea,hcell⟩:∃g o,a=some ⟨g,o,none⟩/\w6.cell? ⟨g,o+499,none⟩=some (.int .u8 7):=by
  have hb:=R6.out.bs l500_b8 R6.out.len_le;rcases hb.2.2 with h0|⟨g,o,e,hc⟩
  · have:=congrArg List.length h0;rw[l500_len] at this;cases this
  · refine⟨g,o,e,?_⟩;have:=hc 499 (by rw[l500_len];decide)
    rw[l500_at] at this;exact this
 subst ea;have hcap:Hid (500<=c):=by have:=R6.out.cap;rw[l500_len] at this;exact this
 obtain⟨x0,x1,x2,x3⟩:=four13 X6.out;have c0:=V6.out.c0
 have TA:=hide (show ∀W:World,Below w6.heap.size w6 W->Calls Tryz.prog 49 #[.pointer (some ⟨pb,0,none⟩),.int .i64 1] W fun e w'=>e=.returned (.int .i64 1)/\Below W.heap.size W w' from fun W hb=>by
  obtain⟨ac,cc,aa,ca,hq⟩:=V6.out.keep hb;have:=Q.Tally_any W pb _ _ hq.pool 1;rw[PP.out] at this;have e1:((P3.alloc.2.alloc.2).pages 1).length=1:=by decide
  rw[e1] at this;exact this)
 have hb6:b<w6.heap.size:=by obtain⟨aa,ca,hx⟩:=V6.out.vx;exact hx.lb
 have p481:bpn 481=2:=by decide
 go_wp2_with fail
 refine(TA.out _ (Below.refl _ _)).mono ?_;rintro _ w7 ⟨rfl,hb7⟩;have B7:=hide (bt B6.out hb7);clear hb7 TA x0 x1 x2 x3 c0 hcell;go_wp2_with fail
 refine(PG.out _).mono ?_;rintro _ w8 ⟨rfl,hw8⟩;rw[hw8];clear hw8;go_wp2_with fail
 go_ret;exact⟨by first|rfl|simp[p481],B7.out⟩
theorem vf_one{g:Nat}(hg:1<=col g/\col g<=5)(hB:But (fun k=>k=g) w w'):Vf w col w' col:=⟨hB.mono (fun k _ e=>by rw[e];exact hg),fun _ _=>rfl⟩
theorem Rq.setC(h:Rq w rb D col){g:Nat}(hg:D.aC=some ⟨g,0,none⟩)(k:Nat)(x:Int):
 Rq (w.setCell ⟨g,k,none⟩ (.int .i64 x)) rb {D with C:=D.C.set k x} col/\Vf w col (w.setCell ⟨g,k,none⟩ (.int .i64 x)) col:=by
 have hc:col g=2:=h.cc _ hg;have bs:But (fun k=>k=g) w (w.setCell ⟨g,k,none⟩ (.int .i64 x)):=(But.refl (fun k=>k=g) w).setCell (p:=⟨g,k,none⟩) (fun _=>rfl) _
 have ne:∀{j c:Nat},col j=c->c≠2->¬j=g:=fun e n e2=>n (by rw[<-e,e2,hc])
 have hr:=h.cr;rw[hg] at hr;refine⟨⟨?_,?_,h.lr.but bs (fun y hy=>ne (h.cl y hy) (by decide)),h.pr.but bs (fun y hy=>ne (h.cp y hy) (by decide)),fun p hp=>(h.pz p hp).but bs (fun k _ e=>ne e (by decide)),h.ps,h.cb,h.cc,h.cl,h.cp,fun j hj=>Nat.lt_of_lt_of_le (h.lt j hj) bs.size,?_,?_,?_⟩,vf_one (by omega) bs⟩
 · rw[bs.same h.box (ne h.cb (by decide))];unfold Rd.box;rw[List.length_set]
 · show Q.Ig _ D.aC _ _;rw[hg];exact hr.set k x
 · show D.L.length=(D.C.set k x).length;rw[List.length_set];exact h.nL
 · show D.P.length=(D.C.set k x).length;rw[List.length_set];exact h.nP
 · show(D.C.set k x).length<=_;rw[List.length_set];exact h.n6
theorem Rq.setL(h:Rq w rb D col){g:Nat}(hg:D.aL=some ⟨g,0,none⟩)(k:Nat)(x:Bool):
 Rq (w.setCell ⟨g,k,none⟩ (.bool x)) rb {D with L:=D.L.set k x} col/\Vf w col (w.setCell ⟨g,k,none⟩ (.bool x)) col:=by
 have hc:col g=3:=h.cl _ hg;have bs:But (fun k=>k=g) w (w.setCell ⟨g,k,none⟩ (.bool x)):=(But.refl (fun k=>k=g) w).setCell (p:=⟨g,k,none⟩) (fun _=>rfl) _
 have ne:∀{j c:Nat},col j=c->c≠3->¬j=g:=fun e n e2=>n (by rw[<-e,e2,hc])
 have hr:=h.lr;rw[hg] at hr;refine⟨⟨?_,h.cr.but bs (fun y hy=>ne (h.cc y hy) (by decide)),?_,h.pr.but bs (fun y hy=>ne (h.cp y hy) (by decide)),fun p hp=>(h.pz p hp).but bs (fun k _ e=>ne e (by decide)),h.ps,h.cb,h.cc,h.cl,h.cp,fun j hj=>Nat.lt_of_lt_of_le (h.lt j hj) bs.size,?_,h.nP,h.n6⟩,vf_one (by omega) bs⟩
 · rw[bs.same h.box (ne h.cb (by decide))];unfold Rd.box;rw[List.length_set]
 · show Q.Gw _ _ _ D.aL _ (D.L.set k x).length _;rw[hg,List.length_set,<-vbl_set];exact hr.setc k _
 · show(D.L.set k x).length=D.C.length;rw[List.length_set];exact h.nL
theorem Rq.setP(h:Rq w rb D col){g:Nat}(hg:D.aP=some ⟨g,0,none⟩)(k:Nat)(x:Pv)(hx:Pz (fun k=>col k=6) w x)(hxs:x.pg.check=0\/x=Pv.zero):
 Rq (w.setCells g (k*5) x.cs.toList) rb {D with P:=D.P.set k x} col/\Vf w col (w.setCells g (k*5) x.cs.toList) col:=by
 have hc:col g=4:=h.cp _ hg;have bs:=but_setCells g x.cs.toList w (k*5);have ne:∀{j c:Nat},col j=c->c≠4->¬j=g:=fun e n e2=>n (by rw[<-e,e2,hc])
 have hr:=h.pr;rw[hg] at hr;refine⟨⟨?_,h.cr.but bs (fun y hy=>ne (h.cc y hy) (by decide)),h.lr.but bs (fun y hy=>ne (h.cl y hy) (by decide)),?_,fun p hp=>?_,fun p hp=>?_,h.cb,h.cc,h.cl,h.cp,fun j hj=>Nat.lt_of_lt_of_le (h.lt j hj) bs.size,h.nL,?_,h.n6⟩,vf_one (by omega) bs⟩
 · rw[bs.same h.box (ne h.cb (by decide))];unfold Rd.box;rw[List.length_set]
 · show Q.Gw _ _ _ D.aP _ (D.P.set k x).length _;rw[hg];exact hr.setp k x
 · rcases List.mem_or_eq_of_mem_set hp with hp|rfl
   · exact(h.pz p hp).but bs (fun k _ e=>ne e (by decide))
   · exact hx.but bs (fun k _ e=>ne e (by decide))
 · rcases List.mem_or_eq_of_mem_set hp with hp|rfl
   · exact h.ps p hp
   · exact hxs
 · show(D.P.set k x).length=D.C.length;rw[List.length_set];exact h.nP
theorem Rq.page(h:Rq w rb D col)(hb:Below w.heap.size w w'):Rq w' rb D (paint col w w' 6)/\Vf w col w' (paint col w w' 6):=by
 have k:=h.keep hb;have lt:=h.lt;have po:∀{j c:Nat},col j=c->c≠0->paint col w w' 6 j=c:=fun{j c} e hc=>by rw[paint_old (lt j (by rw[e];exact hc)),e]
 refine⟨⟨k.box,k.cr,k.lr,k.pr,fun p hp=>(k.pz p hp).mono (fun j hj e=>po e (by decide)),k.ps,po h.cb (by decide),fun x hx=>po (h.cc x hx) (by decide),fun x hx=>po (h.cl x hx) (by decide),fun x hx=>po (h.cp x hx) (by decide),fun j hj=>paint_lt hb.size hj,k.nL,k.nP,k.n6⟩,But.ofBelow hb,fun j hj=>paint_old hj⟩
theorem rAct_hush(w:World)(rb:Nat)(D:Rd)(col:Nat->Nat)(h:Rq w rb D col)(hh:D.hush=true):Calls Tryz.prog 141 #[.pointer (some ⟨rb,0,none⟩)] w fun e w'=>e=.returned (.tuple #[])/\w'=w:=by
 obtain⟨c0,c1,c2,c3,c6⟩:=h.cells;rw[hh] at c6;clear h;go_enter Tryz.func141,Tryz.ntmps141;go_wp2_with fail
 go_end0
 exact⟨rfl,rfl⟩
theorem rDid_hush(w:World)(rb:Nat)(D:Rd)(col:Nat->Nat)(h:Rq w rb D col)(hh:D.hush=true)(u v:Value):Calls Tryz.prog 105 #[.pointer (some ⟨rb,0,none⟩),u,v] w fun e w'=>e=.returned (.tuple #[])/\w'=w:=by
 obtain⟨c0,c1,c2,c3,c6⟩:=h.cells;rw[hh] at c6;clear h;go_enter Tryz.func105,Tryz.ntmps105;go_wp2_with fail
 go_end0
 exact⟨rfl,rfl⟩
def Rd.put(D:Rd)(z:Int)(c:Int):Rd:={D with C:=D.C.set (z-1).toNat c}
def Rd.inc(D:Rd)(z:Int):Int×Rd:=if 0<D.count z then (if D.R<=D.count z then (13,D) else (0,D.put z (D.count z+1))) else (15,D)
theorem rInc_any(w:World)(rb:Nat)(D:Rd)(col:Nat->Nat)(h:Rq w rb D col)(z:Int)(hR:D.R<=65536):
 Calls Tryz.prog 109 #[.pointer (some ⟨rb,0,none⟩),.int .i64 z] w fun e w'=>e=.returned (.int .i64 (D.inc z).1)/\Rq w' rb (D.inc z).2 col/\Vf w col w' col:=by
 have HQ:=hide h;obtain⟨c0,c1,c2,c3,c6⟩:=h.cells;have TH:=hide (rThere_any w rb D col h z);unfold Rd.inc;by_cases h0:0<D.count z
 · rw[if_pos h0];rw[decide_eq_true h0] at TH
   have hh:D.has z=true:=by
    unfold Rd.count at h0;split at h0
    · assumption
    · omega
   have hc:D.count z=D.C.getD (z-1).toNat 0:=by unfold Rd.count;rw[if_pos hh]
   obtain⟨h1,h2⟩:=Rd.has_iff.1 hh;obtain⟨i,hi⟩:∃i:Nat,z=(i:Int)+1:=⟨(z-1).toNat,by omega⟩
   subst hi;have hi:i<D.C.length:=by omega
   obtain⟨g,e,cA⟩:=h.cAt hi;have ez:((i:Int)+1-1).toNat=i:=by omega
   have EZ:=hide ez;rw[ez] at hc;rw[<-hc] at cA
   have fA:w.frozen? ⟨g,i,none⟩=false:=by
    have k:=h.cr;rw[e] at k;exact Q.Gw.free k i
   rw[e] at c1;have HE:=hide e;have hs:(i:Int)+1-1=(i:Int):=by omega
   have hii:(i:Int)<(D.C.length:Int):=by omega
   have h6:=h.n6;by_cases hr:D.R<=D.count ((i:Int)+1)
   · rw[if_pos hr];have d1:decide (D.R<=D.count ((i:Int)+1))=true:=decide_eq_true hr;clear h hc hh ez e hR h0 h1 h2 hr;generalize D.C.length=m at *;generalize D.count ((i:Int)+1)=x at *;go_enter Tryz.func109,Tryz.ntmps109;go_wp2_with fail
     refine TH.out.mono ?_;rintro _ wq ⟨rfl,hwq⟩;rw[hwq];clear hwq;go_wp2_with fail
     go_quiet (fail)
     go_wp2_with fail
     go_ret;exact⟨rfl,HQ.out.keep (drN _ _),Vf.keep (drN _ _)⟩
   · rw[if_neg hr];have d1:decide (D.R<=D.count ((i:Int)+1))=false:=decide_eq_false hr;have s1:IntKind.i64.wrap (D.count ((i:Int)+1)+1)=D.count ((i:Int)+1)+1:=Q.wrapI (by omega) (by omega)
     have s2:wrap64 (D.count ((i:Int)+1)+1)=D.count ((i:Int)+1)+1:=by unfold wrap64;omega
     have PT:Hid (∀x,D.put ((i:Int)+1) x={D with C:=D.C.set i x}):=fun x=>by unfold Rd.put;rw[EZ.out]
     rw[PT.out];clear h hc hh ez e hR h0 h1 h2 hr PT;have CL:Hid (D.C.length=D.C.length):=rfl;generalize D.count ((i:Int)+1)=x at *;obtain⟨m,hm⟩:∃m,D.C.length=m:=⟨_,rfl⟩;simp only[hm] at c1 hii h6;clear hm CL;go_enter Tryz.func109,Tryz.ntmps109;go_wp2_with fail
     refine TH.out.mono ?_;rintro _ wq ⟨rfl,hwq⟩;rw[hwq];clear hwq;go_wp2_with fail
     go_quiet (fail)
     go_wp2_with fail
     go_ret;exact⟨rfl,((HQ.out.keep (drN _ _)).setC HE.out _ _).1,(Vf.keep (drN _ _)).trans ((HQ.out.keep (drN _ _)).setC HE.out _ _).2⟩
 · rw[if_neg h0];rw[decide_eq_false h0] at TH;clear h h0;go_enter Tryz.func109,Tryz.ntmps109;go_wp2_with fail
   refine TH.out.mono ?_;rintro _ wq ⟨rfl,hwq⟩;rw[hwq];clear hwq;go_wp2_with fail
   go_ret;exact⟨rfl,HQ.out,Vf.refl _ _⟩
theorem Rq.pgs(h:Rq w rb D col):Pgs w D.aP D.P:=fun i hi=>by
 obtain⟨g,e,hc⟩:=h.pAt (i:=i) (by rw[<-h.nP];exact hi)
 exact⟨g,0,e,fun k u hk hu=>by rw[Nat.zero_add];exact hc k u hk hu⟩
theorem rKeep_any(w:World)(rb:Nat)(D:Rd)(col:Nat->Nat)(h:Rq w rb D col)(hh:D.hush=true)(z:Int)(hR:D.R<=65536):
 Calls Tryz.prog 41 #[.pointer (some ⟨rb,0,none⟩),.int .i64 z] w fun e w'=>e=.returned (.int .i64 (D.inc z).1)/\Rq w' rb (D.inc z).2 col/\Vf w col w' col:=by
 have CI:=hide fun(W:World)(hb:Below w.heap.size w W)=>Q.CopyInts_any W D.aC D.C.length D.cC D.C (h.keep hb).cr.ir rfl h.n6
 have CP:=hide fun(W:World)(hb:Below w.heap.size w W)=>copyPages_any W D.aP D.P.length D.cP D.P (h.keep hb).pgs rfl (by rw[h.nP];exact h.n6)
 have IN:=hide fun(W:World)(hb:Below w.heap.size w W)=>rInc_any W rb D col (h.keep hb) z hR
 have SS:Hid (∀W:World,Below w.heap.size w W->W.cell? ⟨rb,1,none⟩=some (.slice D.aC D.C.length D.cC)/\W.cell? ⟨rb,3,none⟩=some (.slice D.aP D.P.length D.cP)):=fun W hb=>⟨(h.keep hb).cells.2.1,(h.keep hb).cells.2.2.2.1⟩
 have HU:Hid (∀(W:World)(D2:Rd)(u v:Value),Rq W rb D2 col->D2.hush=true->Calls Tryz.prog 105 #[.pointer (some ⟨rb,0,none⟩),u,v] W fun e w'=>e=.returned (.tuple #[])/\w'=W):=fun W D2 u v h2 e2=>rDid_hush W rb D2 col h2 e2 u v
 have H2:Hid ((D.inc z).2.hush=true):=by
  show _=_;unfold Rd.inc;split
  · split
    · exact hh
    · exact hh
  · exact hh
 have DR:=hide (dr2 w);clear h hh hR;obtain⟨nC,hnC⟩:∃n,D.C.length=n:=⟨_,rfl⟩;obtain⟨nP,hnP⟩:∃n,D.P.length=n:=⟨_,rfl⟩;simp only[hnC,hnP] at CI CP SS;clear hnC hnP;generalize D.inc z=r at *;obtain⟨er,D2⟩:=r;dsimp only at IN H2 ⊢;go_enter Tryz.func41,Tryz.ntmps41;go_upto_region 1 with fail
 refine wp_region_held_drew (S:=fun W=>W.cell? ⟨rb,1,none⟩=some (.slice D.aC nC D.cC)/\W.cell? ⟨rb,3,none⟩=some (.slice D.aP nP D.cP)) (by kernel_rfl) (SS.out _ DR.out) (fun hHeld=>?_)
 refine tk 0 ?_;refine tk 1 ?_;refine tk 2 ?_;refine tk 3 ?_;refine tk 5 ?_;refine tk 6 ?_;refine tk 7 ?_;refine tk 8 ?_;refine tw 4 fun K hK=>?_
 go_simp;refine(CI.out _ DR.out).mono ?_;rintro _ w1 ⟨a1,k1,rfl,hO1⟩;have B1:=hide (bt DR.out hO1.b);clear hO1;go_wp2_with fail
 refine hK.out _ _ (SS.out _ B1.out) (fun hHeld=>?_)
 clear hK K;try simp only[pt]
 refine tw 9 fun K hK=>?_
 go_simp;refine(CP.out _ B1.out).mono ?_;rintro _ w2 ⟨a2,k2,rfl,_,_,hb2⟩;have B2:=hide (bt B1.out hb2);clear hb2;go_wp2_with fail
 refine hK.out _ _ (SS.out _ B2.out) (fun hHeld=>?_)
 clear hK K;try simp only[pt]
 refine tk 10 ?_;refine tk 11 ?_;refine td ?_;go_wp2_with fail
 refine(IN.out _ B2.out).mono ?_;rintro _ w3 ⟨rfl,hR3,hF3⟩;have R3:=hide hR3;have F3:=hide ((Vf.keep (c:=col) B2.out).trans hF3);clear hR3 hF3 SS CI CP IN;by_cases he:er=0
 · subst he;go_wp2_with fail
   refine(HU.out _ D2 _ _ R3.out H2.out).mono ?_;rintro _ w4 ⟨rfl,hw4⟩;rw[hw4];clear hw4;go_wp2_with fail
   go_ret;exact⟨rfl,R3.out,F3.out⟩
 · have e1:(er==0)=false:=by simp[he]
   clear he;go_wp2_with fail
   go_ret;exact⟨rfl,R3.out,F3.out⟩
def Rd.pg(D:Rd):List Q.Pg:=D.C.zip D.L
theorem Rd.pg_len(h:D.L.length=D.C.length):D.pg.length=D.C.length:=by unfold Rd.pg;rw[List.length_zip,h];omega
theorem Rd.pg_get(h:D.L.length=D.C.length)(hi:i<D.C.length):D.pg.getD i Q.Pg.zero=(D.C.getD i 0,D.L.getD i false):=by
 unfold Rd.pg;have h1:i<D.L.length:=by omega
 have h2:i<(D.C.zip D.L).length:=by rw[List.length_zip];omega
 rw[List.getD_eq_getElem?_getD,List.getElem?_eq_getElem h2];simp[h1,hi]
def lowOf(P:List Q.Pg):Int:=match Q.pagesOf P 1 with
 | []=>0
 |n::_=>n
theorem pagesOf_first{P:List Q.Pg}{s:Nat}(hi:i<P.length)(hs:Q.stt (P.getD i Q.Pg.zero)=s)(hb:∀j,j<i->Q.stt (P.getD j Q.Pg.zero)≠s):∃T,Q.pagesOf P s=((i:Int)+1)::T:=by
 obtain⟨k,hk⟩:∃k,P.length=i+(k+1):=⟨P.length-i-1,by omega⟩
 unfold Q.pagesOf;rw[hk,List.range_add,List.filter_append,List.map_append,List.filter_eq_nil_iff.2 (fun j hj=>by simpa using hb j (List.mem_range.1 hj)),List.range_succ_eq_map,List.map_cons,List.filter_cons,if_pos (by simpa using hs)]
 exact⟨_,rfl⟩
theorem pagesOf_none{P:List Q.Pg}{s:Nat}(hb:∀j,j<P.length->Q.stt (P.getD j Q.Pg.zero)≠s):Q.pagesOf P s=[]:=by
 unfold Q.pagesOf;rw[List.filter_eq_nil_iff.2 (fun j hj=>by simpa using hb j (List.mem_range.1 hj))]
 rfl
theorem stt_free(c:Int)(l:Bool):Q.stt (c,l)=1↔c=0/\l=false:=by
 unfold Q.stt;by_cases hc:c=0<;>cases l<;>simp[hc]
theorem rlowest_any(w:World)(rb:Nat)(D:Rd)(col:Nat->Nat)(h:Rq w rb D col):
 Calls Tryz.prog 101 #[.pointer (some ⟨rb,0,none⟩)] w fun e w'=>e=.returned (.int .i64 (lowOf D.pg))/\w'=w:=by
 obtain⟨c0,c1,c2,c3,c6⟩:=h.cells;have CA:=hide fun(i:Nat)(hi:i<D.C.length)=>h.cAt hi
 have LA:=hide fun(i:Nat)(hi:i<D.C.length)=>h.lAt hi
 have PG:=hide fun(i:Nat)(hi:i<D.C.length)=>Rd.pg_get h.nL hi
 have PL:=hide (Rd.pg_len h.nL);have hL:=h.nL;rw[hL] at c2;have h6:=h.n6;clear h hL c0 c3 c6;obtain⟨m,hm⟩:∃m,D.C.length=m:=⟨_,rfl⟩;simp only[hm] at c1 c2 CA LA PG PL h6;clear hm;go_enter Tryz.func101,Tryz.ntmps101;go_wp2_with fail
 go_loopw [3] (fun vk wx=>∃k:Nat,k<=m/\vk=.int .i64 ((k:Int)+1)/\wx=w/\∀j,j<k->Q.stt (D.pg.getD j Q.Pg.zero)≠1) (fun vk _=>m+1-(intOf vk).toNat)
 case atStart=>exact⟨0,Nat.zero_le _,rfl,rfl,fun j hj=>absurd hj (Nat.not_lt_zero _)⟩
 case round=>
  obtain⟨k,hk,rfl,rfl,hj⟩:=hrel;have HJ:=hide hj;clear hj;by_cases hlt:k<m
  · have dki:decide ((k:Int)+1<=(m:Int))=true:=decide_eq_true (by omega)
    have hki:(k:Int)+1<=(m:Int):=by omega
    have hs:(k:Int)+1-1=(k:Int):=by omega
    have hii:(k:Int)<(m:Int):=by omega
    obtain⟨g,eg,cA⟩:=CA.out k hlt;obtain⟨g2,eg2,lA⟩:=LA.out k hlt;have PK:=hide (PG.out k hlt);rw[eg] at c1;rw[eg2] at c2;obtain⟨x,hx⟩:∃x,D.C.getD k 0=x:=⟨_,rfl⟩;obtain⟨l,hl⟩:∃l,D.L.getD k false=l:=⟨_,rfl⟩;simp only[hx,hl] at cA lA PK;clear hx hl eg eg2;by_cases hx0:x=0
    · subst hx0;cases l with
      |false=>
       have FND:Hid (lowOf D.pg=(k:Int)+1):=by
        show _=_;obtain⟨T,hT⟩:=pagesOf_first (s:=1) (by rw[PL.out];exact hlt) (by rw[PK.out,stt_free];exact⟨rfl,rfl⟩) HJ.out
        unfold lowOf;rw[hT]
       go_wp2_with fail
       go_ret;rw[FND.out];exact⟨rfl,rfl⟩
      |true=>
       have NX:Hid (∀j,j<k+1->Q.stt (D.pg.getD j Q.Pg.zero)≠1):=fun j hj=>by
        by_cases e:j=k
        · rw[e,PK.out,ne_eq,stt_free];simp
        · exact HJ.out j (by omega)
       clear PK HJ;go_wp2_with fail
       go_roundw
       case rel=>exact⟨k+1,by omega,by go_num,trivial,NX.out⟩
       case measure=>simp[intOf];omega
    · have dx:(x==0)=false:=by simp[hx0]
      have NX:Hid (∀j,j<k+1->Q.stt (D.pg.getD j Q.Pg.zero)≠1):=fun j hj=>by
       by_cases e:j=k
       · rw[e,PK.out,ne_eq,stt_free];exact fun h=>hx0 h.1
       · exact HJ.out j (by omega)
      clear PK HJ hx0;go_wp2_with fail
      go_roundw
      case rel=>exact⟨k+1,by omega,by go_num,trivial,NX.out⟩
      case measure=>simp[intOf];omega
  · have hki:¬((k:Int)+1<=(m:Int)):=by omega
    have dki:decide ((k:Int)+1<=(m:Int))=false:=decide_eq_false hki
    have FND:Hid (lowOf D.pg=0):=by
     show _=_;unfold lowOf;rw[pagesOf_none (fun j hj=>HJ.out j (by rw[PL.out] at hj;omega))]
    go_wp2_with fail
    go_ret;rw[FND.out];exact⟨rfl,rfl⟩
end Go.Proofs.YtcpkinhneehomaaGreat
