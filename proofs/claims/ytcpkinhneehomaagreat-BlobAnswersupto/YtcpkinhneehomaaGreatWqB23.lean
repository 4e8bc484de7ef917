import Derived.Test.YtcpkinhneehomaaGreatWqB22
set_option linter.unusedVariables false
set_option linter.unusedSimpArgs false
set_option maxHeartbeats 8000000
set_option maxRecDepth 8000
namespace Go.Proofs.YtcpkinhneehomaaGreat
open Go.RowKit
variable {z:Int}{l:List Nat}{P:Q.Po}{S:Vs}
theorem state_one(h:P.state z=1):P.count z=0:=by
 unfold Q.Po.state at h;unfold Q.Po.count;split at h
 · rename_i hh;rw[if_pos hh];exact(stt_one h).1
 · cases h
theorem dec_ans(P:Q.Po)(z:Int):(P.dec z).1=if P.count z=0 then (0,15) else (P.count z-1,0):=by
 unfold Q.Po.dec;split<;>rfl
theorem dec_rf(P:Q.Po)(z:Int):(P.dec z).2.rf=P.rf:=by
 unfold Q.Po.dec;split<;>rfl
theorem dec_mark(P:Q.Po)(z:Int):(P.dec z).2.mark=P.mark+(if P.count z=0 then 0 else 1):=by
 unfold Q.Po.dec;split
 · rfl
 · simp[Q.Po.act,Q.Po.mark];omega
theorem dec_pg(P:Q.Po)(z:Int):(P.dec z).2.pg=if P.count z=0 then P.pg else P.pg.set (z.toNat-1) (P.count z-1,(P.pg.getD (z.toNat-1) Q.Pg.zero).2):=by
 unfold Q.Po.dec;split<;>rfl
theorem dec_count(P:Q.Po)(z y:Int):(P.dec z).2.count y=if y=z/\P.count z≠0 then P.count z-1 else P.count y:=by
 by_cases hc:P.count z=0
 · rw[if_neg (fun e=>e.2 hc)]
   unfold Q.Po.count Q.Po.has;rw[dec_pg,if_pos hc]
 · obtain⟨h1,h2⟩:=Q.Po.count_has hc;have e:=dec_pg P z;rw[if_neg hc] at e;rw[count_set (by omega) e y]
   by_cases hy:y=z
   · subst hy;rw[if_pos (by omega),if_pos ⟨rfl,hc⟩]
   · rw[if_neg (by omega),if_neg (fun e=>hy e.1)]
theorem Vm.less_on{X:Vm}{y:Int}(h:(X.less z).P.count y≠0):X.P.count y≠0/\(X.less z).on y=X.on y:=by
 rw[Vm.less_P,dec_count] at h;constructor
 · by_cases hy:y=z/\X.P.count z≠0
   · rw[hy.1];exact hy.2
   · rw[if_neg hy] at h;exact h
 · unfold Vm.less;split
   · rename_i hc
     have ne:y≠z:=fun e=>by
      have k:=state_one hc.2;rw[dec_count] at k;subst e;by_cases hq:X.P.count y=0
      · rw[if_neg (fun q=>q.2 hq)] at h;exact h hq
      · rw[if_pos ⟨rfl,hq⟩] at h k;exact h k
     unfold Vm.on;simp[fput,ne]
   · rfl
theorem makeS_ok{i:Nat}{nx:Int}{q:Pv}(hi:480*i<l.length)(h0:0<=nx)(h1:nx<=65536)(hr:(S.makeR (mkp l i nx)).2=0):S.makeR (mkp l i nx)=S.X.P.alloc.1/\S.X.P.alloc.1.2=0/\S.makeS (mkp l i nx) q=⟨S.X.allocd.lay S.X.P.alloc.1.1 q,S.al++[(S.X.P.mark,S.X.ch.length)],S.fl⟩:=by
 have hc:=mkp_check (l:=l) (i:=i) (nx:=nx) hi h0 h1;have eR:S.makeR (mkp l i nx)=S.X.P.alloc.1:=by unfold Vs.makeR;rw[if_pos hc]
 rw[eR] at hr;refine⟨eR,hr,?_⟩;unfold Vs.makeS;rw[if_pos hc,hr];unfold Vs.done;simp
theorem makeS_al(S:Vs)(p:Pg)(q:Pv):(S.makeS p q).al.length<=S.al.length+1/\((S.makeS p q).al.length=S.al.length+1->(S.makeR p).2=0):=by
 unfold Vs.makeS Vs.makeR Vs.done;split
 · split
   · rename_i e;exact⟨by simp,fun _=>e⟩
   · exact⟨by simp,fun e=>by simp at e⟩
 · exact⟨by simp,fun e=>by simp at e⟩
theorem spr_al{l:List Nat}{k:Nat}{S0:Vs}:∀(m:Nat)(S:Vs)(nx:Int),Spr l k S0 m S nx->S.al.length<=S0.al.length+m
 |0,S,nx,h=>by rw[h.1];exact Nat.le_refl _
 |m+1,S,nx,⟨S1,n1,q,h,_,_,e⟩=>by
  have:=spr_al m S1 n1 h;have:=(makeS_al S1 (mkp l (k-1-m) n1) q).1;rw[e];omega
theorem alloc_Ok(h:P.Ok)(h0:P.alloc.1.2=0):P.alloc.2.Ok:=by
 unfold Q.Po.alloc at h0 ⊢;split at h0
 · cases h0
 · rename_i n T hp;have hn:n∈Q.pagesOf P.pg 1:=by rw[hp];exact List.mem_cons_self
   unfold Q.pagesOf at hn;obtain⟨i,hi,e⟩:=List.mem_map.1 hn;have hl:=List.mem_range.1 (List.mem_filter.1 hi).1;have:=h.r1;exact h.act (by omega) (by omega) ⟨by omega,by omega⟩
theorem spr_step{l:List Nat}{k:Nat}{S0:Vs}(h0:S0.X.P.Ok)(hl:480*(k-1)<l.length):∀(m:Nat)(S:Vs)(nx:Int),Spr l k S0 m S nx->S.al.length=S0.al.length+m->Spo l k S0 m S nx/\S.X.P.Ok/\∀m',m=m'+1->∃(S1:Vs)(n1:Int)(q:Pv),Spo l k S0 m' S1 n1/\S1.X.P.Ok/\q.pg=mkp l (k-1-m') n1/\(S1.makeR (mkp l (k-1-m') n1)).2=0/\nx=(S1.makeR (mkp l (k-1-m') n1)).1/\S=S1.makeS (mkp l (k-1-m') n1) q
 |0,S,nx,h,_=>by
  obtain⟨rfl,rfl⟩:=h;exact⟨Spo.zero,h0,fun m' e=>by omega⟩
 |m+1,S,nx,h,ha=>by
  obtain⟨S1,n1,q,hs,hq,hn,hS⟩:=h;have a1:=spr_al m S1 n1 hs;obtain⟨a2,a3⟩:=makeS_al S1 (mkp l (k-1-m) n1) q;rw[<-hS] at a2 a3;have hr:=a3 (by omega)
  obtain⟨o,ok,_⟩:=spr_step h0 hl m S1 n1 hs (by omega)
  have hi:480*(k-1-m)<l.length:=by omega
  have st:=o.step ok hq hi hr;rw[<-hS,<-hn] at st;obtain⟨_,k1,k2⟩:=makeS_ok (q:=q) hi o.nx.1 o.nx.2 hr;refine⟨st,?_,fun m' e=>?_⟩
  · rw[hS,k2];exact alloc_Ok ok k1
  · obtain rfl:m=m':=by omega
    exact⟨S1,n1,q,o,ok,hq,hr,hn,hS⟩
theorem sum_le'{α:Type}(g:α->Nat)(B:Nat):∀L:List α,(∀x∈L,g x<=B)->(L.map g).sum<=L.length*B
 | [],_=>by simp
 |x::T,h=>by
  have h1:=h x List.mem_cons_self;have h2:=sum_le' g B T (fun y hy=>h y (List.mem_cons_of_mem _ hy))
  simp only[List.map_cons,List.sum_cons,List.length_cons,Nat.succ_mul];omega
theorem tot_le(h:P.Ok):tot P<=P.pg.length*P.rf.toNat:=sum_le' _ _ _ (fun x hx=>by have:=h.cs x hx;show x.1.toNat<=_;omega)
theorem spo_err{k:Nat}{m:Nat}{S1:Vs}{n1 er:Int}(h:Spo l k S m S1 n1)(hi:480*(k-1-m)<l.length)(e:(S1.makeR (mkp l (k-1-m) n1)).2=er)(hne:er≠0):er=12/\(S.X.P.pages 1).length=m:=by
 have hc:=mkp_check (l:=l) (i:=k-1-m) (nx:=n1) hi h.nx.1 h.nx.2;have eR:S1.makeR (mkp l (k-1-m) n1)=S1.X.P.alloc.1:=by unfold Vs.makeR;rw[if_pos hc]
 rw[eR] at e;obtain⟨a,b⟩:=alloc_no (P:=S1.X.P) (by rw[e];exact hne)
 have:=h.fr;exact⟨by rw[<-e];exact a,by omega⟩
def kp(l:List Nat):Nat:=(l.length-1)/480+1
theorem Release_short(w:World)(v:Value)(x:Iv)(h:x.size<=32):Calls Tryz.prog 139 #[v,x.vl] w fun e w'=>e=.returned (.int .i64 0)/\Below w.heap.size w w':=by
 have A0:=hide (al w (.cells x.cs 51));have X0:=hide (heap_alloc_new w (.cells x.cs 51));obtain⟨xK,xcK,xkey,xV,xcV,xval,xch,xsz⟩:=x;simp only at h;unfold Iv.vl;simp only[Iv.cs] at A0 X0 ⊢;have d3:decide (xsz<=(32:Int))=true:=decide_eq_true (by omega)
 obtain⟨x0,x1,x2,x3⟩:=four13 X0.out;go_enter Tryz.func139,Tryz.ntmps139;go_wp2_with fail
 go_ret;exact⟨rfl,A0.out⟩
theorem Release_long(w:World)(b:Nat)(S:Vs)(pb mb:Nat)(pc col:Nat->Nat)(h:Vw w b S pb mb pc col)(x:Iv)(hx:32<x.size)(t:Nat)(ht:tot S.X.P<t)(hm:S.X.P.mark+tot S.X.P+1<=17592186044416)(hc:S.X.ch.length+tot S.X.P+1<=1759218604441)(hl:S.al.length+1<=8796093022208):
 Calls Tryz.prog 139 #[.pointer (some ⟨b,0,none⟩),x.vl] w fun e w'=>e=.returned (.int .i64 (dropM t S.X x.child).1)/\∃pc' col',Vw w' b (S.done (dropM t S.X x.child).1 (dropM t S.X x.child).2) pb mb pc' col'/\Vf w col w' col':=by
 have A0:=hide (al w (.cells x.cs 51));have X0:=hide (heap_alloc_new w (.cells x.cs 51));have DR:=hide (Drop_any (w.alloc (.cells x.cs 51)) b S pb mb pc col (h.keep A0.out) x.child t ht hm hc hl);obtain⟨r,hr⟩:∃r,dropM t S.X x.child=r:=⟨_,rfl⟩;rw[hr] at DR ⊢;obtain⟨e,X1⟩:=r;simp only at DR ⊢;obtain⟨S2,hS2⟩:∃S2,S.done e X1=S2:=⟨_,rfl⟩;rw[hS2] at DR ⊢;clear h ht hm hc hl hr hS2;obtain⟨xK,xcK,xkey,xV,xcV,xval,xch,xsz⟩:=x;simp only at hx;unfold Iv.vl;simp only[Iv.cs] at A0 X0 DR ⊢;have d3:decide (xsz<=(32:Int))=false:=decide_eq_false (by omega)
 obtain⟨x0,x1,x2,x3⟩:=four13 X0.out;go_enter Tryz.func139,Tryz.ntmps139;go_wp2_with fail
 refine DR.out.mono ?_;rintro _ w3 ⟨rfl,pc3,col3,v3,f3⟩;have V3:=hide v3;have F3:=hide ((Vf.keep A0.out).trans f3);clear v3 f3;go_wp2_with fail
 go_ret;exact⟨rfl,pc3,col3,V3.out,F3.out⟩
end Go.Proofs.YtcpkinhneehomaaGreat
namespace Go.Proofs.YtcpkinhneehomaaGreat.Q
open Go.RowKit Go.Shelf
attribute [local go_sem] Oper.semAt_some
variable {L:List Int}{n:Nat}{P:Po}
def fil(L:List Int)(n:Nat):List Int:=L++List.replicate (n-L.length) 0
theorem fil_length(h:L.length<=n):(fil L n).length=n:=by unfold fil;rw[List.length_append,List.length_replicate];omega
theorem fil_set(h:L.length<n)(x:Int):(fil L n).set L.length x=fil (L++[x]) n:=by
 unfold fil;rw[List.set_append_right _ _ (Nat.le_refl _),Nat.sub_self];obtain⟨m,hm⟩:∃m,n-L.length=m+1:=⟨n-L.length-1,by omega⟩
 rw[hm,List.replicate_succ,List.set_cons_zero,List.length_append,List.length_singleton,show n-(L.length+1)=m by omega,List.append_assoc]
 rfl
theorem counts_snoc{i:Nat}(h:i<P.pg.length):(P.counts.take (i+1))=P.counts.take i++[(P.pg.getD i Pg.zero).1]:=by
 have hl:i<P.counts.length:=by unfold Po.counts;rw[List.length_map];exact h
 rw[take_next P.counts 0 hl];congr 2
 unfold Po.counts;simp[h]
theorem Counts_any(w:World)(b:Nat)(P:Po)(col:Nat->Nat)(h:Pl w b P col):Calls Tryz.prog 26 #[.pointer (some ⟨b,0,none⟩)] w fun e w'=>∃a c,e=.returned (.slice a P.counts.length c)/\IOwn w w' a c P.counts:=by
 obtain⟨D,h⟩:=h;have h2:=h.ok.l2;have HQ:=hide h.q;obtain⟨n,hn⟩:∃n,P.pg.length=n:=⟨_,rfl⟩;have HN:=hide hn;have c1:=h.q.c1;rw[hn] at c1 h2;have hcl:P.counts.length=n:=by unfold Po.counts;rw[List.length_map];exact hn
 rw[hcl];have HCL:=hide hcl;have hmk:=make_int n (by omega) w
 rw[made_ints] at hmk;have aw:=al w (.cells (vi (List.replicate n 0)).toArray 3)
 have G0:=hide (show Ig (w.alloc (.cells (vi (List.replicate n 0)).toArray 3)) (some ⟨w.heap.size,0,none⟩) n (fil [] n) by
  have e:fil [] n=List.replicate n 0:=by unfold fil;simp
  rw[e];exact Ig.mk (World.alloc_heap_new w _) (by simp) (by unfold maxLen;omega) (by simp[vi]) (by simp[vi]))
 have AW:=hide aw;have ca:(w.alloc (.cells (vi (List.replicate n 0)).toArray 3)).cell? ⟨b,1,none⟩=_:=(aw.cell (p:=⟨b,1,none⟩) (block_lt_of_cell c1)).trans c1;clear h hn hcl aw;go_enter Tryz.func26,Tryz.ntmps26;go_wp2_with fail
 generalize w.alloc (.cells (vi (List.replicate n 0)).toArray 3)=W1 at *;go_loopw [17] (fun i wr=>∃k:Nat,k<=n/\i=.int .i64 (k:Int)/\Ig wr (some ⟨w.heap.size,0,none⟩) n (fil (P.counts.take k) n)/\Below w.heap.size w wr) (fun i _=>n-(intOf i).toNat)
 case atStart=>exact⟨0,Nat.zero_le _,rfl,G0.out,AW.out⟩
 case round=>
  obtain⟨i,hi,rfl,hg,hb⟩:=hrel;have HG:=hide hg;have HB:=hide hb;clear hg hb G0 AW;by_cases hlt:i<n
  · have hil:i<P.pg.length:=by rw[HN.out];exact hlt
    obtain⟨d1,d2⟩:=(HQ.out.keep HB.out).pgAt hil;have SN:=hide (counts_snoc hil);obtain⟨x,hx⟩:∃x,P.pg.getD i Pg.zero=x:=⟨_,rfl⟩;rw[hx] at d1 d2 SN;obtain⟨x0,x1⟩:=x;simp only at d1 d2 SN;have tl:(P.counts.take i).length=i:=by rw[List.length_take,HCL.out];omega
    have hiI:(i:Int)<(n:Int):=by omega
    have aw:=al wr (.cells #[.int .i64 x0,.bool x1] 133);have g1:=HG.out.keep aw;have cg:(wr.alloc (.cells #[.int .i64 x0,.bool x1] 133)).cell? ⟨w.heap.size,i,none⟩=_:=g1.cell (i:=i) (by rw[fil_length (by rw[tl];exact hi)];exact hlt)
    have fg:(wr.alloc (.cells #[.int .i64 x0,.bool x1] 133)).frozen? ⟨w.heap.size,i,none⟩=false:=by
     rcases g1.cases with⟨h0,_⟩|⟨g',cur,h0,hg,_⟩
     · cases h0
     · cases h0;simp[World.frozen?,hg]
    have hws:w.heap.size<wr.heap.size:=HG.out.lt rfl
    have G2:=hide (show Ig ((wr.setCell ⟨w.heap.size,i,none⟩ (.int .i64 x0)).alloc (.cells #[.int .i64 x0,.bool x1] 133)) (some ⟨w.heap.size,0,none⟩) n (fil (P.counts.take (i+1)) n) by
     have s:=HG.out.set i x0;have f:=fil_set (L:=P.counts.take i) (n:=n) (by rw[tl];exact hlt) x0
     rw[tl] at f;rw[f,<-SN.out] at s;exact s.keep (al _ _))
    have B2:=hide (show Below w.heap.size w ((wr.setCell ⟨w.heap.size,i,none⟩ (.int .i64 x0)).alloc (.cells #[.int .i64 x0,.bool x1] 133)) from bt ((But.setCell (S:=fun _=>False) (But.ofBelow HB.out) (p:=⟨w.heap.size,i,none⟩) (fun h=>by have h:w.heap.size<w.heap.size:=h;omega) _).below (fun _ _ h=>h)) (al _ _))
    clear hx aw g1 tl;go_wp2;go_roundw
    case rel=>exact⟨i+1,by omega,by go_num,G2.out,B2.out⟩
    case measure=>simp[intOf];omega
  · obtain rfl:i=n:=by omega
    go_wp2;go_ret;refine⟨_,_,rfl,?_,fun x hx=>.inr (by cases hx;exact Nat.le_refl _),HB.out⟩
    have g:=HG.out;rw[show P.counts.take i=P.counts by rw[<-HCL.out,List.take_length]] at g
    have e:fil P.counts i=P.counts:=by unfold fil;rw[HCL.out,Nat.sub_self];simp
    rwa [e] at g
theorem nil_seqF(w:World):SeqF Tryz.prog 151 #[] enI [] w (fun _=>False):=by
 intro l J Jx W F0 hW hS aJ sJ hY h0;refine callsIn_of_wp Tryz.func151 rfl trivial ?_ rfl;simp only[Tryz.ntmps151,List.size_toArray,List.length_cons,List.length_nil,Nat.reduceAdd,Nat.reduceSub,Array.replicate_succ,Array.replicate_zero,List.push_toArray,List.append_toArray,List.nil_append,List.cons_append];gi_wp2
 go_end0
 exact⟨⟨_,rfl⟩,But.refl _ _,F0,fun k hk=>.inl hk,.inl h0⟩
structure Wlk(w w':World)(gf:Nat)(lb:Array Value)(xs:List Int)(X:Nat->Prop):Prop where
 seq:SeqF Tryz.prog gf lb enI xs w' X
 en:∀args w,(callFunc gf args).run Tryz.prog w=.ok (.enter gf args) w
 nw:∀k,X k->w.heap.size<=k/\k<w'.heap.size
 bl:Below w.heap.size w w'
theorem Pm.rn{w:World}{b:Nat}{col:Nat->Nat}{D:Pd}(h:Pm w b P col D){s:Nat}(hs:s<5):∀r∈D.L s,r.1<=r.2/\Nm r.1/\Nm r.2:=fun r hr=>⟨(h.q.set s hs).can.1 r hr,(h.q.set s hs).bnd r hr⟩
theorem Pages_any(w:World)(b:Nat)(P:Po)(col:Nat->Nat)(h:Pl w b P col)(z:Int):Calls Tryz.prog 115 #[.pointer (some ⟨b,0,none⟩),.int .i64 z] w fun e w'=>∃gf lb X,e=.returned (.func (.func gf) #[] lb)/\Wlk w w' gf lb (P.pages z) X:=by
 obtain⟨D,h⟩:=h;have C:=hide (isState_any w z);unfold Po.pages;by_cases h1:1<=z/\z<=4
 · rw[if_pos h1];rw[decide_eq_true h1.1,decide_eq_true h1.2] at C;obtain⟨s,rfl⟩:∃s:Nat,z=(s:Int):=⟨z.toNat,by omega⟩
   rw[Int.toNat_natCast];have ci:=h.q.cin (s:=s) (by omega)
   have np:=nums_pages (h.q.set s (by omega)).can (h.mem s (by omega))
   have AL:=hide (All_any w (D.s s) (D.a s) (D.c s) (D.L s) (h.q.set s (by omega)))
   have RN:=hide (h.rn (s:=s) (by omega))
   have FE:=hide (h.few (s:=s) (by omega))
   rw[<-np];clear h np;simp only[Bool.and_self] at C;go_enter Tryz.func115,Tryz.ntmps115;go_wp2_with fail
   refine C.out.mono ?_;rintro _ wq ⟨rfl,hwq⟩;obtain rfl:=hwq.symm;go_wp2_with fail
   refine AL.out.mono ?_;rintro _ w1 ⟨E,g,rfl,hE,hg,hcE,hV,hgl,hb⟩
   have HW:=hide (show Wlk w w1 170 #[.pointer (some ⟨E,0,none⟩)] (nums (D.L s)) _ from⟨all_seqF w1 E (some ⟨g,0,none⟩) (D.L s).length (D.L s) hcE hV (by have:=FE.out;omega) RN.out,enters_of Tryz.func170 (by kernel_rfl) rfl,fun k hk=>by
    rcases hk with rfl|⟨x,hx,rfl⟩
    · exact⟨hE,block_lt_of_cell hcE⟩
    · cases hx;exact⟨hg,hgl⟩,hb⟩)
   clear hE hg hcE hV hgl hb;go_wp2;go_ret;exact⟨_,_,_,rfl,HW.out⟩
 · rw[if_neg h1]
   have e:(decide (1<=z)&&decide (z<=4))=false:=by
    by_cases a:1<=z
    · rw[decide_eq_false (show ¬z<=4 by omega)];simp
    · rw[decide_eq_false a];simp
   rw[e] at C;clear h h1 e;go_enter Tryz.func115,Tryz.ntmps115;go_wp2_with fail
   refine C.out.mono ?_;rintro _ wq ⟨rfl,hwq⟩;obtain rfl:=hwq.symm;go_wp2;go_ret;exact⟨_,_,_,rfl,nil_seqF w,enters_of Tryz.func151 (by kernel_rfl) rfl,fun k hk=>hk.elim,Below.refl _ _⟩
end Go.Proofs.YtcpkinhneehomaaGreat.Q
namespace Go.Proofs.YtcpkinhneehomaaGreat
open Go.RowKit
variable {z:Int}{i rb:Nat}{col:Nat->Nat}{w w':World}
structure Rd where
 R:Int
 aC:Option Addr
 cC:Nat
 C:List Int
 aL:Option Addr
 cL:Nat
 L:List Bool
 aP:Option Addr
 cP:Nat
 P:List Pv
 aA:Option Addr
 nA:Nat
 cA:Nat
 fl:Int
 hush:Bool
def Rd.box(D:Rd):Array Value:=#[.int .i64 D.R,.slice D.aC D.C.length D.cC,.slice D.aL D.L.length D.cL,.slice D.aP D.P.length D.cP,.slice D.aA D.nA D.cA,.int .i64 D.fl,.bool D.hush]
def vbl(L:List Bool):List Value:=L.map Value.bool
def vpg(P:List Pv):List Value:=(P.map fun p=>p.cs.toList).flatten
theorem vpg_length:∀(L:List Pv),(vpg L).length=L.length*5
 | []=>rfl
 |x::L=>by
  have:=vpg_length L;simp only[vpg,List.map_cons,List.flatten_cons,List.length_append,List.length_cons,Pv.cs] at this ⊢;simp only[List.length_nil] at this ⊢;omega
theorem vpg_get:∀(L:List Pv)(i k:Nat),i<L.length->k<5->(vpg L)[i*5+k]?=(L.getD i Pv.zero).cs.toList[k]?
 | [],i,k,h,_=>absurd h (Nat.not_lt_zero _)
 |x::L,0,k,h,hk=>by
  have hl:x.cs.toList.length=5:=rfl;simp only[vpg,List.map_cons,List.flatten_cons,Nat.zero_mul,Nat.zero_add];rw[List.getElem?_append_left (by omega)]
  rfl
 |x::L,i+1,k,h,hk=>by
  have hl:x.cs.toList.length=5:=rfl;have ih:=vpg_get L i k (by simpa using h) hk
  simp only[vpg,List.map_cons,List.flatten_cons] at ih ⊢;rw[List.getElem?_append_right (by omega),hl,show(i+1)*5+k-5=i*5+k by omega,ih]
  rfl
structure Rq(w:World)(rb:Nat)(D:Rd)(col:Nat->Nat):Prop where
 box:w.heap[rb]?=some (.cells D.box 99 (0,0))
 cr:Q.Ig w D.aC D.cC D.C
 lr:Q.Gw 4 1 w D.aL D.cL D.L.length (vbl D.L)
 pr:Q.Gw 31 5 w D.aP D.cP D.P.length (vpg D.P)
 pz:∀p∈D.P,Pz (fun k=>col k=6) w p
 ps:∀p∈D.P,p.pg.check=0\/p=Pv.zero
 cb:col rb=1
 cc:∀x,D.aC=some x->col x.block=2
 cl:∀x,D.aL=some x->col x.block=3
 cp:∀x,D.aP=some x->col x.block=4
 lt:∀k,col k≠0->k<w.heap.size
 nL:D.L.length=D.C.length
 nP:D.P.length=D.C.length
 n6:D.C.length<=65536
theorem Rq.but{S:Nat->Prop}{D:Rd}(h:Rq w rb D col)(hb:But S w w')(hn:∀k,col k≠0->¬S k):Rq w' rb D col:=by
 have nz:∀{k c:Nat},col k=c+1->¬S k:=fun e=>hn _ (by omega)
 exact⟨hb.same h.box (nz (c:=0) h.cb),h.cr.but hb (fun x hx=>nz (c:=1) (h.cc x hx)),h.lr.but hb (fun x hx=>nz (c:=2) (h.cl x hx)),h.pr.but hb (fun x hx=>nz (c:=3) (h.cp x hx)),fun p hp=>(h.pz p hp).but hb (fun k _ e=>nz (c:=5) e),h.ps,h.cb,h.cc,h.cl,h.cp,fun k hk=>Nat.lt_of_lt_of_le (h.lt k hk) hb.size,h.nL,h.nP,h.n6⟩
theorem Rq.keep{D:Rd}(h:Rq w rb D col)(hb:Below w.heap.size w w'):Rq w' rb D col:=h.but (S:=fun _=>False) (But.ofBelow hb) (fun _ _ h=>h)
theorem Rq.lb{D:Rd}(h:Rq w rb D col):rb<w.heap.size:=(Array.getElem?_eq_some_iff.1 h.box).1
theorem Rq.cells{D:Rd}(h:Rq w rb D col):w.cell? ⟨rb,0,none⟩=some (.int .i64 D.R)/\w.cell? ⟨rb,1,none⟩=some (.slice D.aC D.C.length D.cC)/\w.cell? ⟨rb,2,none⟩=some (.slice D.aL D.L.length D.cL)/\w.cell? ⟨rb,3,none⟩=some (.slice D.aP D.P.length D.cP)/\w.cell? ⟨rb,6,none⟩=some (.bool D.hush):=by
 rw[cell_of_row _ _ _ _ _ _ h.box,cell_of_row _ _ _ _ _ _ h.box,cell_of_row _ _ _ _ _ _ h.box,cell_of_row _ _ _ _ _ _ h.box,cell_of_row _ _ _ _ _ _ h.box];exact⟨rfl,rfl,rfl,rfl,rfl⟩
def Rd.has(D:Rd)(z:Int):Bool:=decide (1<=z)&&decide (z<=D.C.length)
def Rd.count(D:Rd)(z:Int):Int:=if D.has z then D.C.getD (z-1).toNat 0 else 0
def Rd.lasts(D:Rd)(z:Int):Bool:=D.L.getD (z-1).toNat false
def Rd.on(D:Rd)(z:Int):Pv:=D.P.getD (z-1).toNat Pv.zero
def Rd.state(D:Rd)(z:Int):Nat:=if D.has z then Q.stt (D.C.getD (z-1).toNat 0,D.lasts z) else 0
theorem Rd.has_iff{D:Rd}:D.has z=true↔1<=z/\z<=D.C.length:=by unfold Rd.has;simp
theorem Rq.cAt{D:Rd}(h:Rq w rb D col)(hi:i<D.C.length):∃g,D.aC=some ⟨g,0,none⟩/\w.cell? ⟨g,i,none⟩=some (.int .i64 (D.C.getD i 0)):=by
 rcases h.cr.cases with⟨_,_,e⟩|⟨g,cur,e,_⟩
 · rw[e] at hi;exact absurd hi (Nat.not_lt_zero _)
 · refine⟨g,e,?_⟩;have k:=h.cr;rw[e] at k;exact k.cell hi
theorem Rq.lAt{D:Rd}(h:Rq w rb D col)(hi:i<D.C.length):∃g,D.aL=some ⟨g,0,none⟩/\w.cell? ⟨g,i,none⟩=some (.bool (D.L.getD i false)):=by
 have hl:i<D.L.length:=by rw[h.nL];exact hi
 obtain⟨g,e⟩:=h.lr.addr (by omega)
 refine⟨g,e,?_⟩;have k:=h.lr;rw[e] at k;exact k.cell (by simp[vbl,hl])
theorem Rq.pAt{D:Rd}(h:Rq w rb D col)(hi:i<D.C.length):∃g,D.aP=some ⟨g,0,none⟩/\∀k u,k<5->(D.P.getD i Pv.zero).cs.toList[k]?=some u->w.cell? ⟨g,i*5+k,none⟩=some u:=by
 have hl:i<D.P.length:=by rw[h.nP];exact hi
 obtain⟨g,e⟩:=h.pr.addr (by omega)
 refine⟨g,e,fun k u hk hu=>?_⟩
 have r:=h.pr;rw[e] at r;exact r.cell (by rw[vpg_get D.P i k hl hk];exact hu)
theorem Rd.on_mem{D:Rd}(h:Rq w rb D col)(hz:D.has z=true):D.on z∈D.P:=by
 obtain⟨h1,h2⟩:=Rd.has_iff.1 hz;have:(z-1).toNat<D.P.length:=by rw[h.nP];omega
 unfold Rd.on;generalize (z-1).toNat=k at this;simp[this]
theorem sml_ps{p:Pv}(h:p.pg.check=0\/p=Pv.zero):Sml p/\p.items.length<=1048576:=by
 rcases h with h|rfl
 · obtain⟨h1,h2,h3,h4⟩:=Pg.check_zero.1 h;unfold Pg.form at h2;have hi:p.pg.items.length=p.items.length:=List.length_map _;have hdat:p.pg.data=p.data:=rfl
   have hil:p.items.length<=8/\p.data.length<=480:=by
    rw[hi,hdat] at h2;split at h2
    · simp only[Bool.and_eq_true,decide_eq_true_eq] at h2;omega
    · simp only[Bool.and_eq_true,decide_eq_true_eq] at h2;omega
   refine⟨⟨by omega,fun x hx=>?_⟩,by omega⟩
   obtain⟨i,hl,e⟩:=List.getElem_of_mem hx
   have hat:p.pg.at i=x.it:=by
    unfold Pg.at;show(p.items.map Iv.it).getD i It.zero=x.it;simp[List.getD_eq_getElem?_getD,hl,e]
   have k:=h3 i (by rw[hi];exact hl)
   unfold Pg.itemE at k
   have a1:p.pg.keyOk i=true:=by
    cases e:p.pg.keyOk i with
    |true=>rfl
    |false=>rw[if_pos e] at k;cases k
   rw[if_neg (by rw[a1];decide)] at k
   have a2:p.pg.ordOk i=true:=by
    cases e:p.pg.ordOk i with
    |true=>rfl
    |false=>rw[if_pos e] at k;cases k
   rw[if_neg (by rw[a2];decide)] at k
   have a3:(p.pg.at i).valOk p.pg.kind=true:=by
    cases e:(p.pg.at i).valOk p.pg.kind with
    |true=>rfl
    |false=>rw[if_pos e] at k;cases k
   rw[hat] at a3;unfold Pg.keyOk at a1;rw[hat] at a1;unfold It.valOk at a3;have e1:x.it.key=x.key:=rfl;have e2:x.it.val=x.val:=rfl;rw[e1] at a1;rw[e2] at a3;constructor
   · split at a1
     · simp at a1;rw[a1];exact Nat.zero_le _
     · simp only[Bool.and_eq_true,decide_eq_true_eq] at a1;omega
   · split at a3
     · simp only[Bool.and_eq_true,decide_eq_true_eq] at a3;omega
     · split at a3
       · cases a3
       · split at a3
         · simp only[decide_eq_true_eq] at a3;omega
         · simp only[decide_eq_true_eq] at a3;omega
 · exact⟨⟨Nat.zero_le _,fun x hx=>absurd hx (List.not_mem_nil)⟩,Nat.zero_le _⟩
theorem refsAre_any(w:World)(r:Int):Calls Tryz.prog 91 #[.int .i64 r] w fun e w'=>e=.returned (.bool (decide (2<=r)&&decide (r<65536)))/\w'=w:=by
 by_cases h:2<=r
 · go_enter Tryz.func91,Tryz.ntmps91;go_wp2;go_ret;exact⟨by simp[h],rfl⟩
 · go_enter Tryz.func91,Tryz.ntmps91;go_wp2;go_ret;exact⟨by rw[decide_eq_false (show ¬(2<=r) by omega)];rfl,rfl⟩
theorem rIs_any(w:World)(rb:Nat)(D:Rd)(col:Nat->Nat)(h:Rq w rb D col)(n:Int):Calls Tryz.prog 111 #[.pointer (some ⟨rb,0,none⟩),.int .i64 n] w fun e w'=>e=.returned (.bool (D.has n))/\w'=w:=by
 obtain⟨c0,c1,c2,c3,c6⟩:=h.cells;unfold Rd.has;generalize D.C.length=m at *;by_cases h1:1<=n
 · go_enter Tryz.func111,Tryz.ntmps111;go_wp2;go_ret;exact⟨by simp[h1],rfl⟩
 · go_enter Tryz.func111,Tryz.ntmps111;go_wp2;go_ret;exact⟨by rw[decide_eq_false (show ¬(1<=n) by omega)];rfl,rfl⟩
theorem rThere_any(w:World)(rb:Nat)(D:Rd)(col:Nat->Nat)(h:Rq w rb D col)(n:Int):Calls Tryz.prog 67 #[.pointer (some ⟨rb,0,none⟩),.int .i64 n] w fun e w'=>e=.returned (.bool (decide (0<D.count n)))/\w'=w:=by
 obtain⟨c0,c1,c2,c3,c6⟩:=h.cells;have IS:=hide (rIs_any w rb D col h n);by_cases hh:D.has n=true
 · obtain⟨h1,h2⟩:=Rd.has_iff.1 hh;obtain⟨i,hi⟩:∃i:Nat,n=(i:Int)+1:=⟨(n-1).toNat,by omega⟩
   subst hi;have hi:i<D.C.length:=by omega
   obtain⟨g,e,cA⟩:=h.cAt hi;have hc:D.count ((i:Int)+1)=D.C.getD i 0:=by unfold Rd.count;rw[if_pos hh];simp
   rw[hc];rw[hh] at IS;rw[e] at c1;have hs:(i:Int)+1-1=(i:Int):=by omega
   have hii:(i:Int)<(D.C.length:Int):=by omega
   have h6:=h.n6;clear h hc hh;generalize D.C.length=m at *;generalize D.C.getD i 0=x at *;go_enter Tryz.func67,Tryz.ntmps67;go_wp2_with fail
   refine IS.out.mono ?_;rintro _ wq ⟨rfl,hwq⟩;obtain rfl:=hwq.symm;go_wp2;go_ret;exact⟨rfl,rfl⟩
 · have hh2:D.has n=false:=by simpa using hh
   have hc:D.count n=0:=by unfold Rd.count;rw[if_neg hh]
   rw[hc];rw[hh2] at IS;clear h hc hh hh2;go_enter Tryz.func67,Tryz.ntmps67;go_wp2_with fail
   refine IS.out.mono ?_;rintro _ wq ⟨rfl,hwq⟩;obtain rfl:=hwq.symm;go_wp2;go_ret;exact⟨rfl,rfl⟩
theorem rLen_any(w:World)(rb:Nat)(D:Rd)(col:Nat->Nat)(h:Rq w rb D col):Calls Tryz.prog 89 #[.pointer (some ⟨rb,0,none⟩)] w fun e w'=>e=.returned (.int .i64 ((D.C.length:Nat):Int))/\w'=w:=by
 obtain⟨c0,c1,c2,c3,c6⟩:=h.cells;generalize D.C.length=m at *;go_enter Tryz.func89,Tryz.ntmps89;go_wp2;go_ret;exact⟨rfl,rfl⟩
theorem rState_any(w:World)(rb:Nat)(D:Rd)(col:Nat->Nat)(h:Rq w rb D col)(n:Int):Calls Tryz.prog 48 #[.pointer (some ⟨rb,0,none⟩),.int .i64 n] w fun e w'=>e=.returned (.int .i64 ((D.state n:Nat):Int))/\w'=w:=by
 obtain⟨c0,c1,c2,c3,c6⟩:=h.cells;have IS:=hide (rIs_any w rb D col h n);by_cases hh:D.has n=true
 · obtain⟨h1,h2⟩:=Rd.has_iff.1 hh;obtain⟨i,hi⟩:∃i:Nat,n=(i:Int)+1:=⟨(n-1).toNat,by omega⟩
   subst hi;have hi:i<D.C.length:=by omega
   obtain⟨g,e,cA⟩:=h.cAt hi;obtain⟨g2,e2,cB⟩:=h.lAt hi;have hc:D.state ((i:Int)+1)=Q.stt (D.C.getD i 0,D.L.getD i false):=by unfold Rd.state Rd.lasts;rw[if_pos hh];simp
   rw[hc];rw[hh] at IS;rw[e] at c1;rw[e2,h.nL] at c2;have hs:(i:Int)+1-1=(i:Int):=by omega
   have hii:(i:Int)<(D.C.length:Int):=by omega
   have h6:=h.n6;clear h hc hh e e2;generalize D.C.length=m at *;generalize D.C.getD i 0=x at *;generalize D.L.getD i false=y at *;unfold Q.stt;by_cases hx:x=0
   · subst hx;cases y
     · go_enter Tryz.func48,Tryz.ntmps48;go_wp2_with fail
       refine IS.out.mono ?_;rintro _ wq ⟨rfl,hwq⟩;obtain rfl:=hwq.symm;go_wp2;go_ret;exact⟨rfl,rfl⟩
     · go_enter Tryz.func48,Tryz.ntmps48;go_wp2_with fail
       refine IS.out.mono ?_;rintro _ wq ⟨rfl,hwq⟩;obtain rfl:=hwq.symm;go_wp2;go_ret;exact⟨rfl,rfl⟩
   · have ex:(x==0)=false:=by simpa using hx
     simp only[if_neg hx];clear hx;cases y
     · go_enter Tryz.func48,Tryz.ntmps48;go_wp2_with fail
       refine IS.out.mono ?_;rintro _ wq ⟨rfl,hwq⟩;obtain rfl:=hwq.symm;go_wp2;go_ret;exact⟨rfl,rfl⟩
     · go_enter Tryz.func48,Tryz.ntmps48;go_wp2_with fail
       refine IS.out.mono ?_;rintro _ wq ⟨rfl,hwq⟩;obtain rfl:=hwq.symm;go_wp2;go_ret;exact⟨rfl,rfl⟩
 · have hh2:D.has n=false:=by simpa using hh
   have hc:D.state n=0:=by unfold Rd.state;rw[if_neg hh]
   rw[hc];rw[hh2] at IS;clear h hc hh hh2;go_enter Tryz.func48,Tryz.ntmps48;go_wp2_with fail
   refine IS.out.mono ?_;rintro _ wq ⟨rfl,hwq⟩;obtain rfl:=hwq.symm;go_wp2;go_ret;exact⟨rfl,rfl⟩
theorem rRead_any(w:World)(rb:Nat)(D:Rd)(col:Nat->Nat)(h:Rq w rb D col)(n:Int):
 Calls Tryz.prog 45 #[.pointer (some ⟨rb,0,none⟩),.int .i64 n] w fun x w'=>∃q:Pv,x=.returned (.tuple #[q.vl,.int .i64 (if 0<D.count n then 0 else 15)])/\Pn w w' q/\q.items.length<=1048576/\q.pg=(if 0<D.count n then (D.on n).pg else Pv.zero.pg)/\Below w.heap.size w w':=by
 have aB:=al w (.cells Pv.zero.cs 31);have TH:=hide (rThere_any _ rb D col (h.keep aB) n);have HX:=hide (World.alloc_heap_new w (.cells Pv.zero.cs 31));have AB:=hide aB;have hbl:=h.lb;by_cases h1:0<D.count n
 · simp only[if_pos h1]
   have hh:D.has n=true:=by
    unfold Rd.count at h1;split at h1
    · assumption
    · omega
   obtain⟨k1,k2⟩:=Rd.has_iff.1 hh;obtain⟨i,hi⟩:∃i:Nat,n=(i:Int)+1:=⟨(n-1).toNat,by omega⟩
   subst hi;have hi:i<D.C.length:=by omega
   obtain⟨g,e,hc⟩:=h.pAt hi;obtain⟨c0,c1,c2,c3,c6⟩:=h.cells;rw[e,h.nP] at c3;have hon:D.on ((i:Int)+1)=D.P.getD i Pv.zero:=by unfold Rd.on;simp
   have hm:=Rd.on_mem h hh;obtain⟨sm,si⟩:=sml_ps (h.ps _ hm);have CO:=hide (CopyPage_pn _ (D.on ((i:Int)+1)) ((h.keep aB).pz _ hm).pi sm.1 si sm.2);have SI:=hide si;have hs:(i:Int)+1-1=(i:Int):=by omega
   have hii:(i:Int)<(D.C.length:Int):=by omega
   have h6:=h.n6;rw[decide_eq_true h1] at TH;rw[hon] at CO SI ⊢;clear h h1 hh hm sm si hon aB c0 c1 c2 c6 k1 k2;generalize D.C.length=m at *;obtain⟨q,hq⟩:∃q,D.P.getD i Pv.zero=q:=⟨_,rfl⟩;rw[hq] at CO hc SI ⊢;clear hq;obtain⟨kp,lp,aIp,cIp,itp,aDp,cDp,dap,nxp⟩:=q;have y0:=hc 0 _ (by decide) rfl
   have y1:=hc 1 _ (by decide) rfl
   have y2:=hc 2 _ (by decide) rfl
   have y3:=hc 3 _ (by decide) rfl
   have y4:=hc 4 _ (by decide) rfl
   rw[Nat.add_zero] at y0;have gl:g<w.heap.size:=block_lt_of_cell y0;clear hc;unfold Pv.vl at *;simp only[Pv.cs] at CO HX AB TH y0 y1 y2 y3 y4;simp only[Pv.zero,List.length_nil] at CO HX AB TH y0 y1 y2 y3 y4 c3;go_enter Tryz.func45,Tryz.ntmps45;go_wp2_with fail
   refine TH.out.mono ?_;rintro _ wq ⟨rfl,hwq⟩;obtain rfl:=hwq.symm;clear hwq;go_wp2_with fail
   refine CO.out.mono ?_;rintro _ w2 ⟨r,rfl,hP,hl,hg,hb⟩;have HP:=hide (hP.pre AB.out.size);have HG:=hide hg;have HL:=hide hl;have HB:=hide (bt AB.out hb);have HX2:=hide ((hb.block w.heap.size (Array.getElem?_eq_some_iff.1 HX.out).1).trans HX.out);clear hP hg hb CO TH y0 y1 y2 y3 y4 c3 hl;go_wp2_with (first|(refine wpList_store_row rfl 31 _ _ rfl w.heap.size _ rfl rfl 31 _ HX2.out sizePage rfl (by simp[Value.oneCell']) ?_)|fail)
   refine bodyPost_ret (v:=.tuple #[.agg _,_]) (results_cell_one Tryz.results45 _ _ w.heap.size 31 _ (0,0) _ rfl (setRow_heap _ _ _ _ _ _ HX2.out) Tryz.underlying31 rfl sizePage) rfl ?_;exact⟨r,rfl,HP.out.row HX2.out (by decide) (by decide) _,by rw[HL.out];exact SI.out,HG.out,((But.ofBelow (S:=fun k=>k=w.heap.size) HB.out).trans (Q.setRow_but _ _ _) (fun _ _ e=>e)).below (fun k hk e=>by omega)⟩
 · simp only[if_neg h1];rw[decide_eq_false h1] at TH;clear h1 h;unfold Pv.vl at *;simp only[Pv.cs] at HX AB TH;simp only[Pv.zero,List.length_nil] at HX AB TH;go_enter Tryz.func45,Tryz.ntmps45;go_wp2_with fail
   refine TH.out.mono ?_;rintro _ wq ⟨rfl,hwq⟩;obtain rfl:=hwq.symm;clear hwq;go_wp2_with (first|(refine wpList_store_row rfl 31 _ _ rfl w.heap.size _ rfl rfl 31 _ HX.out sizePage rfl (by simp[Value.oneCell']) ?_)|fail)
   refine bodyPost_ret (v:=.tuple #[.agg _,_]) (results_cell_one Tryz.results45 _ _ w.heap.size 31 _ (0,0) _ rfl (setRow_heap _ _ _ _ _ _ HX.out) Tryz.underlying31 rfl sizePage) rfl ?_;exact⟨Pv.zero,rfl,Pn.zero _ _,Nat.zero_le _,rfl,((But.ofBelow (S:=fun k=>k=w.heap.size) AB.out).trans (Q.setRow_but _ _ _) (fun _ _ e=>e)).below (fun k hk e=>by omega)⟩
end Go.Proofs.YtcpkinhneehomaaGreat
