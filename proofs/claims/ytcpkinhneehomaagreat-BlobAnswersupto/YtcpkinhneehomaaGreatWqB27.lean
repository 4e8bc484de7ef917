import Derived.Test.YtcpkinhneehomaaGreatWqB26
set_option linter.unusedVariables false
set_option linter.unusedSimpArgs false
set_option maxHeartbeats 32000000
set_option maxRecDepth 16000
namespace Go.Proofs.YtcpkinhneehomaaGreat
open Go.RowKit
open Go.MapKept
theorem nodup_le:∀(l m:List Int),l.Nodup->(∀x∈l,x∈m)->l.length<=m.length
 | [],m,_,_=>Nat.zero_le _
 |a::t,m,hn,hs=>by
  have hn':=List.nodup_cons.1 hn;have ha:=hs a List.mem_cons_self;have ih:=nodup_le t (m.erase a) hn'.2 (fun x hx=>(List.mem_erase_of_ne (fun e=>hn'.1 (by rw[<-e];exact hx))).2 (hs x (List.mem_cons_of_mem _ hx)))
  rw[List.length_erase_of_mem ha] at ih;have:0<m.length:=List.length_pos_of_mem ha;simp only[List.length_cons];omega
def keyI(e:MapEntry):Int:=match e.key with
 | .int _ k=>k
 |_=>0
theorem Mo.count{es:Array MapEntry}{clock:Nat}{f:Int->Option Value}(h:Mo es clock f)(ks:List Int)(hn:ks.Nodup)(hk:∀k,(f k).isSome=true↔k∈ks):es.size=ks.length:=by
 have hkey:∀e∈es.toList,e.key=.int .i64 (keyI e)/\(f (keyI e)).isSome=true:=fun e he=>by
  obtain⟨k,e1,e2⟩:=h.key e he;have:keyI e=k:=by unfold keyI;rw[e1]
  rw[this];exact⟨e1,by rw[e2];rfl⟩
 obtain⟨_,_,h3⟩:=h.st
 have e1:es.toList.map (·.key)=(es.toList.map keyI).map (fun k=>Value.int .i64 k):=by
  rw[List.map_map];exact List.map_congr_left (fun e he=>(hkey e he).1)
 have n1:(es.toList.map keyI).Nodup:=by
  have h4:(es.toList.map (·.key)).Nodup:=h3
  rw[e1] at h4;exact List.Pairwise.imp (fun hne e=>hne (by rw[e])) (List.pairwise_map.1 h4)
 have a1:=nodup_le (es.toList.map keyI) ks n1 (fun x hx=>by
  obtain⟨e,he,rfl⟩:=List.mem_map.1 hx;exact(hk _).1 (hkey e he).2)
 have a2:=nodup_le ks (es.toList.map keyI) hn (fun x hx=>by
  have hs:=(hk x).2 hx;cases e:f x with
  |none=>rw[e] at hs;cases hs
  |some v=>
   obtain⟨en,he,hke⟩:=h.has x v e;refine List.mem_map.2 ⟨en,he,?_⟩;unfold keyI;rw[hke])
 rw[List.length_map] at a1 a2;have:es.toList.length=es.size:=Array.length_toList;omega
theorem count_more{α:Type}(p q:α->Bool):∀l:List α,(∀x∈l,p x=true->q x=true)->l.countP q=l.countP p+l.countP (fun x=>q x&& !p x)
 | [],_=>rfl
 |x::t,h=>by
  have ih:=count_more p q t (fun y hy=>h y (List.mem_cons_of_mem _ hy))
  have hx:=h x List.mem_cons_self;simp only[List.countP_cons,ih];cases hp:p x<;>cases hq:q x
  · simp
  · simp;omega
  · rw[hp,hq] at hx;exact absurd (hx rfl) (by decide)
  · simp;omega
def keysOf(n:Nat)(f:Int->Option Pv):List Int:=((List.range n).filter fun i:Nat=>(f ((i:Int)+1)).isSome).map fun i=>((i:Nat):Int)+1
theorem keysOf_nodup(n:Nat)(f:Int->Option Pv):(keysOf n f).Nodup:=by
 unfold keysOf;refine List.pairwise_map.2 ?_;refine List.Pairwise.imp (R:=fun a b:Nat=>a≠b) ?_ (List.Pairwise.filter _ List.nodup_range)
 intro a b hne e;have e2:((a:Nat):Int)+1=((b:Nat):Int)+1:=e;exact hne (by omega)
theorem keysOf_mem{n:Nat}{f:Int->Option Pv}(hf:∀k,(f k).isSome=true->1<=k/\k<=n)(k:Int):(f k).isSome=true↔k∈keysOf n f:=by
 unfold keysOf;constructor
 · intro h;obtain⟨h1,h2⟩:=hf k h;refine List.mem_map.2 ⟨(k-1).toNat,List.mem_filter.2 ⟨List.mem_range.2 (by omega),?_⟩,by omega⟩
   rw[show(((k-1).toNat:Nat):Int)+1=k by omega]
   exact h
 · intro h;obtain⟨i,hi,e⟩:=List.mem_map.1 h;rw[<-e];exact(List.mem_filter.1 hi).2
theorem held_len(r:Int)(C:List Int):((Q.Po.start r C).pages 4).length=(List.range C.length).countP (fun i=>decide (0<C.getD i 0))\/∃c∈C,c<0:=by
 by_cases hneg:∃c∈C,c<0
 · exact .inr hneg
 · refine .inl ?_
   have hp:∀c∈C,0<=c:=fun c hc=>by
    by_cases h:c<0
    · exact absurd ⟨c,hc,h⟩ hneg
    · omega
   show(if (1:Int)<=4/\(4:Int)<=4 then _ else _:List Int).length=_
   rw[if_pos (by omega)]
   show(Q.pagesOf _ 4).length=_;unfold Q.pagesOf;rw[List.length_map,<-List.countP_eq_length_filter];show List.countP _ (List.range ((Q.Po.start r C).pg.length))=_;have hl:(Q.Po.start r C).pg.length=C.length:=by unfold Q.Po.start;exact List.length_map _
   rw[hl];refine List.countP_congr (fun i hi=>?_)
   have hi:=List.mem_range.1 hi;have e:(Q.Po.start r C).pg.getD i Q.Pg.zero=(C.getD i 0,decide (0<C.getD i 0)):=by unfold Q.Po.start;simp[hi]
   rw[e];have:=hp (C.getD i 0) (by simp[hi])
   unfold Q.stt;by_cases h0:C.getD i 0=0
   · rw[if_pos (show(C.getD i 0,decide (0<C.getD i 0)).1=0 from h0),h0]
     simp
   · rw[if_neg (show ¬(C.getD i 0,decide (0<C.getD i 0)).1=0 from h0)]
     have h1:0<C.getD i 0:=by omega
     simp only[decide_eq_true h1];simp
theorem fewer_iff{r:Int}{C:List Int}{f:Int->Option Pv}{g:Int->Option Pg}(hb:badC r C=false)(hf:∀k,(f k).isSome=true->0<cntOf C k)(hg:∀k,(g k).isSome=(f k).isSome):decide ((keysOf C.length f).length<((Q.Po.start r C).pages 4).length)=lacks C g:=by
 have hp:¬ ∃c∈C,c<0:=by
  rintro⟨c,hc,h0⟩;unfold badC at hb;rw[List.any_eq_false] at hb;exact hb c hc (by simp[h0])
 have e1:=(held_len r C).resolve_right hp
 have e2:(keysOf C.length f).length=(List.range C.length).countP (fun i:Nat=>(f ((i:Int)+1)).isSome):=by
  unfold keysOf;rw[List.length_map,List.countP_eq_length_filter]
 have e3:=count_more (fun i:Nat=>(f ((i:Int)+1)).isSome) (fun i:Nat=>decide (0<C.getD i 0)) (List.range C.length) (fun i hi h=>by
  have hi:=List.mem_range.1 hi;have:=hf _ h;unfold cntOf at this;rw[if_pos (by omega),show((i:Int)+1-1).toNat=i by omega] at this
  exact decide_eq_true this)
 rw[e1,e2,e3];unfold lacks;cases hl:(List.range C.length).any (fun i=>decide (0<C.getD i 0)&&(g ((i:Int)+1)).isNone) with
 |true=>
  obtain⟨i,hi,h⟩:=List.any_eq_true.1 hl;refine decide_eq_true ?_
  have:0<(List.range C.length).countP (fun i:Nat=>decide (0<C.getD i 0)&& !(f ((i:Int)+1)).isSome):=List.countP_pos_iff.2 ⟨i,hi,by
   rw[Bool.and_eq_true] at h ⊢;refine⟨h.1,?_⟩;rw[<-hg];cases e:g ((i:Int)+1) with
   |none=>rfl
   |some v=>rw[e] at h;exact absurd h.2 (by simp)⟩
  omega
 |false=>
  refine decide_eq_false ?_
  have:(List.range C.length).countP (fun i:Nat=>decide (0<C.getD i 0)&& !(f ((i:Int)+1)).isSome)=0:=List.countP_eq_zero.2 (fun i hi h=>by
   have:=List.any_eq_false.1 hl i hi;apply this;rw[Bool.and_eq_true] at h ⊢;refine⟨h.1,?_⟩;have h2:=h.2;rw[<-hg] at h2;cases e:g ((i:Int)+1) with
   |none=>rfl
   |some v=>rw[e] at h2;exact absurd h2 (by simp))
  omega
end Go.Proofs.YtcpkinhneehomaaGreat
namespace Go.Proofs.YtcpkinhneehomaaGreat
open Go.RowKit
variable {r:Int}{C:List Int}{mb pb:Nat}{col pc:Nat->Nat}{w wx wy:World}
theorem start_count(r:Int)(C:List Int)(z:Int):(Q.Po.start r C).count z=cntOf C z:=by
 have hl:(Q.Po.start r C).pg.length=C.length:=by unfold Q.Po.start;exact List.length_map _
 unfold Q.Po.count Q.Po.has cntOf;rw[hl];by_cases hz:1<=z/\z<=C.length
 · rw[if_pos hz,if_pos (by simp[hz])]
   obtain⟨i,hi⟩:∃i:Nat,(z-1).toNat=i:=⟨_,rfl⟩;rw[hi];have hil:i<C.length:=by omega
   unfold Q.Po.start;simp[hil]
 · rw[if_neg hz,if_neg (by simpa using hz)]
def ldS(r:Int)(C:List Int)(f:Int->Option Pv):Vs:=⟨⟨Q.Po.start r C,f,[]⟩,[],0⟩
def VLoaded(w w':World)(e:Ending)(r:Int)(C:List Int)(NL:List (Int×Pv)):Prop:=
 (∃er:Nat,er≠0/\(ldAll r C (nmg NL)).1=er/\e=.returned (.tuple #[.pointer none,.int .i64 ((er:Nat):Int)])/\Below w.heap.size w w')\/
 ((ldAll r C (nmg NL)).1=0/\∃(b:Nat)(f:Int->Option Pv),e=.returned (.tuple #[.pointer (some ⟨b,0,none⟩),.int .i64 0])/\VMade w w' b (ldS r C f)/\(∀k,(f k).map Pv.pg=(ldAll r C (nmg NL)).2 k)/\(∀k q,f k=some q->q.pg.check=0)/\∀k,(f k).isSome=true->0<cntOf C k)
structure Lv(w wx:World)(b pb mb:Nat)(r:Int)(C:List Int)(f:Int->Option Pv)(g:Int->Option Pg)(pc col:Nat->Nat):Prop where
 v:Vw wx b (ldS r C f) pb mb pc col
 b:Below w.heap.size w wx
 c:∀k,col k≠0->w.heap.size<=k
 g:∀k,(f k).map Pv.pg=g k
 s:∀k q,f k=some q->q.pg.check=0
 p:∀k,(f k).isSome=true->0<cntOf C k
theorem Lv.keep{b:Nat}{f:Int->Option Pv}{g:Int->Option Pg}(h:Lv w wx b pb mb r C f g pc col)(hb:Below wx.heap.size wx wy):Lv w wy b pb mb r C f g pc col:=⟨h.v.keep hb,bt h.b hb,h.c,h.g,h.s,h.p⟩
theorem Lv.sm{b:Nat}{f:Int->Option Pv}{g:Int->Option Pg}(h:Lv w wx b pb mb r C f g pc col)(k:Int):(g k).isSome=(f k).isSome:=by
 rw[<-h.g k];cases f k<;>rfl
theorem Lv.laid{b:Nat}{f:Int->Option Pv}{g:Int->Option Pg}{col':Nat->Nat}(h:Lv w wx b pb mb r C f g pc col){z:Int}{q:Pv}{p:Pg}(hq:q.pg=p)(hz:0<cntOf C z)(hp:p.check=0)(hv:Vw wy b (ldS r C (flay f z q)) pb mb pc col')(hf:Vf wx col wy col'):Lv w wy b pb mb r C (flay f z q) (fun k=>if k=z then some p else g k) pc col':=by
 have sz:=h.b.size;refine⟨hv,?_,fun k hk=>?_,fun k=>?_,fun k q' e=>?_,fun k e=>?_⟩
 · exact((But.ofBelow (S:=fun k=>1<=col k/\col k<=5) h.b).trans hf.b (fun _ _ e=>e)).below (fun k hk e=>by have:=h.c k (by omega);omega)
 · by_cases hk2:k<wx.heap.size
   · exact h.c k (by rw[<-hf.c k hk2];exact hk)
   · omega
 · unfold flay;by_cases e:k=z
   · rw[if_pos e,if_pos e,<-hq];rfl
   · rw[if_neg e,if_neg e];exact h.g k
 · unfold flay at e;by_cases e2:k=z
   · rw[if_pos e2] at e;cases e;rw[hq];exact hp
   · rw[if_neg e2] at e;exact h.s k q' e
 · unfold flay at e;by_cases e2:k=z
   · rw[e2];exact hz
   · rw[if_neg e2] at e;exact h.p k e
theorem Vw.mlen{b:Nat}{f:Int->Option Pv}(h:Vw w b (ldS r C f) pb mb pc col)(hp:∀k,(f k).isSome=true->0<cntOf C k)(ty:TypeId):(Builtin.len_ #[81] ty #[.map (some mb)]).run Tryz.prog w=.ok (.int .i64 (((keysOf C.length f).length:Nat):Int)) w:=by
 obtain⟨ac,cc,aa,ca,hq⟩:=h;obtain⟨es,cl,hm,ho⟩:=hq.mp
 have e:=ho.count (keysOf C.length f) (keysOf_nodup _ _) (fun k=>by
  have k1:=keysOf_mem (n:=C.length) (f:=f) (fun k hk=>by
   have:=hp k hk;unfold cntOf at this;split at this
   · assumption
   · omega) k
  rw[<-k1];show((f k).map Pv.vl).isSome=true↔_;cases f k<;>simp)
 have k:=run_len_map w 81 ty mb es cl (P:=Tryz.prog) (by kernel_rfl) hm
 rw[k,e];rfl
theorem vLoad_any(w:World)(r:Int)(a:Option Addr)(n cap:Nat)(C:List Int)(hC:Q.Ir w a C)(hn:n=C.length)(aN:Option Addr)(m capN:Nat)(NL:List (Int×Pv))(hN:Nm w aN NL)(hm:m=NL.length)(hmb:m<=1000000):
 Calls Tryz.prog 15 #[.int .i64 r,.slice a n cap,.slice aN m capN] w fun e w'=>VLoaded w w' e r C NL:=by
 by_cases hf:Q.fits n r=false
 · have NN:=hide (Q.Load_no w r a n cap hf);have E1:Hid ((ldAll r C (nmg NL)).1=1):=ldAll_fits (by rw[<-hn];exact hf)
   clear hC hn hN hm hf;go_enter Tryz.func15,Tryz.ntmps15;go_wp2_with fail
   refine NN.out.mono ?_;rintro _ wq ⟨rfl,hwq⟩;rw[hwq];clear hwq;go_wp2_with fail
   go_ret2
   exact .inl ⟨1,by decide,E1.out,rfl,Below.refl _ _⟩
 have hf1:Q.fits n r=true:=by simpa using hf
 have FT:Hid (Q.fits C.length r=true):=by show _=_;rw[<-hn];exact hf1
 have LA:=hide (Q.Load_any w r a n cap C hC hn hf1);have HN:=hide hn;have HNM:=hide hN;have HM:=hide hm;have hmm:= @run_makeMap Tryz.prog;clear hf hf1 hC hn hN hm;go_enter Tryz.func15,Tryz.ntmps15;go_wp2_with fail
 refine LA.out.mono ?_;rintro _ w1 (⟨hbad,rfl,hw1⟩|⟨hbad,pb,rfl,hM⟩)
 · have E1:Hid ((ldAll r C (nmg NL)).1=13):=ldAll_bad FT.out hbad;rw[hw1];clear hw1 hbad;go_wp2_with fail
   go_ret2
   exact .inl ⟨13,by decide,E1.out,rfl,Below.refl _ _⟩
 have BC:Hid (badC r C=false):=hbad;have VM:=hide (made_vault hM);clear hM hbad LA;go_wp2_with fail
 generalize hw2:((w1.alloc (.map #[] 0)).alloc (.cells #[.pointer (some ⟨pb,0,none⟩),.map (some w1.heap.size),.slice none 0 0,.slice none 0 0,.int .i64 0] 85))=w2 at *;clear hw2;generalize w1.heap.size+1=b at *;obtain⟨pb2,mb,pc,col,hV,hbV,hcV⟩:=VM.out;have L0:Hid (Lv w w2 b pb2 mb r C (fun _=>none) (fun _=>none) pc col):=⟨hV,hbV,hcV,fun _=>rfl,fun k q e=>(by cases e),fun k e=>(by cases e)⟩
 clear hV hbV hcV VM hmm;go_loopw [29] (fun vj wx=>∃(j:Nat)(f:Int->Option Pv)(g:Int->Option Pg)(pc col:Nat->Nat),j<=m/\vj=.int .i64 (j:Int)/\Lv w wx b pb2 mb r C f g pc col/\ldG (cntOf C) g (nmg (NL.drop j))=ldG (cntOf C) (fun _=>none) (nmg NL)) (fun vj _=>m-(intOf vj).toNat)
 case atStart=>exact⟨0,_,_,pc,col,Nat.zero_le _,rfl,L0.out,by rw[List.drop_zero]⟩
 case round=>
  clear L0;obtain⟨j,f,g,pc,col,hj,rfl,hL,hE⟩:=hrel;have LL:=hide hL;have EE:=hide hE;clear hL hE;by_cases hlt:j<m
  · have hji:(j:Int)<(m:Int):=by omega
    have hjN:j<NL.length:=by rw[<-HM.out];exact hlt
    obtain⟨g1,off,rfl,cNw⟩:=HNM.out.c j hjN;have CNA:=hide fun(W:World)(hb:Below w.heap.size w W)(k:Nat)(u:Value)(hu:(nmc (NL.getD j nm0))[k]?=some u)=>(hb.cell (p:=⟨g1,off+j*6+k,none⟩) (block_lt_of_cell (cNw k u hu))).trans (cNw k u hu)
    have cN:=CNA.out wr LL.out.b;clear cNw;have MX:Hid (NL.getD j nm0∈NL):=by show _∈_;simp[hjN]
    have ED:=hide (nmg_drop hjN);have PX:=hide fun(W:World)(hb:Below w.heap.size w W)=>(HNM.out.keep hb).p _ MX.out
    obtain⟨x,hx⟩:∃x,NL.getD j nm0=x:=⟨_,rfl⟩;simp only[hx] at cN ED PX CNA;clear hx MX CNA;obtain⟨z,p⟩:=x;have n0:=cN 0 _ rfl;have n1:=cN 1 _ rfl;have n2:=cN 2 _ rfl;have n3:=cN 3 _ rfl;have n4:=cN 4 _ rfl;have n5:=cN 5 _ rfl;rw[Nat.add_zero] at n0;have gl1:g1<wr.heap.size:=block_lt_of_cell n0;clear cN;have A0:=hide (al wr (.cells #[.int .i64 z,.int .i64 p.kind,.int .i64 p.level,.slice p.aI p.items.length p.cI,.slice p.aD p.data.length p.cD,.int .i64 p.next] 39));have L1:=hide (LL.out.keep A0.out);have VL:=hide (vload_any _ b (ldS r C f) pb2 mb pc col L1.out.v z p (PX.out _ L1.out.b).1);unfold nlv at VL;have hE:=EE.out;rw[ED.out,ldG_cons] at hE
    have EA:Hid ((cntOf C z<=0->(ldAll r C (nmg NL)).1=15)/\(0<cntOf C z->(g z).isSome=true->(ldAll r C (nmg NL)).1=10)/\(0<cntOf C z->(g z).isSome=false->p.pg.check≠0->(ldAll r C (nmg NL)).1=p.pg.check)/\(0<cntOf C z->(g z).isSome=false->p.pg.check=0->ldG (cntOf C) (fun k=>if k=z then some p.pg else g k) (nmg (NL.drop (j+1)))=ldG (cntOf C) (fun _=>none) (nmg NL))):=by
     refine⟨fun k=>?_,fun k1 k2=>?_,fun k1 k2 k3=>?_,fun k1 k2 k3=>?_⟩
     · rw[if_pos (show ¬0<cntOf C z by omega)] at hE
       rw[ldAll_err FT.out BC.out (by rw[<-hE];simp),<-hE]
     · rw[if_neg (fun e=>e k1),if_pos k2] at hE
       rw[ldAll_err FT.out BC.out (by rw[<-hE];simp),<-hE]
     · rw[if_neg (fun e=>e k1),if_neg (by rw[k2];decide),if_pos k3] at hE
       rw[ldAll_err FT.out BC.out (by rw[<-hE];exact k3),<-hE]
     · rw[if_neg (fun e=>e k1),if_neg (by rw[k2];decide),if_neg (fun e=>e k3)] at hE
       exact hE
    clear hE EE ED;go_wp2_with fail
    refine VL.out.mono ?_;rintro _ w4 (⟨er,hne,rfl,her,hb4⟩|⟨h1,h2,h3,rfl,q,col4,hq,hv4,hf4⟩)
    · have L4:=hide (bt L1.out.b hb4)
      have E1:Hid ((ldAll r C (nmg NL)).1=er):=by
       have hs:=LL.out.sm z;have hcz:(ldS r C f).X.P.count z=cntOf C z:=start_count r C z;rw[hcz] at her;have hfz:((ldS r C f).X.f z).isSome=(f z).isSome:=rfl;rw[hfz,<-hs] at her;show _=_;by_cases k1:0<cntOf C z
       · rw[if_neg (fun e=>e k1)] at her
         by_cases k2:(g z).isSome=true
         · rw[if_pos k2] at her;rw[<-her];exact EA.out.2.1 k1 k2
         · rw[if_neg k2] at her;rw[<-her];exact EA.out.2.2.1 k1 (by simpa using k2) (by rw[her];exact hne)
       · rw[if_pos k1] at her;rw[<-her];exact EA.out.1 (by omega)
      have HNE:=hide hne;have e9:((er:Int) != 0)=true:=by simpa using hne
      clear hne her hb4 VL n0 n1 n2 n3 n4 n5 EA;go_wp2_with fail
      go_ret2
      exact .inl ⟨er,HNE.out,E1.out,rfl,L4.out⟩
    · have hcz:(ldS r C f).X.P.count z=cntOf C z:=start_count r C z;rw[hcz] at h1;have L4:=hide (L1.out.laid hq h1 h3 hv4 hf4);have E3:Hid (ldG (cntOf C) (fun k=>if k=z then some p.pg else g k) (nmg (NL.drop (j+1)))=ldG (cntOf C) (fun _=>none) (nmg NL)):=EA.out.2.2.2 h1 (by rw[LL.out.sm z];exact h2) h3
      clear h1 h2 h3 hq hv4 hf4 hcz VL n0 n1 n2 n3 n4 n5 EA;go_wp2_with fail
      go_roundw
      case rel=>exact⟨j+1,_,_,pc,col4,by omega,by go_num,L4.out,E3.out⟩
      case measure=>simp[intOf];omega
  · obtain rfl:j=m:=by omega
    have E0:Hid (ldG (cntOf C) (fun _=>none) (nmg NL)=(0,g)):=by
     show _=_;rw[<-EE.out,List.drop_eq_nil_of_le (by rw[<-HM.out];exact Nat.le_refl _)]
     rfl
    clear EE;have FW:=hide (fewer_iff (r:=r) (f:=f) (g:=g) BC.out LL.out.p LL.out.sm);have DR:=hide (dr2 wr)
    have TA:=hide (show ∀W:World,Below wr.heap.size wr W->Calls Tryz.prog 49 #[.pointer (some ⟨pb2,0,none⟩),.int .i64 4] W fun e w'=>e=.returned (.int .i64 ((((Q.Po.start r C).pages 4).length:Nat):Int))/\Below W.heap.size W w' from fun W hb=>by
     obtain⟨ac,cc,aa,ca,hq⟩:=LL.out.v.keep hb;exact Q.Tally_any W pb2 _ _ hq.pool 4)
    have SS:Hid (∀W:World,Below wr.heap.size wr W->W.cell? ⟨b,0,none⟩=some (.pointer (some ⟨pb2,0,none⟩))/\W.cell? ⟨b,1,none⟩=some (.map (some mb))/\∀ty,(Builtin.len_ #[81] ty #[.map (some mb)]).run Tryz.prog W=.ok (.int .i64 (((keysOf C.length f).length:Nat):Int)) W):=fun W hb=>⟨(LL.out.v.keep hb).c0,(LL.out.v.keep hb).c1,fun ty=>(LL.out.v.keep hb).mlen LL.out.p ty⟩
    obtain⟨ta,hta⟩:∃ta,((Q.Po.start r C).pages 4).length=ta:=⟨_,rfl⟩;obtain⟨kl,hkl⟩:∃kl,(keysOf C.length f).length=kl:=⟨_,rfl⟩;simp only[hta] at TA FW;simp only[hkl] at SS FW;clear hta hkl;go_upto_region 12 with fail
    refine wp_region_held_drew (S:=fun W=>W.cell? ⟨b,0,none⟩=some (.pointer (some ⟨pb2,0,none⟩))/\W.cell? ⟨b,1,none⟩=some (.map (some mb))/\∀ty,(Builtin.len_ #[81] ty #[.map (some mb)]).run Tryz.prog W=.ok (.int .i64 ((kl:Nat):Int)) W) (by kernel_rfl) (SS.out _ DR.out) (fun hHeld=>?_)
    refine tk 0 ?_;refine tk 1 ?_;refine tk 2 ?_;refine tk 3 ?_;refine tk 4 ?_;refine tk 5 ?_;refine tk 6 ?_;refine tk 7 ?_;refine tk 8 ?_;refine tw 9 fun K hK=>?_
    go_simp;refine(TA.out _ DR.out).mono ?_;rintro _ w5 ⟨rfl,hb5⟩;have B5:=hide (bt DR.out hb5);clear hb5;go_wp2_with fail
    refine hK.out _ _ (SS.out _ B5.out) (fun hHeld=>?_)
    clear hK K;try simp only[pt]
    refine tk 10 ?_;refine td ?_;have L5:=hide (LL.out.keep B5.out);clear hHeld SS TA DR;by_cases hl:kl<ta
    · have dl:decide ((kl:Int)<(ta:Int))=true:=decide_eq_true (by omega)
      have E1:Hid ((ldAll r C (nmg NL)).1=9):=by
       refine ldAll_lacks FT.out BC.out (by rw[E0.out]) ?_
       rw[E0.out];have:=FW.out;rw[decide_eq_true hl] at this;exact this.symm
      go_wp2_with fail
      go_ret2
      exact .inl ⟨9,by decide,E1.out,rfl,L5.out.b⟩
    · have dl:decide ((kl:Int)<(ta:Int))=false:=decide_eq_false (by omega)
      have E1:Hid (ldAll r C (nmg NL)=(0,g)):=by
       have:=FW.out;rw[decide_eq_false hl] at this;have k:=ldAll_ok (l:=nmg NL) FT.out BC.out (by rw[E0.out]) (by rw[E0.out];exact this.symm)
       rw[E0.out] at k;exact k
      go_wp2_with fail
      go_ret2
      exact .inr ⟨by rw[E1.out],b,f,rfl,⟨pb2,mb,pc,col,L5.out.v,L5.out.b,L5.out.c⟩,by rw[E1.out];exact LL.out.g,LL.out.s,LL.out.p⟩
theorem rCounts_any(w:World)(rb:Nat)(D:Rd)(col:Nat->Nat)(h:Rq w rb D col):Calls Tryz.prog 27 #[.pointer (some ⟨rb,0,none⟩)] w fun e w'=>∃a c,e=.returned (.slice a D.C.length c)/\Q.IOwn w w' a c D.C:=by
 obtain⟨c0,c1,c2,c3,c6⟩:=h.cells;have CP:=hide (Q.CopyInts_any w D.aC D.C.length D.cC D.C h.cr.ir rfl h.n6);clear h;generalize D.C.length=m at *;go_enter Tryz.func27,Tryz.ntmps27;go_wp2_with fail
 refine CP.out.mono ?_;rintro _ w1 ⟨a',c',rfl,hO⟩;have O:=hide hO;clear hO CP;go_wp2_with fail
 go_ret;exact⟨a',c',rfl,O.out⟩
def Pgs(w:World)(a:Option Addr)(P:List Pv):Prop:=∀i,i<P.length->∃g off,a=some ⟨g,off,none⟩/\∀k u,k<5->(P.getD i Pv.zero).cs.toList[k]?=some u->w.cell? ⟨g,off+i*5+k,none⟩=some u
theorem made_pages(n:Nat)(hc:n<=65536)(w:World):(Instr.makeSlice 53 (.int .i64 0) (.int .i64 (n:Int))).run Tryz.prog w=.ok (.slice (some ⟨w.heap.size,0,none⟩) 0 n) (w.alloc (.cells (madeCells Pv.zero.cs (n*5)) 31)):=by
 obtain⟨i0,hi,hz0,hz1,hz2⟩:=info_parts infoPage2;have hr:=run_make (P:=Tryz.prog) w 53 31 i0 (.agg Pv.zero.cs) Tryz.underlying53 hi hz0 .i64 .i64 (0:Nat) n (by omega) (by omega) (by rw[hz2];omega) (by omega)
 simp only[Int.toNat_natCast,hz1] at hr;exact hr
theorem gw_empty(w:World)(n:Nat)(hn:n<=65536):Q.Gw 31 5 (w.alloc (.cells (madeCells Pv.zero.cs (n*5)) 31)) (some ⟨w.heap.size,0,none⟩) n 0 (vpg []):=
 Q.Gw.mk rfl (heap_alloc_new _ _) (Nat.zero_le _) (by unfold maxLen;omega) (size_madeCells _ _) (by simp[vpg])
theorem copyPages_any(w:World)(a:Option Addr)(n cap:Nat)(L:List Pv)(hP:Pgs w a L)(hn:n=L.length)(hl:L.length<=65536):
 Calls Tryz.prog 102 #[.slice a n cap] w fun e w'=>∃a' c',e=.returned (.slice a' n c')/\Q.Gw 31 5 w' a' c' n (vpg L)/\New w none a'/\Below w.heap.size w w':=by
 have HP:=hide hP;have HN:=hide hn;rw[<-hn] at hl;have hmk:=made_pages n hl w;have G0:=hide (gw_empty w n hl);have B0:=hide (al w (.cells (madeCells Pv.zero.cs (n*5)) 31));clear hP hn;generalize (w.alloc (.cells (madeCells Pv.zero.cs (n*5)) 31))=w1 at *;go_enter Tryz.func102,Tryz.ntmps102;go_wp2_with fail
 clear hmk;go_loopw [3,4] (fun vo vi wx=>∃(i:Nat)(a':Option Addr)(c':Nat),i<=n/\vo=.slice a' i c'/\vi=.int .i64 (i:Int)/\Q.Gw 31 5 wx a' c' i (vpg (L.take i))/\New w none a'/\Below w.heap.size w wx) (fun _ vi _=>n-(intOf vi).toNat)
 case atStart=>exact⟨0,some ⟨w.heap.size,0,none⟩,n,Nat.zero_le _,rfl,rfl,G0.out,fun x hx=>.inr (by cases hx;exact Nat.le_refl _),B0.out⟩
 case round=>
  clear G0 B0;obtain⟨i,a',c',hi,rfl,rfl,hG,hNw,hb⟩:=hrel;have GG:=hide hG;have NN:=hide hNw;have BB:=hide hb;clear hG hNw hb;by_cases hlt:i<n
  · have hii:(i:Int)<(n:Int):=by omega
    have hiL:i<L.length:=by rw[<-HN.out];exact hlt
    obtain⟨g,off,rfl,hc⟩:=HP.out i hiL;have cW:∀k u,k<5->(L.getD i Pv.zero).cs.toList[k]?=some u->wr.cell? ⟨g,off+i*5+k,none⟩=some u:=fun k u hk hu=>(BB.out.cell (p:=⟨g,off+i*5+k,none⟩) (block_lt_of_cell (hc k u hk hu))).trans (hc k u hk hu)
    have SN:Hid (vpg (L.take i)++(L.getD i Pv.zero).cs.toList=vpg (L.take (i+1))):=by
     show _=_;rw[vpg_snoc,List.take_succ_eq_append_getElem hiL];simp[hiL]
    obtain⟨q,hq⟩:∃q,L.getD i Pv.zero=q:=⟨_,rfl⟩;simp only[hq] at cW SN;clear hq hc;have y0:=cW 0 _ (by decide) rfl
    have y1:=cW 1 _ (by decide) rfl
    have y2:=cW 2 _ (by decide) rfl
    have y3:=cW 3 _ (by decide) rfl
    have y4:=cW 4 _ (by decide) rfl
    rw[Nat.add_zero] at y0;have gl:g<wr.heap.size:=block_lt_of_cell y0;have A0:=hide (al wr (.cells q.cs 31));have X0:=hide (heap_alloc_new wr (.cells q.cs 31));have G1:=hide (GG.out.keep A0.out);have hml:i+1<=maxLen:=by unfold maxLen;omega
    have XC:Hid (∀j u,q.cs.toList[j]?=some u->(wr.alloc (.cells q.cs 31)).cell? ((⟨wr.heap.size,0,none⟩:Addr).add j)=some u):=fun j u hu=>by
     rw[Addr.add_mid,Nat.zero_add,cell_of_row _ _ _ _ _ _ X0.out,<-hu];simp
    have ON:Hid (∀u∈q.cs.toList,u.oneCell'=true):=by
     intro u hu;simp[Pv.cs] at hu;rcases hu with rfl|rfl|rfl|rfl|rfl<;>rfl
    clear cW X0;simp only[Pv.cs] at A0 G1 XC;go_wp2_with (at_builtin;refine wpList_apG Tryz.underlying53 infoPage2 rfl (by decide) rfl _ _ rfl a' i c' (vpg (L.take i)) rfl G1.out ⟨wr.heap.size,0,none⟩ 1 q.cs.toList rfl rfl XC.out ON.out hml (by omega) ?_)
    intro g2 c2 w5 hG hNw hB;have B5:Hid (Below w.heap.size w w5):=((But.ofBelow (S:=Q.InA a') (bt BB.out A0.out)).trans hB (fun _ _ e=>e)).below (fun k hk ⟨x,hx,e⟩=>by have:=vnew_at NN.out hx;omega)
    have N5:=hide (new_more NN.out hNw (bt BB.out A0.out).size);have G5:=hide hG;clear hG hNw hB G1 A0 XC ON y0 y1 y2 y3 y4 gl;rw[SN.out] at G5;go_wp2_with fail
    go_roundw
    case rel=>exact⟨i+1,some ⟨g2,0,none⟩,c2,by omega,rfl,by go_num,G5.out,N5.out,B5.out⟩
    case measure=>simp[intOf];omega
  · obtain rfl:i=n:=by omega
    have GE:Hid (Q.Gw 31 5 wr a' c' i (vpg L)):=by
     have k:=GG.out;rw[List.take_of_length_le (by rw[<-HN.out];exact Nat.le_refl _)] at k
     exact k
    go_wp2_with fail
    go_ret;exact⟨a',c',rfl,GE.out,NN.out,BB.out⟩
end Go.Proofs.YtcpkinhneehomaaGreat
