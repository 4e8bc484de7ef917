import Derived.Test.YtcpkinhneehomaaGreatWqB21
set_option linter.unusedVariables false
set_option linter.unusedSimpArgs false
set_option maxHeartbeats 16000000
set_option maxRecDepth 8000
namespace Go.Proofs.YtcpkinhneehomaaGreat
open Go.RowKit
variable {l:List Nat}{k:Nat}{P:Q.Po}{S0:Vs}
theorem vUndo_st(w:World)(b:Nat)(S:Vs)(pb mb:Nat)(pc col:Nat->Nat)(h:Vw w b S pb mb pc col)(S0:Vs)(hv:Ve S0.X S.X)(hfn:Fine S0.X.f)(hfl:S.fl=S0.fl)(hal:S=S0\/∃A,S.al=S0.al++(S0.X.P.mark,S0.X.ch.length)::A)(hm:S.fl+S.al.length<=9223372036854775807)(hk:S.X.P.mark<=9223372036854775807):
 Calls Tryz.prog 117 #[.pointer (some ⟨b,0,none⟩),.int .i64 ((S0.fl+S0.al.length:Nat):Int)] w fun x w'=>x=.returned (.bool true)/\∃pc' col',Vw w' b S0 pb mb pc' col'/\Vf w col w' col':=by
 obtain⟨ac,cc,aa,ca,hq⟩:=h;rcases hal with rfl|⟨A,hA⟩
 · exact(vUndo_same w b _ _ _ pc col hq hm).mono fun _ _ ⟨e,hb⟩=>⟨e,pc,col,⟨ac,cc,aa,ca,hq.keep hb⟩,Vf.keep hb⟩
 · have ht:S0.al.length<S.al.length:=by rw[hA,List.length_append,List.length_cons];omega
   have hg:S.al.getD S0.al.length (0,0)=(S0.X.P.mark,S0.X.ch.length):=by rw[hA];simp
   have hbk:=hv.back hfn;unfold Vm.back at hbk;have e1:S.X.P.undo ((S0.X.P.mark:Nat):Int)=S0.X.P:=congrArg Vm.P hbk;have e2:unl S.X.f (S.X.ch.drop S0.X.ch.length)=S0.X.f:=congrArg Vm.f hbk;have e3:S.X.ch.take S0.X.ch.length=S0.X.ch:=congrArg Vm.ch hbk;have e4:S.al.take S0.al.length=S0.al:=by rw[hA,List.take_left' rfl]
   have U:=vUndo_yes w b _ _ _ pc col hq S0.al.length hm ht (by show(S.al.getD S0.al.length (0,0)).2<=S.X.ch.length;rw[hg];exact hv.ch) hk
   rw[hfl] at U;refine U.mono fun _ w' ⟨e,pc',col',hq',hf⟩=>⟨e,pc',col',⟨ac,cc,aa,ca,?_⟩,hf⟩
   have hq2:Vq w' b (S.X.P.undo (((S.al.getD S0.al.length (0,0)).1:Nat):Int)) S0.fl ⟨pb,mb,unl S.X.f (S.X.ch.drop (S.al.getD S0.al.length (0,0)).2),ac,cc,S.X.ch.take (S.al.getD S0.al.length (0,0)).2,aa,ca,S.al.take S0.al.length⟩ pc' col':=hq';rw[hg,e4] at hq2;simp only at hq2;rw[e1,e2,e3] at hq2;exact hq2
theorem spreadC_undo(w:World)(b:Nat)(S:Vs)(pb mb:Nat)(pc col:Nat->Nat)(h:Vw w b S pb mb pc col)(S0:Vs)(hv:Ve S0.X S.X)(hfn:Fine S0.X.f)(hfl:S.fl=S0.fl)(hal:S=S0\/∃A,S.al=S0.al++(S0.X.P.mark,S0.X.ch.length)::A)(hm:S.fl+S.al.length<=9223372036854775807)(hk:S.X.P.mark<=9223372036854775807)(e:Int)(he:e≠0)(pe pv pg:Addr)(h1:w.cell? pe=some (.int .i64 e))(h2:w.cell? pv=some (.pointer (some ⟨b,0,none⟩)))(h3:w.cell? pg=some (.int .i64 ((S0.fl+S0.al.length:Nat):Int))):
 CallsD Tryz.prog 162 #[.pointer (some pe),.pointer (some pv),.pointer (some pg)] .returning w fun x u' w'=>u'=.returning/\(x=.returned (.tuple #[])/\∃pc' col',Vw w' b S0 pb mb pc' col'/\Vf w col w' col'):=by
 have UN:=hide (vUndo_st w b S pb mb pc col h S0 hv hfn hfl hal hm hk);clear h hv hfn hfl hal hm hk;generalize ((S0.fl+S0.al.length:Nat):Int)=z at *;have hne:(e != 0)=true:=by simpa using he
 go_enter_d Tryz.func162,Tryz.ntmps162
 go_wp2_with fail
 refine UN.out.mono ?_;rintro _ w2 ⟨rfl,pc',col',hV,hF⟩;go_wp2_with fail
 go_end0
 exact⟨rfl,pc',col',hV,hF⟩
theorem alloc_yes(h0:P.alloc.1.2=0):∃i:Nat,i<P.pg.length/\Q.stt (P.pg.getD i Q.Pg.zero)=1/\P.alloc.1.1=(i:Int)+1/\P.alloc.2.pg=P.pg.set i (1,(P.pg.getD i Q.Pg.zero).2)/\P.alloc.2.rf=P.rf:=by
 unfold Q.Po.alloc at h0 ⊢;split at h0
 · cases h0
 · rename_i n T hp;have hn:n∈Q.pagesOf P.pg 1:=by rw[hp];exact List.mem_cons_self
   unfold Q.pagesOf at hn;obtain⟨i,hi,e⟩:=List.mem_map.1 hn;have hl:=List.mem_range.1 (List.mem_filter.1 hi).1;have hs:Q.stt (P.pg.getD i Q.Pg.zero)=1:=by simpa using(List.mem_filter.1 hi).2
   have et:n.toNat-1=i:=by omega
   refine⟨i,hl,hs,e.symm,?_,rfl⟩;show P.pg.set (n.toNat-1) (1,(P.pg.getD (n.toNat-1) Q.Pg.zero).2)=_;rw[et]
theorem stt_one{x:Q.Pg}(h:Q.stt x=1):x.1=0/\x.2=false:=by
 unfold Q.stt at h;split at h
 · split at h
   · omega
   · rename_i h1 h2;exact⟨h1,by simpa using h2⟩
 · split at h<;>omega
theorem count_set{P':Q.Po}{i:Nat}{y:Q.Pg}(hi:i<P.pg.length)(e:P'.pg=P.pg.set i y)(z:Int):P'.count z=if z=(i:Int)+1 then y.1 else P.count z:=by
 unfold Q.Po.count Q.Po.has;rw[e,List.length_set];by_cases hz:z=(i:Int)+1
 · subst hz;have e1:((i:Int)+1-1).toNat=i:=by omega
   rw[if_pos rfl,if_pos (by simp;omega),e1]
   simp[hi]
 · rw[if_neg hz];by_cases hh:(decide (1<=z)&&decide (z<=P.pg.length))=true
   · rw[if_pos hh,if_pos hh];simp only[Bool.and_eq_true,decide_eq_true_eq] at hh;have ne:i≠(z-1).toNat:=by omega
     rw[List.getD_eq_getElem?_getD,List.getD_eq_getElem?_getD,List.getElem?_set_ne ne]
   · rw[if_neg hh,if_neg hh]
theorem alloc_count(h0:P.alloc.1.2=0):P.count P.alloc.1.1=0/\∀z,P.alloc.2.count z=if z=P.alloc.1.1 then 1 else P.count z:=by
 obtain⟨i,hi,hs,en,eg,_⟩:=alloc_yes h0;rw[en];refine⟨?_,fun z=>count_set hi eg z⟩
 unfold Q.Po.count Q.Po.has;rw[if_pos (by simp;omega),show((i:Int)+1-1).toNat=i by omega]
 exact(stt_one hs).1
theorem pagesOf_len(s:Nat):∀L:List Q.Pg,(Q.pagesOf L s).length=L.countP (fun x=>decide (Q.stt x=s))
 | []=>rfl
 |x::T=>by
  have ih:=pagesOf_len s T;unfold Q.pagesOf at ih ⊢;rw[List.length_map] at ih ⊢;rw[List.length_cons,List.range_succ_eq_map,List.filter_cons,List.countP_cons]
  have e:((List.map Nat.succ (List.range T.length)).filter fun i=>decide (Q.stt ((x::T).getD i Q.Pg.zero)=s)).length=T.countP (fun x=>decide (Q.stt x=s)):=by
   rw[List.filter_map,List.length_map];exact ih
  by_cases h:Q.stt x=s
  · rw[if_pos (by simpa using h)]
    simp only[List.length_cons,e];simp[h]
  · rw[if_neg (by simpa using h),e]
    simp[h]
theorem pages_alloc(h0:P.alloc.1.2=0):(P.alloc.2.pages 1).length+1=(P.pages 1).length:=by
 obtain⟨i,hi,hs,en,eg,_⟩:=alloc_yes h0;show(if (1:Int)<=1/\(1:Int)<=4 then _ else _:List Int).length+1=(if (1:Int)<=1/\(1:Int)<=4 then _ else _:List Int).length
 rw[if_pos (by omega),if_pos (by omega),eg]
 show(Q.pagesOf _ 1).length+1=(Q.pagesOf _ 1).length;rw[pagesOf_len,pagesOf_len,List.countP_set hi];have hx:P.pg[i]=P.pg.getD i Q.Pg.zero:=by simp[hi]
 have h1:decide (Q.stt P.pg[i]=1)=true:=by rw[hx];simpa using hs
 have h2:decide (Q.stt (1,(P.pg.getD i Q.Pg.zero).2)=1)=false:=by
  rw[(stt_one hs).2];rfl
 rw[h1,h2];have hp:0<P.pg.countP (fun x=>decide (Q.stt x=1)):=List.countP_pos_iff.2 ⟨P.pg[i],List.getElem_mem hi,h1⟩
 simp;omega
theorem alloc_no(h0:P.alloc.1.2≠0):P.alloc.1.2=12/\(P.pages 1).length=0:=by
 unfold Q.Po.alloc at h0 ⊢;split at h0
 · rename_i hp;refine⟨rfl,?_⟩;show(if (1:Int)<=1/\(1:Int)<=4 then _ else _:List Int).length=0
   rw[if_pos (by omega)]
   show(Q.pagesOf _ 1).length=0;rw[hp];rfl
 · exact absurd rfl h0
theorem Chn.mono{S S':Vs}{l:List Nat}{k:Nat}(h:∀z,0<S.X.P.count z->S'.X.P.count z=S.X.P.count z/\S'.X.on z=S.X.on z):∀(r:Nat)(n:Int),Chn S l k r n->Chn S' l k r n
 |0,_,hc=>hc
 |r+1,n,⟨c1,nx,g,hz,hc⟩=>by
  obtain⟨e1,e2⟩:=h n c1;exact⟨by rw[e1];exact c1,nx,by rw[e2];exact g,hz,Chn.mono h r nx hc⟩
structure Spo(l:List Nat)(k:Nat)(S0:Vs)(m:Nat)(S:Vs)(nx:Int):Prop where
 s:Spr l k S0 m S nx
 v:Ve S0.X S.X
 fl:S.fl=S0.fl
 a:S=S0\/∃A,S.al=S0.al++(S0.X.P.mark,S0.X.ch.length)::A
 la:S.al.length=S0.al.length+m
 lm:S.X.P.mark=S0.X.P.mark+m
 lc:S.X.ch.length=S0.X.ch.length+m
 nz:nx=0↔m=0
 st:∀z,0<S0.X.P.count z->S.X.P.count z=S0.X.P.count z/\S.X.on z=S0.X.on z
 fr:(S.X.P.pages 1).length+m=(S0.X.P.pages 1).length
 c:Chn S l k m nx
 nx:0<=nx/\nx<=65536
theorem Spo.zero:Spo l k S0 0 S0 0:=⟨⟨rfl,rfl⟩,Ve.refl _,rfl,.inl rfl,rfl,rfl,rfl,by simp,fun _ _=>⟨rfl,rfl⟩,rfl,rfl,⟨by omega,by omega⟩⟩
theorem alloc_ok(h:P.Ok)(h0:P.alloc.1.2=0):1<=P.alloc.1.1/\P.alloc.1.1<=65536/\P.alloc.2.mark=P.mark+1:=by
 unfold Q.Po.alloc at h0 ⊢;split at h0
 · cases h0
 · rename_i n T hp;have hn:n∈Q.pagesOf P.pg 1:=by rw[hp];exact List.mem_cons_self
   unfold Q.pagesOf at hn;obtain⟨i,hi,e⟩:=List.mem_map.1 hn;have hl:=List.mem_range.1 (List.mem_filter.1 hi).1;have:=h.l2;refine⟨by show 1<=n;omega,by show n<=65536;omega,?_⟩
   simp[Q.Po.act,Q.Po.mark];omega
theorem Spo.step{m:Nat}{S:Vs}{nx:Int}{q:Pv}(h:Spo l k S0 m S nx)(hP:S.X.P.Ok)(hq:q.pg=mkp l (k-1-m) nx)(hi:480*(k-1-m)<l.length)(h0:(S.makeR (mkp l (k-1-m) nx)).2=0):Spo l k S0 (m+1) (S.makeS (mkp l (k-1-m) nx) q) (S.makeR (mkp l (k-1-m) nx)).1:=by
 have hc:=mkp_check (l:=l) (i:=k-1-m) (nx:=nx) hi h.nx.1 h.nx.2;have eR:S.makeR (mkp l (k-1-m) nx)=S.X.P.alloc.1:=by unfold Vs.makeR;rw[if_pos hc]
 rw[eR] at h0;obtain⟨a1,a2,a3⟩:=alloc_ok hP h0
 have eS:S.makeS (mkp l (k-1-m) nx) q=⟨S.X.allocd.lay S.X.P.alloc.1.1 q,S.al++[(S.X.P.mark,S.X.ch.length)],S.fl⟩:=by
  unfold Vs.makeS;rw[if_pos hc,h0];unfold Vs.done;simp
 obtain⟨cn,cz⟩:=alloc_count h0;have qk:q.kind=3:=congrArg Pg.kind hq;have oS:(S.makeS (mkp l (k-1-m) nx) q).X.P=S.X.P.alloc.2:=by rw[eS];rfl
 have fS:(S.makeS (mkp l (k-1-m) nx) q).X.f=fput S.X.f S.X.P.alloc.1.1 q:=by rw[eS];rfl
 have ST:∀z,0<S.X.P.count z->(S.makeS (mkp l (k-1-m) nx) q).X.P.count z=S.X.P.count z/\(S.makeS (mkp l (k-1-m) nx) q).X.on z=S.X.on z:=fun z hz=>by
  have ne:z≠S.X.P.alloc.1.1:=fun e=>by rw[e,cn] at hz;omega
  refine⟨by rw[oS,cz,if_neg ne],?_⟩
  unfold Vm.on;rw[fS];simp[fput,ne]
 have ON:(S.makeS (mkp l (k-1-m) nx) q).X.on S.X.P.alloc.1.1=q:=by
  unfold Vm.on;rw[fS];simp[fput,qk]
 refine⟨⟨S,nx,q,h.s,hq,rfl,rfl⟩,?_,?_,?_,?_,?_,?_,?_,?_,?_,?_,?_⟩
 · rw[eS];exact h.v.trans ((Ve.pool (X:=S.X) (Pe.alloc S.X.P)).trans (Ve.lay S.X.allocd _ q))
 · rw[eS];exact h.fl
 · rw[eS];refine .inr ?_;rcases h.a with e|⟨A,hA⟩
   · exact⟨[],by show S.al++[_]=_;rw[e]⟩
   · exact⟨A++[(S.X.P.mark,S.X.ch.length)],by show S.al++[_]=_;rw[hA];simp⟩
 · rw[eS];show(S.al++[_]).length=_;rw[List.length_append,h.la];rfl
 · rw[eS];show S.X.P.alloc.2.mark=_;rw[a3,h.lm];rfl
 · rw[eS];show(S.X.ch++[_]).length=_;rw[List.length_append,h.lc];rfl
 · rw[eR];constructor<;>intro e<;>omega
 · intro z hz;obtain⟨e1,e2⟩:=h.st z hz;obtain⟨e3,e4⟩:=ST z (by rw[e1];exact hz)
   exact⟨e3.trans e1,e4.trans e2⟩
 · rw[oS];have:=pages_alloc h0;have:=h.fr;omega
 · rw[eR];exact⟨by rw[oS,cz,if_pos rfl];omega,nx,by rw[ON];exact hq,h.nz,Chn.mono ST m nx h.c⟩
 · rw[eR];omega
theorem Ve.fine{X X':Vm}(h:Ve X X')(hf:Fine X.f):Fine X'.f:=by
 obtain⟨_,L,_,u⟩:=h;exact(u hf).1
structure Sl14(w W:World)(b pb mb:Nat)(col:Nat->Nat)(l:List Nat)(k:Nat)(S:Vs)(m:Nat)(bg mk:Nat)(S':Vs)(nx:Int)(pc' col':Nat->Nat):Prop where
 s:Spo l k S m S' nx
 v:Vw W b S' pb mb pc' col'
 f:Vf w col W col'
 xv:W.heap[w.heap.size]?=some (.cells #[.pointer (some ⟨b,0,none⟩)] 41 (0,0))
 xe:W.heap[w.heap.size+1]?=some (.cells #[.int .i64 0] 42 (0,0))
 xg:W.heap[bg]?=some (.cells #[.int .i64 (mk:Int)] 3 (0,0))
 cv:col' w.heap.size=0
 ce:col' (w.heap.size+1)=0
 cg:col' bg=0
theorem spread_any(w:World)(b:Nat)(S:Vs)(pb mb:Nat)(pc col:Nat->Nat)(h:Vw w b S pb mb pc col)(g off c:Nat)(l:List Nat)(hB:Bs w (some ⟨g,off,none⟩) l)(hg:col g=0)(hgl:g<w.heap.size)(hc:l.length<=c)(h1:32<l.length)(h2:l.length<=3840)(k:Nat)(hk:k=(l.length-1)/480+1)(hfn:Fine S.X.f)(hm1:S.fl+S.al.length+9<=9223372036854775807)(hm2:S.al.length+9<=8796093022208)(hm3:S.X.P.mark+9<=17592186044416)(hm4:S.X.ch.length+9<=1759218604441):
 Calls Tryz.prog 133 #[.pointer (some ⟨b,0,none⟩),.slice (some ⟨g,off,none⟩) l.length c] w fun e w'=>
  (∃(S':Vs)(nx:Int),e=.returned (.tuple #[.int .i64 nx,.int .i64 0])/\Spo l k S k S' nx/\∃pc' col',Vw w' b S' pb mb pc' col'/\Vf w col w' col')\/
  (∃(m:Nat)(S1:Vs)(n1 er:Int),e=.returned (.tuple #[.int .i64 0,.int .i64 er])/\er≠0/\m<k/\Spo l k S m S1 n1/\(S1.makeR (mkp l (k-1-m) n1)).2=er/\∃pc' col',Vw w' b S pb mb pc' col'/\Vf w col w' col'):=by
 have hmf:=mkf13;have HV:=hide h;have HFN:=hide hfn
 have MK:=hide (show ∀W:World,Below w.heap.size w W->Calls Tryz.prog 54 #[.pointer (some ⟨b,0,none⟩)] W fun e w'=>e=.returned (.int .i64 ((S.fl+S.al.length:Nat):Int))/\Below W.heap.size W w' from fun W hb=>by
  obtain⟨ac,cc,aa,ca,hq⟩:=h.keep hb;exact vMark_any W b _ _ _ _ _ hq (by show S.fl+S.al.length<=_;omega))
 have PGS:=hide fun(W:World)=>bPages_any W (l.length:Int) (by unfold N64;omega)
 rw[bpn_nat h1,<-hk] at PGS;have U:=hide (two_blk w (.cells #[.pointer (some ⟨b,0,none⟩)] 41) (.cells #[.int .i64 0] 42));have HB:=hide hB;have HK:=hide hk;have hkl:480*(k-1)<l.length:=by omega
 have hkp:1<=k:=by omega
 have hk8:k<=8:=by omega
 have CH:=hide fun(W:World)(i:Nat)(hbW:Bs W (some ⟨g,off,none⟩) l)(hi:480*i<l.length)=>bchunk_any W g off c l i hbW hc hi h2
 have HG:=hide hg;have hb0:b<w.heap.size:=by obtain⟨aa,ca,hx⟩:=h.vx;exact hx.lb
 have Z0:=hide fun(k:Nat)(hk:w.heap.size<=k)=>h.z hk
 have HMS:=hide (And.intro hm1 (And.intro hm2 (And.intro hm3 hm4)));obtain⟨mk,hmk0⟩:∃mk,S.fl+S.al.length=mk:=⟨_,rfl⟩;have HMK:=hide hmk0;rw[hmk0] at MK;clear h hB hk hg hm1 hm2 hm3 hm4 hfn hmk0;obtain⟨n,hn⟩:∃n,l.length=n:=⟨_,rfl⟩;have HN:=hide hn;rw[hn];simp only[hn] at CH PGS;rw[hn] at h1 h2 hkl hc;clear hn;go_enter_defers Tryz.func133,Tryz.ntmps133
 go_wp2_with fail
 refine(MK.out _ U.out.2.2).mono ?_;rintro _ w3 ⟨rfl,hb⟩;have A3:=hide (al w3 (.cells #[.int .i64 (mk:Int)] 3));have XG:=hide (heap_alloc_new w3 (.cells #[.int .i64 (mk:Int)] 3));have XV:=hide (blk13 U.out.1 (bt hb A3.out));have XE:=hide (blk13 U.out.2.1 (bt hb A3.out));have B3:=hide (bt U.out.2.2 (bt hb A3.out));have hw3:w.heap.size+1<w3.heap.size:=(Array.getElem?_eq_some_iff.1 (blk13 U.out.2.1 hb)).1;clear hb U MK;go_wp2_with fail
 refine(PGS.out _).mono ?_;rintro _ w4 ⟨rfl,hw4⟩;rw[hw4];clear hw4 PGS;have WK:Hid (IntKind.i64.wrap ((k:Int)-1)=((k:Int)-1)):=wrapI (by omega) (by omega)
 go_wp2_with fail
 generalize (w3.alloc (.cells #[.int .i64 (mk:Int)] 3))=w5 at *;have S0:Hid (Sl14 w w5 b pb mb col l k S 0 w3.heap.size mk S 0 pc col):=⟨Spo.zero,HV.out.keep B3.out,Vf.keep B3.out,XV.out,XE.out,XG.out,Z0.out _ (Nat.le_refl _),Z0.out _ (by omega),Z0.out _ (by omega)⟩
 go_loopw [7,8] (fun nv a wx=>∃(m:Nat)(S':Vs)(nx:Int)(pc' col':Nat->Nat),m<=k/\nv=.int .i64 nx/\a=.int .i64 ((k:Int)-1-(m:Int))/\Sl14 w wx b pb mb col l k S m w3.heap.size mk S' nx pc' col') (fun _ a _=>(intOf a+1).toNat)
 case atStart=>exact⟨0,S,0,pc,col,Nat.zero_le _,rfl,by first|rfl|(simp;done),S0.out⟩
 case round=>
  clear S0 XV XE B3 A3 XG;obtain⟨m,S',nx,pc',col',hm,rfl,rfl,hS⟩:=hrel;have SL:=hide hS;clear hS;by_cases hlt:m<k
  · obtain⟨i,hi⟩:∃i:Nat,(k:Int)-1-(m:Int)=(i:Int):=⟨k-1-m,by omega⟩
    have hik:i=k-1-m:=by omega
    have hi0:(0:Int)<=(i:Int):=by omega
    have hil:480*i<n:=by omega
    have IK:=hide hik;have o2:N64 nx:=by have:=SL.out.s.nx;unfold N64;omega
    have o3:S'.X.P.mark+1<=17592186044416:=by have:=SL.out.s.lm;have:=HMS.out.2.2.1;omega
    have o4:S'.X.ch.length+1<=1759218604441:=by have:=SL.out.s.lc;have:=HMS.out.2.2.2;omega
    have o5:S'.al.length+1<=8796093022208:=by have:=SL.out.s.la;have:=HMS.out.2.1;omega
    have BL:Hid (∀W:World,Below wr.heap.size wr W->Bs W (some ⟨g,off,none⟩) l):=fun W hb=>(HB.out.but SL.out.f.b (fun x hx _=>by cases hx;show ¬(1<=col g/\col g<=5);have:=HG.out;omega)).keep hb
    have GC:Hid (col' g=0):=(SL.out.f.c g hgl).trans HG.out;have MA:=hide fun(W:World)(hb:Below wr.heap.size wr W)(c':Nat)(hB:Bs W (some ⟨g,off+480*i,none⟩) (cnk l i))(hc':(cnk l i).length<=c')=>Make_any W b S' pb mb pc' col' (SL.out.v.keep hb) ⟨3,0,none,0,[],some ⟨g,off+480*i,none⟩,c',cnk l i,nx⟩ (pf_blob hB GC.out hc' o2) ⟨Nat.le_trans (cnk_le l i) (by decide),fun x hx=>(List.not_mem_nil hx).elim⟩ (Nat.zero_le _) o3 o4 o5
    have PE:Hid (∀c',(⟨3,0,none,0,[],some ⟨g,off+480*i,none⟩,c',cnk l i,nx⟩:Pv).pg=mkp l i nx):=fun _=>rfl
    simp only[PE.out] at MA;unfold Pv.vl at MA;simp only[Pv.cs,List.length_nil] at MA;obtain⟨er,her⟩:∃er,(S'.makeR (mkp l i nx)).2=er:=⟨_,rfl⟩;have HER:=hide her;rw[her] at MA;clear her;have PO:Hid (S'.X.P.Ok):=by obtain⟨aa,ca,hx⟩:=SL.out.v.vx;exact hx.ok
    have SS:=hide fun(W:World)(hx:W.heap[w.heap.size]?=some (.cells #[.pointer (some ⟨b,0,none⟩)] 41 (0,0)))=>(show W.cell? ⟨w.heap.size,0,none⟩=some (.pointer (some ⟨b,0,none⟩)) from by rw[cell_of_row _ _ _ _ _ _ hx];rfl)
    have DD:=hide (dr2 wr);have XV:=hide SL.out.xv;have XE:=hide SL.out.xe;have XG:=hide SL.out.xg;have CV:=hide SL.out.cv;have CE:=hide SL.out.ce;have CG:=hide SL.out.cg;rw[hi];have HI:=hide hi;clear o2 o3 o4 o5 hi hik;go_upto_region 7 with fail
    refine wp_region_noPanic ?_;refine wp_region_held_drew (S:=fun W=>W.cell? ⟨w.heap.size,0,none⟩=some (.pointer (some ⟨b,0,none⟩))) (by kernel_rfl) (SS.out _ XV.out) (fun hHeld=>?_)
    refine tk 0 ?_;refine tk 1 ?_;refine tk 2 ?_;refine tk 4 ?_;refine tw 3 fun K hK=>?_
    go_simp;refine(CH.out _ i (BL.out _ DD.out) hil).mono ?_;rintro _ w6 ⟨c',rfl,hB6,hc6,hw6⟩;subst hw6;have MM:=hide (MA.out _ DD.out c' hB6 hc6);clear hB6 hc6;go_wp2_with fail
    refine hK.out _ _ (SS.out _ XV.out) (fun hHeld=>?_)
    clear hK K;try simp only[pt]
    refine tk 5 ?_;refine tw 6 fun K hK=>?_
    go_simp;refine MM.out.mono ?_;rintro _ w7 ⟨q,hq,rfl,pc2,col2,v2,f2⟩;have Q2:=hide hq;have V2:=hide v2;have F2:=hide ((Vf.keep DD.out).trans f2);have XV2:=hide (F2.out.b.same XV.out (fun e=>by rw[CV.out] at e;omega))
    have XE2:=hide (F2.out.b.same XE.out (fun e=>by rw[CE.out] at e;omega))
    have XG2:=hide (F2.out.b.same XG.out (fun e=>by rw[CG.out] at e;omega))
    clear hq v2 f2;go_wp2_with fail
    refine hK.out _ _ (SS.out _ XV2.out) (fun hHeld=>?_)
    clear hK K;try simp only[pt]
    refine tk 7 ?_;refine tk 8 ?_;refine tk 9 ?_;refine tk 10 ?_;refine tw 11 fun K hK=>?_
    have c0:w7.cell? ⟨w.heap.size+1,0,none⟩=some (.int .i64 0):=by rw[cell_of_row _ _ _ _ _ _ XE2.out];rfl
    have f0:w7.frozen? ⟨w.heap.size+1,0,none⟩=false:=frozen_of_row _ _ _ _ _ XE2.out;go_simp;have XV3:=hide ((Below.heap_setCell w7 ⟨w.heap.size+1,0,none⟩ (.int .i64 er) w.heap.size (show w.heap.size≠w.heap.size+1 by omega)).trans XV2.out)
    have XG3:=hide ((Below.heap_setCell w7 ⟨w.heap.size+1,0,none⟩ (.int .i64 er) w3.heap.size (show w3.heap.size≠w.heap.size+1 by omega)).trans XG2.out)
    have XE3:=hide (heap_setCell_same w7 (w.heap.size+1) 0 _ 42 (.int .i64 er) XE2.out);have C2:Hid (col2 w.heap.size=0/\col2 (w.heap.size+1)=0/\col2 w3.heap.size=0):=⟨(F2.out.c _ (Array.getElem?_eq_some_iff.1 XV.out).1).trans CV.out,(F2.out.c _ (Array.getElem?_eq_some_iff.1 XE.out).1).trans CE.out,(F2.out.c _ (Array.getElem?_eq_some_iff.1 XG.out).1).trans CG.out⟩;have NB:=hide (But.cell1 w7 (w.heap.size+1) 0 (.int .i64 er));have V3:=hide (V2.out.but13 NB.out (fun k hk e=>hk (by rw[e];exact C2.out.2.1)))
    have F3:Hid (Vf w col (w7.setCell ⟨w.heap.size+1,0,none⟩ (.int .i64 er)) col2):=⟨(SL.out.f.trans F2.out).b.trans NB.out (fun x hx e=>by omega),(SL.out.f.trans F2.out).c⟩
    refine hK.out _ _ (SS.out _ XV3.out) (fun hHeld=>?_)
    clear hK K c0 f0;try simp only[pt]
    refine td ?_;refine NoPanic.normal ?_;clear hHeld MM NB;generalize w7.setCell ⟨w.heap.size+1,0,none⟩ (.int .i64 er)=w8 at *;have c0:w8.cell? ⟨w.heap.size+1,0,none⟩=some (.int .i64 er):=by rw[cell_of_row _ _ _ _ _ _ XE3.out];rfl
    have f0:w8.frozen? ⟨w.heap.size+1,0,none⟩=false:=frozen_of_row _ _ _ _ _ XE3.out;by_cases he0:er=0
    · subst he0
      have N3:Hid (Spo l k S (m+1) (S'.makeS (mkp l i nx) q) (S'.makeR (mkp l i nx)).1):=by
       have:=SL.out.s.step (q:=q) PO.out (by rw[<-IK.out];exact Q2.out) (by rw[<-IK.out,HN.out];exact hil) (by rw[<-IK.out];exact HER.out)
       rw[<-IK.out] at this;exact this
      obtain⟨nx2,hnx2⟩:∃nx2,(S'.makeR (mkp l i nx)).1=nx2:=⟨_,rfl⟩;obtain⟨S2,hS2⟩:∃S2,S'.makeS (mkp l i nx) q=S2:=⟨_,rfl⟩;rw[hnx2,hS2] at N3;rw[hS2] at V3;rw[hnx2];clear hnx2 hS2;go_wp2_with fail
      go_roundw
      case rel=>exact⟨m+1,S2,nx2,pc2,col2,by omega,rfl,by have:=HI.out;first|(go_num;done)|exact congrArg (Value.int IntKind.i64) (by omega),⟨N3.out,V3.out,F3.out,XV3.out,XE3.out,XG3.out,C2.out.1,C2.out.2.1,C2.out.2.2⟩⟩
      case measure=>simp[intOf]
    · have hne:(er != 0)=true:=by simpa using he0
      have SB:Hid (S'.makeS (mkp l i nx) q=S'):=by
       have hc:=mkp_check (l:=l) (i:=i) (nx:=nx) (by rw[HN.out];exact hil) SL.out.s.nx.1 SL.out.s.nx.2
       have eR:S'.X.P.alloc.1.2=er:=by have:=HER.out;unfold Vs.makeR at this;rw[if_pos hc] at this;exact this
       show _=_;unfold Vs.makeS;rw[if_pos hc,eR,if_neg he0];exact Vs.done_no he0 (Ve.pool (X:=S'.X) (Pe.alloc S'.X.P)) (SL.out.s.v.fine HFN.out)
      rw[SB.out] at V3;have HE0:=hide he0;clear he0;go_wp2_with fail
      refine wp_region_noPanic ?_;go_region
      refine NoPanic.normal ?_;have NB9:=hide (But.cell1 w8 (w.heap.size+1) 0 (.int .i64 er));have D9:=hide (dr2 (w8.setCell ⟨w.heap.size+1,0,none⟩ (.int .i64 er)));have XV9:=hide (blk13 ((Below.heap_setCell w8 ⟨w.heap.size+1,0,none⟩ (.int .i64 er) w.heap.size (show w.heap.size≠w.heap.size+1 by omega)).trans XV3.out) D9.out)
      have XG9:=hide (blk13 ((Below.heap_setCell w8 ⟨w.heap.size+1,0,none⟩ (.int .i64 er) w3.heap.size (show w3.heap.size≠w.heap.size+1 by omega)).trans XG3.out) D9.out)
      have XE9:=hide (blk13 (heap_setCell_same w8 (w.heap.size+1) 0 _ 42 (.int .i64 er) XE3.out) D9.out);have V9:=hide ((V3.out.but13 NB9.out (fun k hk e=>hk (by rw[e];exact C2.out.2.1))).keep D9.out)
      have F9:Hid (Vf w col (w8.setCell ⟨w.heap.size+1,0,none⟩ (.int .i64 er)).drew col2):=(show Vf w col (w8.setCell ⟨w.heap.size+1,0,none⟩ (.int .i64 er)) col2 from⟨F3.out.b.trans NB9.out (fun x hx e=>by omega),F3.out.c⟩).trans (Vf.keep D9.out)
      clear c0 f0 NB9 D9;generalize (w8.setCell ⟨w.heap.size+1,0,none⟩ (.int .i64 er)).drew=w9 at *;go_wp2_with fail
      have c1:w9.cell? ⟨w.heap.size+1,0,none⟩=some (.int .i64 er):=by rw[cell_of_row _ _ _ _ _ _ XE9.out];rfl
      have c2:w9.cell? ⟨w.heap.size,0,none⟩=some (.pointer (some ⟨b,0,none⟩)):=by rw[cell_of_row _ _ _ _ _ _ XV9.out];rfl
      have c3:w9.cell? ⟨w3.heap.size,0,none⟩=some (.int .i64 ((S.fl+S.al.length:Nat):Int)):=by rw[cell_of_row _ _ _ _ _ _ XG9.out,HMK.out];rfl
      refine leaves_cons (f:=162) (args:=#[.pointer (some ⟨w.heap.size+1,0,none⟩),.pointer (some ⟨w.heap.size,0,none⟩),.pointer (some ⟨w3.heap.size,0,none⟩)]) (by simp) (by simp[go_sem]) ?_
      refine(spreadC_undo w9 b S' pb mb pc2 col2 V9.out S SL.out.s.v HFN.out SL.out.s.fl SL.out.s.a (by have:=SL.out.s.la;have:=SL.out.s.fl;have:=HMS.out.1;omega) (by have:=SL.out.s.lm;have:=HMS.out.2.2.1;omega) er HE0.out _ _ _ c1 c2 c3).mono ?_
      rintro e u' w10 ⟨rfl,rfl,pc3,col3,hV10,hF10⟩;simp only[settle];have XE10:=hF10.b.same XE9.out (fun e=>by rw[C2.out.2.1] at e;omega)
      have c10:w10.cell? ⟨w.heap.size+1,0,none⟩=some (.int .i64 er):=by rw[cell_of_row _ _ _ _ _ _ XE10];rfl
      exact⟨_,results_tc _ _ ⟨w.heap.size+1,0,none⟩ er rfl c10,.inr ⟨m,S',nx,er,rfl,HE0.out,hlt,SL.out.s,by rw[<-IK.out];exact HER.out,pc3,col3,hV10,F9.out.trans hF10⟩⟩
  · obtain rfl:m=k:=by omega
    have e1:(m:Int)-1-(m:Int)= -1:=by omega
    rw[e1];clear e1;have c0:wr.cell? ⟨w.heap.size+1,0,none⟩=some (.int .i64 0):=by rw[cell_of_row _ _ _ _ _ _ SL.out.xe];rfl
    have f0:wr.frozen? ⟨w.heap.size+1,0,none⟩=false:=frozen_of_row _ _ _ _ _ SL.out.xe;have XE3:=hide (heap_setCell_same wr (w.heap.size+1) 0 _ 42 (.int .i64 0) SL.out.xe);have NB:=hide (But.cell1 wr (w.heap.size+1) 0 (.int .i64 0));have V3:=hide (SL.out.v.but13 NB.out (fun k hk e=>hk (by rw[e];exact SL.out.ce)))
    have F3:Hid (Vf w col (wr.setCell ⟨w.heap.size+1,0,none⟩ (.int .i64 0)) col'):=⟨SL.out.f.b.trans NB.out (fun x hx e=>by omega),SL.out.f.c⟩
    have SP:=hide SL.out.s;clear SL NB CH;go_wp2_with fail
    generalize wr.setCell ⟨w.heap.size+1,0,none⟩ (.int .i64 0)=w8 at *;have c8:w8.cell? ⟨w.heap.size+1,0,none⟩=some (.int .i64 0):=by rw[cell_of_row _ _ _ _ _ _ XE3.out];rfl
    refine leaves_cons (f:=162) (args:=#[.pointer (some ⟨w.heap.size+1,0,none⟩),.pointer (some ⟨w.heap.size,0,none⟩),.pointer (some ⟨w3.heap.size,0,none⟩)]) (by simp) (by simp[go_sem]) ?_
    refine(spreadC_idle w8 _ _ _ c8).mono ?_;rintro e u' w9 ⟨rfl,rfl,rfl⟩;simp only[settle];exact⟨_,results_tc _ _ ⟨w.heap.size+1,0,none⟩ 0 rfl c8,.inl ⟨S',nx,rfl,SP.out,pc',col',V3.out,F3.out⟩⟩
theorem below_row{w W:World}{g:Nat}(cs:Array Value)(hb:Below w.heap.size w W)(hg:w.heap.size<=g):Below w.heap.size w (W.setRow g cs):=((But.ofBelow (S:=fun k=>k=g) hb).trans (setRow_butv W g cs) (fun _ _ e=>e)).below (fun k hk e=>by omega)
theorem Store_key(w:World)(v:Value)(ak av:Option Addr)(n ck s cv:Nat)(hk:n=0\/24<n):
 Calls Tryz.prog 78 #[v,.slice ak n ck,.slice av s cv] w fun e w'=>e=.returned (.tuple #[Iv.zero.vl,.int .i64 7])/\Below w.heap.size w w':=by
 have A0:=hide (al w (.cells #[.slice none 0 0,.slice none 0 0,.int .i64 0,.int .i64 0] 51));have X0:=hide (heap_alloc_new w (.cells #[.slice none 0 0,.slice none 0 0,.int .i64 0,.int .i64 0] 51));rcases hk with rfl|hk
 · go_enter Tryz.func78,Tryz.ntmps78;go_wp2_with (first|(refine wpList_store_row rfl 51 _ _ rfl w.heap.size _ rfl rfl 51 _ X0.out sizeItem rfl (by simp[Value.oneCell']) ?_)|fail)
   refine bodyPost_ret (v:=.tuple #[.agg _,_]) (results_cell_one Tryz.results78 _ _ w.heap.size 51 _ (0,0) _ rfl (setRow_heap _ _ _ _ _ _ X0.out) Tryz.underlying51 rfl sizeItem) rfl ?_;exact⟨rfl,below_row _ A0.out (Nat.le_refl _)⟩
 · have d1:((n:Int)==0)=false:=by simp;omega
   have d2:decide ((24:Int)<(n:Int))=true:=decide_eq_true (by omega)
   go_enter Tryz.func78,Tryz.ntmps78;go_wp2_with (first|(refine wpList_store_row rfl 51 _ _ rfl w.heap.size _ rfl rfl 51 _ X0.out sizeItem rfl (by simp[Value.oneCell']) ?_)|fail)
   refine bodyPost_ret (v:=.tuple #[.agg _,_]) (results_cell_one Tryz.results78 _ _ w.heap.size 51 _ (0,0) _ rfl (setRow_heap _ _ _ _ _ _ X0.out) Tryz.underlying51 rfl sizeItem) rfl ?_;exact⟨rfl,below_row _ A0.out (Nat.le_refl _)⟩
theorem Store_val(w:World)(v:Value)(ak av:Option Addr)(n ck s cv:Nat)(h1:1<=n)(h2:n<=24)(hs:3840<s):
 Calls Tryz.prog 78 #[v,.slice ak n ck,.slice av s cv] w fun e w'=>e=.returned (.tuple #[Iv.zero.vl,.int .i64 8])/\Below w.heap.size w w':=by
 have A0:=hide (al w (.cells #[.slice none 0 0,.slice none 0 0,.int .i64 0,.int .i64 0] 51));have X0:=hide (heap_alloc_new w (.cells #[.slice none 0 0,.slice none 0 0,.int .i64 0,.int .i64 0] 51));have d1:((n:Int)==0)=false:=by simp;omega
 have d2:decide ((24:Int)<(n:Int))=false:=decide_eq_false (by omega)
 have d3:decide ((3840:Int)<(s:Int))=true:=decide_eq_true (by omega)
 go_enter Tryz.func78,Tryz.ntmps78;go_wp2_with (first|(refine wpList_store_row rfl 51 _ _ rfl w.heap.size _ rfl rfl 51 _ X0.out sizeItem rfl (by simp[Value.oneCell']) ?_)|fail)
 refine bodyPost_ret (v:=.tuple #[.agg _,_]) (results_cell_one Tryz.results78 _ _ w.heap.size 51 _ (0,0) _ rfl (setRow_heap _ _ _ _ _ _ X0.out) Tryz.underlying51 rfl sizeItem) rfl ?_;exact⟨rfl,below_row _ A0.out (Nat.le_refl _)⟩
theorem Load_short(w:World)(v:Value)(x:Iv)(hx:Bs w x.aV x.val)(h1:x.val.length<=32)(hz:x.size=(x.val.length:Int)):
 Calls Tryz.prog 79 #[v,x.vl] w fun e w'=>∃(a:Option Addr)(c:Nat),e=.returned (.tuple #[.slice a x.val.length c,.int .i64 0])/\Own w w' a c x.val:=by
 have A0:=hide (al w (.cells x.cs 51));have X0:=hide (heap_alloc_new w (.cells x.cs 51));have CL:=hide (Clone_own (w.alloc (.cells x.cs 51)) x.aV x.cV x.val (hx.keep A0.out) (by omega))
 clear hx;obtain⟨xK,xcK,xkey,xV,xcV,xval,xch,xsz⟩:=x;simp only at hz h1;subst hz;unfold Iv.vl;simp only[Iv.cs] at A0 X0 CL ⊢;obtain⟨s,hs⟩:∃s,xval.length=s:=⟨_,rfl⟩;rw[hs] at h1 CL A0 X0 ⊢;clear hs;have d1:decide ((s:Int)<0)=false:=decide_eq_false (by omega)
 have d2:decide ((3840:Int)<(s:Int))=false:=decide_eq_false (by omega)
 have d3:decide ((32:Int)<(s:Int))=false:=decide_eq_false (by omega)
 have d4:((s:Int) != (s:Int))=false:=by simp
 obtain⟨x0,x1,x2,x3⟩:=four13 X0.out;go_enter Tryz.func79,Tryz.ntmps79;go_wp2_with fail
 refine CL.out.mono ?_;rintro _ w3 ⟨a,c,rfl,hO⟩;have OO:Hid (Own w w3 a c xval):=⟨hO.r,hO.n.mono A0.out.size,bt A0.out hO.b⟩;clear hO;go_wp2_with fail
 refine bodyPost_ret (results_tmp2 rfl _ _ _) rfl ?_;exact⟨a,c,rfl,OO.out⟩
end Go.Proofs.YtcpkinhneehomaaGreat
