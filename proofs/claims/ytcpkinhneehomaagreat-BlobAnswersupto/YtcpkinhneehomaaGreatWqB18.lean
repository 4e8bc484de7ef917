import Derived.Test.YtcpkinhneehomaaGreatWqB13
import Derived.Test.YtcpkinhneehomaaGreatWqB17
set_option linter.unusedVariables false
set_option linter.unusedSimpArgs false
set_option maxHeartbeats 1000000
namespace Go.Proofs.YtcpkinhneehomaaGreat
open Go.RowKit
variable {L:List Iv}{cap g k mb pb:Nat}{col pc:Nat->Nat}{w:World}
theorem results_cell_one{P:Program}{fn:Func}{p q:Tmp}{ty:TypeId}(h:fn.results=#[.cell p ty,.tmp q])(tmps:Array Value)(w:World)(g:Nat)(t:TypeId)(cs:Array Value)(fr:Nat×Nat)(d:TypeDesc)
 (hp:tmps.getD p undef=.pointer (some ⟨g,0,none⟩)) (hg:w.heap[g]?=some (.cells cs t fr))
 (hu:P.underlying ty=some d) (hd:(match d with| .struct _| .array _ _=>true|_=>false)=true) (hi:(P.info? ty).map (·.size)=some cs.size):
 (results fn tmps).run P w=.ok (.tuple #[.agg cs,tmps.getD q undef]) w:=by
 have hp':tmps[p]?.getD undef=.pointer (some ⟨g,0,none⟩):=by simpa using hp
 simp[results,h,hp',asAddr,run_loadVar_row w g t ty cs fr d hg hu hd hi]
def Vm.lay(X:Vm)(n:Int)(p:Pv):Vm:={X with f:=fput X.f n p,ch:=X.ch++[(n,X.on n)]}
theorem lay_st(w:World)(b:Nat)(X:Vm)(fl:Nat)(D:Vd)(pc col:Nat->Nat)(h:Vx w b X fl D pc col)(n:Int)(p:Pv)(hp:Pz (fun k=>col k=6) w p)(hlen:X.ch.length+1<=1759218604441):
 Calls Tryz.prog 131 #[.pointer (some ⟨b,0,none⟩),.int .i64 n,p.vl] w fun e w'=>e=.returned (.tuple #[])/\∃pc' col',Vx w' b (X.lay n p) fl D pc' col'/\Vf w col w' col':=by
 obtain⟨ac,cc,h⟩:=h;refine(lay_any w b X.P fl (D.st X ac cc) pc col h n p hp hlen).mono ?_;rintro _ w' ⟨rfl,ac',cc',col',hv,hf⟩;exact⟨rfl,pc,col',⟨ac',cc',hv⟩,hf⟩
theorem alloc_st(w:World)(b:Nat)(X:Vm)(fl:Nat)(D:Vd)(pc col:Nat->Nat)(h:Vx w b X fl D pc col)(hm:X.P.ac.length+1<=17592186044416):
 Calls Tryz.prog 130 #[.pointer (some ⟨D.pb,0,none⟩)] w fun e w'=>e=.returned (.tuple #[.int .i64 X.P.alloc.1.1,.int .i64 X.P.alloc.1.2])/\∃pc' col',Vx w' b {X with P:=X.P.alloc.2} fl D pc' col'/\Vf w col w' col':=by
 obtain⟨ac,cc,h⟩:=h;refine(Q.Alloc_any w D.pb X.P pc h.pool hm).mono ?_;rintro _ w' ⟨rfl,pc',hp,hf⟩;obtain⟨v,f⟩:=h.pooled hp hf;exact⟨rfl,pc',_,⟨ac,cc,v⟩,f⟩
theorem inc_st(w:World)(b:Nat)(X:Vm)(fl:Nat)(D:Vd)(pc col:Nat->Nat)(h:Vx w b X fl D pc col)(z:Int)(hm:X.P.ac.length+1<=17592186044416):
 Calls Tryz.prog 108 #[.pointer (some ⟨D.pb,0,none⟩),.int .i64 z] w fun e w'=>e=.returned (.int .i64 (X.P.inc z).1)/\∃pc' col',Vx w' b {X with P:=(X.P.inc z).2} fl D pc' col'/\Vf w col w' col':=by
 obtain⟨ac,cc,h⟩:=h;refine(Q.Inc_any w D.pb X.P pc h.pool z hm).mono ?_;rintro _ w' ⟨rfl,pc',hp,hf⟩;obtain⟨v,f⟩:=h.pooled hp hf;exact⟨rfl,pc',_,⟨ac,cc,v⟩,f⟩
theorem alloc_ac(P:Q.Po):P.alloc.2.ac.length<=P.ac.length+1:=by
 unfold Q.Po.alloc;split
 · exact Nat.le_succ _
 · simp[Q.Po.act]
structure Vs where
 X:Vm
 al:List (Nat×Nat)
 fl:Nat
def Vw(w:World)(b:Nat)(S:Vs)(pb mb:Nat)(pc col:Nat->Nat):Prop:=∃ac cc aa ca,Vq w b S.X.P S.fl ⟨pb,mb,S.X.f,ac,cc,S.X.ch,aa,ca,S.al⟩ pc col
theorem Vw.keep{w':World}{b:Nat}{S:Vs}(h:Vw w b S pb mb pc col)(hb:Below w.heap.size w w'):Vw w' b S pb mb pc col:=by
 obtain⟨ac,cc,aa,ca,h⟩:=h;exact⟨ac,cc,aa,ca,h.keep hb⟩
def vd0(pb mb:Nat)(aa:Option Addr)(ca:Nat)(al:List (Nat×Nat)):Vd:=⟨pb,mb,fun _=>none,none,0,[],aa,ca,al⟩
theorem Vw.vx{b:Nat}{S:Vs}(h:Vw w b S pb mb pc col):∃aa ca,Vx w b S.X S.fl (vd0 pb mb aa ca S.al) pc col:=by
 obtain⟨ac,cc,aa,ca,h⟩:=h;exact⟨aa,ca,ac,cc,h⟩
theorem Vw.c0{b:Nat}{S:Vs}(h:Vw w b S pb mb pc col):w.cell? ⟨b,0,none⟩=some (.pointer (some ⟨pb,0,none⟩)):=by
 obtain⟨ac,cc,aa,ca,h⟩:=h;exact h.cells.1
theorem Vw.z{b:Nat}{S:Vs}(h:Vw w b S pb mb pc col)(hk:w.heap.size<=k):col k=0:=by
 obtain⟨aa,ca,h⟩:=h.vx;exact h.z hk
def Vm.back(X:Vm)(k m:Nat):Vm:=⟨X.P.undo ((k:Nat):Int),unl X.f (X.ch.drop m),X.ch.take m⟩
def Vs.done(S:Vs)(e:Int)(X:Vm):Vs:=if e=0 then ⟨X,S.al++[(S.X.P.mark,S.X.ch.length)],S.fl⟩ else ⟨X.back S.X.P.mark S.X.ch.length,S.al,S.fl⟩
theorem here_st(w:World)(b:Nat)(S:Vs)(pb mb:Nat)(pc col:Nat->Nat)(h:Vw w b S pb mb pc col)(hm:S.X.P.mark<=9223372036854775807):
 Calls Tryz.prog 97 #[.pointer (some ⟨b,0,none⟩)] w fun e w'=>e=.returned (.agg #[.int .i64 ((S.X.P.mark:Nat):Int),.int .i64 ((S.X.ch.length:Nat):Int)])/\Below w.heap.size w w':=by
 obtain⟨ac,cc,aa,ca,h⟩:=h;exact here_any w b S.X.P S.fl _ pc col h hm
theorem end_st(w:World)(b:Nat)(S:Vs)(X:Vm)(pb mb:Nat)(aa:Option Addr)(ca:Nat)(pc col:Nat->Nat)(h:Vx w b X S.fl (vd0 pb mb aa ca S.al) pc col)(e:Int)(hc:S.X.ch.length<=X.ch.length)(hm:X.P.mark<=9223372036854775807)(hl:S.al.length+1<=8796093022208):
 Calls Tryz.prog 99 #[.pointer (some ⟨b,0,none⟩),.agg #[.int .i64 ((S.X.P.mark:Nat):Int),.int .i64 ((S.X.ch.length:Nat):Int)],.int .i64 e] w fun x w'=>x=.returned (.int .i64 e)/\∃pc' col',Vw w' b (S.done e X) pb mb pc' col'/\Vf w col w' col':=by
 obtain⟨ac,cc,h⟩:=h;unfold Vs.done;by_cases h0:e=0
 · subst h0;rw[if_pos rfl];refine(end_ok w b X.P S.fl _ pc col h (S.X.P.mark,S.X.ch.length) hl).mono ?_;rintro _ w' ⟨rfl,aa',ca',col',hv,hf⟩;exact⟨rfl,pc,col',⟨ac,cc,aa',ca',hv⟩,hf⟩
 · rw[if_neg h0];refine(end_no w b X.P S.fl _ pc col h S.X.P.mark S.X.ch.length hc hm e h0).mono ?_;rintro _ w' ⟨rfl,pc',col',hv,hf⟩;exact⟨rfl,pc',col',⟨ac,cc,aa,ca,hv⟩,hf⟩
theorem inc_mark(P:Q.Po)(z:Int):(P.inc z).2.mark<=P.mark+1:=by
 unfold Q.Po.inc;split
 · exact Nat.le_succ _
 · split
   · exact Nat.le_succ _
   · simp[Q.Po.act,Q.Po.mark];omega
def VMade(w w':World)(b:Nat)(S:Vs):Prop:=∃pb mb pc col,Vw w' b S pb mb pc col/\Below w.heap.size w w'/\∀k,col k≠0->w.heap.size<=k
def Vs.start(P:Q.Po):Vs:=⟨⟨P,fun _=>none,[]⟩,[],0⟩
theorem made_vault{w1:World}{P:Q.Po}(h:Q.Made w w1 pb P):
 VMade w ((w1.alloc (.map #[] 0)).alloc (.cells #[.pointer (some ⟨pb,0,none⟩),.map (some w1.heap.size),.slice none 0 0,.slice none 0 0,.int .i64 0] 85)) (w1.heap.size+1) (Vs.start P):=by
 obtain⟨pc,hp,hb,hn⟩:=h;have a1:=al w1 (.map #[] 0);have a2:=al (w1.alloc (.map #[] 0)) (.cells #[.pointer (some ⟨pb,0,none⟩),.map (some w1.heap.size),.slice none 0 0,.slice none 0 0,.int .i64 0] 85);have s1:(w1.alloc (.map #[] 0)).heap.size=w1.heap.size+1:=size_alloc _ _;have s2:((w1.alloc (.map #[] 0)).alloc (.cells #[.pointer (some ⟨pb,0,none⟩),.map (some w1.heap.size),.slice none 0 0,.slice none 0 0,.int .i64 0] 85)).heap.size=w1.heap.size+2:=by rw[size_alloc,s1]
 have hbox:=World.alloc_heap_new (w1.alloc (.map #[] 0)) (.cells #[.pointer (some ⟨pb,0,none⟩),.map (some w1.heap.size),.slice none 0 0,.slice none 0 0,.int .i64 0] 85);rw[s1] at hbox;have hs:=hb.size;refine⟨pb,w1.heap.size,pc,fun k=>if k=w1.heap.size+1 then 1 else if k=w1.heap.size then 2 else if pc k≠0 then 5 else 0,⟨none,0,none,0,⟨hbox,((Mp.made w1).keep a2).congr (fun _=>rfl),Q.Gw.nil _ _ _,Q.Gw.nil _ _ _,hp.keep (bt a1 a2),fun k p e=>(by cases e),fun x hx=>absurd hx (List.not_mem_nil),if_pos rfl,?_,fun x hx=>(by cases hx),fun x hx=>(by cases hx),fun k hk=>?_,fun k hk=>?_⟩⟩,bt hb (bt a1 a2),fun k hk=>?_⟩
 · show(if w1.heap.size=w1.heap.size+1 then 1 else if w1.heap.size=w1.heap.size then 2 else _)=2
   rw[if_neg (by omega),if_pos rfl]
 · have:=hp.lt k hk;show(if k=w1.heap.size+1 then 1 else if k=w1.heap.size then 2 else if pc k≠0 then 5 else 0)=5
   rw[if_neg (by omega),if_neg (by omega),if_pos hk]
 · rw[s2];by_cases h1:k=w1.heap.size+1
   · omega
   · by_cases h2:k=w1.heap.size
     · omega
     · by_cases h3:pc k≠0
       · have:=hp.lt k h3;omega
       · exact absurd (show(if k=w1.heap.size+1 then 1 else if k=w1.heap.size then 2 else if pc k≠0 then 5 else 0)=0 by rw[if_neg h1,if_neg h2,if_neg h3]) hk
 · by_cases h1:k=w1.heap.size+1
   · omega
   · by_cases h2:k=w1.heap.size
     · omega
     · by_cases h3:pc k≠0
       · exact hn k h3
       · exact absurd (show(if k=w1.heap.size+1 then 1 else if k=w1.heap.size then 2 else if pc k≠0 then 5 else 0)=0 by rw[if_neg h1,if_neg h2,if_neg h3]) hk
theorem vNew_no(w:World)(n r:Int)(h:Q.fits n r=false):Calls Tryz.prog 19 #[.int .i64 n,.int .i64 r] w fun e w'=>e=.returned (.tuple #[.pointer none,.int .i64 1])/\w'=w:=by
 have C:=hide (Q.New_no w n r h);clear h;go_enter Tryz.func19,Tryz.ntmps19;go_wp2_with fail
 refine C.out.mono ?_;rintro _ wq ⟨rfl,hwq⟩;obtain rfl:=hwq.symm;go_wp2;go_ret2
 exact⟨rfl,rfl⟩
theorem vNew_yes(w:World)(n r:Int)(h:Q.fits n r=true):Calls Tryz.prog 19 #[.int .i64 n,.int .i64 r] w fun e w'=>∃b,e=.returned (.tuple #[.pointer (some ⟨b,0,none⟩),.int .i64 0])/\VMade w w' b (Vs.start (Q.Po.start r (List.replicate n.toNat 0))):=by
 have C:=hide (Q.New_yes w n r h);clear h;go_enter Tryz.func19,Tryz.ntmps19;go_wp2_with fail
 refine C.out.mono ?_;rintro _ w1 ⟨pb,rfl,hM⟩;have HM:=hide (made_vault hM);have hmm:= @run_makeMap Tryz.prog;clear hM C;go_wp2;go_ret2
 exact⟨_,rfl,HM.out⟩
theorem Jc_one(L:List Iv):∀u∈Jc L,u.oneCell'=true:=by
 intro u hu;unfold Jc at hu;obtain⟨l,hl,hu⟩:=List.mem_flatten.1 hu;obtain⟨v,hv,rfl⟩:=List.mem_map.1 hl;exact(Array.all_eq_true_iff_forall_mem.1 (cs_one v)) u (by simpa using hu)
theorem Js.all{a:Option Addr}(h:Js w a L)(h0:0<L.length):∃ad,a=some ad/\∀j u,(Jc L)[j]?=some u->w.cell? (ad.add j)=some u:=by
 obtain⟨b,off,rfl,_⟩:=h.at h0;refine⟨_,rfl,fun j u hj=>?_⟩
 have hjl:j<L.length*4:=by
  rw[<-Jc_length];exact(List.getElem?_eq_some_iff.1 hj).1
 obtain⟨b2,off2,e,hr⟩:=h.at (r:=j/4) (by omega)
 cases e;have k:=Jc_get L (j/4) (j%4) (by omega) (by omega)
 rw[show j/4*4+j%4=j by omega,hj] at k
 have:=hr (j%4) u k.symm;rw[Addr.add_mid,show off+j=off+j/4*4+j%4 by omega]
 exact this
theorem run_apJs(w:World)(ty:TypeId)(ad:Addr)(c:Nat)(L:List Iv)(hc:∀j u,(Jc L)[j]?=some u->w.cell? (ad.add j)=some u)(h0:0<L.length)(hlen:L.length<=2199023255489):
 ∃g cap' w',(Builtin.append_ #[28,28] ty #[.slice none 0 0,.slice (some ad) L.length c]).run Tryz.prog w=.ok (.slice (some ⟨g,0,none⟩) L.length cap') w'/\
  Jw w' (some ⟨g,0,none⟩) cap' L/\w.heap.size<=g/\Below w.heap.size w w':=by
 obtain⟨i0,hi,hz0,hz1,hz2⟩:=info_parts infoItem
 obtain⟨g,cap',w',hr,h1,h2,h3,h4⟩:=run_append_lies (P:=Tryz.prog) w 28 ty 0 51 i0 (.agg Iv.zero.cs) 4 64 Tryz.underlying28 hi hz0 hz1 hz2 rfl (by decide) (.slice none 0 0) 0 [] (World.ownsRow_nil w 0 51 4) ad L.length c (Jc L) (Jc_length L)
  hc (Jc_one L) h0 (by unfold maxLen;omega) (by omega) (Nat.zero_le _) w.heap.size rfl
 rw[Nat.zero_add] at hr h1;rw[List.nil_append] at h1
 have hg:g=w.heap.size:=by
  rcases h3 with h3|h3
  · cases h3
  · exact h3
 exact⟨g,cap',w',hr,h1,by omega,(But.inA (a:=none) h2).below (fun k _ ⟨x,hx,_⟩=>by cases hx)⟩
theorem Jc_set2:∀(L:List Iv)(k:Nat),k<L.length->∀(aK:Option Addr)(cK:Nat)(aV:Option Addr)(cV:Nat),((Jc L).set (k*4) (.slice aK (L.getD k Iv.zero).key.length cK)).set (k*4+1) (.slice aV (L.getD k Iv.zero).val.length cV)=Jc (L.set k {L.getD k Iv.zero with aK:=aK,cK:=cK,aV:=aV,cV:=cV})
 | [],k,h,_,_,_,_=>absurd h (by simp)
 |x::L,0,h,aK,cK,aV,cV=>by simp[Jc,Iv.cs]
 |x::L,k+1,h,aK,cK,aV,cV=>by
  have ih:=Jc_set2 L k (by simpa using h) aK cK aV cV
  have e:∀(y:Iv)(M:List Iv),Jc (y::M)=y.cs.toList++Jc M:=fun y M=>by simp[Jc]
  have hl:x.cs.toList.length=4:=rfl;rw[e,List.getD_cons_succ,List.set_cons_succ,e,<-ih,show(k+1)*4=k*4+4 by omega,List.set_append_right _ _ (by omega),List.set_append_right _ _ (by omega),hl,show k*4+4-4=k*4 by omega,show k*4+4+1-4=k*4+1 by omega]
theorem Jw.set2(h:Jw w (some ⟨g,0,none⟩) cap L)(hk:k<L.length)(aK:Option Addr)(cK:Nat)(aV:Option Addr)(cV:Nat):
 Jw ((w.setCell ⟨g,k*4,none⟩ (.slice aK (L.getD k Iv.zero).key.length cK)).setCell ⟨g,k*4+1,none⟩ (.slice aV (L.getD k Iv.zero).val.length cV)) (some ⟨g,0,none⟩) cap (L.set k {L.getD k Iv.zero with aK:=aK,cK:=cK,aV:=aV,cV:=cV}):=by
 rcases h.cases with⟨h0,_⟩|⟨g',cur,ha,hg,h1,h2,h3,h4⟩
 · cases h0
 · cases ha;refine Jw.mk (heap_setCell_same _ _ _ _ _ _ (heap_setCell_same _ _ _ _ _ _ hg)) (by rw[List.length_set];exact h1) h2 (by simpa using h3) ?_
   rw[Array.toList_setIfInBounds,Array.toList_setIfInBounds,List.length_set,List.take_set,List.take_set,h4];exact Jc_set2 L k hk aK cK aV cV
structure Co(w W:World)(g cap i:Nat)(M L:List Iv):Prop where
 j:Jw W (some ⟨g,0,none⟩) cap (M++L.drop i)
 len:M.length=i
 e:M.map Iv.it=(L.take i).map Iv.it
 f:Fam w W (rowsOf M)
 n:∀r∈M,N64 r.child/\N64 r.size
 b:Below w.heap.size w W
 gn:w.heap.size<=g
theorem Co.keep{W W':World}{i:Nat}{M:List Iv}(h:Co w W g cap i M L)(hb:Below W.heap.size W W'):Co w W' g cap i M L:=⟨h.j.keep hb,h.len,h.e,h.f.keep hb,h.n,bt h.b hb,h.gn⟩
theorem but_two(W:World)(g o1 o2:Nat)(a b:Value):But (fun k=>k=g) W ((W.setCell ⟨g,o1,none⟩ a).setCell ⟨g,o2,none⟩ b):=((But.refl (fun k=>k=g) W).setCell (p:=⟨g,o1,none⟩) (fun _=>rfl) a).setCell (p:=⟨g,o2,none⟩) (fun _=>rfl) b
theorem Co.round{w W W1 W2:World}{g cap i:Nat}{M L:List Iv}(h:Co w W g cap i M L)(hi:i<L.length)(hn:N64 (L.getD i Iv.zero).child/\N64 (L.getD i Iv.zero).size)(h8:B8 (L.getD i Iv.zero).key)(h9:B8 (L.getD i Iv.zero).val)
 {aK aV:Option Addr} {cK cV:Nat} (k1:Own W W1 aK cK (L.getD i Iv.zero).key) (k2:Own W1 W2 aV cV (L.getD i Iv.zero).val):
 Co w ((W2.setCell ⟨g,i*4,none⟩ (.slice aK (L.getD i Iv.zero).key.length cK)).setCell ⟨g,i*4+1,none⟩ (.slice aV (L.getD i Iv.zero).val.length cV)) g cap (i+1) (M++[{L.getD i Iv.zero with aK:=aK,cK:=cK,aV:=aV,cV:=cV}]) L:=by
 have b2:Below W.heap.size W W2:=bt k1.b k2.b;have hB:=but_two W2 g (i*4) (i*4+1) (.slice aK (L.getD i Iv.zero).key.length cK) (.slice aV (L.getD i Iv.zero).val.length cV);have j2:=h.j.keep b2
 have hg:(M++L.drop i).getD i Iv.zero=L.getD i Iv.zero:=by
  rw[List.getD_eq_getElem?_getD,List.getElem?_append_right (by rw[h.len];exact Nat.le_refl _),h.len,Nat.sub_self,List.getElem?_drop,Nat.add_zero,<-List.getD_eq_getElem?_getD]
 have j3:=j2.set2 (k:=i) (by rw[List.length_append,h.len,List.length_drop];omega) aK cK aV cV
 rw[hg] at j3
 have hset:(M++L.drop i).set i {L.getD i Iv.zero with aK:=aK,cK:=cK,aV:=aV,cV:=cV}=(M++[{L.getD i Iv.zero with aK:=aK,cK:=cK,aV:=aV,cV:=cV}])++L.drop (i+1):=by
  rw[List.set_append_right _ _ (by rw[h.len];exact Nat.le_refl _),h.len,Nat.sub_self,List.drop_eq_getElem_cons hi,List.set_cons_zero,List.append_assoc]
  rfl
 rw[hset] at j3
 have io:Io W W2 {L.getD i Iv.zero with aK:=aK,cK:=cK,aV:=aV,cV:=cV}:=⟨k1.keep k2.b,⟨k2.r,fun x hx=>(by
  rcases k2.n x hx with⟨y,hy,_⟩|h2
  · cases hy
  · exact .inr (Nat.le_trans k1.b.size h2)),b2⟩,fun x y hx hy e=>(by
  have e1:=k1.r.lt hx;rcases k2.n y hy with⟨z,hz,_⟩|h2
  · cases hz
  · have h2:W1.heap.size<=y.block:=h2;omega),h8,h9⟩
 have fm:Fam w W2 (rowsOf M++Iv.rows {L.getD i Iv.zero with aK:=aK,cK:=cK,aV:=aV,cV:=cV}):=h.f.add io.fam b2 h.b;have hbw:Below w.heap.size w ((W2.setCell ⟨g,i*4,none⟩ (.slice aK (L.getD i Iv.zero).key.length cK)).setCell ⟨g,i*4+1,none⟩ (.slice aV (L.getD i Iv.zero).val.length cV)):=((But.ofBelow (S:=fun _=>False) (bt h.b b2)).trans hB (fun k hk e=>by have:=h.gn;omega)).below (fun _ _ h=>h)
 refine⟨j3,by rw[List.length_append,h.len];rfl,?_,?_,fun r hr=>?_,hbw,h.gn⟩
 · rw[List.map_append,h.e,Q.take_next L Iv.zero hi,List.map_append];rfl
 · rw[rowsOf_append,rowsOf_one];exact fm.but hB hbw (fun t ht x hx e=>j2.ne (fm.own t ht).1.r rfl hx e.symm)
 · rcases List.mem_append.1 hr with hr|hr
   · exact h.n r hr
   · rw[List.mem_singleton.1 hr];exact hn
theorem bClone_any(w:World)(aa:Option Addr)(n capa:Nat)(p:List Nat)(hB:Bs w aa p)(hn:n=p.length)(hlen:p.length<=140737488355328):
 Calls Tryz.prog 132 #[.slice aa n capa] w fun x w'=>∃a' cap',x=.returned (.slice a' n cap')/\Rw w' a' cap' p/\New w none a'/\Below w.heap.size w w':=by
 subst hn;cases aa with
 |none=>
  obtain rfl:p=[]:=by
   rcases hB.2.2 with h|⟨b,off,h,_⟩
   · exact h
   · cases h
  clear hB;have hq:=run_eql_slice_nil none;go_enter Tryz.func132,Tryz.ntmps132;go_wp2;go_ret;exact⟨none,0,rfl,Rw.nil _,New.none _ _,Below.refl _ _⟩
 |some x=>
  have HB:=hide hB;clear hB;have hq:=run_eql_slice_nil (some x);go_enter Tryz.func132,Tryz.ntmps132;go_wp2_with (at_builtin;refine wpList_apB rfl _ _ rfl (some ⟨w.heap.size,0,none⟩) 0 0 [] rfl rfl (Rw.mk (cur:=#[]) (heap_alloc_new _ _) (Nat.le_refl _) (Nat.zero_le _) rfl rfl) (some x) p.length capa p rfl rfl (HB.out.keep ((Below.refl _ _).alloc (Nat.le_refl _) _)) (by simpa using hlen) ?_)
  intro a' cap' w2 hR hN hg _;have hb:Below w.heap.size w w2:=(But.grown (S:=fun k=>k=w.heap.size) ((But.refl _ w).alloc _) hg (by intro k hk _;simpa using hk.symm)).below (by intro k hk e;omega)
  have hN2:New w none a':=by
   intro y hy;rcases hN y hy with⟨z,hz,e⟩|h
   · simp only[Option.some.injEq] at hz;subst hz;exact .inr (by show _<=y.block;rw[<-e];exact Nat.le_refl _)
   · rw[size_alloc] at h;exact .inr (by omega)
  have HR:=hide hR;clear hR hN hg;go_wp2;go_ret;exact⟨a',cap',by simp,HR.out,hN2,hb⟩
theorem Clone_own(w:World)(aa:Option Addr)(capa:Nat)(p:List Nat)(hB:Bs w aa p)(hlen:p.length<=140737488355328):
 Calls Tryz.prog 132 #[.slice aa p.length capa] w fun x w'=>∃a' cap',x=.returned (.slice a' p.length cap')/\Own w w' a' cap' p:=
 (bClone_any w aa p.length capa p hB rfl hlen).mono fun _ _ ⟨a',c',h1,h2,h3,h4⟩=>⟨a',c',h1,h2,h3,h4⟩
end Go.Proofs.YtcpkinhneehomaaGreat
