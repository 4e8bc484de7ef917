import Derived.Test.YtbdkogimlbnlmaaGreatWtB20
set_option linter.unusedVariables false
set_option linter.unusedSimpArgs false
set_option maxHeartbeats 16000000
set_option maxRecDepth 8000
namespace Go.Proofs.YtbdkogimlbnlmaaGreat
open Go.RowKit
variable {z:Int}{col:Nat->Nat}{D:Rd}{X:Vm}{S:Vs}
structure Rel(X:Vm)(D:Rd):Prop where
 pg:X.P.pg=D.pg
 rf:X.P.rf=D.R
 on:∀z,X.P.count z≠0->(X.on z).pg=(D.on z).pg
 nL:D.L.length=D.C.length
 nP:D.P.length=D.C.length
 ok:X.P.Ok
theorem Rel.len(h:Rel X D):X.P.pg.length=D.C.length:=by rw[h.pg];exact Rd.pg_len h.nL
theorem Rel.count(h:Rel X D)(z:Int):X.P.count z=D.count z:=by
 unfold Q.Po.count Rd.count
 have e:X.P.has z=D.has z:=by
  unfold Q.Po.has Rd.has;rw[h.len]
 rw[e];split
 . rename_i hh;obtain⟨h1,h2⟩:=Rd.has_iff.1 hh;rw[h.pg,Rd.pg_get h.nL (by omega)]
 . rfl
theorem Rel.counts(h:Rel X D):X.P.pg.map (·.1)=D.C:=by
 rw[h.pg];unfold Rd.pg;rw[List.map_fst_zip (by rw[h.nL];exact ai _)]
theorem Rel.low{X:Vm}{D:Rd}(h:Rel X D):X.P.alloc.1=if iy D.pg=0 then (0,12) else (iy D.pg,0):=by
 unfold Q.Po.alloc iy;rw[h.pg];cases e:Q.iD D.pg 1 with
 |nil=>rfl
 |cons n T=>
  have hm:n∈Q.iD D.pg 1:=by rw[e];exact dN
  have h1:=(Q.jE.1 ((Q.ja D.pg 1 n).1 hm)).1;show(n,(0:Int))=if n=0 then _ else (n,0)
  rw[if_neg (by omega)]
theorem wh{C:List Int}{L:List Bool}{i:Nat}(h:L.length=C.length)(hi:i<C.length)(c:Int):(C.set i c).zip L=(C.zip L).set i (c,((C.zip L).getD i Q.Pg.zero).2):=by
 have h2:i<L.length:=by omega
 apply dS;intro j;simp only[List.getElem?_zip_eq_some,List.getElem?_set,g8];by_cases e:i=j
 . subst e;rw[if_pos rfl,if_pos (by omega)]
   simp[List.zip,List.getElem?_zipWith,hi,h2]
 . rw[if_neg e];simp[List.zip,List.getElem?_zipWith,List.getElem?_set,e]
theorem Rel.makeR(h:Rel S.X D)(p:Pg):S.makeR p=D.makeR p:=by
 unfold Vs.makeR Rd.makeR;rw[h.low]
theorem Rel.make(h:Rel S.X D){p:Pg}{q q':Pv}(hq:q.pg=p)(hq':q'.pg=p)(hk:p.kind≠0)(h0:(S.makeR p).2=0)(hp:p.check=0):Rel (S.makeS p q).X (D.makeD p q'):=by
 have e1:S.X.P.alloc.1.2=0:=by
  unfold Vs.makeR at h0;rw[if_pos hp] at h0;exact h0
 have hlow:iy D.pg≠0:=λe=>by
  rw[h.low,if_pos e] at e1;exact absurd e1 (by decide)
 have e2:S.X.P.alloc.1.1=iy D.pg:=by rw[h.low,if_neg hlow]
 obtain⟨i,i1,i2,i3,i4,i5⟩:=oG e1;obtain⟨a1,a2⟩:=uM e1
 have e3:S.makeS p q=⟨S.X.allocd.lay S.X.P.alloc.1.1 q,S.al++[(S.X.P.mark,S.X.ch.length)],S.fl⟩:=by
  unfold Vs.makeS;rw[if_pos hp,e1,if_pos rfl];unfold Vs.done;rw[if_pos rfl]
 have ei:(iy D.pg-1).toNat=i:=by rw[<-e2,i3];omega
 have hiC:i<D.C.length:=by rw[<-h.len];exact i1
 have e4:D.makeD p q'={D with C:=D.C.set i 1,P:=D.P.set i q'}:=by
  unfold Rd.makeD;rw[if_pos ⟨hp,hlow⟩,ei]
 rw[e3,e4];have kq:q.kind≠0:=λe=>hk (by rw[<-hq];exact e)
 have onx:∀z,(S.X.allocd.lay S.X.P.alloc.1.1 q).on z=if z=S.X.P.alloc.1.1 then q else S.X.on z:=λz=>by
  unfold Vm.lay Vm.on;show((iQ S.X.f S.X.P.alloc.1.1 q z).getD Pv.zero)=_;by_cases ez:z=S.X.P.alloc.1.1
  . simp[iQ,ez,kq]
  . simp only[iQ,if_neg ez];try rfl
 refine⟨?_,?_,λz hz=>?_,?_,?_,?_⟩
 . show S.X.P.alloc.2.pg=(D.C.set i 1).zip D.L;rw[i4,wh h.nL hiC,h.pg];rfl
 . show S.X.P.alloc.2.rf=D.R;rw[i5];exact h.rf
 . have hz2:S.X.P.alloc.2.count z≠0:=hz;rw[onx z];show _=(((D.P.set i q').getD (z-1).toNat Pv.zero)).pg;rw[a2 z] at hz2;by_cases ez:z=S.X.P.alloc.1.1
   . rw[if_pos ez,jP,if_pos ⟨by rw[ez,i3];omega,by rw[h.nP];exact hiC⟩,hq,hq']
   . rw[if_neg ez] at hz2 ⊢;have hh:=Q.Po.count_has hz2;rw[jP,if_neg (λe=>ez (by rw[i3];omega))]
     exact h.on z hz2
 . show D.L.length=(D.C.set i 1).length;rw[aS];exact h.nL
 . show(D.P.set i q').length=(D.C.set i 1).length;rw[aS,aS];exact h.nP
 . exact uA h.ok e1
theorem Rel.put(h:Rel X D)(h0:X.P.count z≠0){X':Vm}{c:Int}(hp:X'.P.pg=X.P.pg.set (z.toNat-1) (c,(X.P.pg.getD (z.toNat-1) Q.Pg.zero).2))(hr:X'.P.rf=X.P.rf)(ho:∀y,X'.P.count y≠0->X.P.count y≠0/\X'.on y=X.on y)(hok:X'.P.Ok):Rel X' (D.put z c):=by
 obtain⟨h1,h2⟩:=Q.Po.count_has h0;have hi:z.toNat-1<D.C.length:=by rw[<-h.len];omega
 have e:(z-1).toNat=z.toNat-1:=by omega
 refine⟨?_,by rw[hr];exact h.rf,λy hy=>?_,?_,?_,hok⟩
 . rw[hp,h.pg];show _=(D.C.set (z-1).toNat c).zip D.L;rw[e,wh h.nL hi];rfl
 . obtain⟨k1,k2⟩:=ho y hy;rw[k2];exact h.on y k1
 . show D.L.length=(D.C.set _ c).length;rw[aS];exact h.nL
 . show D.P.length=(D.C.set _ c).length;rw[aS];exact h.nP
theorem jH{P:Q.Po}(h:P.Ok)(z:Int):0<=P.count z/\P.count z<=P.rf:=by
 unfold Q.Po.count;split
 . rename_i hh;have hi:=Q.Po.has_iff.1 hh;exact h.cs _ (Q.jO (by omega))
 . have:=h.r1;exact⟨eK _,by omega⟩
theorem Rel.less(h:Rel X D)(h0:X.P.count z≠0):Rel (X.less z) (D.put z (D.count z-1)):=by
 have hc:=jH h.ok z;refine h.put h0 ?_ ?_ (λy hy=>Vm.less_on hy) ?_
 . rw[Vm.less_P,s7,if_neg h0,h.count]
 . rw[Vm.less_P,Ff]
 . rw[Vm.less_P];obtain⟨k1,k2⟩:=Q.Po.count_has h0;unfold Q.Po.dec;rw[if_neg h0];exact h.ok.act (n:=z.toNat) (by omega) (by omega) ⟨by omega,by omega⟩
structure Dp(X X':Vm):Prop where
 t:tot X'.P<=tot X.P
 m:X'.P.mark+tot X'.P<=X.P.mark+tot X.P
 c:X'.ch.length+tot X'.P<=X.ch.length+tot X.P
theorem Dp.refl(X:Vm):Dp X X:=⟨ai _,ai _,ai _⟩
theorem Dp.trans{Y Z:Vm}(h:Dp X Y)(k:Dp Y Z):Dp X Z:=⟨aO k.t h.t,aO k.m h.m,aO k.c h.c⟩
theorem Dp.less(hok:X.P.Ok)(h0:X.P.count z≠0):Dp X (X.less z)/\tot (X.less z).P+1=tot X.P:=by
 have hd:=(ro hok z).1 (by rw[kh,if_neg h0])
 have hm:=zx X.P z;rw[if_neg h0] at hm;have hch:=X.less_ch z;have e:tot (X.less z).P+1=tot X.P:=by rw[Vm.less_P];exact hd.1
 exact⟨⟨by omega,by rw[Vm.less_P] at e ⊢;omega,by omega⟩,e⟩
theorem Rel.inc(h:Rel S.X D)(z:Int):(S.X.P.inc z).1=(D.inc z).1/\((S.X.P.inc z).1=0->Rel ⟨(S.X.P.inc z).2,S.X.f,S.X.ch⟩ (D.inc z).2)/\((S.X.P.inc z).1≠0->(D.inc z).2=D):=by
 have hc:=jH h.ok z;unfold Q.Po.inc Rd.inc;rw[<-h.count,<-h.rf];by_cases h0:S.X.P.count z=0
 . rw[if_pos h0,if_neg (by rw[h0];decide)]
   exact⟨rfl,λe=>absurd (show(15:Int)=0 from e) (by decide),λ_=>rfl⟩
 . by_cases h1:S.X.P.count z=S.X.P.rf
   . rw[if_neg h0,if_pos h1,if_pos (show 0<S.X.P.count z by omega),if_pos (show S.X.P.rf<=S.X.P.count z by omega)]
     exact⟨rfl,λe=>absurd (show(13:Int)=0 from e) (by decide),λ_=>rfl⟩
   . rw[if_neg h0,if_neg h1,if_pos (show 0<S.X.P.count z by omega),if_neg (show ¬S.X.P.rf<=S.X.P.count z by omega)]
     refine⟨rfl,λ_=>?_,λe=>absurd rfl e⟩
     obtain⟨j1,j2⟩:=Q.Po.count_has h0;refine h.put h0 (X':=⟨S.X.P.act z.toNat (S.X.P.count z+1),S.X.f,S.X.ch⟩) rfl rfl (λy hy=>⟨?_,rfl⟩) (h.ok.act (n:=z.toNat) (by omega) (by omega) ⟨by omega,by omega⟩)
     obtain⟨k1,k2⟩:=Q.Po.count_has h0;have k:(S.X.P.act z.toNat (S.X.P.count z+1)).count y=_:=ot (P:=S.X.P) (i:=z.toNat-1) (by omega) rfl y
     have hy2:(S.X.P.act z.toNat (S.X.P.count z+1)).count y≠0:=hy;rw[k] at hy2;split at hy2
     . rename_i e;rw[show y=z by omega];exact h0
     . exact hy2
theorem Rel.settle{D':Rd}(h:Rel S.X D)(hs:D.Set D' D.C.length):Rel S.settle.X D':=by
 have eC:D'.C=D.C:=by rw[hs.e]
 have eR:D'.R=D.R:=by rw[hs.e]
 have nl:D'.L.length=D'.C.length:=by rw[hs.nl,eC];exact h.nL
 refine⟨?_,?_,λz hz=>?_,nl,by rw[hs.np,eC];exact h.nP,?_⟩
 . show S.X.P.pg.map (λx=>(x.1,decide (0<x.1)))=D'.pg
   have hl:D'.pg.length=D.C.length:=by rw[Rd.pg_len nl,eC]
   apply List.ext_getElem (by rw[a7,h.len,hl])
   intro i h1 h2;have hi:i<D.C.length:=by rw[<-hl];exact h2
   have e1:D'.pg[i]=D'.pg.getD i Q.Pg.zero:=by simp[h2]
   have e2:S.X.P.pg[i]'(by rw[h.len];exact hi)=D.pg.getD i Q.Pg.zero:=by
    have h3:i<D.pg.length:=by rw[Rd.pg_len h.nL];exact hi
    simp[h3,h.pg]
   rw[e1,Rd.pg_get nl (by rw[eC];exact hi),List.getElem_map,e2,Rd.pg_get h.nL hi,hs.l i,if_pos ⟨hi,by rw[h.nL];exact hi⟩,eC]
 . show S.X.P.rf=D'.R;rw[eR];exact h.rf
 . have hz2:S.X.P.settle.count z=S.X.P.count z:=by
    unfold Q.Po.count Q.Po.has Q.Po.settle;dsimp only;rw[a7];split
    . rename_i hh;rw[aq,aq,dm];cases S.X.P.pg[(z-1).toNat]?<;>rfl
    . rfl
   have hz3:S.X.P.count z≠0:=by rw[<-hz2];exact hz
   have hn:¬z∈S.X.P.pages 2:=λhm=>by
    unfold Q.Po.pages at hm;rw[if_pos (by decide)] at hm
    have hm2:=Q.jE.1 ((Q.ja _ _ _).1 hm);have hh:S.X.P.has z=true:=Q.Po.has_iff.2 ⟨hm2.1,hm2.2.1⟩;apply hz3;unfold Q.Po.count;rw[if_pos hh];have h4:=hm2.2.2;unfold Q.stt at h4;split at h4
    . assumption
    . split at h4<;>exact absurd h4 (by decide)
   have e1:S.settle.X.on z=S.X.on z:=by
    show(jM S.X.f (S.X.P.pages 2) z).getD Pv.zero=_;unfold jM;rw[if_neg hn];rfl
   rw[e1,h.on z hz3];unfold Rd.on;have hd:0<D.count z:=by rw[<-h.count];have:=jH h.ok z;omega
   obtain⟨_,_,h5⟩:=Rd.count_at hd;rw[hs.p,if_neg (λe=>by omega)]
 . refine⟨by show 1<=(S.X.P.pg.map _).length;rw[a7];exact h.ok.l1,by show(S.X.P.pg.map _).length<=_;rw[a7];exact h.ok.l2,h.ok.r1,h.ok.r2,λx hx=>?_,λa ha=>absurd (show a∈([]:List (Nat×Q.Pg)) from ha) (bB)⟩
   obtain⟨y,hy,rfl⟩:=bG.1 (show x∈S.X.P.pg.map _ from hx)
   exact h.ok.cs y hy
theorem vp:(Tryz.prog.info? 163).map (λi=>(i.zero,i.size,i.bytes))=some (some (.agg #[.slice none 0 0,.slice none 0 0]),2,48):=by kernel_rfl
structure Sn where
 aC:Option Addr
 cC:Nat
 C:List Int
 aP:Option Addr
 cP:Nat
 P:List Pv
def Sn.cs(s:Sn):Array Value:=#[.slice s.aC s.C.length s.cC,.slice s.aP s.P.length s.cP]
def jn(H:List Sn):List Value:=(H.map λs=>s.cs.toList).flatten
theorem mg(A B:List Sn):jn (A++B)=jn A++jn B:=by simp[jn]
theorem t6(s:Sn):jn [s]=s.cs.toList:=by simp[jn]
theorem kK:∀(L:List Sn),(jn L).length=L.length*2
 | []=>rfl
 |x::L=>by
  have:=kK L;simp only[jn,bC,dH,ae,bg,Sn.cs] at this ⊢;simp only[bh] at this ⊢;omega
theorem pR:∀(L:List Sn)(i k:Nat)(h:i<L.length),k<2->(jn L)[i*2+k]?=L[i].cs.toList[k]?
 | [],i,k,h,_=>absurd h (dO _)
 |x::L,0,k,h,hk=>by
  have hl:x.cs.toList.length=2:=rfl;simp only[jn,bC,dH,dX,bH,List.getElem_cons_zero];rw[br (by omega)]
 |x::L,i+1,k,h,hk=>by
  have hl:x.cs.toList.length=2:=rfl;have ih:=pR L i k (by simpa using h) hk
  simp only[jn,bC,dH,List.getElem_cons_succ] at ih ⊢;rw[bj (by omega),hl,show(i+1)*2+k-2=i*2+k by omega,ih]
structure Sv(w:World)(col:Nat->Nat)(n:Nat)(s:Sn):Prop where
 cr:Q.Ig w s.aC s.cC s.C
 pr:Q.Gw 31 5 w s.aP s.cP s.P.length (vpg s.P)
 pz:∀p∈s.P,Pz (λk=>col k=6) w p
 ps:∀p∈s.P,p.pg.check=0\/p=Pv.zero
 nC:s.C.length=n
 nP:s.P.length=n
 cc:∀x,s.aC=some x->col x.block=7
 cp:∀x,s.aP=some x->col x.block=7
section
variable {S:Nat->Prop} {w w' W w5:World} {col col':Nat->Nat} {n rb:Nat} {s:Sn} {D:Rd} {H:List Sn}
theorem Sv.but(h:Sv w col n s)(hb:But S w w')(hn:∀k,k<w.heap.size->col k=6\/col k=7->¬S k):Sv w' col n s:=
 ⟨h.cr.but hb (λx hx=>hn _ (h.cr.lt hx) (.inr (h.cc x hx))),h.pr.but hb (λx hx=>hn _ (h.pr.lt hx) (.inr (h.cp x hx))),λp hp=>(h.pz p hp).but hb (λk hk e=>hn k hk (.inl e)),h.ps,h.nC,h.nP,h.cc,h.cp⟩
theorem Sv.recol(h:Sv w col n s)(he:∀k,k<w.heap.size->col k=6\/col k=7->col' k=col k):Sv w col' n s:=
 ⟨h.cr,h.pr,λp hp=>(h.pz p hp).mono (λk hk e=>(he k hk (.inl e)).trans e),h.ps,h.nC,h.nP,λx hx=>(he _ (h.cr.lt hx) (.inr (h.cc x hx))).trans (h.cc x hx),λx hx=>(he _ (h.pr.lt hx) (.inr (h.cp x hx))).trans (h.cp x hx)⟩
theorem Sv.vf(h:Sv w col n s)(f:Vf w col w' col'):Sv w' col' n s:=
 (h.recol (λk hk _=>f.c k hk)).but f.b (λk hk e hs=>by rw[f.c k hk] at e;omega)
theorem Sv.keep(h:Sv w col n s)(hb:Below w.heap.size w w'):Sv w' col n s:=h.but (S:=λ_=>False) (But.ofBelow hb) (λ_ _ _ e=>e)
structure Ah(w:World)(D:Rd)(H:List Sn)(col:Nat->Nat):Prop where
 ar:Q.Gw 163 2 w D.aA D.cA H.length (jn H)
 na:D.nA=H.length
 ca:∀x,D.aA=some x->col x.block=5
 sv:∀s∈H,Sv w col D.C.length s
structure Ra(w:World)(rb:Nat)(D:Rd)(H:List Sn)(col:Nat->Nat):Prop where
 q:Rq w rb D col
 a:Ah w D H col
theorem Ah.keep(h:Ah w D H col)(hb:Below w.heap.size w w'):Ah w' D H col:=⟨h.ar.keep hb,h.na,h.ca,λs hs=>(h.sv s hs).keep hb⟩
theorem Ra.keep(h:Ra w rb D H col)(hb:Below w.heap.size w w'):Ra w' rb D H col:=⟨h.q.keep hb,h.a.keep hb⟩
theorem Ra.c4(h:Ra w rb D H col):w.cell? ⟨rb,4,none⟩=some (.slice D.aA H.length D.cA):=by
 rw[au _ _ _ _ _ _ h.q.box,<-h.a.na];rfl
theorem Ra.c5(h:Ra w rb D H col):w.cell? ⟨rb,5,none⟩=some (.int .i64 D.fl):=by
 rw[au _ _ _ _ _ _ h.q.box];rfl
theorem Ra.did(h:Ra w rb D H col)(hW:Below w.heap.size w W){g cap':Nat}(hs:Sv w col D.C.length s)
 (hR:Q.Gw 163 2 w5 (some ⟨g,0,none⟩) cap' (H.length+1) (jn (H++[s]))) (hN:New W D.aA (some ⟨g,0,none⟩)) (hB:But (Q.InA D.aA) W w5):
 Ra (w5.setCell ⟨rb,4,none⟩ (.slice (some ⟨g,0,none⟩) (H.length+1) cap')) rb {D with aA:=some ⟨g,0,none⟩,nA:=H.length+1,cA:=cap'} (H++[s]) (ip col w w5 5)/\Vf w col (w5.setCell ⟨rb,4,none⟩ (.slice (some ⟨g,0,none⟩) (H.length+1) cap')) (ip col w w5 5):=by
 have q:=h.q;have B5:But (Q.InA D.aA) w w5:=(But.ofBelow (S:=Q.InA D.aA) hW).trans hB (λ_ _ e=>e)
 have bw:But (λk=>k=rb\/Q.InA D.aA k) w (w5.setCell ⟨rb,4,none⟩ (.slice (some ⟨g,0,none⟩) (H.length+1) cap')):=(B5.mono (T:=λk=>k=rb\/Q.InA D.aA k) λ_ _ e=>.inr e).setCell (p:=⟨rb,4,none⟩) (λ_=>.inl rfl) _
 have bs:But (λk=>k=rb) w5 (w5.setCell ⟨rb,4,none⟩ (.slice (some ⟨g,0,none⟩) (H.length+1) cap')):=(But.refl (λk=>k=rb) w5).setCell (p:=⟨rb,4,none⟩) (λ_=>rfl) _
 have ne:∀{k:Nat},col k≠1->col k≠5->¬(k=rb\/Q.InA D.aA k):=λh1 h3 e=>by
  rcases e with rfl|⟨y,hy,rfl⟩
  . exact h1 q.cb
  . exact h3 (h.a.ca y hy)
 have old:∀{k:Nat},col k≠0->ip col w w5 5 k=col k:=λhk=>iR (q.lt _ hk)
 have s5:=B5.size
 have gc:ip col w w5 5 g=5:=by
  rcases hN ⟨g,0,none⟩ rfl with⟨y,hy,e⟩|h2
  . have e:y.block=g:=e;rw[<-e,old (by rw[h.a.ca y hy];decide)];exact h.a.ca y hy
  . have h2:W.heap.size<=g:=h2;exact jF (aO hW.size h2) (hR.lt rfl)
 have cb5:ip col w w5 5 rb=1:=(old (by rw[q.cb];decide)).trans q.cb
 have gb:g≠rb:=λe=>by rw[e,cb5] at gc;cases gc
 have b5:w5.heap[rb]?=_:=B5.same q.box (λ⟨y,hy,e⟩=>by have:=h.a.ca y hy;rw[e,q.cb] at this;cases this)
 have cont:∀{p:Pv},Pz (λk=>col k=6) w p->Pz (λk=>ip col w w5 5 k=6) (w5.setCell ⟨rb,4,none⟩ (.slice (some ⟨g,0,none⟩) (H.length+1) cap')) p:=λhz=>(hz.but bw (λk _ e=>ne (by omega) (by omega))).mono (λk hk e=>by rw[old (by omega)];exact e)
 refine⟨⟨⟨?_,q.cr.but bw (λx hx=>ne (by rw[q.cc x hx];decide) (by rw[q.cc x hx];decide)),q.lr.but bw (λx hx=>ne (by rw[q.cl x hx];decide) (by rw[q.cl x hx];decide)),q.pr.but bw (λx hx=>ne (by rw[q.cp x hx];decide) (by rw[q.cp x hx];decide)),λp hp=>cont (q.pz p hp),q.ps,cb5,λy hy=>(old (by rw[q.cc y hy];decide)).trans (q.cc y hy),λy hy=>(old (by rw[q.cl y hy];decide)).trans (q.cl y hy),λy hy=>(old (by rw[q.cp y hy];decide)).trans (q.cp y hy),λk hk=>aZ (ke s5 hk) bs.size,q.nL,q.nP,q.n6⟩,⟨?_,?_,λy hy=>?_,λt ht=>?_⟩⟩,⟨bw.mono (λk _ e=>?_),λk hk=>iR hk⟩⟩
 . rw[aM _ _ _ _ _ _ b5];rfl
 . show Q.Gw _ _ _ _ _ (H++[s]).length _;rw[ae];exact hR.but bs (λy hy=>by cases hy;exact gb)
 . show H.length+1=(H++[s]).length;rw[ae];rfl
 . cases hy;exact gc
 . rcases bm.1 ht with ht|ht
   . exact((h.a.sv t ht).but bw (λk _ e=>ne (by omega) (by omega))).recol (λk hk e=>old (by omega))
   . rw[aQ.1 ht];exact(hs.but bw (λk _ e=>ne (by omega) (by omega))).recol (λk hk e=>old (by omega))
 . rcases e with rfl|⟨y,hy,rfl⟩
   . rw[q.cb];decide
   . rw[h.a.ca y hy];decide
theorem Ra.seven(h:Ra w rb D H col)(hb:Below w.heap.size w w'):Ra w' rb D H (ip col w w' 7)/\Vf w col w' (ip col w w' 7):=by
 have k:=h.q.keep hb;have lt:=h.q.lt;have po:∀{j c:Nat},col j=c->c≠0->ip col w w' 7 j=c:=λ{j c} e hc=>by rw[iR (lt j (by rw[e];exact hc)),e]
 refine⟨⟨⟨k.box,k.cr,k.lr,k.pr,λp hp=>(k.pz p hp).mono (λj hj e=>po e (by decide)),k.ps,po h.q.cb (by decide),λx hx=>po (h.q.cc x hx) (by decide),λx hx=>po (h.q.cl x hx) (by decide),λx hx=>po (h.q.cp x hx) (by decide),λj hj=>ke hb.size hj,k.nL,k.nP,k.n6⟩,⟨h.a.ar.keep hb,h.a.na,λx hx=>po (h.a.ca x hx) (by decide),λs hs=>((h.a.sv s hs).keep hb).recol (λj hj e=>po rfl (by omega))⟩⟩,But.ofBelow hb,λj hj=>iR hj⟩
end
theorem vB{W:World}{g:Nat}{s:Sn}{t:TypeId}(h:W.heap[g]?=some (.cells #[.slice s.aC s.C.length s.cC,.slice s.aP s.P.length s.cP] t (0,0))):∀j u,s.cs.toList[j]?=some u->W.cell? ((⟨g,0,none⟩:Addr).add j)=some u:=by
 intro j u hj;match j,hj with
 |0,hj=>simp only[Sn.cs] at hj;simp at hj;subst hj;rw[show((⟨g,0,none⟩:Addr).add 0)=⟨g,0,none⟩ from rfl,au _ _ _ _ _ _ h];rfl
 |1,hj=>simp only[Sn.cs] at hj;simp at hj;subst hj;rw[show((⟨g,0,none⟩:Addr).add 1)=⟨g,1,none⟩ from rfl,au _ _ _ _ _ _ h];rfl
 |j+2,hj=>simp[Sn.cs] at hj
theorem vD{s:Sn}:∀u∈s.cs.toList,u.oneCell'=true:=by
 intro u hu;simp only[Sn.cs,bT,bB,gd] at hu;rcases hu with rfl|rfl<;>rfl
theorem m6(w:World)(rb:Nat)(D:Rd)(H:List Sn)(col:Nat->Nat)(h:Ra w rb D H col)(hh:D.hush=false)(s:Sn)(hs:Sv w col D.C.length s)(hl:H.length<=1000000000000):
 Calls Tryz.prog 105 #[.pointer (some ⟨rb,0,none⟩),.slice s.aC s.C.length s.cC,.slice s.aP s.P.length s.cP] w λe w'=>∃a' c' col',e=.returned (.tuple #[])/\Ra w' rb {D with aA:=a',nA:=H.length+1,cA:=c'} (H++[s]) col'/\Vf w col w' col':=by
 have HR:=ig h;have HS:=ig hs;obtain⟨c0,c1,c2,c3,c6⟩:=h.q.cells;have c4:=h.c4;rw[hh] at c6;have A0:=ig (al w (.cells #[.slice s.aC s.C.length s.cC,.slice s.aP s.P.length s.cP] 163));have X0:=ig (aH w (.cells #[.slice s.aC s.C.length s.cC,.slice s.aP s.P.length s.cP] 163));have G0:=ig (h.a.ar.keep A0.o);have hml:H.length+1<=maxLen:=by unfold maxLen;omega
 have rbl:=h.q.lb;clear h hs;go_enter Tryz.func105,Tryz.ntmps105;go_wp2_with (at_builtin;refine jv Tryz.underlying97 vp rfl (by decide) rfl _ _ rfl D.aA H.length D.cA (jn H) rfl G0.o ⟨w.heap.size,0,none⟩ 1 s.cs.toList rfl rfl (vB X0.o) vD hml (by omega) ?_)
 intro g cap' w5 hG hN hB;rw[<-t6,<-mg] at hG;have B5:But (Q.InA D.aA) w w5:=(But.ofBelow (S:=Q.InA D.aA) A0.o).trans hB (λ_ _ e=>e)
 have b5:w5.heap[rb]?=some (.cells D.box 99 (0,0)):=B5.same HR.o.q.box (λ⟨y,hy,e⟩=>by have:=HR.o.a.ca y hy;rw[e,HR.o.q.cb] at this;cases this)
 have K:=ig (HR.o.did A0.o HS.o hG hN hB);have y4:w5.cell? ⟨rb,4,none⟩=some (.slice D.aA D.nA D.cA):=by rw[au _ _ _ _ _ _ b5];rfl
 have z4:w5.frozen? ⟨rb,4,none⟩=false:=by simp[World.frozen?,b5]
 clear hG hN hB b5 c0 c1 c2 c3 c4 c6 X0 A0 G0 HS HR B5;go_wp2_with fail
 go_end0
 exact⟨_,_,_,rfl,K.o.1,K.o.2⟩
theorem Ra.snap{w w':World}{rb:Nat}{H:List Sn}(h:Ra w rb D H col)(hb:Below w.heap.size w w'){aC aP:Option Addr}{cC cP:Nat}(hC:Q.Ig w' aC cC D.C)(hP:Q.Gw 31 5 w' aP cP D.P.length (vpg D.P))(nC:New w none aC)(nP:New w none aP):
 Ra w' rb D H (ip col w w' 7)/\Vf w col w' (ip col w w' 7)/\Sv w' (ip col w w' 7) D.C.length ⟨aC,cC,D.C,aP,cP,D.P⟩:=by
 obtain⟨k1,k2⟩:=h.seven hb;exact⟨k1,k2,⟨hC,hP,k1.q.pz,k1.q.ps,rfl,h.q.nP,λx hx=>jF (iG nC hx) (hC.lt hx),λx hx=>jF (iG nP hx) (hP.lt hx)⟩⟩
def RAc(w:World)(rb:Nat)(D:Rd)(H:List Sn)(col:Nat->Nat)(e:Ending)(w':World):Prop:=∃(s:Sn)(a':Option Addr)(c':Nat)(col':Nat->Nat),e=.returned (.tuple #[])/\s.C=D.C/\s.P=D.P/\Ra w' rb {D with aA:=a',nA:=H.length+1,cA:=c'} (H++[s]) col'/\Vf w col w' col'
theorem Ra.acted{w W W1 w5:World}{rb:Nat}{D:Rd}{H:List Sn}{col:Nat->Nat}(h:Ra w rb D H col)(hb:Below w.heap.size w W){aC aP:Option Addr}{cC cP:Nat}(hC:Q.Ig W aC cC D.C)(hP:Q.Gw 31 5 W aP cP D.P.length (vpg D.P))(nC:New w none aC)(nP:New w none aP)(h1:Below W.heap.size W W1)
 {g cap':Nat} (hR:Q.Gw 163 2 w5 (some ⟨g,0,none⟩) cap' (H.length+1) (jn H++(Sn.mk aC cC D.C aP cP D.P).cs.toList)) (hN:New W1 D.aA (some ⟨g,0,none⟩)) (hB:But (Q.InA D.aA) W1 w5):
 (w5.cell? ⟨rb,1,none⟩=some (.slice D.aC D.C.length D.cC)/\w5.cell? ⟨rb,3,none⟩=some (.slice D.aP D.P.length D.cP)/\w5.cell? ⟨rb,4,none⟩=some (.slice D.aA D.nA D.cA)/\w5.frozen? ⟨rb,4,none⟩=false)/\
   (w5.setCell ⟨rb,4,none⟩ (.slice (some ⟨g,0,none⟩) (H.length+1) cap')).cell? ⟨rb,1,none⟩=some (.slice D.aC D.C.length D.cC)/\(w5.setCell ⟨rb,4,none⟩ (.slice (some ⟨g,0,none⟩) (H.length+1) cap')).cell? ⟨rb,3,none⟩=some (.slice D.aP D.P.length D.cP)/\
   RAc w rb D H col (.returned (.tuple #[])) (w5.setCell ⟨rb,4,none⟩ (.slice (some ⟨g,0,none⟩) (H.length+1) cap')):=by
 obtain⟨k1,k2,k3⟩:=h.snap hb hC hP nC nP;rw[<-t6,<-mg] at hR;obtain⟨r1,r2⟩:=k1.did h1 k3 hR hN hB;have b1:=k1.q.box;have B5:But (Q.InA D.aA) W w5:=(But.ofBelow (S:=Q.InA D.aA) h1).trans hB (λ_ _ e=>e)
 have b5:w5.heap[rb]?=some (.cells D.box 99 (0,0)):=B5.same b1 (λ⟨y,hy,e⟩=>by have:=k1.a.ca y hy;rw[e,k1.q.cb] at this;cases this)
 have cs:=r1.q.cells;refine⟨⟨?_,?_,?_,by simp[World.frozen?,b5]⟩,cs.2.1,cs.2.2.2.1,_,_,_,_,rfl,rfl,rfl,r1,k2.trans r2⟩<;>(rw[au _ _ _ _ _ _ b5];rfl)
theorem tG(w:World)(rb:Nat)(D:Rd)(H:List Sn)(col:Nat->Nat)(h:Ra w rb D H col)(hh:D.hush=false)(hl:H.length<=1000000000000):
 Calls Tryz.prog 141 #[.pointer (some ⟨rb,0,none⟩)] w λe w'=>RAc w rb D H col e w':=by
 have HR:=ig h;obtain⟨c0,c1,c2,c3,c6⟩:=h.q.cells;rw[hh] at c6;have DR:=ig (dr2 w);have SS:Hid (∀W:World,Below w.heap.size w W->W.cell? ⟨rb,1,none⟩=some (.slice D.aC D.C.length D.cC)/\W.cell? ⟨rb,3,none⟩=some (.slice D.aP D.P.length D.cP)/\W.cell? ⟨rb,4,none⟩=some (.slice D.aA H.length D.cA)):=λW hb=>⟨(h.keep hb).q.cells.2.1,(h.keep hb).q.cells.2.2.2.1,(h.keep hb).c4⟩
 have CI:=ig λ(W:World)(hb:Below w.heap.size w W)=>Q.jC W D.aC D.C.length D.cC D.C (h.keep hb).q.cr.ir rfl h.q.n6
 have CP:=ig λ(W:World)(hb:Below w.heap.size w W)=>jr W D.aP D.P.length D.cP D.P (h.keep hb).q.pgs rfl (by rw[h.q.nP];exact h.q.n6)
 have AR:=ig λ(W:World)(hb:Below w.heap.size w W)=>h.a.ar.keep hb
 have hml:H.length+1<=maxLen:=by unfold maxLen;omega
 clear h;go_enter Tryz.func141,Tryz.ntmps141;go_upto_region 1 with fail
 clear c0 c1 c2 c3 c6;refine bu (S:=λW=>W.cell? ⟨rb,1,none⟩=some (.slice D.aC D.C.length D.cC)/\W.cell? ⟨rb,3,none⟩=some (.slice D.aP D.P.length D.cP)) (by kernel_rfl) ⟨(SS.o _ DR.o).1,(SS.o _ DR.o).2.1⟩ (λhHeld=>?_)
 refine tkd 0 1 2 3 ?_;refine tkd 5 6 7 8 ?_;refine tkd 10 11 12 13 ?_;have BX:=DR;refine eO (rs:=[4,9]) (by kernel_rfl) (by simp) ?_
 refine(AllReadyH.cons rfl (λK hK=>?_) (AllReadyH.cons rfl (λK hK=>?_) AllReadyH.nil))
 all_goals
  first
  |have q4:=(SS.o _ BX.o).2.2
   go_simp;refine hK.o _ _ ⟨(SS.o _ BX.o).1,(SS.o _ BX.o).2.1⟩ (λhHeld=>?_)
   clear hK K;try simp only[pt]
   clear q4;refine tw 9 λK hK=>?_
   go_simp;refine(CI.o _ BX.o).mono ?_;rintro _ wx ⟨aC2,cC2,rfl,hO⟩;have IC:=ig hO.r;have NC:=ig (hO.n.mono BX.o.size);have BX:=ig (bt BX.o hO.b);clear hO;go_wp2_with fail
   refine hK.o _ _ ⟨(SS.o _ BX.o).1,(SS.o _ BX.o).2.1⟩ (λhHeld=>?_)
   clear hK K;refine tw 14 λK hK=>?_
   go_simp;refine(CP.o _ BX.o).mono ?_;rintro _ wx ⟨aP2,cP2,rfl,hG,hNw,hb⟩;have GP:=ig hG;have NP:=ig (hNw.mono BX.o.size);have BX:=ig (bt BX.o hb);have IC:=ig (IC.o.keep hb);clear hG hNw hb;go_wp2_with fail
   refine hK.o _ _ ⟨(SS.o _ BX.o).1,(SS.o _ BX.o).2.1⟩ (λhHeld=>?_)
   clear hK K;refine tk 15 ?_;refine tw 16 λK hK=>?_
   have A4:=ig (al wx (.cells #[.slice aC2 D.C.length cC2,.slice aP2 D.P.length cP2] 163));have X4:Hid ((wx.alloc (.cells #[.slice aC2 D.C.length cC2,.slice aP2 D.P.length cP2] 163)).heap[wx.heap.size]?=_):=aH wx (.cells #[.slice aC2 D.C.length cC2,.slice aP2 D.P.length cP2] 163);have BX4:=ig (bt BX.o A4.o);have G4:=ig (AR.o _ BX4.o);go_simp;refine hK.o _ _ ⟨(SS.o _ BX4.o).1,(SS.o _ BX4.o).2.1⟩ (λhHeld=>?_)
   clear hK K;try simp only[pt]
  |go_simp
   refine(CI.o _ BX.o).mono ?_;rintro _ wx ⟨aC2,cC2,rfl,hO⟩;have IC:=ig hO.r;have NC:=ig (hO.n.mono BX.o.size);have BX:=ig (bt BX.o hO.b);clear hO;go_wp2_with fail
   refine hK.o _ _ ⟨(SS.o _ BX.o).1,(SS.o _ BX.o).2.1⟩ (λhHeld=>?_)
   clear hK K;try simp only[pt]
   refine eO (rs:=[4,14]) (by kernel_rfl) (by simp) ?_
   refine(AllReadyH.cons rfl (λK hK=>?_) (AllReadyH.cons rfl (λK hK=>?_) AllReadyH.nil))
   all_goals
    first
    |have q4:=(SS.o _ BX.o).2.2
     go_simp;refine hK.o _ _ ⟨(SS.o _ BX.o).1,(SS.o _ BX.o).2.1⟩ (λhHeld=>?_)
     clear hK K;try simp only[pt]
     clear q4;refine tw 14 λK hK=>?_
     go_simp;refine(CP.o _ BX.o).mono ?_;rintro _ wx ⟨aP2,cP2,rfl,hG,hNw,hb⟩;have GP:=ig hG;have NP:=ig (hNw.mono BX.o.size);have BX:=ig (bt BX.o hb);have IC:=ig (IC.o.keep hb);clear hG hNw hb;go_wp2_with fail
     refine hK.o _ _ ⟨(SS.o _ BX.o).1,(SS.o _ BX.o).2.1⟩ (λhHeld=>?_)
     clear hK K;refine tk 15 ?_;refine tw 16 λK hK=>?_
     have A4:=ig (al wx (.cells #[.slice aC2 D.C.length cC2,.slice aP2 D.P.length cP2] 163));have X4:Hid ((wx.alloc (.cells #[.slice aC2 D.C.length cC2,.slice aP2 D.P.length cP2] 163)).heap[wx.heap.size]?=_):=aH wx (.cells #[.slice aC2 D.C.length cC2,.slice aP2 D.P.length cP2] 163);have BX4:=ig (bt BX.o A4.o);have G4:=ig (AR.o _ BX4.o);go_simp;refine hK.o _ _ ⟨(SS.o _ BX4.o).1,(SS.o _ BX4.o).2.1⟩ (λhHeld=>?_)
     clear hK K;try simp only[pt]
    |go_simp
     refine(CP.o _ BX.o).mono ?_;rintro _ wx ⟨aP2,cP2,rfl,hG,hNw,hb⟩;have GP:=ig hG;have NP:=ig (hNw.mono BX.o.size);have BX:=ig (bt BX.o hb);have IC:=ig (IC.o.keep hb);clear hG hNw hb;go_wp2_with fail
     refine hK.o _ _ ⟨(SS.o _ BX.o).1,(SS.o _ BX.o).2.1⟩ (λhHeld=>?_)
     clear hK K;refine tk 15 ?_;refine eO (rs:=[4,16]) (by kernel_rfl) (by simp) ?_
     refine(AllReadyH.cons rfl (λK hK=>?_) (AllReadyH.cons rfl (λK hK=>?_) AllReadyH.nil))
     all_goals
      first
      |have q4:=(SS.o _ BX.o).2.2
       go_simp;refine hK.o _ _ ⟨(SS.o _ BX.o).1,(SS.o _ BX.o).2.1⟩ (λhHeld=>?_)
       clear hK K;try simp only[pt]
       clear q4;refine tw 16 λK hK=>?_
       have A4:=ig (al wx (.cells #[.slice aC2 D.C.length cC2,.slice aP2 D.P.length cP2] 163));have X4:Hid ((wx.alloc (.cells #[.slice aC2 D.C.length cC2,.slice aP2 D.P.length cP2] 163)).heap[wx.heap.size]?=_):=aH wx (.cells #[.slice aC2 D.C.length cC2,.slice aP2 D.P.length cP2] 163);have BX4:=ig (bt BX.o A4.o);have G4:=ig (AR.o _ BX4.o);go_simp;refine hK.o _ _ ⟨(SS.o _ BX4.o).1,(SS.o _ BX4.o).2.1⟩ (λhHeld=>?_)
       clear hK K;try simp only[pt]
      |have A4:=ig (al wx (.cells #[.slice aC2 D.C.length cC2,.slice aP2 D.P.length cP2] 163))
       have X4:Hid ((wx.alloc (.cells #[.slice aC2 D.C.length cC2,.slice aP2 D.P.length cP2] 163)).heap[wx.heap.size]?=_):=aH wx (.cells #[.slice aC2 D.C.length cC2,.slice aP2 D.P.length cP2] 163);have BX4:=ig (bt BX.o A4.o);have G4:=ig (AR.o _ BX4.o);go_simp;refine hK.o _ _ ⟨(SS.o _ BX4.o).1,(SS.o _ BX4.o).2.1⟩ (λhHeld=>?_)
       clear hK K;refine tw 4 λK hK=>?_
       have q4:=(SS.o _ BX4.o).2.2;go_simp;refine hK.o _ _ ⟨(SS.o _ BX4.o).1,(SS.o _ BX4.o).2.1⟩ (λhHeld=>?_)
       clear hK K;try simp only[pt]
       clear q4
 all_goals
  refine tw 17 λK hK=>?_
  refine lv Tryz.underlying97 vp rfl (by decide) rfl _ _ rfl D.aA H.length D.cA (jn H) (by first|(simp[Act.eval];done)|simp[Act.eval,Act.put]) G4.o ⟨wx.heap.size,0,none⟩ 1 (Sn.mk aC2 cC2 D.C aP2 cP2 D.P).cs.toList (by first|(simp[Act.eval];done)|simp[Act.eval,Act.put]) rfl (vB X4.o) vD hml (by omega) ?_
  intro g5 c5 w5 hG5 hN5 hB5;obtain⟨⟨y1,y3,y4,z4⟩,k1,k3,fin⟩:=HR.o.acted BX.o IC.o GP.o NC.o NP.o A4.o hG5 hN5 hB5;have FI:=ig fin;clear hG5 hN5 hB5 fin X4 G4 A4 BX4;refine hK.o _ _ ⟨y1,y3⟩ (λhHeld=>?_)
  clear hK K;refine tkb 18 19 ?_;refine tw 20 λK hK=>?_
  go_simp;refine hK.o _ _ ⟨k1,k3⟩ (λhHeld=>?_)
  clear hK K;refine td ?_;clear hHeld;go_wp2_with fail
  go_end0
  exact FI.o
def c57(col:Nat->Nat)(k:Nat):Nat:=if col k=5 then 7 else col k
theorem kD{k c:Nat}(h:col k=c)(h5:c≠5):c57 col k=c:=by unfold c57;rw[h,if_neg h5]
theorem Fn{k c:Nat}(h:c57 col k=c)(h7:c≠7):col k=c:=by
 unfold c57 at h;split at h
 . exact absurd h.symm h7
 . exact h
def cold(col:Nat->Nat)(w:World)(col1:Nat->Nat)(k:Nat):Nat:=if k<w.heap.size then col k else col1 k
section
variable {w w':World} {rb:Nat} {D D':Rd} {H:List Sn} {col col1:Nat->Nat}
theorem Rq.five(h:Rq w rb D col):Rq w rb D (c57 col):=
 ⟨h.box,h.cr,h.lr,h.pr,λp hp=>(h.pz p hp).mono (λk _ e=>kD e (by decide)),h.ps,kD h.cb (by decide),λx hx=>kD (h.cc x hx) (by decide),λx hx=>kD (h.cl x hx) (by decide),λx hx=>kD (h.cp x hx) (by decide),λk hk=>h.lt k (λe=>hk (kD e (by decide))),h.nL,h.nP,h.n6⟩
theorem my(hf:Vf w (c57 col) w' col1){k c:Nat}(h:col1 k=c)(h7:c≠7):cold col w col1 k=c:=by
 unfold cold;split
 . rename_i hk;rw[hf.c k hk] at h;exact Fn h h7
 . exact h
theorem Ra.step(h:Ra w rb D H col)(hq:Rq w' rb D' col1)(hf:Vf w (c57 col) w' col1)(eA:D'.aA=D.aA)(eN:D'.nA=D.nA)(eC:D'.cA=D.cA)(eL:D'.C.length=D.C.length):Ra w' rb D' H (cold col w col1)/\Vf w col w' (cold col w col1):=by
 have lt:∀k,col k≠0->k<w.heap.size:=h.q.lt
 have nb:∀{k:Nat},(col k=5\/col k=6\/col k=7)->¬(1<=c57 col k/\c57 col k<=5):=λ{k} e h2=>by
  unfold c57 at h2;split at h2<;>omega
 refine⟨⟨⟨hq.box,hq.cr,hq.lr,hq.pr,λp hp=>(hq.pz p hp).mono (λk _ e=>my hf e (by decide)),hq.ps,my hf hq.cb (by decide),λx hx=>my hf (hq.cc x hx) (by decide),λx hx=>my hf (hq.cl x hx) (by decide),λx hx=>my hf (hq.cp x hx) (by decide),λk hk=>?_,hq.nL,hq.nP,hq.n6⟩,⟨?_,?_,λx hx=>?_,λs hs=>?_⟩⟩,⟨hf.b.mono (λk hk e=>?_),λk hk=>if_pos hk⟩⟩
 . unfold cold at hk;split at hk
   . rename_i h1;exact aZ h1 hf.b.size
   . exact hq.lt k hk
 . rw[eA,eC];exact h.a.ar.but hf.b (λx hx=>nb (.inl (h.a.ca x hx)))
 . rw[eN];exact h.a.na
 . rw[eA] at hx;have:=h.a.ca x hx;unfold cold;rw[if_pos (lt _ (by omega))]
   exact this
 . rw[eL];exact((h.a.sv s hs).but hf.b (λk _ e=>nb (.inr e))).recol (λk hk e=>by unfold cold;rw[if_pos (lt k (by omega))])
 . unfold c57 at e;split at e<;>omega
end
end Go.Proofs.YtbdkogimlbnlmaaGreat
