import Derived.Test.YteaogidofpfmmaaGreatWaB23
import Derived.Stop.RegionWithIn
set_option linter.all false
set_option maxHeartbeats 16000000
set_option maxRecDepth 10000
namespace Go.Proofs.YteaogidofpfmmaaGreat
open Go.Proofs.Tryz
open Go.RowKit
variable {j:Nat}{r:Rg}
def ltk(C:List (Br×Br))(r:Rg)(j:Nat):List (Br×Br):=(C.take j).filter λp=>has r p.1.l
theorem Dt{C:List (Br×Br)}(a:j<C.length):ltk C r (j+1)=ltk C r j++(if has r (C.getD j br0).1.l=true then [C.getD j br0] else []):=by
 unfold ltk
 have e:C.take (j+1)=C.take j++[C.getD j br0]:=by
  rw[bZ a];simp[a]
 rw[e,gF];congr 1
 by_cases h:has r (C.getD j br0).1.l=true
 . rw[if_pos h,fw (by exact h),List.filter_nil]
 . rw[if_neg h,fu (by exact h),List.filter_nil]
theorem EV{C:List (Br×Br)}:prl (ltk C r C.length)=jt (prl C) r:=by
 unfold ltk jt prl;rw[du,List.filter_map];rfl
theorem FY{C:List (Br×Br)}:(ltk C r j).length<=C.length:=by
 unfold ltk;refine ay (fN _ _) ?_;rw[dm];exact Nat.min_le_right _ _
theorem ye{C:List (Br×Br)}:(ltk C r j).Sublist C:=(List.filter_sublist).trans (List.take_sublist _ _)
theorem sM{C D:List (Br×Br)}(h:D.Sublist C):(prR D).Sublist (prR C):=by
 unfold prR;induction h with
 |slnil=>exact .slnil
 |cons a h ih=>
  rw[bT,dY];exact ih.trans (List.sublist_append_right _ _)
 |cons_cons a h ih=>
  rw[bT,dY,bT,dY];exact(List.Sublist.refl _).append ih
theorem Prs.some{W:World}{a b:Option Addr}{c d:Nat}{C D:List (Br×Br)}(h:Prs W a c C)(e:D.Sublist C)(f:Q.Gw 45 2 W b d D.length (prv D)):Prs W b d D:=
 ⟨f,λt g=>h.ok t ((sM e).subset g),h.ap.sublist (sM e)⟩
theorem Al(w:World)(rb:Nat)(D:Rd)(ad:Nat->Nat)(hR:Rq w rb D ad)(hA:iF (rdR D))(t:Tr)(ak:chk (rdR D) t=0)(ab:(PLt (rdR D) t).length<=524288)(r:Rv)(ai:Ri w r):
 Calls prog 25 #[.pointer (.some ⟨rb,0,none⟩),.agg #[.int .i64 t.root,.int .i64 t.height,.int .i64 t.items],r.val] w λe w'=>PsP w w' e (jt (PLt (rdR D) t) r.rg):=by
 obtain⟨X0,q,l,s0⟩:=iS w (.cells #[.int .i64 t.root,.int .i64 t.height,.int .i64 t.items] 34) (.cells r.cs 62) (Below.refl _ _);have l:=ix l;have M:=ix (uj _ rb D ad (hR.keep l.o) hA t ak);have ax:=ix λ(W:World)(hb:Below w.heap.size w W)=>ai.keep hb
 obtain⟨c,ah⟩:∃c,PLt (rdR D) t=c:=⟨_,rfl⟩;rw[ah] at M ab ⊢;have az:=ix ab;clear hR hA ak ah ai ab;have RV:=ix (show r.val=.agg #[.slice r.aL r.lo.length r.cL,.slice r.aH r.hi.length r.cH,.bool r.op] from rfl)
 rw[RV.o];simp only[Rv.cs] at X0 q l s0 M;have q:=ix q;obtain⟨t0,t1,t2⟩:=je X0;obtain⟨r0,r1,r2⟩:=je q.o;go_enter func25,ntmps25;go_wp2_with fail
 refine M.o.mono ?_;rintro _ F ⟨aa,aC,aD,C,rfl,hP,aq,ao⟩;have ar:w.heap.size<=((w.alloc (.cells #[.int .i64 t.root,.int .i64 t.height,.int .i64 t.items] 34)).alloc (.cells #[.slice r.aL r.lo.length r.cL,.slice r.aH r.hi.length r.cH,.bool r.op] 62)).heap.size:=l.o.size;have Z:=ix (bt l.o aa);have X2:=ix ((aa.block _ (ae.1 q.o).1).trans q.o);have PP:=ix hP;have ac:=ix aq;have LO:=ix (λk hk=>ay ar (ao k hk))
 clear aa hP aq ao t0 t1 t2 r0 r1 r2 M X0 q l s0 ar;obtain⟨n,X⟩:∃n,C.length=n:=⟨_,rfl⟩;have R:=ix X
 have N5:Hid (n<=524288):=by
  show _<=_;rw[<-X,<-i7,ac.o];exact az.o
 have aG:=N5.o;simp only[X];clear X;go_wp2_with fail
 go_loopw [9,10] (λvo vi wx=>∃(j:Nat)(b:Option Addr)(s:Nat),j<=n/\vi=.int .i64 (j:Int)/\vo=.slice b (ltk C r.rg j).length s/\Q.Gw 45 2 wx b s (ltk C r.rg j).length (prv (ltk C r.rg j))/\(∀y,b=.some y->F.heap.size<=y.block)/\Below F.heap.size F wx) (λ_ vi _=>n-(intOf vi).toNat)
 case atStart=>exact⟨0,none,0,an _,rfl,rfl,Q.Gw.nil _ _ _,(λy v=>by cases v),Below.refl _ _⟩
 case round=>
  obtain⟨j,b,s,hj,rfl,rfl,I,J,hb⟩:=hrel;have O:=ix I;have H:=ix J;have f:=ix hb;clear I J hb;by_cases aB:j<n
  . have aA:(j:Int)<(n:Int):=by omega
    have aF:(0:Int)<=(j:Int):=by omega
    have am:j<C.length:=by rw[R.o];exact aB
    have i:=ix (Dt (r:=r.rg) am);have TL:=ix (FY (C:=C) (r:=r.rg) (j:=j));obtain⟨g,rfl,A,U,⟨K,T⟩,rV,bV⟩:=PP.o.at am;obtain⟨⟨⟨B,E,d⟩,⟨vA,vC,vL⟩⟩,Y⟩:∃x,C.getD j br0=x:=⟨_,rfl⟩;rw[Y] at A U K T i;dsimp only at A U K T i
    have u:=ix λ(W:World)(hb:Below wr.heap.size wr W)=>(show W.cell? ⟨g,j*2,.none⟩=.some (.slice B d.length E)/\W.cell? ⟨w.heap.size+1,0,.none⟩=.some (.slice r.aL r.lo.length r.cL)/\W.cell? ⟨w.heap.size+1,1,.none⟩=.some (.slice r.aH r.hi.length r.cH)/\W.cell? ⟨w.heap.size+1,2,.none⟩=.some (.bool r.op) from by
     obtain⟨r0,r1,r2⟩:=je (iJ X2.o (bt f.o hb));exact⟨((bt f.o hb).cell (p:=⟨g,j*2,.none⟩) (block_lt_of_cell A)).trans A,r0,r1,r2⟩)
    have D0:=ix A;have D1:=ix U;have P:=ix (λ(W:World)(hb:Below F.heap.size F W)=>uX W r B d.length E d (ax.o W (bt Z.o hb)) ((K.keep hb).bs T K.len_le) rfl)
    unfold Rv.val at P;simp only[Rv.cs] at P;clear Y K T rV bV A U;go_wp2_with fail
    refine be (S:=λW=>W.cell? ⟨g,j*2,.none⟩=.some (.slice B d.length E)/\W.cell? ⟨w.heap.size+1,0,.none⟩=.some (.slice r.aL r.lo.length r.cL)/\W.cell? ⟨w.heap.size+1,1,.none⟩=.some (.slice r.aH r.hi.length r.cH)/\W.cell? ⟨w.heap.size+1,2,.none⟩=.some (.bool r.op)) (by kernel_rfl) (u.o _ (dr2 wr)) (λhHeld=>?_)
    refine tkd 0 1 2 3 ?_;refine tkb 4 5 ?_;refine tw 6 λKx hK=>?_
    go_simp;refine(P.o _ (bt f.o (dr2 wr))).mono ?_;rintro _ w3 ⟨rfl,aj⟩;have N:=ix (bt (dr2 wr) aj);clear aj;go_wp2_with fail
    refine hK.o _ _ (u.o _ N.o) (λhHeld=>?_)
    refine td ?_;have G:=ix (bt f.o N.o);have G3:=ix (O.o.keep N.o);clear f O u P N;by_cases V:has r.rg d=true
    . rw[if_pos V] at i;rw[V];have k0:=(G.o.cell (p:=⟨g,j*2,.none⟩) (block_lt_of_cell D0.o)).trans D0.o;have k1:=(G.o.cell (p:=⟨g,j*2+1,.none⟩) (block_lt_of_cell D1.o)).trans D1.o;have ap:(ltk C r.rg j).length+1<=maxLen:=by have:=TL.o;rw[R.o] at this;unfold maxLen;omega
      have au:((ltk C r.rg j).length+1)*48<=140737488355328:=by have:=TL.o;rw[R.o] at this;omega
      have L:=ix (al w3 (.cells #[.slice B d.length E,.slice vA vL.length vC] 45));have Y7:=ix (ag w3 (.cells #[.slice B d.length E,.slice vA vL.length vC] 45));have a:=ix (G3.o.keep L.o);obtain⟨m,hm⟩:∃m,(ltk C r.rg j).length=m:=⟨_,rfl⟩;have HM:=ix hm;simp only[hm] at ap au a ⊢;go_wp2_with (at_builtin;refine jq underlying60 pa rfl (by decide) rfl _ _ rfl b m s (prv (ltk C r.rg j)) rfl a.o ⟨w3.heap.size,0,.none⟩ 1 [.slice B d.length E,.slice vA vL.length vC] rfl rfl (wj Y7.o) (λaE hu=>by simp only[bQ,cf,fY] at hu;rcases hu with rfl|rfl<;>rfl) ap au ?_)
      intro g5 c5 w7 I J hB
      have G8:=ix (show Q.Gw 45 2 w7 (.some ⟨g5,0,.none⟩) c5 (ltk C r.rg (j+1)).length (prv (ltk C r.rg (j+1))) from by
       rw[i.o,af,HM.o,<-vQ];exact I)
      have N8:=ix (show ∀y,(.some ⟨g5,0,.none⟩:Option Addr)=.some y->F.heap.size<=y.block from λy v=>by
       rcases J y v with⟨z,hz,e⟩|h
       . rw[<-e];exact H.o z hz
       . exact ay (bt G.o L.o).size h)
      have av:=ix (((But.ofBelow (S:=Q.InA b) (bt G.o L.o)).trans hB (λ_ _ e=>e)).below (λk hk ⟨x,Y,e⟩=>by have:=H.o x Y;omega))
      have L8:Hid ((ltk C r.rg (j+1)).length=m+1):=by show _=_;rw[i.o,af,HM.o];rfl
      clear I J hB k0 k1 L Y7 a hm;go_wp2_with fail
      go_roundw
      case rel=>exact⟨j+1,.some ⟨g5,0,.none⟩,c5,by omega,by first|(go_num;done)|exact bf (Value.int IntKind.i64) (by omega),by rw[L8.o],G8.o,N8.o,av.o⟩
      case measure=>first|(simp[intOf];done)|(simp[intOf];omega)
    . have hf:has r.rg d=false:=by simpa using V
      rw[if_neg V,dr] at i;rw[hf];go_wp2_with fail
      go_roundw
      case rel=>exact⟨j+1,b,s,by omega,by first|(go_num;done)|exact bf (Value.int IntKind.i64) (by omega),by rw[i.o],by rw[i.o];exact G3.o,H.o,G.o⟩
      case measure=>first|(simp[intOf];done)|(simp[intOf];omega)
  . obtain rfl:j=n:=by omega
    have aA:¬(j:Int)<(j:Int):=by omega
    have aw:Hid (PsP w wr (.returned (.tuple #[.slice b (ltk C r.rg j).length s,.int .i64 0])) (jt c r.rg)):=by
     refine⟨bt Z.o f.o,b,s,ltk C r.rg j,rfl,(PP.o.keep5 f.o).some ye O.o,?_,λk hk=>?_⟩
     . rw[<-ac.o,<-R.o];exact EV
     . rcases hk with⟨y,v,rfl⟩|⟨t,ht,y,v,rfl⟩
       . have:=H.o y v;have:=Z.o.size;omega
       . exact LO.o _ (.inr ⟨t,(sM ye).subset ht,y,v,rfl⟩)
    clear PP f O H LO X2;go_wp2_with fail
    go_ret2
    exact aw.o
end Go.Proofs.YteaogidofpfmmaaGreat
namespace Go.Proofs.YteaogidofpfmmaaGreat
open Go.Proofs.Tryz
open Go.RowKit Go.Shelf
attribute [local go_sem] Oper.semAt_some
theorem tkI{F:Fence}{n:Nat}{P:Program}{f:Region.Mode}{d:Array Oper}{Q:Exit->Act->World->Prop}(i:Nat){e:Oper}{v:Value}{j:Nat}{g l:Array Bool}{a b:Act}{w:World}(h:wpAnyIn F n P f d Q j l b w)(s:F.round=none:=by exact rfl)(hi:d[i]?=some e:=by exact rfl)
 (hk:(Region.noSelect d&&(Region.free f d g i&&(Region.ready f d g).contains i))=true:=by kernel_rfl)
 (k:∀c a w,Q (.panic c) (a.put e.dst v) w->Q (.panic c) a w:=by exact λ_ _ _ h=>h) (q:Region.wanted e (yielded d a.tmps)=true:=by exact rfl)
 (r:∀w,(execOp a.eval e).run P w=.ok (.value v) w:=by (intro _;go_simp<;>with_reducible rfl)) (m:∀w,e.about P w a.eval=none:=by exact λ_=>rfl)
 (p:g.setIfInBounds i true=l:=by ((try simp only[pt]);exact rfl)) (hb:a.put e.dst v=b:=by ((try simp only[pt]);exact rfl)):wpAnyIn F n P f d Q (j+1) g a w:=by
 simp only[ce] at hk;exact wpAnyIn_take s hi hk.1 hk.2.1 hk.2.2 k ⟨.inl ⟨q,r⟩,m⟩ (p▸hb▸h)
def OvE{τ:Type}(st:τ->List Nat×List Nat->τ)(s:List (List Nat×List Nat)×τ)(W0 W1:World)(vals:Array Value)(s':List (List Nat×List Nat)×τ)(er:Bool)(Gv:Nat->Prop):Prop:=
 ∃(K V:Br)(rest:List (List Nat×List Nat)),s.1=(K.l,V.l)::rest/\vals=#[.slice K.a K.l.length K.c,.slice V.a V.l.length V.c]/\s'=(rest,st s.2 (K.l,V.l))/\er=false/\(Rw W1 K.a K.c K.l/\B8 K.l)/\(Rw W1 V.a V.c V.l/\B8 V.l)/\jE K V/\(∀k,Gv k↔((∃x,K.a=some x/\x.block=k)\/∃x,V.a=some x/\x.block=k))
def SeqO{τ:Type}(P:Program)(g:Nat)(lb:Array Value)(xs:List (List Nat×List Nat))(st:τ->List Nat×List Nat->τ)(stp:τ->Bool)(t0:τ)(w:World)(X:Nat->Prop):Prop:=
 mh P g lb (λs:List (List Nat×List Nat)×τ=>stp s.2) (OvE st) (λ_=>False) (λ_ _=>True) (xs,t0) (λs=>s.2=flw st stp xs t0) w X
theorem vE{C:List (Br×Br)}{k:Nat}(h:k<C.length):(prl C)[k]?=some ((C.getD k br0).1.l,(C.getD k br0).2.l):=by
 unfold prl;rw[ed,bX h,aM,bX h];rfl
theorem Prs.inR{C:List (Br×Br)}{j:Nat}(b:j<C.length):(C.getD j br0).1∈prR C/\(C.getD j br0).2∈prR C:=by
 have a:C.getD j br0∈C:=by simp[b]
 unfold prR;exact⟨d7.2 ⟨_,bE.2 ⟨_,a,rfl⟩,bG⟩,d7.2 ⟨_,bE.2 ⟨_,a,rfl⟩,br _ bG⟩⟩
theorem vp{ai:Type}(st:ai->List Nat×List Nat->ai)(ad:ai->Bool)(t0:ai)(w:World)(E:Nat)(a:Option Addr)(c:Nat)(C:List (Br×Br))(hc:w.cell? ⟨E,0,none⟩=some (.slice a C.length c))(hP:Prs w a c C)(hL:∀t∈prR C,t.l.length<=140737488355328)(aO:C.length<=1099511627776):
 SeqO prog 97 #[.pointer (some ⟨E,0,none⟩)] (prl C) st ad t0 w (λk=>k=E\/prO a C k):=by
 intro aG aw Jx W H hW hS aJ sJ aI aN hR hY h0;have aL:W.cell? ⟨E,0,none⟩=some (.slice a C.length c):=(hW.cell (p:=⟨E,0,none⟩) (block_lt_of_cell hc) (λh=>h (.inl rfl))).trans hc
 have PW:=ix (hP.but hW (λk hk h=>h (.inr hk)))
 have aF:=ix hY;have AJ:=ix aJ;have SJ:=ix sJ;have HS:=ix hS;have HL:=ix hL;clear hY hR hc hP hS hW hL aJ sJ aI aN;obtain⟨ac,hn⟩:∃ac:Nat,ac=C.length:=⟨_,rfl⟩;have aA:=ix hn;rw[<-hn] at aL aO;clear hn;obtain⟨R,hR⟩:∃R,flw st ad (prl C) t0=R:=⟨_,rfl⟩;rw[hR];have HR:=ix hR;clear hR;refine fA func97 rfl trivial ?_ rfl;simp only[ntmps97,cR,a7,bg,Nat.reduceAdd,Nat.reduceSub,cx,cM,dg,c7,b9,b7];gi_wp2
 gi_loopw [7] (λav wr=>∃k:Nat,∃af:Nat->Prop,∃t:ai,k<=ac/\av=.int .i64 k/\aw af ((prl C).drop k,t) wr/\But H W wr/\(∀q,af q->H q\/W.heap.size<=q)/\flw st ad ((prl C).drop k) t=R)
  (λav _=>ac-(intOf av).toNat)
 case atStart=>exact⟨0,H,t0,an _,rfl,h0,But.refl _ _,λq f=>.inl f,HR.o⟩
 case round=>
  obtain⟨k,af,t,hk,rfl,V,hB,ao,ag⟩:=hrel;by_cases ay:k<ac
  . have ar:k<C.length:=by rw[<-aA.o];exact ay
    have PR:=PW.o.but hB (λq f h=>HS.o _ h (.inr f))
    obtain⟨aP,rfl,d0,d1,⟨X,bK⟩,Y,bV⟩:=PR.at ar;have hd:=s9 (vE ar);have hm:=Prs.inR ar;obtain⟨⟨⟨kA,kC,m⟩,⟨vA,vC,r⟩⟩,v⟩:∃x,C.getD k br0=x:=⟨_,rfl⟩;rw[v] at d0 d1 X bK Y bV hd hm;dsimp only at d0 d1 X bK Y bV hd hm;have lK:=HL.o _ hm.1;have lV:=HL.o _ hm.2;dsimp only at lK lV;rw[hd] at V ag;obtain⟨W2,ap⟩:∃W2,wr.alloc (.cells #[.slice kA m.length kC,.slice vA r.length vC] 45)=W2:=⟨_,rfl⟩;obtain⟨M,aq⟩:∃M,W2.drew=M:=⟨_,rfl⟩;have A1:=ix (show Below wr.heap.size wr M by rw[<-aq,<-ap];exact bt (al wr _) (dr2 _))
    have X1:=ix (show M.heap[wr.heap.size]?=some (.cells #[.slice kA m.length kC,.slice vA r.length vC] 45 (0,0)) by rw[<-aq,<-ap];exact bj wr _)
    have S1:=ix (show wr.heap.size<M.heap.size from(ae.1 X1.o).1)
    have aM:=hB.size;have RK:=ix (X.keep A1.o);have RV:=ix (Y.keep A1.o);have CK:=ix (lL M kA m.length kC m ((RK.o).bs bK RK.o.len_le) rfl lK);have CV:=ix (λ(j:World)(hb:Below M.heap.size M j)=>lL j vA r.length vC r ((RV.o.keep hb).bs bV (RV.o.keep hb).len_le) rfl lV)
    have b:=ix hB;have I:=ix ao;have aa:=ix ag
    have YQ:Hid (∀(T U:Option Addr)(J Z:Nat)(j S:World),Rw j T J m->New M none T->Below M.heap.size M j->Rw S U Z r->New j none U->Below j.heap.size j S->
     ∃Gv:Nat->Prop,(∀q,Gv q->wr.heap.size<=q)/\YieldAt Fence.wide 0 prog aG #[.slice T m.length J,.slice U r.length Z] S (YesM af aw Jx (λaH=>ad aH.2) ((prl C).drop (k+1),st t (m,r)) false Gv S)):=by
     intro T U J Z j S h1 h2 A h4 h5 h6;have s1:=S1.o;have s3:=A.size;have s6:=h6.size;have fK:∀x,T=some x->M.heap.size<=x.block/\x.block<j.heap.size:=λx v=>⟨(h2 x v).elim (λ⟨z,hz,_⟩=>by cases hz) id,h1.lt v⟩
     have fV:∀x,U=some x->j.heap.size<=x.block/\x.block<S.heap.size:=λx v=>⟨(h5 x v).elim (λ⟨z,hz,_⟩=>by cases hz) id,h4.lt v⟩
     refine⟨λq=>(∃x,T=some x/\x.block=q)\/∃x,U=some x/\x.block=q,λq f=>?_,?_⟩
     . rcases f with⟨x,v,rfl⟩|⟨x,v,rfl⟩
       . have:=fK x v;omega
       . have:=fV x v;omega
     refine aF.o af _ wr S _ _ _ _ V (But.ofBelow (bt (bt A1.o A) h6)) ⟨⟨T,J,m⟩,⟨U,Z,r⟩,(prl C).drop (k+1),rfl,rfl,rfl,rfl,⟨h1.keep h6,bK⟩,⟨h4,bV⟩,?_,λq=>dT⟩ ?_ aM I.o
     . intro x ax v l ah;have h1:=fK x v;have h2:=fV ax l;have ah:x.block=ax.block:=ah;omega
     . intro q f;rcases f with⟨x,v,rfl⟩|⟨x,v,rfl⟩
       . have h1:=fK x v;exact⟨λhf=>by have:=SJ.o _ _ _ V _ hf;omega,by omega,by omega⟩
       . have h1:=fV x v;exact⟨λhf=>by have:=SJ.o _ _ _ V _ hf;omega,by omega,by omega⟩
    obtain⟨z0,z1⟩:=ld X1.o;have au:=ix (λ(aE:World)(hb:Below M.heap.size M aE)=>ld ((hb.block _ S1.o).trans X1.o))
    have aQ:(k:Int)<(ac:Int):=by omega
    clear V hB ao ag hd hm v ar X bK Y bV PR lK lV;gi_wp2
    try rw[ap]
    refine wpIn_region_any (by kernel_rfl) ?_
    change wpAnyIn _ _ _ _ _ _ _ _ _ (World.drew _);rw[aq];clear ap aq d0 d1;refine tkI 0 ?_;refine tkI 1 ?_;refine tkI 4 ?_;refine eb (rs:=[2,5]) (by kernel_rfl) (by simp) ?_
    refine(AllReadyIn.cons rfl (λP d=>?_) (AllReadyIn.cons rfl (λP d=>?_) AllReadyIn.nil))
    . go_simp;refine d _ _ ?_;try simp only[pt]
      refine eb (rs:=[3,5]) (by kernel_rfl) (by simp) ?_
      refine(AllReadyIn.cons rfl (λP d=>?_) (AllReadyIn.cons rfl (λP d=>?_) AllReadyIn.nil))
      . go_simp;refine⟨trivial,rfl,(dc.2 CK.o).mono ?_⟩;rintro _ j ⟨T,J,rfl,X,nK,s⟩;have ak:=ix X;have aj:=ix nK;have e:=ix s;obtain⟨y0,y1⟩:=au.o j s;clear X nK s z0 z1;refine d _ _ ?_;try simp only[pt]
        refine eb (rs:=[5]) (by kernel_rfl) (by simp) ?_
        refine AllReadyIn.cons rfl (λP d=>?_) AllReadyIn.nil
        go_simp;refine d _ _ ?_;try simp only[pt]
        refine eb (rs:=[6]) (by kernel_rfl) (by simp) ?_
        refine AllReadyIn.cons rfl (λP d=>?_) AllReadyIn.nil
        go_simp;refine⟨trivial,rfl,(dc.2 (CV.o j e.o)).mono ?_⟩;rintro _ S ⟨U,Z,rfl,Y,nV,i⟩;have YV:=ix (YQ.o T U J Z j S ak.o aj.o e.o Y nV i);have K:=ix (bt (bt A1.o e.o) i);clear Y nV i y0 y1;refine d _ _ ?_;try simp only[pt]
        refine eb (rs:=[7]) (by kernel_rfl) (by simp) ?_
        refine AllReadyIn.cons rfl (λP d=>?_) AllReadyIn.nil
        obtain⟨Gv,ab,fn,aC,aD,aB,l,y⟩:=YV.o;have L:=ix ab;clear ab;go_simp;refine⟨rfl,y.mono ?_⟩;rintro ah n ⟨G,A,N,⟨rfl,D,B⟩|⟨rfl,D,B⟩⟩
        . have O:=ix B;have F:=ix (show But H W n from(b.o.andBelow K.o).trans A (λq f h=>h.elim (λh=>(I.o q h).elim id (λh=>by have:=b.o.size;omega)) (λh=>by have:=b.o.size;have:=L.o q h;omega)))
          have g:=ix (show ∀q,G q->H q\/W.heap.size<=q from λq f=>by
           rcases N q f with h|h|h
           . exact I.o q h
           . exact .inr (by have:=b.o.size;have:=L.o q h;omega)
           . exact .inr (by have:=b.o.size;have:=K.o.size;omega))
          have τ:=ix (show flw st ad ((prl C).drop (k+1)) (st t (m,r))=R from by rw[<-aa.o,my (D rfl)])
          clear B A N D l y;refine d _ _ ?_;refine tkI 8 ?_;refine gM (by kernel_rfl) ?_ _
          gi_wp2
          go_roundw
          case rel=>exact⟨k+1,G,st t (m,r),by omega,by go_num,O.o,F.o,g.o,τ.o⟩
          case measure=>simp[intOf];omega
        . have O:=ix B;have F:=ix (show But H W n from(b.o.andBelow K.o).trans A (λq f h=>h.elim (λh=>(I.o q h).elim id (λh=>by have:=b.o.size;omega)) (λh=>by have:=b.o.size;have:=L.o q h;omega)))
          have g:=ix (show ∀q,G q->H q\/W.heap.size<=q from λq f=>by
           rcases N q f with h|h|h
           . exact I.o q h
           . exact .inr (by have:=b.o.size;have:=L.o q h;omega)
           . exact .inr (by have:=b.o.size;have:=K.o.size;omega))
          have τ:=ix (show st t (m,r)=R from by rw[<-aa.o,mu D])
          clear B A N D l y;refine d _ _ ?_;refine tkI 8 ?_;refine gM (by kernel_rfl) ?_ _
          gi_wp2
          refine az (co rfl _ _ _) rfl ?_;exact⟨G,((prl C).drop (k+1),st t (m,r)),⟨_,rfl⟩,F.o,g.o,τ.o,.inr O.o⟩
      . go_simp;refine d _ _ ?_;try simp only[pt]
        refine eb (rs:=[3]) (by kernel_rfl) (by simp) ?_
        refine AllReadyIn.cons rfl (λP d=>?_) AllReadyIn.nil
        go_simp;refine⟨trivial,rfl,(dc.2 CK.o).mono ?_⟩;rintro _ j ⟨T,J,rfl,X,nK,s⟩;have ak:=ix X;have aj:=ix nK;have e:=ix s;obtain⟨y0,y1⟩:=au.o j s;clear X nK s z0 z1;refine d _ _ ?_;try simp only[pt]
        refine eb (rs:=[6]) (by kernel_rfl) (by simp) ?_
        refine AllReadyIn.cons rfl (λP d=>?_) AllReadyIn.nil
        go_simp;refine⟨trivial,rfl,(dc.2 (CV.o j e.o)).mono ?_⟩;rintro _ S ⟨U,Z,rfl,Y,nV,i⟩;have YV:=ix (YQ.o T U J Z j S ak.o aj.o e.o Y nV i);have K:=ix (bt (bt A1.o e.o) i);clear Y nV i y0 y1;refine d _ _ ?_;try simp only[pt]
        refine eb (rs:=[7]) (by kernel_rfl) (by simp) ?_
        refine AllReadyIn.cons rfl (λP d=>?_) AllReadyIn.nil
        obtain⟨Gv,ab,fn,aC,aD,aB,l,y⟩:=YV.o;have L:=ix ab;clear ab;go_simp;refine⟨rfl,y.mono ?_⟩;rintro ah n ⟨G,A,N,⟨rfl,D,B⟩|⟨rfl,D,B⟩⟩
        . have O:=ix B;have F:=ix (show But H W n from(b.o.andBelow K.o).trans A (λq f h=>h.elim (λh=>(I.o q h).elim id (λh=>by have:=b.o.size;omega)) (λh=>by have:=b.o.size;have:=L.o q h;omega)))
          have g:=ix (show ∀q,G q->H q\/W.heap.size<=q from λq f=>by
           rcases N q f with h|h|h
           . exact I.o q h
           . exact .inr (by have:=b.o.size;have:=L.o q h;omega)
           . exact .inr (by have:=b.o.size;have:=K.o.size;omega))
          have τ:=ix (show flw st ad ((prl C).drop (k+1)) (st t (m,r))=R from by rw[<-aa.o,my (D rfl)])
          clear B A N D l y;refine d _ _ ?_;refine tkI 8 ?_;refine gM (by kernel_rfl) ?_ _
          gi_wp2
          go_roundw
          case rel=>exact⟨k+1,G,st t (m,r),by omega,by go_num,O.o,F.o,g.o,τ.o⟩
          case measure=>simp[intOf];omega
        . have O:=ix B;have F:=ix (show But H W n from(b.o.andBelow K.o).trans A (λq f h=>h.elim (λh=>(I.o q h).elim id (λh=>by have:=b.o.size;omega)) (λh=>by have:=b.o.size;have:=L.o q h;omega)))
          have g:=ix (show ∀q,G q->H q\/W.heap.size<=q from λq f=>by
           rcases N q f with h|h|h
           . exact I.o q h
           . exact .inr (by have:=b.o.size;have:=L.o q h;omega)
           . exact .inr (by have:=b.o.size;have:=K.o.size;omega))
          have τ:=ix (show st t (m,r)=R from by rw[<-aa.o,mu D])
          clear B A N D l y;refine d _ _ ?_;refine tkI 8 ?_;refine gM (by kernel_rfl) ?_ _
          gi_wp2
          refine az (co rfl _ _ _) rfl ?_;exact⟨G,((prl C).drop (k+1),st t (m,r)),⟨_,rfl⟩,F.o,g.o,τ.o,.inr O.o⟩
    . go_simp;refine d _ _ ?_;try simp only[pt]
      refine eb (rs:=[2]) (by kernel_rfl) (by simp) ?_
      refine AllReadyIn.cons rfl (λP d=>?_) AllReadyIn.nil
      go_simp;refine d _ _ ?_;try simp only[pt]
      refine eb (rs:=[3]) (by kernel_rfl) (by simp) ?_
      refine AllReadyIn.cons rfl (λP d=>?_) AllReadyIn.nil
      go_simp;refine⟨trivial,rfl,(dc.2 CK.o).mono ?_⟩;rintro _ j ⟨T,J,rfl,X,nK,s⟩;have ak:=ix X;have aj:=ix nK;have e:=ix s;obtain⟨y0,y1⟩:=au.o j s;clear X nK s z0 z1;refine d _ _ ?_;try simp only[pt]
      refine eb (rs:=[6]) (by kernel_rfl) (by simp) ?_
      refine AllReadyIn.cons rfl (λP d=>?_) AllReadyIn.nil
      go_simp;refine⟨trivial,rfl,(dc.2 (CV.o j e.o)).mono ?_⟩;rintro _ S ⟨U,Z,rfl,Y,nV,i⟩;have YV:=ix (YQ.o T U J Z j S ak.o aj.o e.o Y nV i);have K:=ix (bt (bt A1.o e.o) i);clear Y nV i y0 y1;refine d _ _ ?_;try simp only[pt]
      refine eb (rs:=[7]) (by kernel_rfl) (by simp) ?_
      refine AllReadyIn.cons rfl (λP d=>?_) AllReadyIn.nil
      obtain⟨Gv,ab,fn,aC,aD,aB,l,y⟩:=YV.o;have L:=ix ab;clear ab;go_simp;refine⟨rfl,y.mono ?_⟩;rintro ah n ⟨G,A,N,⟨rfl,D,B⟩|⟨rfl,D,B⟩⟩
      . have O:=ix B;have F:=ix (show But H W n from(b.o.andBelow K.o).trans A (λq f h=>h.elim (λh=>(I.o q h).elim id (λh=>by have:=b.o.size;omega)) (λh=>by have:=b.o.size;have:=L.o q h;omega)))
        have g:=ix (show ∀q,G q->H q\/W.heap.size<=q from λq f=>by
         rcases N q f with h|h|h
         . exact I.o q h
         . exact .inr (by have:=b.o.size;have:=L.o q h;omega)
         . exact .inr (by have:=b.o.size;have:=K.o.size;omega))
        have τ:=ix (show flw st ad ((prl C).drop (k+1)) (st t (m,r))=R from by rw[<-aa.o,my (D rfl)])
        clear B A N D l y;refine d _ _ ?_;refine tkI 8 ?_;refine gM (by kernel_rfl) ?_ _
        gi_wp2
        go_roundw
        case rel=>exact⟨k+1,G,st t (m,r),by omega,by go_num,O.o,F.o,g.o,τ.o⟩
        case measure=>simp[intOf];omega
      . have O:=ix B;have F:=ix (show But H W n from(b.o.andBelow K.o).trans A (λq f h=>h.elim (λh=>(I.o q h).elim id (λh=>by have:=b.o.size;omega)) (λh=>by have:=b.o.size;have:=L.o q h;omega)))
        have g:=ix (show ∀q,G q->H q\/W.heap.size<=q from λq f=>by
         rcases N q f with h|h|h
         . exact I.o q h
         . exact .inr (by have:=b.o.size;have:=L.o q h;omega)
         . exact .inr (by have:=b.o.size;have:=K.o.size;omega))
        have τ:=ix (show st t (m,r)=R from by rw[<-aa.o,mu D])
        clear B A N D l y;refine d _ _ ?_;refine tkI 8 ?_;refine gM (by kernel_rfl) ?_ _
        gi_wp2
        refine az (co rfl _ _ _) rfl ?_;exact⟨G,((prl C).drop (k+1),st t (m,r)),⟨_,rfl⟩,F.o,g.o,τ.o,.inr O.o⟩
  . obtain rfl:k=ac:=by omega
    have hd:(prl C).drop k=[]:=dw (by rw[i7,aA.o];exact am _)
    rw[hd] at V ag;have O:=ix V;have b:=ix hB;have I:=ix ao;have aa:=ix ag;clear V hB ao ag hd ay;gi_wp2
    go_end0
    exact⟨af,([],t),⟨_,rfl⟩,b.o,I.o,aa.o,.inl O.o⟩
theorem nu(w:World)(a:Option Addr)(n c:Nat):
 Calls prog 57 #[.slice a n c] w λe b=>e=.returned (.func (.func 97) #[] #[.pointer (some ⟨w.heap.size,0,none⟩)])/\b=w.alloc (.cells #[.slice a n c] 60):=by
 go_enter func57,ntmps57;go_wp2;go_ret;exact⟨rfl,rfl⟩
def ScP(w w':World)(e:Ending)(L:List (List Nat×List Nat)):Prop:=Below w.heap.size w w'/\∃(E:Nat)(a:Option Addr)(c:Nat)(C:List (Br×Br)),e=.returned (.func (.func 97) #[] #[.pointer (some ⟨E,0,none⟩)])/\w'.cell? ⟨E,0,none⟩=some (.slice a C.length c)/\Prs w' a c C/\prl C=L/\(∀k,prO a C k->w.heap.size<=k)/\w.heap.size<=E/\E<w'.heap.size
theorem Cy(w:World)(b:Nat)(rd:Int->Option Pg)(M:iF rd)(N:Nat)(O:jx rd N)(ap:N<=65536)(p:Nat->Prop)(j:i9 52 (.pointer (some ⟨b,0,none⟩)) rd p w)(P:∀k,p k->k<w.heap.size)(root d l:Int)(h2:1<=d)(h3:d<=12)(r:Rv)(aa:Ri w r)(W:Rb r)(ab:∀k,i5 r k->k<w.heap.size)(L:List (List Nat×List Nat))(Z:(iE (prM Yl rd r.rg true) rd (iU r.rg) true (d-1).toNat ⟨[],([],0)⟩ (ja root d)).c=(L,0)):
 Calls prog 28 #[.pointer (some ⟨b,0,none⟩),.agg #[.int .i64 root,.int .i64 d,.int .i64 l],r.val] w λe w'=>ScP w w' e L:=by
 have n:=ix (λ(ad:World)=>jI ad b root d l r 0)
 obtain⟨y,A,i,s0⟩:=iS w (.cells #[.int .i64 root,.int .i64 d,.int .i64 l] 34) (.cells r.cs 62) (Below.refl _ _);have i:=ix i;have HR:=ix j;have HX:=ix P;have am:=ix aa;have ak:=ix W;have an:=ix ab;have HA:=ix M;have HN:=ix O;clear j P aa W ab M O;unfold Rv.val at n ⊢;simp only[Rv.cs] at n y A i s0 ⊢;obtain⟨t0,t1,t2⟩:=je y;obtain⟨r0,r1,r2⟩:=je A;go_enter func28,ntmps28;obtain⟨R,E⟩:∃R,(iE (prM Yl rd r.rg true) rd (iU r.rg) true (d-1).toNat ⟨[],([],0)⟩ (ja root d)).c=R:=⟨_,rfl⟩;have aj:=ix E;have ah:=ix (E.symm.trans Z);clear E Z;go_wp2_with fail
 generalize (w.alloc (.cells #[.int .i64 root,.int .i64 d,.int .i64 l] 34)).alloc (.cells #[.slice r.aL r.lo.length r.cL,.slice r.aH r.hi.length r.cH,.bool r.op] 62)=f at *;refine(n.o _).mono ?_;rintro _ v ⟨rfl,T,U,V,X,Y,ms⟩;have m:=ix (bt i.o Y);have aq:w.heap.size<=f.heap.size:=i.o.size
 have t:Hid (∀k,(k=f.heap.size+1\/k=f.heap.size+2\/k=f.heap.size\/k=f.heap.size+3\/p k\/i5 r k)->k<v.heap.size):=ix (λk hk=>by
  rcases hk with h|h|h|h|h|h
  . omega
  . omega
  . omega
  . omega
  . have:=HX.o k h;omega
  . have:=an.o k h;omega)
 have H:=ix (jM (B:=8*N) (enters_of func86 (by kernel_rfl) rfl) (by omega) (lI Yl rC rd HA.o (λc=>c.1.length) yp N HN.o b p v (f.heap.size+1) (f.heap.size+2) f.heap.size (f.heap.size+3) root d l h2 h3 r true U V T (by rw[if_pos rfl];exact X) (am.o.keep m.o) ak.o (HR.o.keep m.o) (λk hk=>t.o k (.inr (.inr (.inr (.inr (.inl hk)))))) (λk hk=>t.o k (.inr (.inr (.inr (.inr (.inr hk)))))) ([],0) rfl rfl) (But.refl _ _) t.o)
 clear T U V X Y ms t0 t1 t2 r0 r1 r2 y A n;go_wp2_with fail
 refine H.o.mono ?_;rintro e g ⟨ac,s,S,hc⟩;have G:=ix (bt m.o ac);have j:s=R:=S.trans aj.o;have ao:w.heap.size<=v.heap.size:=m.o.size;clear S H ac;obtain rfl:s=(L,0):=j.trans ah.o;rcases hc with⟨hz,rfl⟩|⟨hz,a,c,C,rfl,hP,hl,hn⟩
 . exact absurd rfl hz
 . have K:=ix hP;have I:=ix hl;have J:=ix (λk hk=>ay ao (hn k hk))
   clear hz j hP hl hn;go_wp2_with fail
   refine(nu g a C.length c).mono ?_;rintro _ x ⟨rfl,F⟩;have q:=ix (show Below g.heap.size g x by rw[F];exact al _ _)
   have D:=ix (show x.heap[g.heap.size]?=some (.cells #[.slice a C.length c] 60 (0,0)) by rw[F];exact ag _ _)
   have af:=ix (show ScP w x (.returned (.func (.func 97) #[] #[.pointer (some ⟨g.heap.size,0,none⟩)])) L from⟨bt G.o q.o,g.heap.size,a,c,C,rfl,by rw[ai _ _ _ _ _ _ D.o];rfl,K.o.keep5 q.o,I.o,J.o,G.o.size,(ae.1 D.o).1⟩)
   clear F K I J q D;go_wp2;go_ret;exact af.o
theorem zE(w:World)(b:Nat)(rd:Int->Option Pg)(J:iF rd)(N:Nat)(K:jx rd N)(ak:N<=65536)(m:Nat->Prop)(i:i9 52 (.pointer (some ⟨b,0,none⟩)) rd m w)(L:∀k,m k->k<w.heap.size)(r:Rv)(T:Ri w r)(S:Rb r)(U:∀k,i5 r k->k<w.heap.size):
 Calls prog 28 #[.pointer (some ⟨b,0,none⟩),.agg #[.int .i64 0,.int .i64 0,.int .i64 0],r.val] w λe w'=>ScP w w' e []:=by
 have l:=ix (λ(W:World)=>jI W b 0 0 0 r 0)
 obtain⟨t,v,g,s0⟩:=iS w (.cells #[.int .i64 0,.int .i64 0,.int .i64 0] 34) (.cells r.cs 62) (Below.refl _ _);have g:=ix g;have HR:=ix i;have X:=ix L;have aj:=ix T;have ah:=ix S;have ad:=ix U;have HA:=ix J;have HN:=ix K;clear i L T S U J K;unfold Rv.val at l ⊢;simp only[Rv.cs] at l t v g s0 ⊢;obtain⟨t0,t1,t2⟩:=je t;obtain⟨r0,r1,r2⟩:=je v;go_enter func28,ntmps28;obtain⟨R,y⟩:∃R,(([],0):List (List Nat×List Nat)×Nat)=R:=⟨_,rfl⟩;have ac:=ix y;have ab:=ix (y.symm);clear y;go_wp2_with fail
 generalize (w.alloc (.cells #[.int .i64 0,.int .i64 0,.int .i64 0] 34)).alloc (.cells #[.slice r.aL r.lo.length r.cL,.slice r.aH r.hi.length r.cH,.bool r.op] 62)=d at *;refine(l.o _).mono ?_;rintro _ p ⟨rfl,m1,O,m3,m4,P,ms⟩;have D:=ix (bt g.o P);have am:w.heap.size<=d.heap.size:=g.o.size
 have Y:Hid (∀k,(k=d.heap.size+1\/k=d.heap.size+2\/k=d.heap.size\/k=d.heap.size+3\/m k\/i5 r k)->k<p.heap.size):=ix (λk hk=>by
  rcases hk with h|h|h|h|h|h
  . omega
  . omega
  . omega
  . omega
  . have:=X.o k h;omega
  . have:=ad.o k h;omega)
 have F:=ix (jM (B:=8*N) (enters_of func86 (by kernel_rfl) rfl) (by omega) (kZ Yl (λc=>c.1.length) (8*N) p (d.heap.size+1) (d.heap.size+2) d.heap.size (d.heap.size+3) O (λj=>j=d.heap.size+1\/j=d.heap.size+2\/j=d.heap.size\/j=d.heap.size+3\/m j\/i5 r j) (.inl rfl) ([],0)) (But.refl _ _) Y.o)
 clear m1 O m3 m4 P ms t0 t1 t2 r0 r1 r2 t v l;go_wp2_with fail
 refine F.o.mono ?_;rintro e f ⟨V,s,M,Z⟩;have E:=ix (bt D.o V);have i:s=R:=M.trans ac.o;have af:w.heap.size<=p.heap.size:=D.o.size;clear M F V;obtain rfl:s=([],0):=i.trans ab.o;rcases Z with⟨hz,rfl⟩|⟨hz,a,c,C,rfl,hP,hl,hn⟩
 . exact absurd rfl hz
 . have I:=ix hP;have G:=ix hl;have H:=ix (λk hk=>ay af (hn k hk))
   clear hz i hP hl hn;go_wp2_with fail
   refine(nu f a C.length c).mono ?_;rintro _ q ⟨rfl,A⟩;have n:=ix (show Below f.heap.size f q by rw[A];exact al _ _)
   have x:=ix (show q.heap[f.heap.size]?=some (.cells #[.slice a C.length c] 60 (0,0)) by rw[A];exact ag _ _)
   have aa:=ix (show ScP w q (.returned (.func (.func 97) #[] #[.pointer (some ⟨f.heap.size,0,none⟩)])) [] from⟨bt E.o n.o,f.heap.size,a,c,C,rfl,by rw[ai _ _ _ _ _ _ x.o];rfl,I.o.keep5 n.o,G.o,H.o,E.o.size,(ae.1 x.o).1⟩)
   clear A I G H n x;go_wp2;go_ret;exact aa.o
theorem Db(w:World)(b:Nat)(rd:Int->Option Pg)(M:iF rd)(N:Nat)(O:jx rd N)(ap:N<=65536)(p:Nat->Prop)(j:i9 52 (.pointer (some ⟨b,0,none⟩)) rd p w)(P:∀k,p k->k<w.heap.size)(root d l:Int)(h2:1<=d)(h3:d<=12)(r:Rv)(aa:Ri w r)(W:Rb r)(ab:∀k,i5 r k->k<w.heap.size)(L:List (List Nat×List Nat))(Z:(iE (prM Yl rd r.rg false) rd (iU r.rg) false (d-1).toNat ⟨[],([],0)⟩ (ja root d)).c=(L,0)):
 Calls prog 29 #[.pointer (some ⟨b,0,none⟩),.agg #[.int .i64 root,.int .i64 d,.int .i64 l],r.val] w λe w'=>ScP w w' e L:=by
 have n:=ix (λ(ad:World)=>jI ad b root d l r 1)
 obtain⟨y,A,i,s0⟩:=iS w (.cells #[.int .i64 root,.int .i64 d,.int .i64 l] 34) (.cells r.cs 62) (Below.refl _ _);have i:=ix i;have HR:=ix j;have HX:=ix P;have am:=ix aa;have ak:=ix W;have an:=ix ab;have HA:=ix M;have HN:=ix O;clear j P aa W ab M O;unfold Rv.val at n ⊢;simp only[Rv.cs] at n y A i s0 ⊢;obtain⟨t0,t1,t2⟩:=je y;obtain⟨r0,r1,r2⟩:=je A;go_enter func29,ntmps29;obtain⟨R,E⟩:∃R,(iE (prM Yl rd r.rg false) rd (iU r.rg) false (d-1).toNat ⟨[],([],0)⟩ (ja root d)).c=R:=⟨_,rfl⟩;have aj:=ix E;have ah:=ix (E.symm.trans Z);clear E Z;go_wp2_with fail
 generalize (w.alloc (.cells #[.int .i64 root,.int .i64 d,.int .i64 l] 34)).alloc (.cells #[.slice r.aL r.lo.length r.cL,.slice r.aH r.hi.length r.cH,.bool r.op] 62)=f at *;refine(n.o _).mono ?_;rintro _ v ⟨rfl,T,U,V,X,Y,ms⟩;have m:=ix (bt i.o Y);have aq:w.heap.size<=f.heap.size:=i.o.size
 have t:Hid (∀k,(k=f.heap.size+1\/k=f.heap.size+2\/k=f.heap.size\/k=f.heap.size+3\/p k\/i5 r k)->k<v.heap.size):=ix (λk hk=>by
  rcases hk with h|h|h|h|h|h
  . omega
  . omega
  . omega
  . omega
  . have:=HX.o k h;omega
  . have:=an.o k h;omega)
 have H:=ix (jM (B:=8*N) (enters_of func86 (by kernel_rfl) rfl) (by omega) (lI Yl rC rd HA.o (λc=>c.1.length) yp N HN.o b p v (f.heap.size+1) (f.heap.size+2) f.heap.size (f.heap.size+3) root d l h2 h3 r false U V T (by rw[if_neg (by decide)];exact X) (am.o.keep m.o) ak.o (HR.o.keep m.o) (λk hk=>t.o k (.inr (.inr (.inr (.inr (.inl hk)))))) (λk hk=>t.o k (.inr (.inr (.inr (.inr (.inr hk)))))) ([],0) rfl rfl) (But.refl _ _) t.o)
 clear T U V X Y ms t0 t1 t2 r0 r1 r2 y A n;go_wp2_with fail
 refine H.o.mono ?_;rintro e g ⟨ac,s,S,hc⟩;have G:=ix (bt m.o ac);have j:s=R:=S.trans aj.o;have ao:w.heap.size<=v.heap.size:=m.o.size;clear S H ac;obtain rfl:s=(L,0):=j.trans ah.o;rcases hc with⟨hz,rfl⟩|⟨hz,a,c,C,rfl,hP,hl,hn⟩
 . exact absurd rfl hz
 . have K:=ix hP;have I:=ix hl;have J:=ix (λk hk=>ay ao (hn k hk))
   clear hz j hP hl hn;go_wp2_with fail
   refine(nu g a C.length c).mono ?_;rintro _ x ⟨rfl,F⟩;have q:=ix (show Below g.heap.size g x by rw[F];exact al _ _)
   have D:=ix (show x.heap[g.heap.size]?=some (.cells #[.slice a C.length c] 60 (0,0)) by rw[F];exact ag _ _)
   have af:=ix (show ScP w x (.returned (.func (.func 97) #[] #[.pointer (some ⟨g.heap.size,0,none⟩)])) L from⟨bt G.o q.o,g.heap.size,a,c,C,rfl,by rw[ai _ _ _ _ _ _ D.o];rfl,K.o.keep5 q.o,I.o,J.o,G.o.size,(ae.1 D.o).1⟩)
   clear F K I J q D;go_wp2;go_ret;exact af.o
theorem Bj(w:World)(b:Nat)(rd:Int->Option Pg)(J:iF rd)(N:Nat)(K:jx rd N)(ak:N<=65536)(m:Nat->Prop)(i:i9 52 (.pointer (some ⟨b,0,none⟩)) rd m w)(L:∀k,m k->k<w.heap.size)(r:Rv)(T:Ri w r)(S:Rb r)(U:∀k,i5 r k->k<w.heap.size):
 Calls prog 29 #[.pointer (some ⟨b,0,none⟩),.agg #[.int .i64 0,.int .i64 0,.int .i64 0],r.val] w λe w'=>ScP w w' e []:=by
 have l:=ix (λ(W:World)=>jI W b 0 0 0 r 1)
 obtain⟨t,v,g,s0⟩:=iS w (.cells #[.int .i64 0,.int .i64 0,.int .i64 0] 34) (.cells r.cs 62) (Below.refl _ _);have g:=ix g;have HR:=ix i;have X:=ix L;have aj:=ix T;have ah:=ix S;have ad:=ix U;have HA:=ix J;have HN:=ix K;clear i L T S U J K;unfold Rv.val at l ⊢;simp only[Rv.cs] at l t v g s0 ⊢;obtain⟨t0,t1,t2⟩:=je t;obtain⟨r0,r1,r2⟩:=je v;go_enter func29,ntmps29;obtain⟨R,y⟩:∃R,(([],0):List (List Nat×List Nat)×Nat)=R:=⟨_,rfl⟩;have ac:=ix y;have ab:=ix (y.symm);clear y;go_wp2_with fail
 generalize (w.alloc (.cells #[.int .i64 0,.int .i64 0,.int .i64 0] 34)).alloc (.cells #[.slice r.aL r.lo.length r.cL,.slice r.aH r.hi.length r.cH,.bool r.op] 62)=d at *;refine(l.o _).mono ?_;rintro _ p ⟨rfl,m1,O,m3,m4,P,ms⟩;have D:=ix (bt g.o P);have am:w.heap.size<=d.heap.size:=g.o.size
 have Y:Hid (∀k,(k=d.heap.size+1\/k=d.heap.size+2\/k=d.heap.size\/k=d.heap.size+3\/m k\/i5 r k)->k<p.heap.size):=ix (λk hk=>by
  rcases hk with h|h|h|h|h|h
  . omega
  . omega
  . omega
  . omega
  . have:=X.o k h;omega
  . have:=ad.o k h;omega)
 have F:=ix (jM (B:=8*N) (enters_of func86 (by kernel_rfl) rfl) (by omega) (kZ Yl (λc=>c.1.length) (8*N) p (d.heap.size+1) (d.heap.size+2) d.heap.size (d.heap.size+3) O (λj=>j=d.heap.size+1\/j=d.heap.size+2\/j=d.heap.size\/j=d.heap.size+3\/m j\/i5 r j) (.inl rfl) ([],0)) (But.refl _ _) Y.o)
 clear m1 O m3 m4 P ms t0 t1 t2 r0 r1 r2 t v l;go_wp2_with fail
 refine F.o.mono ?_;rintro e f ⟨V,s,M,Z⟩;have E:=ix (bt D.o V);have i:s=R:=M.trans ac.o;have af:w.heap.size<=p.heap.size:=D.o.size;clear M F V;obtain rfl:s=([],0):=i.trans ab.o;rcases Z with⟨hz,rfl⟩|⟨hz,a,c,C,rfl,hP,hl,hn⟩
 . exact absurd rfl hz
 . have I:=ix hP;have G:=ix hl;have H:=ix (λk hk=>ay af (hn k hk))
   clear hz i hP hl hn;go_wp2_with fail
   refine(nu f a C.length c).mono ?_;rintro _ q ⟨rfl,A⟩;have n:=ix (show Below f.heap.size f q by rw[A];exact al _ _)
   have x:=ix (show q.heap[f.heap.size]?=some (.cells #[.slice a C.length c] 60 (0,0)) by rw[A];exact ag _ _)
   have aa:=ix (show ScP w q (.returned (.func (.func 97) #[] #[.pointer (some ⟨f.heap.size,0,none⟩)])) [] from⟨bt E.o n.o,f.heap.size,a,c,C,rfl,by rw[ai _ _ _ _ _ _ x.o];rfl,I.o.keep5 n.o,G.o,H.o,E.o.size,(ae.1 x.o).1⟩)
   clear A I G H n x;go_wp2;go_ret;exact aa.o
section
variable {w:World} {b:Nat} {rd:Int->Option Pg} {XV:Nat->Prop} {t:Tr}
theorem C7(a:iF rd)(v:mU rd){N:Nat}(g:jx rd N)(l:N<=65536)(i:i9 52 (.pointer (some ⟨b,0,none⟩)) rd XV w)(j:∀k,XV k->k<w.heap.size)(f:chk rd t=0){r:Rv}(d:Ri w r)(m:Rb r)(n:∀k,i5 r k->k<w.heap.size):
 Calls prog 28 #[.pointer (some ⟨b,0,none⟩),.agg #[.int .i64 t.root,.int .i64 t.height,.int .i64 t.items],r.val] w λe s=>ScP w s e (jt (PLt rd t) r.rg):=by
 by_cases c:t.root=0
 . obtain rfl:=ky f c;exact zE w b rd a N g l XV i j r d m n
 . obtain⟨p,q,_⟩:=jm a f c;have h:=rY a v f c d.b8 true;exact Cy w b rd a N g l XV i j t.root t.height t.items p q r d m n _ h
theorem DI(a:iF rd)(v:mU rd){N:Nat}(g:jx rd N)(l:N<=65536)(i:i9 52 (.pointer (some ⟨b,0,none⟩)) rd XV w)(j:∀k,XV k->k<w.heap.size)(f:chk rd t=0){r:Rv}(d:Ri w r)(m:Rb r)(n:∀k,i5 r k->k<w.heap.size):
 Calls prog 29 #[.pointer (some ⟨b,0,none⟩),.agg #[.int .i64 t.root,.int .i64 t.height,.int .i64 t.items],r.val] w λe s=>ScP w s e ((jt (PLt rd t) r.rg).reverse):=by
 by_cases c:t.root=0
 . obtain rfl:=ky f c;exact Bj w b rd a N g l XV i j r d m n
 . obtain⟨p,q,_⟩:=jm a f c;have h:=rY a v f c d.b8 false;exact Db w b rd a N g l XV i j t.root t.height t.items p q r d m n _ h
end
end Go.Proofs.YteaogidofpfmmaaGreat
namespace Go.Proofs.YteaogidofpfmmaaGreat
open Go.Proofs.Tryz
open Go.RowKit
variable {B:List Nat}{rb y:Nat}{P:Pv}{D:Rd}{W W1 W2 w:World}
def yr(w w':World)(e:Ending)(x:Img):Prop:=
 ((iP x.r x.C (nmg x.N)).1≠0/\e=.returned (.pointer none)/\Below w.heap.size w w')\/
 ((iP x.r x.C (nmg x.N)).1=0/\∃(rb:Nat)(D:Rd),e=.returned (.pointer (some ⟨rb,0,none⟩))/\Rn w w' rb D/\PRi x.C (iP x.r x.C (nmg x.N)).2 D)
theorem Rn.pre14{a:World}(hb:Below w.heap.size w W)(h:Rn W a rb D):Rn w a rb D:=⟨h.box,h.cr,h.lr,h.pr,λp b=>(h.pn p b).pre hb.size,h.ps,ay hb.size h.nb,h.nC.mono hb.size,h.nl.mono hb.size,h.np.mono hb.size,bt hb h.b⟩
theorem yH(w:World)(x:Img)(d:Imi w x):Calls prog 39 #[.agg x.cs] w λe j=>yr w j e x:=by
 have b:=ix (al w (.cells x.cs 26));have F:=ag w (.cells x.cs 26);have E:=ix λ(W:World)(hb:Below w.heap.size w W)=>Ax W x.r x.aC x.C.length x.cC x.C (d.c.keep hb) rfl x.aN x.N.length x.cN x.N (d.n.keep hb) rfl d.nl
 have q:=ix λ(j:World)(e:Ending)(h:yr w j e x)=>h
 clear d;unfold yr at q ⊢;obtain⟨r,I,M,C,J,O,N,K,R,T⟩:=x;simp only[Img.cs] at *;obtain⟨X,Y,Z,x3⟩:=jJ F;go_enter func39,ntmps39;go_wp2_with fail
 refine(E.o _ b.o).mono ?_;rintro _ k (⟨i,f,a,rfl,hb⟩|⟨a,rb,D,rfl,c,G,l,m,n,p,_⟩)
 . have g:=ix a;have s:=ix (bt b.o hb);have v:=ix f;have S:(((i:Nat):Int)==(0:Int))=false:=by simp[f]
   have U:(((i:Nat):Int) != (0:Int))=true:=by simp[f]
   clear a hb f;generalize ((i:Nat):Int)=aa at *;go_wp2_with fail
   go_ret;exact .inl ⟨by rw[g.o];exact v.o,rfl,s.o⟩
 . have g:=ix a;have t:=ix (c.keep (Below.refl _ _));have L:k.cell? ⟨rb,6,none⟩=some (.bool D.hush):=by rw[ai _ _ _ _ _ _ c.box];rfl
   have V:k.frozen? ⟨rb,6,none⟩=false:=by simp[World.frozen?,c.box]
   have A:Hid (PRi C (iP r C (nmg N)).2 {D with hush:=true}):=⟨l,m,n,p⟩;have H:=ix b.o.size;clear a c G l m n p;go_wp2_with fail
   go_ret;exact .inr ⟨g.o,rb,_,rfl,(t.o.hushed).pre14 b.o,A.o⟩
structure Ld(w W:World)(b rb:Nat)(S:Vs)(pb mb:Nat)(pc col:Nat->Nat)(D:Rd)(colR:Nat->Nat)(rd:Int->Option Pg):Prop where
 bl:Below w.heap.size w W
 v:Vw W b S pb mb pc col
 r:Rq W rb D colR
 s:∀z,Sml (S.X.on z)
 rv:rdV S=rd
 rr:rdR D=rd
 ok:iF rd
 c:S.X.P.counts=D.C
 dj:∀k,col k≠0->colR k=0
 nv:∀k,col k≠0->w.heap.size<=k
 nr:∀k,colR k≠0->w.heap.size<=k
def rE(w w':World)(e:Ending)(x:Img):Prop:=
 (¬((iP x.r x.C (nmg x.N)).1=0/\x.C.length<=4096)/\e=.returned (.tuple #[.pointer none,.pointer none,.bool true])/\Below w.heap.size w w')\/
 ((iP x.r x.C (nmg x.N)).1=0/\x.C.length<=4096/\∃(b rb:Nat)(S:Vs)(pb mb:Nat)(pc col:Nat->Nat)(D:Rd)(colR:Nat->Nat),e=.returned (.tuple #[.pointer (some ⟨b,0,none⟩),.pointer (some ⟨rb,0,none⟩),.bool true])/\Ld w w' b rb S pb mb pc col D colR (iP x.r x.C (nmg x.N)).2)
theorem Ld.mk14{b:Nat}{r:Int}{C:List Int}{L:List (Int×Pg)}{f:Int->Option Pv}(G:C.length<=4096)(p:(iP r C L).1=0)(d:Rn w W1 rb D)(a:PRi C (iP r C L).2 D)(s:y8 W1 W2 b (ldS r C f))(x:∀k,(f k).map Pv.pg=(iP r C L).2 k)(v:∀k q,f k=some q->q.pg.check=0)(E:∀k,(f k).isSome=true->0<iO C k):
 ∃(i g:Nat)(j l:Nat->Nat)(F:Nat->Nat),Ld w W2 b rb (ldS r C f) i g j l D F (iP r C L).2:=by
 obtain⟨i,g,j,l,t,hb,hk⟩:=s;obtain⟨m,A⟩:=d.rq (by rw[a.2.1,a.1];simp) (by rw[a.2.2.1,a.1]) (by rw[a.1];omega)
 have c:PVi r C (iP r C L).2 (ldS r C f):=⟨f,rfl,x,v,E⟩;have e:=CU c a (yz p);refine⟨i,g,j,l,_,bt d.b hb,t,m.keep hb,AU c,(xe c a).trans e,e,Dg c,ve c a,λk h=>?_,λk h=>ay d.b.size (hk k h),A⟩
 by_cases n:lJ w W1 rb D k=0
 . exact n
 . have:=m.lt k n;have:=hk k h;omega
theorem rB(w:World)(x:Img)(a:Imi w x):Calls prog 7 #[.agg x.cs] w λe j=>rE w j e x:=by
 have c:=ix (al w (.cells x.cs 26));have K:=ix (ag w (.cells x.cs 26));have n:=ix λ(W:World)(hb:Below w.heap.size w W)=>yH W x (a.keep hb)
 have J:=ix λ(W:World)(hb:Below w.heap.size w W)=>AY W x.r x.aC x.C.length x.cC x.C (a.c.keep hb) rfl x.aN x.N.length x.cN x.N (a.n.keep hb) rfl a.nl
 have E:=ix λ(j:World)(e:Ending)(h:rE w j e x)=>h
 clear a;unfold rE at E ⊢;unfold yr at n;obtain⟨r,Z,cC,C,aN,cN,N,aT,cT,T⟩:=x;simp only[Img.cs] at *;go_enter func7,ntmps7;go_wp2_with fail
 refine(n.o _ c.o).mono ?_;rintro _ w2 (⟨v,rfl,hb⟩|⟨d,rb,D,rfl,i,p⟩)
 . have H:=ix v;have F:=ix (bt c.o hb);clear v hb;go_wp2_with fail
   go_ret3
   exact .inl ⟨λh=>H.o h.1,rfl,F.o⟩
 . have g:=ix d;have m:=ix i;have I:=ix p;have L:=ix (iJ K.o i.b);clear d i p;obtain⟨x0,x1,x2,x3⟩:=jJ L.o;have k:=ix (bt c.o m.o.b);by_cases M:4096<C.length
   . have V:(4096:Int)<(C.length:Int):=by omega
     go_wp2_with fail
     go_ret3
     exact .inl ⟨λh=>by omega,rfl,k.o⟩
   . have V:¬(4096:Int)<(C.length:Int):=by omega
     have l:Hid (C.length<=4096):=by show _<=_;omega
     clear M;go_wp2_with fail
     refine(J.o _ k.o).mono ?_;rintro _ w3 (⟨er,X,d,rfl,hb⟩|⟨_,b,f,rfl,q,t,s,A⟩)
     . exact absurd (d.symm.trans g.o) X
     . have G:=ix (Ld.mk14 l.o g.o (m.o.pre14 c.o) I.o q t s A);clear q t s A;go_wp2_with fail
       go_ret3
       obtain⟨R,O,S,U,Y,h⟩:=G.o;exact .inr ⟨g.o,l.o,b,rb,_,R,O,S,U,D,Y,rfl,h⟩
def qy(B:List Nat):Pg:=⟨1,0,B.map λx=>⟨[x],[x,x],0,2⟩,[],0⟩
def livI:Pg:=⟨2,1,[⟨[],[],1,0⟩,⟨[109],[],2,0⟩],[],0⟩
def yu:List (Int×Pg):=[(1,qy [97,99,101,103]),(2,qy [109,112,114,116,118]),(3,livI)]
def kK:Int->Option Pg:=(iP 2 [1,1,1] yu).2
set_option maxRecDepth 20000 in
theorem Hc:(iP 2 [1,1,1] yu).1=0:=by kernel_rfl
set_option maxRecDepth 20000 in
theorem Dn:chk kK ⟨3,2,9⟩=0:=by kernel_rfl
set_option maxRecDepth 20000 in
theorem Cj:chk kK ⟨3,2,8⟩=4:=by kernel_rfl
set_option maxRecDepth 20000 in
theorem FV:oG kK [112] 2 3=([112,112],true,0):=by kernel_rfl
def livR:Rg:=⟨[101],[112],false⟩
set_option maxRecDepth 20000 in
theorem Ee:(iE (prM Yl kK livR true) kK (iU livR) true 1 ⟨[],([],0)⟩ (ja 3 2)).c=([([101],[101,101]),([103],[103,103]),([109],[109,109])],0):=by kernel_rfl
theorem Pn.push14{w f W1 W2:World}{P:Pv}{x:Iv}{i c2:Nat}(h:Pn w f P)(v:P.aD=none)(j:Io f W1 x)(A:N64 x.child/\N64 x.size)(m:w.heap.size<=f.heap.size)
 (p:Jw W2 (some ⟨i,0,none⟩) c2 (P.items++[x])) (q:New W1 P.aI (some ⟨i,0,none⟩)) (n:But (Q.InA P.aI) W1 W2):
 Pn w W2 ⟨P.kind,P.level,some ⟨i,0,none⟩,c2,P.items++[x],P.aD,P.cD,P.data,P.next⟩:=by
 have d:=h.keep j.k.b;have hr:∀{a c l},Rw W1 a c l->Rw W2 a c l:=λhr=>hr.but n λy b ⟨z,k,e⟩=>d.it.ne hr k b e
 have g:=j.fam;refine⟨p,d.itn.trans q (ay m j.k.b.size),hr d.d,h.dn,λt ht=>?_,?_,h.d8,λr hr=>?_,h.nk,h.nl,h.nn⟩
 . rw[kD,mI] at ht;rcases bO.1 ht with ht|ht
   . exact⟨hr (d.fr t ht).1,(d.fr t ht).2⟩
   . obtain⟨o,F⟩:=g.own t ht;exact⟨hr o.r,o.n.mono m,F⟩
 . rw[kD,mI];have C:=dd.1 h.dist;refine dd.2 ⟨λt _ y z b _=>?_,dE.2 ⟨C.2,g.dist,λs E t ht y z b k e=>?_⟩⟩
   . simp only at b;rw[v] at b;cases b
   . have G:=(h.fr s E).1.lt b;have H:=(g.own t ht).1.fresh k;omega
 . rcases bO.1 hr with hr|hr
   . exact h.ns r hr
   . rw[aZ.1 hr];exact A
structure Grp(w W:World)(y:Nat)(P:Pv)(B:List Nat):Prop where
 but:But (λk=>k=y) w W
 box:W.heap[y]?=some (.cells P.cs 77 (0,0))
 pn:Pn w W P
 dn:P.aD=none
 pg:P.pg=qy B
 lt:y<w.heap.size
theorem Grp.len(h:Grp w W y P B):P.items.length=B.length:=by
 have e:=bf (λg:Pg=>g.items.length) h.pg
 simpa[Pv.pg,qy] using e
theorem Grp.push{x:Nat}{v:Iv}{g c n:Nat}(h:Grp w W y P B)(H:P.items.length=n)(a:Io W W1 v)(d:v.it=⟨[x],[x,x],0,2⟩)(t:Q.Gw 89 4 W2 (some ⟨g,0,none⟩) c (n+1) (Jc P.items++v.cs.toList))(C:New W1 P.aI (some ⟨g,0,none⟩))(b:But (Q.InA P.aI) W1 W2):
 Grp w (W2.setCell ⟨y,2,none⟩ (.slice (some ⟨g,0,none⟩) (n+1) c)) y ⟨P.kind,P.level,some ⟨g,0,none⟩,c,P.items++[v],P.aD,P.cD,P.data,P.next⟩ (B++[x]):=by
 subst H
 have A:Jw W2 (some ⟨g,0,none⟩) c (P.items++[v]):=by
  show Q.Gw 89 4 W2 (some ⟨g,0,none⟩) c (P.items++[v]).length (Jc (P.items++[v]));rw[xQ,af];exact t
 have E:N64 v.child/\N64 v.size:=by
  obtain⟨I,K,M,J,L,val,child,N⟩:=v;simp only[Iv.it,It.mk.injEq] at d;obtain⟨_,_,rfl,rfl⟩:=d;show N64 0/\N64 2;exact⟨⟨by decide,by decide⟩,⟨by decide,by decide⟩⟩
 have i:=iJ h.box a.k.b;have F:¬Q.InA P.aI y:=λ⟨z,f,e⟩=>(h.pn.it.keep a.k.b).nty i (by decide) f e
 have j:W2.heap[y]?=some (.cells P.cs 77 (0,0)):=b.same i F;have G:=h.pn.push14 h.dn a E h.but.size A C b;have bs:But (λk=>k=y) W2 (W2.setCell ⟨y,2,none⟩ (.slice (some ⟨g,0,none⟩) (P.items.length+1) c)):=(But.refl (λk=>k=y) W2).setCell (p:=⟨y,2,none⟩) (λ_=>rfl) _
 refine⟨((h.but.andBelow a.k.b).trans b (λk hk ⟨z,f,e⟩=>?_)).trans bs (λ_ _ e=>e),?_,G.but bs (λk e=>⟨77,P.cs,by rw[e];exact j,by decide,by decide⟩),h.dn,?_,h.lt⟩
 . exfalso;have:=zO h.pn.itn f;omega
 . rw[aE _ _ _ _ _ _ j];show some (Obj.cells _ _ _)=some (Obj.cells (Pv.cs _) _ _);unfold Pv.cs;simp only[af];rfl
 . have e:=h.pg;simp only[Pv.pg,qy,Pg.mk.injEq] at e ⊢;obtain⟨l,m,q,r,s⟩:=e;refine⟨l,m,?_,r,s⟩;rw[dy,dy,q,List.map_singleton,List.map_singleton,d]
theorem pK(w:World)(l:List Nat)(d:l.length<=1000)(cs:Array Value)(a:cs.toList=l.map λx:Nat=>Value.int .u8 ((x:Nat):Int)):Own w (w.alloc (.cells cs 5)) (some ⟨w.heap.size,0,none⟩) l.length l:=by
 have b:cs.size=l.length:=by
  have:=bf List.length a;simpa using this
 refine⟨Rw.mk (ag w (.cells cs 5)) (am _) (by unfold maxLen;omega) b ?_,λy c=>?_,al w _⟩
 . rw[a,<-bM (f:=λx:Nat=>Value.int .u8 ((x:Nat):Int)),du]
   rfl
 . cases c;exact .inr (am _)
end Go.Proofs.YteaogidofpfmmaaGreat
