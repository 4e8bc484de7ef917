import Derived.Test.YtcpkinhneehomaaGreatWqB38
set_option linter.unusedVariables false
set_option linter.unusedSimpArgs false
set_option maxHeartbeats 8000000
set_option maxRecDepth 8000
namespace Go.Proofs.YtcpkinhneehomaaGreat
open Go.RowKit
variable {x:Iv}{g:Nat}{col colR colR':Nat->Nat}{D:Rd}{t:TypeId}{S S':Vs}{W w w' w2:World}
structure Nw(w w':World)(col colR:Nat->Nat)(x:Iv):Prop where
 k:Rw w' x.aK x.cK x.key
 v:Rw w' x.aV x.cV x.val
 kc:∀y,x.aK=some y->col y.block=0/\colR y.block=0/\w.heap.size<=y.block
 vc:∀y,x.aV=some y->col y.block=0/\colR y.block=0/\w.heap.size<=y.block
 k8:B8 x.key
 v8:B8 x.val
 nc:N64 x.child
 ns:N64 x.size/\x.key.length<=24/\x.val.length<=32
theorem b8_nil:B8 []:=fun x hx=>absurd hx (List.not_mem_nil)
theorem Nw.zero(w w':World)(col colR:Nat->Nat):Nw w w' col colR Iv.zero:=⟨Rw.nil _,Rw.nil _,fun y hy=>(by cases hy),fun y hy=>(by cases hy),b8_nil,b8_nil,(by show N64 0;unfold N64;omega),⟨by show N64 0;unfold N64;omega,Nat.zero_le _,Nat.zero_le _⟩⟩
def StP(S:Vs)(key val:List Nat)(er:Int)(x:Iv)(S':Vs):Prop:=
 ((key.length=0\/24<key.length)/\er=7/\x.it=Iv.zero.it/\S'=S)\/
 ((1<=key.length/\key.length<=24)/\((3840<val.length/\er=8/\x.it=Iv.zero.it/\S'=S)\/(val.length<=32/\er=0/\x.it=⟨key,val,0,(val.length:Int)⟩/\S'=S)\/(32<val.length/\val.length<=3840/\((er=0/\x.it=⟨key,[],x.child,(val.length:Int)⟩/\Spo val (kp val) S (kp val) S' x.child)\/(er=12/\x.it=Iv.zero.it/\(S.X.P.pages 1).length<kp val/\S'=S)))))
def StD(D:Rd)(key val:List Nat)(er:Int)(x:Iv)(D':Rd):Prop:=
 ((key.length=0\/24<key.length)/\er=7/\x.it=Iv.zero.it/\D'=D)\/
 ((1<=key.length/\key.length<=24)/\((3840<val.length/\er=8/\x.it=Iv.zero.it/\D'=D)\/(val.length<=32/\er=0/\x.it=⟨key,val,0,(val.length:Int)⟩/\D'=D)\/(32<val.length/\val.length<=3840/\((er=0/\x.it=⟨key,[],x.child,(val.length:Int)⟩/\kp val<=(Q.pagesOf D.pg 1).length/\Sprd val (kp val) D (kp val) D' x.child)\/(er=12/\x.it=Iv.zero.it/\(Q.pagesOf D.pg 1).length<kp val/\D'=D)))))
theorem Rel.sto{D':Rd}{key val:List Nat}{er er':Int}{y:Iv}(h:Rel S.X D)(hp:StP S key val er x S')(hd:StD D key val er' y D'):er=er'/\x.it=y.it/\Rel S'.X D':=by
 have ep:S.X.P.pages 1=Q.pagesOf D.pg 1:=by rw[<-h.pg];rfl
 rcases hp with⟨p0,p1,p2,p3⟩|⟨p0,hp⟩
 · rcases hd with⟨d0,d1,d2,d3⟩|⟨d0,hd⟩
   · rw[p1,d1,p2,d2,p3,d3];exact⟨rfl,rfl,h⟩
   · omega
 · rcases hd with⟨d0,d1,d2,d3⟩|⟨d0,hd⟩
   · omega
   · rcases hp with⟨p4,p1,p2,p3⟩|⟨p4,p1,p2,p3⟩|⟨p4,p5,hp⟩
     · rcases hd with⟨d4,d1,d2,d3⟩|⟨d4,d1,d2,d3⟩|⟨d4,d5,hd⟩
       · rw[p1,d1,p2,d2,p3,d3];exact⟨rfl,rfl,h⟩
       · omega
       · omega
     · rcases hd with⟨d4,d1,d2,d3⟩|⟨d4,d1,d2,d3⟩|⟨d4,d5,hd⟩
       · omega
       · rw[p1,d1,p2,d2,p3,d3];exact⟨rfl,rfl,h⟩
       · omega
     · rcases hd with⟨d4,d1,d2,d3⟩|⟨d4,d1,d2,d3⟩|⟨d4,d5,hd⟩
       · omega
       · omega
       · rcases hp with⟨p1,p2,p3⟩|⟨p1,p2,p3,p6⟩
         · have hf:=p3.fr;rcases hd with⟨d1,d2,d3,d6⟩|⟨d1,d2,d3,d6⟩
           · obtain⟨e,r⟩:=h.spr (by unfold kp;omega) (kp val) S' x.child D' y.child p3 d6
             rw[p1,d1,p2,d2,e];exact⟨rfl,rfl,r⟩
           · rw[<-ep] at d3;omega
         · rcases hd with⟨d1,d2,d3,d6⟩|⟨d1,d2,d3,d6⟩
           · rw[<-ep] at d3;omega
           · rw[p1,d1,p2,d2,p6,d6];exact⟨rfl,rfl,h⟩
theorem alloc_tot{P:Q.Po}(h0:P.alloc.1.2=0):tot P.alloc.2<=tot P+1:=by
 obtain⟨i,i1,i2,i3,i4,i5⟩:=alloc_yes h0;have k:=sum_set (fun x:Q.Pg=>x.1.toNat) Q.Pg.zero (1,(P.pg.getD i Q.Pg.zero).2) P.pg i i1
 have e:tot P.alloc.2=((P.pg.set i (1,(P.pg.getD i Q.Pg.zero).2)).map fun x=>x.1.toNat).sum:=by unfold tot;rw[i4]
 have e2:tot P=(P.pg.map fun x=>x.1.toNat).sum:=rfl
 rw[e,e2];have e3:((1:Int),(P.pg.getD i Q.Pg.zero).2).1.toNat=1:=rfl;simp only[] at k e3 ⊢;omega
theorem spo_tot{l:List Nat}{k:Nat}{S:Vs}(hok:S.X.P.Ok)(hl:480*(k-1)<l.length)(hs:SmX S.X):∀(m:Nat)(S':Vs)(nx:Int),Spo l k S m S' nx->tot S'.X.P<=tot S.X.P+m/\SmX S'.X
 |0,S',nx,h=>by
  obtain⟨e1,e2⟩:=h.s;rw[e1];exact⟨Nat.le_refl _,hs⟩
 |m+1,S',nx,h=>by
  obtain⟨S1,n1,q,p1,p2,p3,p4,p5,p6⟩:=(spr_step hok hl (m+1) S' nx h.s h.la).2.2 m rfl;obtain⟨t1,t2⟩:=spo_tot hok hl hs m S1 n1 p1;have hi:480*(k-1-m)<l.length:=by omega
  obtain⟨q1,q2,q3⟩:=makeS_ok (q:=q) hi p1.nx.1 p1.nx.2 p4;have ha:=alloc_tot q2;rw[p6,q3];refine⟨?_,fun z=>?_⟩
  · show tot S1.X.P.alloc.2<=_;omega
  · have hc:=mkp_check (l:=l) (i:=k-1-m) (nx:=n1) hi p1.nx.1 p1.nx.2;show Sml (((fput S1.X.f S1.X.P.alloc.1.1 q) z).getD Pv.zero);unfold fput;split
    · split
      · exact sml_zero
      · exact(sml_ps (p:=q) (.inl (by rw[p3];exact hc))).1
    · exact t2 z
theorem Bnd.sto{key val:List Nat}{er:Int}{M:Nat}(hb:Bnd S M)(h:Rel S.X D)(hf:Fine S.X.f)(hs:SmX S.X)(hp:StP S key val er x S'):Bnd S' (M+16)/\Fine S'.X.f/\SmX S'.X:=by
 have same:S'=S->Bnd S' (M+16)/\Fine S'.X.f/\SmX S'.X:=fun e=>by rw[e];exact⟨hb.le (by omega),hf,hs⟩
 rcases hp with⟨p0,p1,p2,p3⟩|⟨p0,⟨p4,p1,p2,p3⟩|⟨p4,p1,p2,p3⟩|⟨p4,p5,⟨p1,p2,p3⟩|⟨p1,p2,p3,p6⟩⟩⟩
 · exact same p3
 · exact same p3
 · exact same p3
 · obtain⟨t1,t2⟩:=spo_tot h.ok (by unfold kp;omega) hs _ _ _ p3
   have k8:kp val<=8:=by unfold kp;omega
   have h1:=hb.m;have h2:=hb.c;have h3:=hb.a;have e1:=p3.lm;have e2:=p3.lc;have e3:=p3.la;have e4:=p3.fl;exact⟨⟨by omega,by omega,by omega⟩,p3.v.fine hf,t2⟩
 · exact same p6
def PSt(v w:World)(wb b rb pb mb:Nat)(S:Vs)(D:Rd)(col colR:Nat->Nat)(K:Bks)(key val:List Nat)(M:Nat)(e:Ending)(w':World):Prop:=∃er x S' pc' col',e=.returned (.tuple #[x.vl,.int .i64 er])/\St v w' wb b rb pb mb S' D pc' col' colR K/\StP S key val er x S'/\Bnd S' (M+16)/\Nw w w' col' colR x/\(∀y z,x.aK=some y->x.aV=some z->y.block≠z.block)/\Vf w col w' col'
section
variable (v w:World) (wb b rb pb mb:Nat) (S:Vs) (D:Rd) (pc col colR:Nat->Nat) (K:Bks)
theorem St.z2{v w:World}{wb b rb pb mb:Nat}{S:Vs}{D:Rd}{pc col colR:Nat->Nat}{K:Bks}(h:St v w wb b rb pb mb S D pc col colR K){k:Nat}(hk:w.heap.size<=k):col k=0/\colR k=0:=⟨h.V.z hk,by
 by_cases e:colR k=0
 · exact e
 · have:=h.R.lt k e;omega⟩
theorem pStore(h:St v w wb b rb pb mb S D pc col colR K)(hr:Rel S.X D)(M:Nat)(hB:Bnd S M)(hM:M<=1000000000000)(ak av:Option Addr)(ck cv:Nat)(key val:List Nat)(hK:Bs w ak key)(hkc:∀x,ak=some x->col x.block=0)(hV:Bs w av val)(hvc:∀x,av=some x->col x.block=0)(hcv:val.length<=cv):
 Calls Tryz.prog 78 #[.pointer (some ⟨b,0,none⟩),.slice ak key.length ck,.slice av val.length cv] w fun e w'=>PSt v w wb b rb pb mb S D col colR K key val M e w':=by
 have fin:∀{er:Int}{x:Iv}{S':Vs}{pc' col':Nat->Nat}{e:Ending}{w':World},e=.returned (.tuple #[x.vl,.int .i64 er])->Vw w' b S' pb mb pc' col'->Vf w col w' col'->StP S key val er x S'->Nw w w' col' colR x->(∀y z,x.aK=some y->x.aV=some z->y.block≠z.block)->PSt v w wb b rb pb mb S D col colR K key val M e w':=fun he hv hf hp hn ha=>by
  obtain⟨b1,b2,b3⟩:=hB.sto hr h.fi h.sm hp;exact⟨_,_,_,_,_,he,h.prog hv hf b2 b3,hp,b1,hn,ha,hf⟩
 have za:∀y z,Iv.zero.aK=some y->Iv.zero.aV=some z->y.block≠z.block:=fun y z hy=>(by cases hy)
 by_cases h1:key.length=0\/24<key.length
 · refine(Store_key w _ ak av key.length ck val.length cv h1).mono ?_;rintro _ w' ⟨rfl,hb⟩;exact fin rfl (h.V.keep hb) (Vf.keep hb) (.inl ⟨h1,rfl,rfl,rfl⟩) (Nw.zero _ _ _ _) za
 · have k1:1<=key.length:=by omega
   have k2:key.length<=24:=by omega
   by_cases h2:3840<val.length
   · refine(Store_val w _ ak av key.length ck val.length cv k1 k2 h2).mono ?_;rintro _ w' ⟨rfl,hb⟩;exact fin rfl (h.V.keep hb) (Vf.keep hb) (.inr ⟨⟨k1,k2⟩,.inl ⟨h2,rfl,rfl,rfl⟩⟩) (Nw.zero _ _ _ _) za
   · by_cases h3:val.length<=32
     · refine(Store_short2 w _ ak av ck cv key val hK hV k1 k2 h3).mono ?_;rintro _ w' ⟨x,rfl,hx,oK,oV,hb,ha⟩;have e1:x.key=key:=congrArg It.key hx;have e2:x.val=val:=congrArg It.val hx;have e3:x.size=(val.length:Int):=congrArg It.size hx;have e4:x.child=0:=congrArg It.child hx
       have nn:∀{a:Option Addr},New w none a->∀y,a=some y->col y.block=0/\colR y.block=0/\w.heap.size<=y.block:=fun hn y hy=>by
        have q:=vnew_at hn hy;exact⟨(h.z2 q).1,(h.z2 q).2,q⟩
       exact fin rfl (h.V.keep hb) (Vf.keep hb) (.inr ⟨⟨k1,k2⟩,.inr (.inl ⟨h3,rfl,hx,rfl⟩)⟩) ⟨by rw[e1];exact oK.r,by rw[e2];exact oV.r,nn oK.n,nn oV.n,by rw[e1];exact hK.1,by rw[e2];exact hV.1,by rw[e4];unfold N64;omega,⟨by rw[e3];unfold N64;omega,by rw[e1];exact k2,by rw[e2];exact h3⟩⟩ ha
     · obtain⟨g,off,rfl,hc⟩:=hV.at (j:=0) (by omega)
       have q1:=hB.m;have q2:=hB.c;have q3:=hB.a;refine(Store_long2 w b S pb mb pc col h.V ak ck key hK hkc k1 k2 g off cv val hV (hvc _ rfl) (block_lt_of_cell hc) hcv (by omega) (by omega) (kp val) rfl h.fi (by omega) (by omega) (by omega) (by omega)).mono ?_
       rintro _ w' (⟨S',x,rfl,e1,e2,e3,hS,pc',col',hVw,hF,hR,hn2,a1,a2⟩|⟨m,S1,n1,er,rfl,hne,hm,hS,hrr,pc',col',hVw,hF⟩)
       · have hn:=hS.nx;refine fin rfl hVw hF (.inr ⟨⟨k1,k2⟩,.inr (.inr ⟨by omega,by omega,.inl ⟨rfl,?_,hS⟩⟩)⟩) ⟨by rw[e1];exact hR,by rw[a1,a2,e2];exact Rw.nil _,fun y hy=>⟨(hn2 y hy).1,(h.z2 (hn2 y hy).2).2,(hn2 y hy).2⟩,fun y hy=>(by rw[a1] at hy;cases hy),by rw[e1];exact hK.1,by rw[e2];exact b8_nil,by unfold N64;omega,⟨by rw[e3];unfold N64;omega,by rw[e1];exact k2,by rw[e2];exact Nat.zero_le _⟩⟩ (fun y z _ hz=>by rw[a1] at hz;cases hz)
         show(⟨x.key,x.val,x.child,x.size⟩:It)=_;rw[e1,e2,e3]
       · obtain⟨q1,q2⟩:=spo_err hS (by unfold kp;omega) hrr hne
         subst q1;exact fin rfl hVw hF (.inr ⟨⟨k1,k2⟩,.inr (.inr ⟨by omega,by omega,.inr ⟨rfl,rfl,by omega,rfl⟩⟩)⟩) (Nw.zero _ _ _ _) za
theorem makeD_hu(D:Rd)(p:Pg)(q:Pv)(h:D.aA=none/\D.nA=0/\D.cA=0/\D.fl=0/\D.hush=true):(D.makeD p q).aA=none/\(D.makeD p q).nA=0/\(D.makeD p q).cA=0/\(D.makeD p q).fl=0/\(D.makeD p q).hush=true:=by unfold Rd.makeD;split<;>exact h
theorem sprd_hu{l:List Nat}{k:Nat}{D:Rd}(h:D.aA=none/\D.nA=0/\D.cA=0/\D.fl=0/\D.hush=true):∀(m:Nat)(D':Rd)(nx:Int),Sprd l k D m D' nx->D'.aA=none/\D'.nA=0/\D'.cA=0/\D'.fl=0/\D'.hush=true
 |0,D',nx,⟨e,_⟩=>by rw[e];exact h
 |m+1,D',nx,⟨D1,n1,q,h1,_,_,e⟩=>by rw[e];exact makeD_hu _ _ _ (sprd_hu h m D1 n1 h1)
def DSt(v w:World)(wb b rb pb mb:Nat)(S:Vs)(D:Rd)(pc col colR:Nat->Nat)(K:Bks)(key val:List Nat)(e:Ending)(w':World):Prop:=∃er x D' colR',e=.returned (.tuple #[x.vl,.int .i64 er])/\St v w' wb b rb pb mb S D' pc col colR' K/\StD D key val er x D'/\Nw w w' col colR' x/\Vf w colR w' colR'
theorem dStore(h:St v w wb b rb pb mb S D pc col colR K)(ak av:Option Addr)(ck cv:Nat)(key val:List Nat)(hK:Bs w ak key)(hV:Bs w av val)(hvc:∀x,av=some x->val≠[]->colR x.block=0)(hcv:val.length<=cv):
 Calls Tryz.prog 135 #[.pointer (some ⟨rb,0,none⟩),.slice ak key.length ck,.slice av val.length cv] w fun e w'=>DSt v w wb b rb pb mb S D pc col colR K key val e w':=by
 have fin:∀{er:Int}{x:Iv}{D':Rd}{col':Nat->Nat}{e:Ending}{w':World},e=.returned (.tuple #[x.vl,.int .i64 er])->Rq w' rb D' col'->Vf w colR w' col'->(D'.aA=none/\D'.nA=0/\D'.cA=0/\D'.fl=0/\D'.hush=true)->StD D key val er x D'->Nw w w' col col' x->DSt v w wb b rb pb mb S D pc col colR K key val e w':=fun he hv hf hu hp hn=>⟨_,_,_,_,he,h.doc hv hf hu,hp,hn,hf⟩
 by_cases h1:key.length=0\/24<key.length
 · refine(rbStore_key w _ ak av key.length ck val.length cv h1).mono ?_;rintro _ w' ⟨rfl,hb⟩;exact fin rfl (h.R.keep hb) (Vf.keep hb) h.hu (.inl ⟨h1,rfl,rfl,rfl⟩) (Nw.zero _ _ _ _)
 · have k1:1<=key.length:=by omega
   have k2:key.length<=24:=by omega
   by_cases h2:3840<val.length
   · refine(rbStore_val w _ ak av key.length ck val.length cv k1 k2 h2).mono ?_;rintro _ w' ⟨rfl,hb⟩;exact fin rfl (h.R.keep hb) (Vf.keep hb) h.hu (.inr ⟨⟨k1,k2⟩,.inl ⟨h2,rfl,rfl,rfl⟩⟩) (Nw.zero _ _ _ _)
   · by_cases h3:val.length<=32
     · refine(rbStore_short w _ ak av ck cv key val hK hV k1 k2 h3).mono ?_;rintro _ w' ⟨x,rfl,hx,oK,oV,hb⟩;have e1:x.key=key:=congrArg It.key hx;have e2:x.val=val:=congrArg It.val hx;have e3:x.size=(val.length:Int):=congrArg It.size hx;have e4:x.child=0:=congrArg It.child hx
       have nn:∀{a:Option Addr},New w none a->∀y,a=some y->col y.block=0/\colR y.block=0/\w.heap.size<=y.block:=fun hn y hy=>by
        have q:=vnew_at hn hy;exact⟨(h.z2 q).1,(h.z2 q).2,q⟩
       exact fin rfl (h.R.keep hb) (Vf.keep hb) h.hu (.inr ⟨⟨k1,k2⟩,.inr (.inl ⟨h3,rfl,hx,rfl⟩)⟩) ⟨by rw[e1];exact oK.r,by rw[e2];exact oV.r,nn oK.n,nn oV.n,by rw[e1];exact hK.1,by rw[e2];exact hV.1,by rw[e4];unfold N64;omega,⟨by rw[e3];unfold N64;omega,by rw[e1];exact k2,by rw[e2];exact h3⟩⟩
     · by_cases h4:kp val<=(Q.pagesOf D.pg 1).length
       · obtain⟨g,off,rfl,hc⟩:=hV.at (j:=0) (by omega)
         refine(rbStore_room w rb D colR h.R h.hu.2.2.2.2 ak g off ck cv key val hK hV (hvc _ rfl (by intro e;rw[e] at h3;simp at h3)) hcv k1 k2 (by omega) (by omega) (kp val) rfl h4).mono ?_
         rintro _ w' ⟨x,D',col',rfl,e1,e2,e3,nc,hS,hRq,hF,hR,a1,a2,hn2⟩;refine fin rfl hRq hF (sprd_hu h.hu _ _ _ hS) (.inr ⟨⟨k1,k2⟩,.inr (.inr ⟨by omega,by omega,.inl ⟨rfl,?_,h4,hS⟩⟩)⟩) ⟨by rw[e1];exact hR,by rw[a1,a2,e2];exact Rw.nil _,fun y hy=>⟨(h.z2 (hn2 y hy).2).1,(hn2 y hy).1,(hn2 y hy).2⟩,fun y hy=>(by rw[a1] at hy;cases hy),by rw[e1];exact hK.1,by rw[e2];exact b8_nil,nc,⟨by rw[e3];unfold N64;omega,by rw[e1];exact k2,by rw[e2];exact Nat.zero_le _⟩⟩
         show(⟨x.key,x.val,x.child,x.size⟩:It)=_;rw[e1,e2,e3]
       · refine(rbStore_space w rb D colR h.R ak av ck cv key val hK hV k1 k2 (by omega) (by omega) (by unfold bpn;rw[if_neg (by omega)];unfold kp at h4;omega)).mono ?_
         rintro _ w' ⟨rfl,hb⟩;exact fin rfl (h.R.keep hb) (Vf.keep hb) h.hu (.inr ⟨⟨k1,k2⟩,.inr (.inr ⟨by omega,by omega,.inr ⟨rfl,rfl,by omega,rfl⟩⟩)⟩) (Nw.zero _ _ _ _)
end
structure Ov where
 kind:Int
 n:Int
 aK:Option Addr
 cK:Nat
 key:List Nat
 aV:Option Addr
 cV:Nat
 val:List Nat
 i:Iv
def Ov.cs(o:Ov):Array Value:=#[.int .i64 o.kind,.int .i64 o.n,.slice o.aK o.key.length o.cK,.slice o.aV o.val.length o.cV,.slice o.i.aK o.i.key.length o.i.cK,.slice o.i.aV o.i.val.length o.i.cV,.int .i64 o.i.child,.int .i64 o.i.size]
def Ov.vl(o:Ov):Value:=.agg o.cs
structure Fo(w:World)(col colR:Nat->Nat)(o:Ov):Prop where
 bk:Bs w o.aK o.key
 ck:o.key.length<=o.cK
 nk:∀y,o.aK=some y->o.key≠[]->col y.block=0/\colR y.block=0
 bv:Bs w o.aV o.val
 cv:o.val.length<=o.cV
 nv:∀y,o.aV=some y->o.val≠[]->col y.block=0/\colR y.block=0
 i:Fi w col colR o.i
 nn:N64 o.n
 lk:o.key.length+64<=140737488355328
 lv:o.val.length+64<=140737488355328
 ik:o.i.key.length+64<=140737488355328
 iv:o.i.val.length+64<=140737488355328
theorem Fo.keep{o:Ov}(h:Fo w col colR o)(hb:Below w.heap.size w w'):Fo w' col colR o:=⟨h.bk.keep hb,h.ck,h.nk,h.bv.keep hb,h.cv,h.nv,h.i.keep hb,h.nn,h.lk,h.lv,h.ik,h.iv⟩
theorem eight13{b:Nat}{v0 v1 v2 v3 v4 v5 v6 v7:Value}(h:W.heap[b]?=some (.cells #[v0,v1,v2,v3,v4,v5,v6,v7] t (0,0))):W.cell? ⟨b,0,none⟩=some v0/\W.cell? ⟨b,1,none⟩=some v1/\W.cell? ⟨b,2,none⟩=some v2/\W.cell? ⟨b,3,none⟩=some v3/\W.cell? ⟨b,4,none⟩=some v4/\W.cell? ⟨b,5,none⟩=some v5/\W.cell? ⟨b,6,none⟩=some v6/\W.cell? ⟨b,7,none⟩=some v7:=by
 refine⟨?_,?_,?_,?_,?_,?_,?_,?_⟩<;>(rw[cell_of_row _ _ _ _ _ _ h];rfl)
def itm(L:List Iv)(n:Int):Iv:=if 0<=n/\n<(L.length:Int) then L.getD n.toNat Iv.zero else Iv.zero
theorem litem_any(w:World)(a:Option Addr)(c:Nat)(L:List Iv)(hj:Jw w a c L)(n:Int):
 Calls Tryz.prog 84 #[.slice a L.length c,.int .i64 n] w fun e w'=>e=.returned (itm L n).vl/\Below w.heap.size w w':=by
 have A0:=hide (al w (.cells #[.slice none 0 0,.slice none 0 0,.int .i64 0,.int .i64 0] 51));have X0:=hide (heap_alloc_new w (.cells #[.slice none 0 0,.slice none 0 0,.int .i64 0,.int .i64 0] 51));have J0:=hide (hj.keep A0.out);clear hj;by_cases h0:n<0
 · have d0:decide (n<0)=true:=decide_eq_true h0;have E:Hid (itm L n=Iv.zero):=if_neg (by omega)
   rw[E.out];unfold Iv.vl;simp only[Iv.cs,Iv.zero,List.length_nil];generalize L.length=m at *;clear J0 E;go_enter Tryz.func84,Tryz.ntmps84;go_wp2_with (first|(refine wpList_store_row rfl 51 _ _ rfl w.heap.size _ rfl rfl 51 _ X0.out sizeItem rfl (by simp[Value.oneCell']) ?_)|fail)
   refine bodyPost_ret (v:=.agg _) (results_cell_row Tryz.results84 _ _ w.heap.size 51 _ (0,0) _ rfl (setRow_heap _ _ _ _ _ _ X0.out) Tryz.underlying51 rfl sizeItem) rfl ?_;exact⟨rfl,below_row _ A0.out (Nat.le_refl _)⟩
 · have d0:decide (n<0)=false:=decide_eq_false h0;by_cases h1:n<(L.length:Int)
   · obtain⟨j,hj⟩:∃j:Nat,n=(j:Int):=⟨n.toNat,by omega⟩
     have hjl:j<L.length:=by omega
     have E:Hid (itm L n=L.getD j Iv.zero):=by
      show _=_;unfold itm;rw[if_pos ⟨by omega,h1⟩,hj]
      rfl
     rw[E.out]
     obtain⟨gI,rfl⟩:∃g,a=some ⟨g,0,none⟩:=by
      rcases J0.out.cases with⟨_,_,h0⟩|⟨g,cur,h0,_⟩
      · rw[h0] at hjl;exact absurd hjl (Nat.not_lt_zero _)
      · exact⟨g,h0⟩
     obtain⟨⟨y0,y1,y2,y3⟩,_⟩:=J0.out.item4 hjl;obtain⟨x,hx⟩:∃x,L.getD j Iv.zero=x:=⟨_,rfl⟩;rw[hx] at y0 y1 y2 y3 ⊢;subst hj;have d1:¬(L.length:Int)<=(j:Int):=by omega
     have d2:¬L.length<=j:=by omega
     clear hx E J0;generalize L.length=m at *;unfold Iv.vl;simp only[Iv.cs];go_enter Tryz.func84,Tryz.ntmps84;go_wp2_with (first|(refine wpList_store_row rfl 51 _ _ rfl w.heap.size _ rfl rfl 51 _ X0.out sizeItem rfl (by simp[Value.oneCell']) ?_)|fail)
     refine bodyPost_ret (v:=.agg _) (results_cell_row Tryz.results84 _ _ w.heap.size 51 _ (0,0) _ rfl (setRow_heap _ _ _ _ _ _ X0.out) Tryz.underlying51 rfl sizeItem) rfl ?_;exact⟨rfl,below_row _ A0.out (Nat.le_refl _)⟩
   · have E:Hid (itm L n=Iv.zero):=if_neg (by omega)
     rw[E.out];unfold Iv.vl;simp only[Iv.cs,Iv.zero,List.length_nil];generalize L.length=m at *;have d1:decide ((m:Int)<=n)=true:=decide_eq_true (by omega)
     clear J0 E;go_enter Tryz.func84,Tryz.ntmps84;go_wp2_with (first|(refine wpList_store_row rfl 51 _ _ rfl w.heap.size _ rfl rfl 51 _ X0.out sizeItem rfl (by simp[Value.oneCell']) ?_)|fail)
     refine bodyPost_ret (v:=.agg _) (results_cell_row Tryz.results84 _ _ w.heap.size 51 _ (0,0) _ rfl (setRow_heap _ _ _ _ _ _ X0.out) Tryz.underlying51 rfl sizeItem) rfl ?_;exact⟨rfl,below_row _ A0.out (Nat.le_refl _)⟩
section
variable {v w0 w w1 w2:World} {wb b rb pb mb:Nat} {S:Vs} {D:Rd} {pc col colR:Nat->Nat} {K:Bks}
theorem ap_rows{A R Z:List Br}(h:(A++R).Pairwise brApart)(hz:Z.Pairwise brApart)(hc:∀s∈A++R,∀t∈Z,brApart s t):(A++(R++Z)).Pairwise brApart:=by
 rw[<-List.append_assoc];exact List.pairwise_append.2 ⟨h,hz,hc⟩
theorem Rws.add{L:List Br}{x:Iv}{A:List Br}(h:Rws w col colR (A++L))(hx:Nw w0 w col colR x):Rws w col colR (A++(L++x.rows)):=fun t ht=>by
 rw[<-List.append_assoc] at ht;rcases List.mem_append.1 ht with ht|ht
 · exact h t ht
 · simp only[Iv.rows,List.mem_cons,List.not_mem_nil,or_false] at ht;rcases ht with rfl|rfl
   · exact⟨hx.k,hx.k8,fun y hy=>⟨(hx.kc y hy).1,(hx.kc y hy).2.1⟩⟩
   · exact⟨hx.v,hx.v8,fun y hy=>⟨(hx.vc y hy).1,(hx.vc y hy).2.1⟩⟩
theorem St.grow(h0:v.heap.size<=w0.heap.size)(ho:∀t∈K.T++rowsOf K.B,∀y,t.a=some y->y.block<w0.heap.size)(h:St v w wb b rb pb mb S D pc col colR K){x y:Iv}(nx:Nw w0 w col colR x)(ny:Nw w0 w col colR y)(he:x.it=y.it)(ha:∀p q,x.aK=some p->x.aV=some q->p.block≠q.block){g1 c1 g2 c2:Nat}
 (J1:Jw w1 (some ⟨g1,0,none⟩) c1 (K.B++[x])) (N1:New w K.aB (some ⟨g1,0,none⟩)) (B1:But (fun k=>Q.InA K.aB k\/k=wb) w w1)
 (J2:Jw w2 (some ⟨g2,0,none⟩) c2 (K.N++[y])) (N2:New w1 K.aN (some ⟨g2,0,none⟩)) (B2:But (fun k=>Q.InA K.aN k\/k=wb) w1 w2)
 (hbox:w2.heap[wb]?=some (.cells #[.pointer (some ⟨b,0,none⟩),.pointer (some ⟨rb,0,none⟩),.slice (some ⟨g1,0,none⟩) (K.B.length+1) c1,.slice (some ⟨g2,0,none⟩) (K.N.length+1) c2,.slice K.aT (K.T.map bv).length K.cT,.slice K.aX (K.X.map bv).length K.cX] 78 (0,0))) (b1:∃cs,w1.heap[wb]?=some (.cells cs 78 (0,0))):
 St v w2 wb b rb pb mb S D pc col colR {K with aB:=some ⟨g1,0,none⟩,cB:=c1,B:=K.B++[x],aN:=some ⟨g2,0,none⟩,cN:=c2,N:=K.N++[y]}:=by
 have hb:But (fun k=>Q.InA K.aB k\/Q.InA K.aN k\/k=wb) w w2:=(B1.mono (T:=fun k=>Q.InA K.aB k\/Q.InA K.aN k\/k=wb) (fun k _ e=>e.elim .inl (fun e=>.inr (.inr e)))).trans B2 (fun k _ e=>e.elim (fun e=>.inr (.inl e)) (fun e=>.inr (.inr e)))
 have tz:∀{k:Nat},(Q.InA K.aB k\/Q.InA K.aN k\/k=wb)->col k=0/\colR k=0/\v.heap.size<=k:=fun{k} e=>by
  rcases e with⟨z,hz,rfl⟩|⟨z,hz,rfl⟩|rfl
  · exact h.oB z hz
  · exact h.oN z hz
  · exact h.wc
 have tr:∀{a:Option Addr}{c:Nat}{l:List Nat},Rw w a c l->∀y,a=some y->¬(Q.InA K.aB y.block\/Q.InA K.aN y.block\/y.block=wb):=fun hr y hy e=>by
  rcases e with⟨z,hz,e⟩|⟨z,hz,e⟩|e
  · rcases h.jb.cases with⟨h0,_⟩|⟨g,cur,h0,hg,_⟩
    · rw[h0] at hz;cases hz
    · rw[h0] at hz;cases hz;exact hr.nty13 hg (by decide) hy e.symm
  · rcases h.jn.cases with⟨h0,_⟩|⟨g,cur,h0,hg,_⟩
    · rw[h0] at hz;cases hz
    · rw[h0] at hz;cases hz;exact hr.nty13 hg (by decide) hy e.symm
  · exact hr.nty13 (t:=78) h.box (by decide) hy e
 have ta:∀{a:Option Addr}{c:Nat}{vs:List Value},Ar w a c vs->∀y,a=some y->¬(Q.InA K.aB y.block\/Q.InA K.aN y.block\/y.block=wb):=fun hr y hy e=>by
  obtain⟨cs,hc⟩:=ar_bxs hr hy;rcases e with⟨z,hz,e⟩|⟨z,hz,e⟩|e
  · exact h.jb.nty13 hc (by decide) hz e
  · exact h.jn.nty13 hc (by decide) hz e
  · exact blk_ty hc h.box (by decide) e
 have g1o:col g1=0/\colR g1=0/\v.heap.size<=g1:=by
  rcases N1 ⟨g1,0,none⟩ rfl with⟨z,hz,e⟩|e
  · have e:z.block=g1:=e;rw[<-e];exact h.oB z hz
  · have e:w.heap.size<=g1:=e;exact⟨(h.z2 e).1,(h.z2 e).2,Nat.le_trans h.bl.size e⟩
 have g2o:col g2=0/\colR g2=0/\v.heap.size<=g2:=by
  rcases N2 ⟨g2,0,none⟩ rfl with⟨z,hz,e⟩|e
  · have e:z.block=g2:=e;rw[<-e];exact h.oN z hz
  · have e:w1.heap.size<=g2:=e;have e:w.heap.size<=g2:=Nat.le_trans B1.size e;exact⟨(h.z2 e).1,(h.z2 e).2,Nat.le_trans h.bl.size e⟩
 have ln:∀z,K.aN=some z->z.block<w.heap.size:=fun z hz=>h.jn.lt hz
 have g1n:∀z,K.aN=some z->g1≠z.block:=fun z hz e=>by
  rcases N1 ⟨g1,0,none⟩ rfl with⟨q,hq,e2⟩|e2
  · have e2:q.block=g1:=e2;exact h.nBN q z hq hz (e2.trans e)
  · have e2:w.heap.size<=g1:=e2;have:=ln z hz;omega
 obtain⟨cs1,b1⟩:=b1
 have J1':Jw w2 (some ⟨g1,0,none⟩) c1 (K.B++[x]):=J1.but B2 (fun z hz e=>by
  cases hz;rcases e with⟨q,hq,e⟩|e
  · exact g1n q hq e.symm
  · exact J1.nty13 (t:=78) b1 (by decide) rfl e)
 have er:∀(L:List Iv)(z:Iv),rowsOf (L++[z])=rowsOf L++z.rows:=fun L z=>by rw[rowsOf_append,rowsOf_one]
 refine⟨?_,h.V.but13 hb (fun k hk e=>hk (tz e).1),h.R.but hb (fun k hk e=>hk (tz e).2.1),h.dj,h.vn,h.rn,h.wc,J1',J2,h.tt.but hb (ta h.tt),h.tx.but hb (ta h.tx),fun z hz=>by cases hz;exact g1o,fun z hz=>by cases hz;exact g2o,h.oT,h.oX,fun p q hp hq e=>?_,h.nTX,?_,?_,?_,?_,((But.ofBelow (S:=fun _=>False) h.bl).trans hb (fun k hk e=>by have:=(tz e).2.2;omega)).below (fun _ _ e=>e),h.e1,?_,?_,h.hu,h.fi,h.sm⟩
 · rw[hbox];simp only[List.length_append,List.length_singleton]
 · cases hp;cases hq;have e:g1=g2:=e;rcases N2 ⟨g2,0,none⟩ rfl with⟨z,hz,e2⟩|e2
   · exact g1n z hz (e.trans (Eq.symm e2))
   · have e2:w1.heap.size<=g2:=e2;have:=J1.lt (x:=⟨g1,0,none⟩) rfl;have:g1<w1.heap.size:=this;omega
 · show Rws w2 col colR (K.T++rowsOf (K.B++[x]));rw[er];exact(h.r1.add nx).but hb (fun t ht y hy=>tr ((h.r1.add nx) t ht).1 y hy) (fun _ _=>rfl) (fun _ _=>rfl)
 · show Rws w2 col colR (K.X++rowsOf (K.N++[y]));rw[er];exact(h.r2.add ny).but hb (fun t ht y hy=>tr ((h.r2.add ny) t ht).1 y hy) (fun _ _=>rfl) (fun _ _=>rfl)
 · show(K.T++rowsOf (K.B++[x])).Pairwise brApart;rw[er];refine ap_rows h.ap ?_ (fun s hs t ht p q hp hq e=>?_)
   · refine List.pairwise_cons.2 ⟨fun t ht p q hp hq=>?_,List.pairwise_singleton _ _⟩
     rw[List.mem_singleton.1 ht] at hq;exact ha p q hp hq
   · have q1:=ho s hs p hp;simp only[Iv.rows,List.mem_cons,List.not_mem_nil,or_false] at ht;rcases ht with rfl|rfl
     · have:=(nx.kc q hq).2.2;omega
     · have:=(nx.vc q hq).2.2;omega
 · show ∀t∈K.T++rowsOf (K.B++[x]),∀y,t.a=some y->v.heap.size<=y.block;rw[er];intro t ht y hy;rw[<-List.append_assoc] at ht;rcases List.mem_append.1 ht with ht|ht
   · exact h.nt t ht y hy
   · simp only[Iv.rows,List.mem_cons,List.not_mem_nil,or_false] at ht;rcases ht with rfl|rfl
     · have:=(nx.kc y hy).2.2;omega
     · have:=(nx.vc y hy).2.2;omega
 · show(K.B++[x]).map Iv.it=(K.N++[y]).map Iv.it;rw[List.map_append,List.map_append,h.e2];show _++[x.it]=_++[y.it];rw[he]
 · show ∀r∈(K.B++[x])++(K.N++[y]),N64 r.child/\N64 r.size/\r.key.length<=24/\r.val.length<=32;intro r hr;rcases List.mem_append.1 hr with hr|hr
   · rcases List.mem_append.1 hr with hr|hr
     · exact h.ns r (List.mem_append_left _ hr)
     · rw[List.mem_singleton.1 hr];exact⟨nx.nc,nx.ns⟩
   · rcases List.mem_append.1 hr with hr|hr
     · exact h.ns r (List.mem_append_right _ hr)
     · rw[List.mem_singleton.1 hr];exact⟨ny.nc,ny.ns⟩
end
theorem spare_g(w:World)(aa:Option Addr)(capa:Nat)(l:List Nat)(hB:Bs w aa l)(hlen:l.length+64<=140737488355328):
 Calls Tryz.prog 62 #[.slice aa l.length capa] w fun e w'=>∃g,e=.returned (.slice (some ⟨g,0,none⟩) l.length (l.length+64))/\w.heap.size<=g/\w'.rowIs g 5 (l.length+64) (spF l)/\Below w.heap.size w w':=
 (Spare_any w aa l.length capa l hB rfl (by omega)).mono fun _ _ ⟨h1,h2,h3⟩=>⟨w.heap.size,h1,Nat.le_refl _,h2,h3⟩
theorem Nw.keep(h:Nw w w' col colR x)(hb:Below w'.heap.size w' w2):Nw w w2 col colR x:=⟨h.k.keep hb,h.v.keep hb,h.kc,h.vc,h.k8,h.v8,h.nc,h.ns⟩
theorem Nw.but{T:Nat->Prop}(h:Nw w w' col colR x)(hb:But T w' w2)(hT:∀k,T k->k<w.heap.size):Nw w w2 col colR x:=
 ⟨h.k.but hb (fun y hy e=>by have:=hT _ e;have:=(h.kc y hy).2.2;omega),h.v.but hb (fun y hy e=>by have:=hT _ e;have:=(h.vc y hy).2.2;omega),h.kc,h.vc,h.k8,h.v8,h.nc,h.ns⟩
theorem Nw.vfR(h:Nw w w' col colR x)(hf:Vf w' colR w2 colR'):Nw w w2 col colR' x:=
 ⟨hf.rw h.k (fun y hy=>(h.kc y hy).2.1),hf.rw h.v (fun y hy=>(h.vc y hy).2.1),fun y hy=>⟨(h.kc y hy).1,by rw[hf.c _ (h.k.lt hy)];exact(h.kc y hy).2.1,(h.kc y hy).2.2⟩,fun y hy=>⟨(h.vc y hy).1,by rw[hf.c _ (h.v.lt hy)];exact(h.vc y hy).2.1,(h.vc y hy).2.2⟩,h.k8,h.v8,h.nc,h.ns⟩
theorem Nw.mono{w0:World}(h:Nw w w' col colR x)(hs:w0.heap.size<=w.heap.size):Nw w0 w' col colR x:=⟨h.k,h.v,fun y hy=>⟨(h.kc y hy).1,(h.kc y hy).2.1,Nat.le_trans hs (h.kc y hy).2.2⟩,fun y hy=>⟨(h.vc y hy).1,(h.vc y hy).2.1,Nat.le_trans hs (h.vc y hy).2.2⟩,h.k8,h.v8,h.nc,h.ns⟩
theorem Nw.ii(h:Nw w w' col colR x):Ii w' x:=⟨h.k.bs h.k8 h.k.len_le,h.k.cap,h.v.bs h.v8 h.v.len_le,h.v.cap,h.nc,h.ns.1⟩
theorem Fo.vf{col':Nat->Nat}{o:Ov}(h:Fo w col colR o)(hf:Vf w col w' col'):Fo w' col' colR o:=
 ⟨hf.bs h.bk (fun x hx h0=>(h.nk x hx h0).1),h.ck,fun y hy h0=>⟨by rw[hf.c _ (h.bk.ltA hy h0)];exact(h.nk y hy h0).1,(h.nk y hy h0).2⟩,hf.bs h.bv (fun x hx h0=>(h.nv x hx h0).1),h.cv,fun y hy h0=>⟨by rw[hf.c _ (h.bv.ltA hy h0)];exact(h.nv y hy h0).1,(h.nv y hy h0).2⟩,h.i.vf hf (fun _ _=>rfl) trivial,h.nn,h.lk,h.lv,h.ik,h.iv⟩
theorem Fo.vf2{o:Ov}(h:Fo w col colR o)(hf:Vf w colR w' colR'):Bs w' o.aK o.key/\Bs w' o.aV o.val:=⟨hf.bs h.bk (fun x hx h0=>(h.nk x hx h0).2),hf.bs h.bv (fun x hx h0=>(h.nv x hx h0).2)⟩
structure Old(n wb:Nat)(K:Bks):Prop where
 wb:wb<n
 r1:∀t∈K.T++rowsOf K.B,∀y,t.a=some y->y.block<n
 r2:∀t∈K.X++rowsOf K.N,∀y,t.a=some y->y.block<n
 aB:∀y,K.aB=some y->y.block<n
 aN:∀y,K.aN=some y->y.block<n
 aT:∀y,K.aT=some y->y.block<n
 aX:∀y,K.aX=some y->y.block<n
section
variable {v w w':World} {wb b rb pb mb:Nat} {S:Vs} {D:Rd} {pc col colR:Nat->Nat} {K:Bks}
theorem St.old(h:St v w wb b rb pb mb S D pc col colR K):Old w.heap.size wb K:=⟨(Array.getElem?_eq_some_iff.1 h.box).1,fun t ht y hy=>(h.r1 t ht).1.lt hy,fun t ht y hy=>(h.r2 t ht).1.lt hy,fun y hy=>h.jb.lt hy,fun y hy=>h.jn.lt hy,fun y hy=>h.tt.lt hy,fun y hy=>h.tx.lt hy⟩
theorem St.far(h:St v w wb b rb pb mb S D pc col colR K){n:Nat}(ho:Old n wb K)(hv:v.heap.size<=n){T:Nat->Prop}(hb:But T w w')(hT:∀k,T k->col k=0/\colR k=0/\n<=k):St v w' wb b rb pb mb S D pc col colR K:=by
 have lo:∀{k:Nat},k<n->¬T k:=fun hk e=>by have:=(hT _ e).2.2;omega
 exact⟨hb.same h.box (lo ho.wb),h.V.but13 hb (fun k hk e=>hk (hT k e).1),h.R.but hb (fun k hk e=>hk (hT k e).2.1),h.dj,h.vn,h.rn,h.wc,h.jb.but hb (fun y hy=>lo (ho.aB y hy)),h.jn.but hb (fun y hy=>lo (ho.aN y hy)),h.tt.but hb (fun y hy=>lo (ho.aT y hy)),h.tx.but hb (fun y hy=>lo (ho.aX y hy)),h.oB,h.oN,h.oT,h.oX,h.nBN,h.nTX,h.r1.but hb (fun t ht y hy=>lo (ho.r1 t ht y hy)) (fun _ _=>rfl) (fun _ _=>rfl),h.r2.but hb (fun t ht y hy=>lo (ho.r2 t ht y hy)) (fun _ _=>rfl) (fun _ _=>rfl),h.ap,h.nt,((But.ofBelow (S:=fun _=>False) h.bl).trans hb (fun k hk e=>by have:=(hT k e).2.2;omega)).below (fun _ _ e=>e),h.e1,h.e2,h.ns,h.hu,h.fi,h.sm⟩
structure DsQ(v w5:World)(wb b rb pb mb:Nat)(S:Vs)(D:Rd)(pc col colR:Nat->Nat)(K:Bks)(key val:List Nat)(gj:Nat)(er:Int)(y:Iv)(D':Rd)(colR':Nat->Nat)(wx:World):Prop where
 box:wx.heap[gj]?=some (.cells #[.slice y.aK y.key.length y.cK,.slice y.aV y.val.length y.cV,.int .i64 y.child,.int .i64 y.size] 51 (0,0))
 st:St v wx wb b rb pb mb S D' pc col colR' K
 d:StD D key val er y D'
 nw:Nw w5 wx col colR' y
 f:Vf w5 colR wx colR'
 n:w5.heap.size<=gj
end
theorem step_apJ13{w:World}{ops:Array Oper}{o:Oper}{a:Act}{K:Act->World->Prop}{Q:Exit->Act->World->Prop}{E:Prop}(hgd:o.guard=none)(s x:Operand)
 (ho:o.op=.call {callee:=.builtin .append,args:=#[s,x],argTypes:=#[28,28]}) (ao:Option Addr) (n cap:Nat) (L:List Iv) (hs:a.eval s=.slice ao n cap) (hn:n=L.length) (hR:Jw w ao cap L)
 (ad:Addr) (c:Nat) (v:Iv) (hx:a.eval x=.slice (some ad) 1 c) (hc:∀j u,v.cs.toList[j]?=some u->w.cell? (ad.add j)=some u) (hlen:L.length+1<=2199023255489)
 (h:∀g cap' w',Jw w' (some ⟨g,0,none⟩) cap' (L++[v])->New w ao (some ⟨g,0,none⟩)->w.grownBy w' (ao.map Addr.block)->K (a.put o.dst (.slice (some ⟨g,0,none⟩) (n+1) cap')) w'):
 if Region.wanted o (yielded ops a.tmps)=true then Oper.wp Tryz.prog o a w K Q else E:=by
 have hw:Region.wanted o (yielded ops a.tmps)=true:=by simp[Region.wanted,hgd]
 rw[if_pos hw];exact wp_apJ s x ho ao n cap L hs hn hR ad c v hx hc hlen h
theorem item_cells13(h:W.heap[g]?=some (.cells x.cs t (0,0))):∀j u,x.cs.toList[j]?=some u->W.cell? ((⟨g,0,none⟩:Addr).add j)=some u:=by
 intro j u hu;rw[Addr.add_mid,Nat.zero_add,cell_of_row _ _ _ _ _ _ h,<-hu];simp
structure Apn(w wx:World)(wb:Nat)(cs:Array Value)(i:Nat)(a:Option Addr)(L:List Iv)(x:Iv)(g c:Nat):Prop where
 j:Jw wx (some ⟨g,0,none⟩) c (L++[x])
 n:New w a (some ⟨g,0,none⟩)
 b:But (fun k=>Q.InA a k\/k=wb) w wx
 box:wx.heap[wb]?=some (.cells (cs.setIfInBounds i (.slice (some ⟨g,0,none⟩) (L.length+1) c)) 78 (0,0))
theorem ap_set{wB w5:World}{wb:Nat}{cs:Array Value}(i:Nat)(hbox:w.heap[wb]?=some (.cells cs 78 (0,0))){a:Option Addr}{c:Nat}{L:List Iv}(hj:Jw w a c L)(hA:Below w.heap.size w wB){c5:Nat}(J:Jw w5 (some ⟨g,0,none⟩) c5 (L++[x]))(N:New wB a (some ⟨g,0,none⟩))(G:wB.grownBy w5 (a.map Addr.block)):
 w5.frozen? ⟨wb,i,none⟩=false/\w5.cell? ⟨wb,i,none⟩=cs[i]?/\Apn w (w5.setCell ⟨wb,i,none⟩ (.slice (some ⟨g,0,none⟩) (L.length+1) c5)) wb cs i a L x g c5:=by
 have bB:wB.heap[wb]?=_:=blk13 hbox hA;have hB:But (Q.InA a) wB w5:=But.inA G;have b5:w5.heap[wb]?=_:=hB.same bB (fun⟨y,hy,e⟩=>hj.nty13 (t:=78) hbox (by decide) hy e)
 have bs:But (fun k=>k=wb) w5 (w5.setCell ⟨wb,i,none⟩ (.slice (some ⟨g,0,none⟩) (L.length+1) c5)):=(But.refl (fun k=>k=wb) w5).setCell (p:=⟨wb,i,none⟩) (fun _=>rfl) _
 refine⟨by simp[World.frozen?,b5],cell_of_row _ _ _ _ _ _ b5,J.but bs (fun y hy e=>J.nty13 (t:=78) b5 (by decide) hy e),N.mono hA.size,?_,?_⟩
 · exact((But.ofBelow (S:=fun k=>Q.InA a k\/k=wb) hA).trans hB (fun k _ e=>.inl e)).trans bs (fun k _ e=>.inr e)
 · rw[heap_setCell_same _ _ _ _ _ _ b5]
end Go.Proofs.YtcpkinhneehomaaGreat
