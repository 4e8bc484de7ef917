import Derived.Test.YteaogidofpfmmaaGreatWgB26
set_option linter.all false
set_option maxHeartbeats 8000000
set_option maxRecDepth 16000
namespace Go.Proofs.YteaogidofpfmmaaGreat
open Go.Proofs.Tryz
open Go.RowKit
variable {e:Ending}{rd:Int->Option Pg}{b c mb pb rb:Nat}{col colR pc:Nat->Nat}{a:Option Addr}{D:Rd}{S:Vs}{W w w':World}
theorem ut{rd:Int->Option Pg}{s:Nat}:∀(t:Nat)(d:List Nat)(n:Int),d.length<=s->(iW rd s t d n).2.length<=s
 |0,d,n,h=>h
 |t+1,d,n,h=>by
  unfold iW;split
  . split
    . exact an _
    . split
      . exact an _
      . split
        . exact an _
        . rename_i p _ _ hd;split
          . exact an _
          . have hd:p.data.length=min (s-d.length) 480:=eD hd;exact ut t _ _ (by rw[af,hd];omega)
  . exact h
theorem Ex{x:It}:(ldI rd x).2.length<=3840:=by
 unfold ldI;split
 . exact an _
 . rename_i h;split
   . have:=ut (rd:=rd) (s:=x.size.toNat) x.size.toNat [] x.child (an _);omega
   . split
     . exact an _
     . rename_i d;have d:(x.val.length:Int)=x.size:=eD d;show x.val.length<=_;omega
theorem FSx(g:ix rd){t:Tr}(k:chk rd t=0):∀p∈PLt rd t,p.1.length<=3840/\p.2.length<=3840:=by
 by_cases f:t.root=0
 . intro p d;unfold PLt at d;rw[if_pos f] at d;cases d
 . obtain⟨l,m,j,n,i,_⟩:=kw g k f;intro p d;unfold PLt at d;rw[if_neg f] at d;obtain⟨x,i,rfl⟩:=bM.1 d;refine⟨?_,Ex⟩;have h:=(j.hk g x i).1;rw[mY] at h;have:=(mM.1 h).2;show x.key.length<=_;omega
theorem BT{L:List (List Nat×List Nat)}(h:∀p∈L,p.1.length<=3840/\p.2.length<=3840)(k:List Nat):(kR L k).1.length<=3840:=by
 unfold kR;split
 . exact an _
 . split
   . exact an _
   . rename_i p d;exact(h p (fT d)).2
theorem Aa{L:List (List Nat×List Nat)}(h:∀p∈L,p.1.length<=3840/\p.2.length<=3840)(k:List Nat):((jQ L k).getD ([],[])).1.length<=3840/\((jQ L k).getD ([],[])).2.length<=3840:=by
 unfold jQ;cases hf:L.find? (λp=>decide (0<=gX p.1 k)) with
 |none=>exact⟨an _,an _⟩
 |some p=>exact h p (fT hf)
theorem xp{L:List (List Nat×List Nat)}(h:∀p∈L,p.1.length<=3840/\p.2.length<=3840)(k:List Nat):((jr L k).getD ([],[])).1.length<=3840/\((jr L k).getD ([],[])).2.length<=3840:=by
 unfold jr;cases hf:L.reverse.find? (λp=>decide (gX p.1 k<=0)) with
 |none=>exact⟨an _,an _⟩
 |some p=>exact h p (gE.1 (fT hf))
theorem PrD.one{R:Option (List Nat×List Nat)}(h:PrD w w' e R):Below w.heap.size w w'/\∃K V:Br,e=.returned (.tuple #[.agg #[.slice K.a K.l.length K.c,.slice V.a V.l.length V.c],.bool R.isSome,.int .i64 0])/\R.getD ([],[])=(K.l,V.l)/\Bs w' K.a K.l/\Bs w' V.a V.l:=by
 obtain⟨hb,⟨rfl,rfl⟩|⟨K,V,rfl,rfl,d,f⟩⟩:=h
 . exact⟨hb,⟨none,0,[]⟩,⟨none,0,[]⟩,rfl,rfl,Bs.nil _,Bs.nil _⟩
 . exact⟨hb,K,V,rfl,rfl,d,f⟩
structure GeT(w:World)(b rb:Nat)(rd:Int->Option Pg)(t:Tr)(L:List (List Nat×List Nat)):Prop where
 get:∀(W:World)(ak:Option Addr)(ck:Nat)(k:List Nat),Below w.heap.size w W->Bs W ak k->Calls prog 11 #[.pointer (some ⟨b,0,none⟩),.agg #[.int .i64 t.root,.int .i64 t.height,.int .i64 t.items],.slice ak k.length ck] W λe w'=>uO W w' e (kR L k)
 ceil:∀(W:World)(ak:Option Addr)(ck:Nat)(k:List Nat),Below w.heap.size w W->Bs W ak k->k.length<=ck->k.length<=1048576->(∀x,ak=some x->x.block<W.heap.size)->Calls prog 14 #[.pointer (some ⟨b,0,none⟩),.agg #[.int .i64 t.root,.int .i64 t.height,.int .i64 t.items],.slice ak k.length ck] W λe w'=>PrP W w' e (jQ L k)
 floor:∀(W:World)(ak:Option Addr)(ck:Nat)(k:List Nat),Below w.heap.size w W->Bs W ak k->k.length<=1048576->Calls prog 17 #[.pointer (some ⟨b,0,none⟩),.agg #[.int .i64 t.root,.int .i64 t.height,.int .i64 t.items],.slice ak k.length ck] W λe w'=>PrP W w' e (jr L k)
 path:∀(W:World)(ak:Option Addr)(ck:Nat)(k:List Nat),Below w.heap.size w W->Bs W ak k->Calls prog 19 #[.pointer (some ⟨b,0,none⟩),.agg #[.int .i64 t.root,.int .i64 t.height,.int .i64 t.items],.slice ak k.length ck] W λe w'=>xy W w' e (iJ rd k t.height.toNat t.root)
 way:∀k,∃l,iJ rd k t.height.toNat t.root=some l
 dget:∀(W:World)(ak:Option Addr)(ck:Nat)(k:List Nat),Below w.heap.size w W->Bs W ak k->Calls prog 12 #[.pointer (some ⟨rb,0,none⟩),.agg #[.int .i64 t.root,.int .i64 t.height,.int .i64 t.items],.slice ak k.length ck] W λe w'=>GtD W w' e (kR L k)
 dceil:∀(W:World)(ak:Option Addr)(ck:Nat)(k:List Nat),Below w.heap.size w W->Bs W ak k->Calls prog 15 #[.pointer (some ⟨rb,0,none⟩),.agg #[.int .i64 t.root,.int .i64 t.height,.int .i64 t.items],.slice ak k.length ck] W λe w'=>PrD W w' e (jQ L k)
 dfloor:∀(W:World)(ak:Option Addr)(ck:Nat)(k:List Nat),Below w.heap.size w W->Bs W ak k->Calls prog 18 #[.pointer (some ⟨rb,0,none⟩),.agg #[.int .i64 t.root,.int .i64 t.height,.int .i64 t.items],.slice ak k.length ck] W λe w'=>PrD W w' e (jr L k)
 dpath:∀(W:World)(ak:Option Addr)(ck:Nat)(k:List Nat)(l:List (Int×Pg)),Below w.heap.size w W->Bs W ak k->iJ rd k t.height.toNat t.root=some l->Calls prog 20 #[.pointer (some ⟨rb,0,none⟩),.agg #[.int .i64 t.root,.int .i64 t.height,.int .i64 t.items],.slice ak k.length ck] W λe w'=>PtD W w' e (l.map Prod.fst)
 len:∀p∈L,p.1.length<=3840/\p.2.length<=3840
theorem Ld.b8(h:Ld w W b rb S pb mb pc col D colR rd):qe rd:=by
 intro n p d;rw[<-h.rr] at d;obtain⟨f,rfl⟩:=qy d;exact(h.r.pz _ (Rd.on_mem h.r (ju f))).pi.b8
theorem Ld.get(h:Ld w W b rb S pb mb pc col D colR rd){t:Tr}(i:chk rd t=0):GeT W b rb rd t (PLt rd t):=by
 have g:=h.ok;have q:=h.b8;have m:=λ(V:World)(hb:Below W.heap.size W V)=>(show iZ 52 (.pointer (some ⟨b,0,none⟩)) rd (λk=>col k≠0) W from h.rv▸h.v.rdsx h.s).keep hb
 have s:=λ(V:World)(hb:Below W.heap.size W V) k (hk:col k≠0)=>a6 (h.v.xlt k hk) hb.size
 have r:j5 rd 65536:=h.rr▸nU h.r;have n:ix (rdR D):=h.rr.symm▸g;have p:chk (rdR D) t=0:=h.rr.symm▸i;obtain⟨v,y⟩:=m6 g i;refine⟨λV d f k hb hk=>D6 g (m V hb) i hk,λV d f k hb hk x j A=>Di g q r (m V hb) (s V hb) i hk x j A,λV d f k hb hk j=>zW g q r (m V hb) (s V hb) i hk j,λV d f k hb hk=>Bz g (m V hb) i hk,Ec g i,λV d f k hb hk=>?_,λV d f k hb hk=>?_,λV d f k hb hk=>?_,λV d f k l hb hk j=>?_,FSx g i⟩
 . have:=Dd V rb D colR (h.r.keep hb) n t p d f k hk;rw[h.rr] at this;exact this
 . have:=zM V rb D colR (h.r.keep hb) n t p d f k hk;rw[h.rr] at this;exact this
 . have:=yw V rb D colR (h.r.keep hb) n t p d f k hk;rw[h.rr] at this;exact this
 . have:=Ag V rb D colR (h.r.keep hb) n t.root t.items t.height.toNat y d f k hk l (h.rr.symm▸j);rw[<-v] at this;exact this
theorem tT{w:World}{p:Array Oper}{q:List Oper}{o:Oper}{a:Act}{l:Exit->Act->World->Prop}(M:o.guard=none)(s x:Operand)
 (C:o.op=.call {callee:=.builtin .append,args:=#[s,x],argTypes:=#[27,27]}) (f:Option Addr) (n cap:Nat) (vs:List Value) (G:a.eval s=.slice f n cap) (B:n=vs.length) (v:Ar w f cap vs)
 (k:Addr) (m c:Nat) (d:List Value) (H:a.eval x=.slice (some k) m c) (A:m=d.length) (y:∀j u,d[j]?=some u->w.cell? (k.add j)=some u) (r:∀u∈d,u.oneCell'=true) (E:0<d.length) (N:(vs.length+d.length)*24<=140737488355328)
 (h:∀g i w',Ar w' (some ⟨g,0,none⟩) i (vs++d)->New w f (some ⟨g,0,none⟩)->But (Q.InA f) w w'->wpList prog p l q (a.put o.dst (.slice (some ⟨g,0,none⟩) (n+m) i)) w'):wpList prog p l (o::q) a w:=by
 refine eI M λK t=>?_
 obtain⟨g,i,w',F,I,J,L⟩:=za w o.type f n cap vs B v k m c d A y r E N;unfold Oper.wp execOp;simp only[C,resolve,invoke,builtin,dS,dT,dy,dM,bO,dW,G,H,F];exact t _ _ (h g i w' I J (But.inA L))
def Du(w w':World)(e:Ending)(l:List Int):Prop:=Below w.heap.size w w'/\∃(a:Option Addr)(c:Nat),e=.returned (.tuple #[.slice a l.length c,.int .i64 0])/\Q.Gw 3 1 w' a c l.length (Q.vi l)/\∀y,a=some y->w.heap.size<=y.block
theorem xy.fix{f:List (Int×Pg)}{d:List Int}(h:xy w w' e (some f))(m:f.map Prod.fst=d):Du w w' e d:=by
 obtain⟨l,n,a,c,rfl,g,i,j,k,rfl⟩:=h;have e:l=d:=k.trans m;subst e;exact⟨j,a,c,rfl,g,i⟩
theorem GeT.ways{t:Tr}{L:List (List Nat×List Nat)}(h:GeT w b rb rd t L)(j:t.height.toNat<=12)(K:List Nat):∃g:List Int,g.length<=12/\
 (∀(W:World)(d:Option Addr)(f:Nat),Below w.heap.size w W->Bs W d K->Calls prog 19 #[.pointer (some ⟨b,0,none⟩),.agg #[.int .i64 t.root,.int .i64 t.height,.int .i64 t.items],.slice d K.length f] W λe w'=>Du W w' e g)/\
 ∀(W:World)(d:Option Addr)(f:Nat),Below w.heap.size w W->Bs W d K->Calls prog 20 #[.pointer (some ⟨rb,0,none⟩),.agg #[.int .i64 t.root,.int .i64 t.height,.int .i64 t.items],.slice d K.length f] W λe w'=>PtD W w' e g:=by
 obtain⟨l,i⟩:=h.way K;refine⟨l.map Prod.fst,by rw[bu,qm i];exact j,λW d f hb hk=>?_,λW d f hb hk=>h.dpath W d f K l hb hk i⟩
 have:=h.path W d f K hb hk;rw[i] at this;exact this.mono λ_ _ h=>h.fix rfl
theorem Fam.one{l:List Nat}(h:Own w W a c l)(d:B8 l):Fam w W [⟨a,c,l⟩]:=
 ⟨λt f=>by rw[aM.1 f];exact⟨h,d⟩,eo _ _⟩
theorem Fam.ap{d:World}{T:List Br}{vs:List Value}(h:Fam w W T)(f:Ar W a c vs)(hb:But (Q.InA a) W d)(i:Below w.heap.size w d):Fam w d T:=
 h.but hb i λt g x j ⟨y,k,e⟩=>f.ne (h.own t g).1.r k j e
def StR(w w':World)(e:Ending)(rd:Int->Option Pg)(t:Tr):Prop:=∃B:Bool,e=.returned (.bool B)/\Below w.heap.size w w'/\(B=true->chk rd t=0)
theorem DX{P Q:Nat->Prop}{m:Nat}(d:∃n,∀x,P x->P n/\∀k,P k->n<=k)(f:∃n,∀x,Q x->Q n/\∀k,Q k->n<=k)(g:P m)(i:∃k,Q k)(h:∀k,Q k->m<k):d.choose<f.choose:=by
 have l:=(d.choose_spec m g).2 m g;obtain⟨q,j⟩:=i;have p:=h _ (f.choose_spec q j).1;omega
def StL(w:World)(G:List Int)(bi bm N n:Nat)(vt:Value)(wx:World):Prop:=
 ∃(aT:Option Addr)(cT:Nat)(S I Gm:List Int),vt=.slice aT S.length cT/\Stq w wx bi bm N aT cT S I Gm/\(∀x∈S,x∈G)/\Gm.Nodup/\(∀x∈Gm,x∈G)/\S.length<=8*Gm.length+1/\n+16*Gm.length=1120000+S.length
theorem xO(w:World)(rb:Nat)(D:Rd)(col:Nat->Nat)(hR:Rq w rb D col)(hA:ix (rdR D))(aL:Option Addr)(cL:Nat)(t:Tr)(hT:Trs w aL [t]):
 Calls prog 41 #[.pointer (some ⟨rb,0,none⟩),.slice aL 1 cL] w λe w'=>StR w w' e (rdR D) t:=by
 obtain⟨K,R,rfl,l⟩:=hT 0 (by simp)
 have aG:Hid (∀W:World,Below w.heap.size w W->W.cell? ⟨K,R,none⟩=some (.int .i64 t.root)/\W.cell? ⟨K,R+1,none⟩=some (.int .i64 t.height)/\W.cell? ⟨K,R+2,none⟩=some (.int .i64 t.items)):=λW hb=>by
  have k0:w.cell? ⟨K,R,none⟩=some (.int .i64 t.root):=by have:=l 0 _ rfl;simpa using this
  have k1:w.cell? ⟨K,R+1,none⟩=some (.int .i64 t.height):=by have:=l 1 _ rfl;simpa using this
  have k2:w.cell? ⟨K,R+2,none⟩=some (.int .i64 t.items):=by have:=l 2 _ rfl;simpa using this
  exact⟨(hb.cell (p:=⟨K,R,none⟩) (block_lt_of_cell k0)).trans k0,(hb.cell (p:=⟨K,R+1,none⟩) (block_lt_of_cell k1)).trans k1,(hb.cell (p:=⟨K,R+2,none⟩) (block_lt_of_cell k2)).trans k2⟩
 have LR:=gW λ(W:World)(hb:Below w.heap.size w W)=>qb W rb D col (hR.keep hb)
 have CK:=gW λ(W:World)(hb:Below w.heap.size w W)=>xJ W rb D col (hR.keep hb) hA t
 have HR:=gW hR;have HA:=gW hA;have h6:=hR.n6;obtain⟨N,hN⟩:∃N,D.C.length=N:=⟨_,rfl⟩
 have ag:Hid (∀n:Int,(rdR D n).isSome=true->1<=n/\n<=(N:Int)):=λn O=>by
  by_cases M:0<D.count n
  . have:=Rd.has_iff.1 (ju M);rw[hN] at this;exact this
  . rw[mo M] at O;cases O
 simp only[hN] at LR h6;have HN:=gW hN;clear hR hA hT l hN;have bY:IntKind.i64.wrap ((N:Int)+1)=(N:Int)+1:=iz (by omega) (by omega)
 have bp:∀W,(Instr.makeSlice 22 (.int .i64 ((N:Int)+1)) (.int .i64 ((N:Int)+1))).run prog W=.ok (.slice (some ⟨W.heap.size,0,none⟩) (N+1) (N+1)) (W.alloc (.cells (Q.vi (List.replicate (N+1) 0)).toArray 3)):=λW=>by
  have:=y9 (N+1) (by omega) W
  have e:(((N+1:Nat)):Int)=(N:Int)+1:=by omega
  rw[e] at this;exact this
 have aB:∀W,(Instr.makeSlice 105 (.int .i64 ((N:Int)+1)) (.int .i64 ((N:Int)+1))).run prog W=.ok (.slice (some ⟨W.heap.size,0,none⟩) (N+1) (N+1)) (W.alloc (.cells (vbl (List.replicate (N+1) false)).toArray 4)):=λW=>by
  have:=ru (N+1) (by omega) W
  have e:(((N+1:Nat)):Int)=(N:Int)+1:=by omega
  rw[e] at this;exact this
 have aS:=gW aB;clear aB;go_enter func41,ntmps41;go_wp2_with fail
 refine(LR.o _ (Below.refl _ _)).mono ?_;rintro _ wq ⟨rfl,ap⟩;obtain rfl:=ap.symm;clear ap;go_upto_region 2 with fail
 have A1:=gW (al w (.cells (Q.vi (List.replicate (N+1) 0)).toArray 3));have I1:Hid (Q.Gw 3 1 (w.alloc (.cells (Q.vi (List.replicate (N+1) 0)).toArray 3)) (some ⟨w.heap.size,0,none⟩) (N+1) (N+1) (Q.vi (List.replicate (N+1) 0))):=Q.Gw.mk (by simp[Q.vi]) (ah w _) (ai _) (by unfold maxLen;omega) (by simp[Q.vi]) (by simp[Q.vi])
 generalize w.alloc (.cells (Q.vi (List.replicate (N+1) 0)).toArray 3)=w1 at *;obtain⟨d,a0⟩:∃b,w.heap.size=b:=⟨_,rfl⟩;have NI:Hid (w.heap.size<=d):=by show _<=_;omega
 simp only[a0] at I1 ⊢;clear a0 bp;go_wp2_with fail
 go_loopw [6] (λvi B=>∃(k:Nat)(I:List Int),k<=1/\vi=.int .i64 (k:Int)/\Below w.heap.size w B/\Q.Gw 3 1 B (some ⟨d,0,none⟩) (N+1) (N+1) (Q.vi I)/\(k=1->chk (rdR D) t=0)) (λvi _=>1-(intOf vi).toNat)
 case atStart=>exact⟨0,_,an _,rfl,A1.o,I1.o,λh=>absurd h (by decide)⟩
 case round=>
  clear A1 I1;obtain⟨k,I,hk,rfl,hb,hI,ae⟩:=hrel;have BB:=gW hb;have II:=gW hI;have aR:=gW ae;clear hb hI ae;rcases Nat.eq_zero_or_pos k with hk0|hk0
  . subst hk0;obtain⟨k0,k1,k2⟩:=aG.o _ BB.o;have CC:=gW (CK.o _ BB.o);obtain⟨c,l⟩:∃c,chk (rdR D) t=c:=⟨_,rfl⟩;rw[l] at CC;go_wp2_with fail
    refine CC.o.mono ?_;rintro _ w3 ⟨rfl,aO⟩;have B3:=gW (bt BB.o aO);have I3:=gW (II.o.keep aO);clear aO k0 k1 k2 CC;obtain⟨k0,k1,k2⟩:=aG.o _ B3.o;by_cases aj:c=0
    . subst aj
      have bu:∃r:Nat,t.root=(r:Int)/\r<N+1:=by
       by_cases M:t.root=0
       . exact⟨0,M,by omega⟩
       . obtain⟨G,E,_,Z⟩:=wM HA.o l M;obtain⟨p,J,_⟩:=E _ Z;have:=ag.o _ (by rw[J];rfl)
         exact⟨t.root.toNat,by omega,by omega⟩
      obtain⟨r,hr,b1⟩:=bu;have HC:=gW l;have b0:(0:Int)<=(r:Int):=by omega
      have b2:(r:Int)<(N:Int)+1:=by omega
      rw[hr] at k0;have a9:I.length=N+1:=by have:=I3.o.length;rw[uz] at this;omega
      have c0:=I3.o.cell (show(Q.vi I)[r]?=some (.int .i64 (I.getD r 0)) by simp[Q.vi,show r<I.length by omega])
      obtain⟨bh,av⟩:=jK I3.o rfl;have f0:w3.frozen? ⟨d,r,none⟩=false:=by simp[World.frozen?,show w3.heap[d]?=_ from av]
      clear l av;go_wp2_with fail
      go_roundw
      case rel=>
       exact⟨1,I.set r _,ai _,rfl,((But.ofBelow (S:=λk=>k=d) B3.o).trans ((But.refl (λk=>k=d) w3).setCell (p:=⟨d,r,none⟩) (λ_=>rfl) _) (λ_ _ e=>e)).below (λk hk e=>by have e:k=d:=e;have:=NI.o;omega),by rw[<-ow];exact I3.o.setc r _,λ_=>HC.o⟩
      case measure=>(simp[intOf])
    . have bI:¬(c:Int)=0:=by omega
      have bH:((c:Int) != 0)=true:=by simp[aj]
      go_wp2_with fail
      go_ret;exact⟨false,rfl,B3.o,λh=>by cases h⟩
  . obtain rfl:k=1:=by omega
    have ae:=aR.o rfl
    have E:∃G:List Int,Clo (rdR D) G/\G.length<=65536/\(t.root≠0->t.root∈G):=by
     by_cases M:t.root=0
     . exact⟨[],λx f=>(by cases f),an _,λh=>absurd M h⟩
     . obtain⟨G,E,am,Z⟩:=wM HA.o ae M;refine⟨G,E,az (lL N G am λn O=>?_) h6,λ_=>Z⟩
       obtain⟨p,J,_⟩:=E n O;exact ag.o _ (by rw[J];rfl)
    obtain⟨G,a8,aW,a5⟩:=E;have GL:=gW aW;have aF:=gW a8;have be:=gW a5;have bd:=gW ae;clear ae aR a8 aW a5;have a9:I.length=N+1:=by have:=II.o.length;rw[uz] at this;omega
    have c0:=II.o.cell (show(Q.vi I)[0]?=some (.int .i64 (I.getD 0 0)) by simp[Q.vi,show 0<I.length by omega])
    obtain⟨bh,av⟩:=jK II.o rfl;have f0:wr.frozen? ⟨d,0,none⟩=false:=by simp[World.frozen?,show wr.heap[d]?=_ from av]
    have bT:(0:Int)<(N:Int)+1:=by omega
    clear av a9;go_upto_region 9 with fail
    have bs:But (λk=>k=d) wr (wr.setCell ⟨d,0,none⟩ (.int .i64 0)):=(But.refl (λk=>k=d) wr).setCell (p:=⟨d,0,none⟩) (λ_=>rfl) _
    have B4:=gW (((But.ofBelow (S:=λk=>k=d) BB.o).trans bs (λ_ _ e=>e)).below (λk hk e=>by have e:k=d:=e;have:=NI.o;omega))
    have I4:Hid (Q.Gw 3 1 (wr.setCell ⟨d,0,none⟩ (.int .i64 0)) (some ⟨d,0,none⟩) (N+1) (N+1) (Q.vi (I.set 0 0))):=by show Q.Gw _ _ _ _ _ _ _;rw[<-ow];exact II.o.setc 0 _
    clear BB II c0 f0 bs;generalize wr.setCell ⟨d,0,none⟩ (.int .i64 0)=w4 at *;generalize I.set 0 0=aH at *;go_wp2_with fail
    refine(LR.o _ B4.o).mono ?_;rintro _ wq ⟨rfl,ap⟩;obtain rfl:=ap.symm;clear ap;have aB:=aS.o;go_upto_region 10 with fail
    have T:=gW (al w4 (.cells (vbl (List.replicate (N+1) false)).toArray 4))
    have S5:Hid (Stq w (w4.alloc (.cells (vbl (List.replicate (N+1) false)).toArray 4)) d w4.heap.size N none 0 [] aH []):=⟨bt B4.o T.o,I4.o.keep T.o,by
     rw[ah];congr 3
     unfold mG vbl;apply fK
     . simp
     . intro ab h1 h2;simp,Q.Gw.nil _ _ _,NI.o,B4.o.size,λx f=>by cases f⟩
    generalize w4.alloc (.cells (vbl (List.replicate (N+1) false)).toArray 4)=w5 at *;obtain⟨A,a1⟩:∃b,w4.heap.size=b:=⟨_,rfl⟩;simp only[a1] at S5 ⊢;clear a1 aB T I4 B4 aS;go_wp2_with fail
    go_loopw [8,9] (λvt vi B=>∃(k:Nat)(X:Option Addr)(C:Nat)(S:List Int),k<=1/\vi=.int .i64 (k:Int)/\vt=.slice X S.length C/\Stq w B d A N X C S aH []/\(∀x∈S,x∈G)/\S.length<=k) (λ_ vi _=>1-(intOf vi).toNat)
    case atStart=>exact⟨0,none,0,[],an _,rfl,rfl,S5.o,λx f=>(by cases f),ai _⟩
    case round=>
     clear S5;obtain⟨k,X,C,S,hk,rfl,rfl,Y,i,aY⟩:=hrel;have H:=gW Y;have SG:=gW i;clear Y i;rcases Nat.eq_zero_or_pos k with hk0|hk0
     . subst hk0;obtain rfl:S=[]:=List.eq_nil_of_length_eq_zero (Nat.le_zero.1 aY);obtain⟨k0,k1,k2⟩:=aG.o _ H.o.b;by_cases M:0<t.root
       . have A7:=gW (al wr (.cells #[.int .i64 t.root] 3));have Y7:=gW (ah wr (.cells #[.int .i64 t.root] 3));have S7:=gW (H.o.keep A7.o);have RG:=gW (be.o (λe=>by omega))
         go_wp2_with (at_builtin;refine i5 underlying22 kG rfl (by decide) rfl _ _ rfl X 0 C (Q.vi []) rfl S7.o.t ⟨wr.heap.size,0,none⟩ 1 [Value.int .i64 t.root] rfl rfl (kO Y7.o) (λu hu=>by rw[aM.1 hu];rfl) (by decide) (by decide) ?_)
         intro g5 c5 w7 E hN hB;have F:=gW (S7.o.push (x:=t.root) E hN hB);clear E hN hB;go_wp2_with fail
         go_roundw
         case rel=>exact⟨1,some ⟨g5,0,none⟩,c5,[t.root],ai _,rfl,rfl,F.o,λx f=>by rw[aM.1 f];exact RG.o,ai _⟩
         case measure=>(simp[intOf])
       . go_wp2_with fail
         go_roundw
         case rel=>exact⟨1,X,C,[],ai _,rfl,rfl,H.o,λx f=>(by cases f),an _⟩
         case measure=>(simp[intOf])
     . obtain rfl:k=1:=by omega
       have R0:Hid (∃n,StL w G d A N n (.slice X S.length C) wr):=⟨1120000+S.length,X,C,S,aH,[],rfl,H.o,SG.o,List.nodup_nil,λx f=>(by cases f),by omega,rfl⟩
       clear H SG aY;go_wp2_with fail
       go_loopw [8] (λvt B=>∃n,StL w G d A N n vt B) (λvt B=>(kx λn=>StL w G d A N n vt B).choose)
       case atStart=>exact R0.o
       case round=>
        clear R0;obtain⟨n0,bj,bb⟩:∃n0,StL w G d A N n0 u8 wr/\∀k,StL w G d A N k u8 wr->n0<=k:=⟨_,((kx λn=>StL w G d A N n u8 wr).choose_spec hrel).1,((kx λn=>StL w G d A N n u8 wr).choose_spec hrel).2⟩
        have EX:=gW hrel;have ax:=gW bb;clear hrel bb;obtain⟨X,C,S,I,U,rfl,Y,i,am,aJ,ao,O⟩:=bj;have H:=gW Y;have SG:=gW i;have ND:=gW am;have GG:=gW aJ;have SL:=gW ao;have NN:=gW O
        have ac:Hid (U.length<=65536):=az (lL N U am λn O=>by
         obtain⟨p,J,_⟩:=aF.o n (aJ n O);exact ag.o _ (by rw[J];rfl)) h6
        clear Y i am aJ ao O;rcases gN S with ay|⟨S',x,ay⟩
        . subst ay;clear EX ax ND GG SL NN ac SG;go_wp2_with fail
          simp only[bg,show((1:Nat):Int)=1 from rfl]
          generalize wr=w8 at *;go_loopw [13] (λvi B=>∃k:Nat,1<=k/\k<=N+1/\vi=.int .i64 (k:Int)/\Below w8.heap.size w8 B) (λvi _=>N+1-(intOf vi).toNat)
          case atStart=>exact⟨1,ai _,by omega,rfl,Below.refl _ _⟩
          case round=>
           obtain⟨k,bP,bQ,rfl,aQ⟩:=hrel;have F:=gW (H.o.keep aQ);have BW:=gW aQ;clear aQ;by_cases aA:k<N+1
           . have bn:(k:Int)<(N:Int)+1:=by omega
             have hk0:(0:Int)<=(k:Int):=by omega
             obtain⟨n,rfl⟩:∃n,k=n+1:=⟨k-1,by omega⟩
             obtain⟨i0,_⟩:=F.o.iAt aA;have V:=HR.o.keep F.o.b;obtain⟨_,r1,_⟩:=V.cells;obtain⟨gc,a3,bk⟩:=V.cAt (show n<D.C.length by have:=HN.o;omega)
             rw[a3,HN.o] at r1;have bB:((n+1:Nat):Int)-1=(n:Int):=by omega
             have bS:IntKind.i64.wrap (((n+1:Nat):Int)-1)=(n:Int):=by rw[bB];exact iz (by omega) (by omega)
             have bX:(0:Int)<=(n:Int):=by omega
             have bZ:(n:Int)<(N:Int):=by omega
             clear V a3;obtain⟨cv,a2⟩:∃v,D.C.getD n 0=v:=⟨_,rfl⟩;obtain⟨iv,ak⟩:∃v,I.getD (n+1) 0=v:=⟨_,rfl⟩;rw[a2] at bk;rw[ak] at i0;clear a2 ak;by_cases bJ:cv<iv
             . go_wp2_with fail
               go_quiet (fail)
               go_wp2_with fail
               go_ret;exact⟨false,rfl,bt F.o.b (drN _ _),λh=>by cases h⟩
             . go_wp2_with fail
               go_quiet (fail)
               go_wp2_with fail
               go_roundw
               case rel=>exact⟨n+1+1,by omega,by omega,by first|(go_num;done)|exact bf (Value.int IntKind.i64) (by omega),bt BW.o (drN _ _)⟩
               case measure=>(simp[intOf];omega)
           . obtain rfl:k=N+1:=by omega
             have bn:¬(((N+1:Nat):Int)<(N:Int)+1):=by omega
             go_wp2_with fail
             go_ret;exact⟨true,rfl,F.o.b,λ_=>bd.o⟩
        . rw[fE] at ay;subst ay;obtain⟨aw,rfl,aj,bA,bl⟩:=H.o.top;have XG:=gW (SG.o x (dP _ (List.mem_singleton_self _)));obtain⟨p,J,a4⟩:=aF.o x XG.o;obtain⟨aD,aC⟩:=qy J;have b4:=ag.o x (by rw[J];rfl)
          have KK:=gW a4;obtain⟨m,Z⟩:∃m,S'.length=m:=⟨_,rfl⟩;have HM:=gW Z;have bo:(S'++[x]).length=m+1:=by rw[af,Z];rfl
          rw[Z] at aj bA;simp only[bo] at EX ax NN SL ⊢;have bV:m+1<=600000:=by have:=SL.o;have:=ac.o;omega
          have cf:(0:Int)<((m+1:Nat):Int):=by omega
          have bv:((m+1:Nat):Int)-1=(m:Int):=by omega
          have b3:IntKind.i64.wrap (((m+1:Nat):Int)-1)=(m:Int):=by rw[bv];exact iz (by omega) (by omega)
          have cc:(m:Int)<((m+1:Nat):Int):=by omega
          have bU:(0:Int)<=(m:Int):=by omega
          have bW:(m:Int)<=(C:Int):=by omega
          obtain⟨z,rfl⟩:∃z:Nat,x=(z:Int):=⟨x.toNat,by omega⟩
          have b7:(0:Int)<=(z:Int):=by omega
          have b9:(z:Int)<(N:Int)+1:=by omega
          have S3:=gW H.o.pop;have aU:Hid (∀y∈S',y∈G):=λy hy=>SG.o y (eb _ hy)
          obtain⟨m0,f0⟩:=H.o.mAt (k:=z) (by omega)
          clear Z bl a4 SG;by_cases aE:(z:Int)∈U
          . rw[au aE] at m0;clear aD aC J;go_wp2_with fail
            have FR:Hid (StL w G d A N (n0-1) (.slice (some ⟨aw,0,none⟩) m C) wr):=⟨some ⟨aw,0,none⟩,C,S',I,U,by rw[HM.o],S3.o,aU.o,ND.o,GG.o,by rw[HM.o];have:=SL.o;omega,by rw[HM.o];have:=NN.o;have:=ac.o;omega⟩
            go_roundw
            case rel=>exact⟨_,FR.o⟩
            case measure=>exact vB FR.o EX.o (λk hk=>by have:=ax.o k hk;have:=NN.o;have:=ac.o;omega)
          . rw[ar aE] at m0;have bz:=gW aE;go_upto_region 21 with fail
            have S4:=gW (S3.o.setM z);clear m0 f0 S3 H aj;generalize wr.setCell ⟨A,z,none⟩ (.bool true)=w6 at *;have V:=gW (HR.o.keep S4.o.b);obtain⟨ab,g2,ca,hi,bE,c3,l⟩:=V.o.page aD;have ba:=Rd.on_mem V.o (ju aD);have PI:=gW ((V.o.pz _ ba).pi);have aV:=gW (HA.o _ _ J);obtain⟨q,hq⟩:∃q,D.on (z:Int)=q:=⟨_,rfl⟩;rw[hq] at aC l PI;have IK:=gW (yJ w6 q PI.o);rw[aC] at IK;clear hq ba aD J aE PI;have cb:IntKind.i64.wrap ((z:Int)-1)=(ab:Int):=by rw[show(z:Int)-1=(ab:Int) by omega];exact iz (by omega) (by omega)
            have bK:(0:Int)<=(ab:Int):=by omega
            have bL:(ab:Int)<(D.C.length:Int):=by omega
            have b8:(z:Int)-1=(ab:Int):=by omega
            obtain⟨kq,lq,aq,cq,bC,ad,cd,bD,nx⟩:=q;unfold Pv.vl at IK;simp only[Pv.cs] at IK;have y0:=l 0 _ (by decide) rfl
            have y1:=l 1 _ (by decide) rfl
            have y2:=l 2 _ (by decide) rfl
            have y3:=l 3 _ (by decide) rfl
            have y4:=l 4 _ (by decide) rfl
            rw[dr] at y0;clear l aC;have K8:=gW (Gj aV.o);go_wp2_with fail
            refine IK.o.mono ?_;rintro _ w7 ⟨aK,cK,rfl,hK⟩;have S7:=gW (S4.o.keep hK.b);have L:Hid (Q.Gw 3 1 w7 aK cK p.kids.length (Q.vi p.kids)):=hK.r
            have aI:Hid (∀y,aK=some y->y.block≠d/\aw≠y.block):=λy hy=>by
             have h1:=y8 hK.n hy;have h2:=S4.o.i.lt rfl;have h3:=S4.o.t.lt rfl;dsimp only at h2 h3;exact⟨by omega,by omega⟩
            clear hK IK y0 y1 y2 y3 y4 c3 S4 V aV;go_wp2_with fail
            go_loopw [8,12] (λvt vi B=>∃(j:Nat)(g:Option Addr)(aa:Nat)(s I2:List Int),j<=p.kids.length/\vi=.int .i64 (j:Int)/\vt=.slice g s.length aa/\Stq w B d A N g aa s I2 ((z:Int)::U)/\(∀y∈s,y∈G)/\s.length=m+j/\Q.Gw 3 1 B aK cK p.kids.length (Q.vi p.kids)/\(∀x y,g=some x->aK=some y->x.block≠y.block)) (λ_ vi _=>p.kids.length-(intOf vi).toNat)
            case atStart=>exact⟨0,some ⟨aw,0,none⟩,C,S',I,an _,rfl,by rw[HM.o],S7.o,aU.o,HM.o,L.o,λx y f hy=>by cases f;exact(aI.o y hy).2⟩
            case round=>
             clear S7 L;obtain⟨j,g,aa,s,I2,hj,rfl,rfl,Y,i,ao,aX,aZ⟩:=hrel;have F:=gW Y;have G8:=gW i;have L8:=gW ao;have L:=gW aX;have AP:=gW aZ;have bR:=K8.o;clear Y i ao aX aZ;by_cases aA:j<p.kids.length
             . have bO:(j:Int)<(p.kids.length:Int):=by omega
               have bM:(0:Int)<=(j:Int):=by omega
               obtain⟨gk,rfl⟩:=L.o.addr (by omega)
               have kc:=L.o.cell (show(Q.vi p.kids)[j]?=some (.int .i64 (p.kids.getD j 0)) by simp[Q.vi,aA])
               have aP:=KK.o (p.kids.getD j 0) (by simp[aA])
               have VG:=gW aP;have bw:=ag.o _ (by obtain⟨p2,br,_⟩:=aF.o _ aP;rw[br];rfl)
               obtain⟨v,hv⟩:∃v,p.kids.getD j 0=v:=⟨_,rfl⟩;rw[hv] at kc bw VG;obtain⟨y,rfl⟩:∃y:Nat,v=(y:Int):=⟨v.toNat,by omega⟩
               clear hv aP;have b5:(0:Int)<=(y:Int):=by omega
               have b6:(y:Int)<(N:Int)+1:=by omega
               obtain⟨i0,f0⟩:=F.o.iAt (k:=y) (by omega)
               obtain⟨iv,ak⟩:∃v,I2.getD y 0=v:=⟨_,rfl⟩;rw[ak] at i0;clear ak;go_upto_region 26 with fail
               obtain⟨sv,a6⟩:∃v,wrap64 (iv+1)=v:=⟨_,rfl⟩;simp only[a6];clear a6;have S9:=gW (F.o.setI y sv);have bs:But (λk=>k=d) wr (wr.setCell ⟨d,y,none⟩ (.int .i64 sv)):=(But.refl (λk=>k=d) wr).setCell (p:=⟨d,y,none⟩) (λ_=>rfl) _
               have K9:=gW (L.o.but bs (λx f e=>(aI.o x f).1 e))
               have bx:=(bs.cell (p:=⟨gk,j,none⟩) (block_lt_of_cell kc) (λe=>(aI.o _ rfl).1 e)).trans kc
               clear F L i0 f0 kc bs;generalize wr.setCell ⟨d,y,none⟩ (.int .i64 sv)=w9 at *;generalize I2.set y sv=I3 at *;have T:=gW (al w9 (.cells #[.int .i64 (y:Int)] 3));have Y5:=gW (ah w9 (.cells #[.int .i64 (y:Int)] 3));have G5:=gW (S9.o.keep T.o);have bF:s.length<=700000:=by have:=L8.o;have:=K8.o;omega
               have bq:s.length+1<=maxLen:=by unfold maxLen;omega
               go_wp2_with (at_builtin;refine i5 underlying22 kG rfl (by decide) rfl _ _ rfl g s.length aa (Q.vi s) rfl G5.o.t ⟨w9.heap.size,0,none⟩ 1 [Value.int .i64 (y:Int)] rfl rfl (kO Y5.o) (λu hu=>by rw[aM.1 hu];rfl) bq (by omega) ?_)
               intro g5 c5 w5 E aN hB;have I5:=gW (G5.o.push (x:=(y:Int)) E aN hB);have K5:=gW ((K9.o.keep T.o).but hB (λx f ⟨q,hq,e⟩=>AP.o q x hq f e))
               have bc:Hid (∀x q,(some ⟨g5,0,none⟩:Option Addr)=some x->(some ⟨gk,0,none⟩:Option Addr)=some q->x.block≠q.block):=λx q f hq=>by
                cases f;rcases aN _ rfl with⟨u,hu,e⟩|e
                . have:=AP.o u q hu hq;rw[<-e];exact this
                . have h1:=(K9.o.keep T.o).lt hq;have e:(w9.alloc (.cells #[.int .i64 (y:Int)] 3)).heap.size<=g5:=e;show g5≠q.block;omega
               clear E aN hB T Y5 G5 bx;go_wp2_with fail
               go_roundw
               case rel=>exact⟨j+1,some ⟨g5,0,none⟩,c5,s++[(y:Int)],I3,by omega,by first|(go_num;done)|exact bf (Value.int IntKind.i64) (by omega),by simp,I5.o,λu hu=>by
                rcases bG.1 hu with hu|hu
                . exact G8.o u hu
                . rw[aM.1 hu];exact VG.o,by rw[af,L8.o];rfl,K5.o,bc.o⟩
               case measure=>(simp[intOf];omega)
             . obtain rfl:j=p.kids.length:=by omega
               have ce:¬(p.kids.length:Int)<(p.kids.length:Int):=by omega
               have FR:Hid (StL w G d A N (1120000+s.length-16*(U.length+1)) (.slice g s.length aa) wr):=⟨g,aa,s,I2,(z:Int)::U,rfl,F.o,G8.o,e8.2 ⟨bz.o,ND.o⟩,λu hu=>by
                rcases bN.1 hu with rfl|hu
                . exact XG.o
                . exact GG.o u hu,by rw[a7];have:=L8.o;have:=K8.o;have:=SL.o;omega,by rw[a7];have:=L8.o;have:=ac.o;omega⟩
               go_wp2_with fail
               go_roundw
               case rel=>exact⟨_,FR.o⟩
               case measure=>
                refine DX (P:=λn=>StL w G d A N n (.slice g s.length aa) wr) (m:=1120000+s.length-16*(U.length+1)) _ _ FR.o EX.o ?_
                intro k hk;have:=ax.o k hk;have:=NN.o;have:=L8.o;have:=K8.o;have:=ac.o;omega
def TreR(w w':World)(e:Ending)(rd:Int->Option Pg)(L:List Tr):Prop:=∃(t:Tr)(B:Bool),e=.returned (.tuple #[.agg #[.int .i64 t.root,.int .i64 t.height,.int .i64 t.items],.bool B])/\Below w.heap.size w w'/\(B=true->chk rd t=0)
theorem kM:(prog.info? 34).map (·.size)=some 3:=by kernel_rfl
theorem yH(w:World)(rb:Nat)(D:Rd)(col:Nat->Nat)(x:Rq w rb D col)(s:ix (rdR D))(N:Option Addr)(U:Nat)(L:List Tr)(y:Trs w N L)(z:Int):
 Calls prog 9 #[.pointer (some ⟨rb,0,none⟩),.slice N L.length U,.int .i64 z] w λe w'=>TreR w w' e (rdR D) L:=by
 have i:=gW (al w (.cells #[.int .i64 0,.int .i64 0,.int .i64 0] 34));have m:=gW (ah w (.cells #[.int .i64 0,.int .i64 0,.int .i64 0] 34));by_cases hz:z<0\/(L.length:Int)<=z
 . clear x s y;rcases hz with hz|hz
   . go_enter func9,ntmps9;go_wp2_with (first|(refine bz rfl 34 _ _ rfl w.heap.size _ rfl rfl 34 _ m.o kM rfl (by simp[Value.oneCell']) ?_)|fail)
     refine aF (v:=.tuple #[.agg _,_]) (jw results9 _ _ w.heap.size 34 _ (0,0) _ rfl (br _ _ _ _ _ _ m.o) underlying34 rfl kM) rfl ?_;exact⟨⟨0,0,0⟩,false,rfl,((But.ofBelow (S:=λk=>k=w.heap.size) i.o).trans (Q.gZ _ _ _) (λ_ _ e=>e)).below (λk hk e=>by have e:k=w.heap.size:=e;omega),λh=>by cases h⟩
   . have ad:¬z<0:=by omega
     go_enter func9,ntmps9;go_wp2_with (first|(refine bz rfl 34 _ _ rfl w.heap.size _ rfl rfl 34 _ m.o kM rfl (by simp[Value.oneCell']) ?_)|fail)
     refine aF (v:=.tuple #[.agg _,_]) (jw results9 _ _ w.heap.size 34 _ (0,0) _ rfl (br _ _ _ _ _ _ m.o) underlying34 rfl kM) rfl ?_;exact⟨⟨0,0,0⟩,false,rfl,((But.ofBelow (S:=λk=>k=w.heap.size) i.o).trans (Q.gZ _ _ _) (λ_ _ e=>e)).below (λk hk e=>by have e:k=w.heap.size:=e;omega),λh=>by cases h⟩
 . obtain⟨k,rfl⟩:∃k:Nat,z=(k:Int):=⟨z.toNat,by omega⟩
   have hk:k<L.length:=by omega
   have Z:¬(k:Int)<0:=by omega
   have ac:¬(L.length:Int)<=(k:Int):=by omega
   have aa:(k:Int)<(L.length:Int):=by omega
   have ab:(0:Int)<=(k:Int):=by omega
   obtain⟨g,d,rfl,q⟩:=y k hk;obtain⟨t,P⟩:∃t,L.getD k ⟨0,0,0⟩=t:=⟨_,rfl⟩;rw[P] at q;have A:w.cell? ⟨g,d+k*3,none⟩=some (.int .i64 t.root):=q 0 _ rfl;have C:w.cell? ⟨g,d+k*3+1,none⟩=some (.int .i64 t.height):=q 1 _ rfl;have E:w.cell? ⟨g,d+k*3+2,none⟩=some (.int .i64 t.items):=q 2 _ rfl;have r:Hid (∀W:World,Below w.heap.size w W->W.cell? ⟨g,d+k*3,none⟩=some (.int .i64 t.root)/\W.cell? ⟨g,d+k*3+1,none⟩=some (.int .i64 t.height)/\W.cell? ⟨g,d+k*3+2,none⟩=some (.int .i64 t.items)):=λW hb=>⟨(hb.cell (p:=⟨g,d+k*3,none⟩) (block_lt_of_cell A)).trans A,(hb.cell (p:=⟨g,d+k*3+1,none⟩) (block_lt_of_cell C)).trans C,(hb.cell (p:=⟨g,d+k*3+2,none⟩) (block_lt_of_cell E)).trans E⟩
   have T:=gW λ(W:World)(hb:Below w.heap.size w W)(a:Option Addr)(c:Nat)(h:Trs W a [t])=>xO W rb D col (x.keep hb) s a c t h
   clear x s y q P A C E hz;go_enter func9,ntmps9;go_upto_region 3 with fail
   generalize w.alloc (.cells #[.int .i64 0,.int .i64 0,.int .i64 0] 34)=f at *;have I:=gW (bt i.o (dr2 f));refine bA (S:=λW=>W.cell? ⟨g,d+k*3,none⟩=some (.int .i64 t.root)/\W.cell? ⟨g,d+k*3+1,none⟩=some (.int .i64 t.height)/\W.cell? ⟨g,d+k*3+2,none⟩=some (.int .i64 t.items)) (by kernel_rfl) (r.o _ I.o) (λhHeld=>?_)
   refine tkd 0 1 2 3 ?_;refine tkd 4 5 6 7 ?_;refine tk 8 ?_;refine tw 9 λJ n=>?_
   go_simp;have l:=gW (show Below f.heap.size f (f.alloc (.cells #[.int .i64 t.root,.int .i64 t.height,.int .i64 t.items] 34)).drew from(al f _).drew)
   have K:Hid (Trs (f.alloc (.cells #[.int .i64 t.root,.int .i64 t.height,.int .i64 t.items] 34)).drew (some ⟨f.heap.size,0,none⟩) [t]):=λj V=>by
    obtain rfl:j=0:=by simpa using V
    refine⟨f.heap.size,0,rfl,λk u X=>?_⟩
    show(f.alloc (.cells #[.int .i64 t.root,.int .i64 t.height,.int .i64 t.items] 34)).cell? _=_;rw[am _ _ _ _ _ _ (ah f _),<-X];simp[Tr.cs]
   refine n.o _ _ (r.o _ (bt i.o l.o)) (λhHeld=>?_)
   refine tw 10 λJ n=>?_
   go_simp;refine(T.o _ (bt i.o l.o) _ 1 K.o).mono ?_;rintro _ Y ⟨B,rfl,F,O⟩;have G:=gW (bt (bt i.o l.o) F);have M:=gW (iy (iy m.o l.o) F);have R:=gW O;clear F O l K I;go_wp2_with fail
   refine n.o _ _ (r.o _ G.o) (λhHeld=>?_)
   refine tw 11 λJ n=>?_
   rw[if_pos (by rfl)]
   refine fF 34 _ _ rfl w.heap.size #[.int .i64 t.root,.int .i64 t.height,.int .i64 t.items] (by simp[Act.eval]) (by simp[Act.eval]) 34 _ M.o kM rfl (by simp[Value.oneCell']) ?_
   have H:=gW (((But.ofBelow (S:=λk=>k=w.heap.size) G.o).trans (Q.gZ Y w.heap.size #[.int .i64 t.root,.int .i64 t.height,.int .i64 t.items]) (λ_ _ e=>e)).below (λk hk e=>by have e:k=w.heap.size:=e;omega))
   refine n.o _ _ (r.o _ H.o) (λhHeld=>?_)
   refine tk 12 ?_;refine td ?_;go_wp2_with fail
   refine aF (v:=.tuple #[.agg _,_]) (jw results9 _ _ w.heap.size 34 _ (0,0) _ rfl (br _ _ _ _ _ _ M.o) underlying34 rfl kM) rfl ?_;exact⟨t,B,rfl,H.o,R.o⟩
end Go.Proofs.YteaogidofpfmmaaGreat
