import Derived.Test.YteaogidofpfmmaaGreatWaB19
import Derived.WalkMore
set_option linter.all false
set_option maxHeartbeats 16000000
set_option maxRecDepth 10000
namespace Go.Proofs.YteaogidofpfmmaaGreat
open Go.Proofs.Tryz
open Go.RowKit Go.Shelf
attribute [local go_sem] Oper.semAt_some
variable {x:Addr}{rd:Int->Option Pg}{y:Iv}{G:List Int}{L OL:List Iv}{c k m mb n:Nat}{F Fc S:Nat->Prop}{a:Option Addr}{A B V W:World}
def pst{τ:Type}(Y:Yc τ)(rd:Int->Option Pg)(r:Rg)(c:τ)(x:It):τ:=if has r x.key=false then c else if (ldI rd x).1≠0 then Y.ybad c (ldI rd x).1 else Y.yl c (jQ rd x)
theorem rZ{τ:Type}{Y:Yc τ}(b:∀c e,e≠0->Y.ystp (Y.ybad c e)=true){rd:Int->Option Pg}{r:Rg}:∀(L:List It)(c:τ),Y.ystp c=false->pit Y rd r L c=flw (pst Y rd r) Y.ystp L c
 | [],c,_=>rfl
 |x::L,c,h=>by
  unfold pit;rw[jB];unfold pst;by_cases h1:has r x.key=false
  . rw[if_pos h1,if_pos h1,if_neg (by rw[h];decide)]
    exact rZ b L c h
  . rw[if_neg h1,if_neg h1];by_cases h2:(ldI rd x).1≠0
    . rw[if_pos h2,if_pos h2,if_pos (b _ _ h2)]
    . rw[if_neg h2,if_neg h2];by_cases h3:Y.ystp (Y.yl c (jQ rd x))=true
      . rw[if_pos h3,if_pos h3]
      . rw[if_neg h3,if_neg h3];exact rZ b L _ (by simpa using h3)
structure Unt(Fc:Nat->Prop)(V:World)(y:Iv):Prop where
 rw:∀t∈y.rows,Rw V t.a t.c t.l/\B8 t.l/\∀x,t.a=some x->¬Fc x.block
 ns:N64 y.child/\N64 y.size
theorem Unt.ii(h:Unt Fc V y):Ii V y:=by
 have hk:=h.rw ⟨y.aK,y.cK,y.key⟩ (by simp[Iv.rows])
 have b:=h.rw ⟨y.aV,y.cV,y.val⟩ (by simp[Iv.rows])
 exact⟨hk.1.bs hk.2.1 hk.1.len_le,hk.1.cap,b.1.bs b.2.1 b.1.len_le,b.1.cap,h.ns.1,h.ns.2⟩
theorem Unt.but{Fc':Nat->Prop}{d:World}(h:Unt Fc V y)(hb:But S V d)(f:∀t∈y.rows,∀x,t.a=some x->¬S x.block)(e:∀t∈y.rows,∀x,t.a=some x->¬Fc' x.block):Unt Fc' d y:=⟨λt b=>⟨(h.rw t b).1.but hb (f t b),(h.rw t b).2.1,e t b⟩,h.ns⟩
def kI(L:List Iv)(k:Nat):Prop:=∃t∈ji L,∃x,t.a=some x/\x.block=k
theorem mN(d:y∈L){t:Br}(b:t∈y.rows):t∈ji L:=d7.2 ⟨y.rows,bE.2 ⟨y,d,rfl⟩,b⟩
def apI(x y:Iv):Prop:=∀s∈x.rows,∀t∈y.rows,jE s t
theorem apI.symm{x:Iv}(h:apI x y):apI y x:=λs b t d=>(h t d s b).symm
theorem yB{L:List Iv}(h:(ji L).Pairwise jE):L.Pairwise apI:=by
 induction L with
 |nil=>exact .nil
 |cons x L ih=>
  rw[pV,dE] at h;exact .cons (λy e s b t d=>h.2.2 s b t (mN e d)) (ih h.2.1)
theorem yZ{o:Bool}(h:L.Pairwise apI):(iW o L).Pairwise apI:=by
 unfold iW;split
 . exact h
 . exact List.pairwise_reverse.2 (h.imp λh=>h.symm)
def EnR{τ:Type}(Y:Yc τ)(cn:τ->Nat)(B:Nat)(s:τ)(W0 W1:World)(vals:Array Value)(s':τ)(er:Bool)(Gv:Nat->Prop):Prop:=
 (∃K V:Br,vals=#[.agg #[.slice K.a K.l.length K.c,.slice V.a V.l.length V.c],.int .i64 0]/\Rw W1 K.a K.c K.l/\B8 K.l/\Rw W1 V.a V.c V.l/\B8 V.l/\jE K V/\s'=Y.yl s (K.l,V.l)/\er=false/\cn s<B/\∀k,Gv k↔((∃x,K.a=some x/\x.block=k)\/∃x,V.a=some x/\x.block=k))\/
 (∃e:Nat,vals=#[.agg #[.slice none 0 0,.slice none 0 0],.int .i64 (e:Int)]/\e≠0/\s'=Y.ybad s e/\er=true/\∀k,¬Gv k)
theorem Ci(w:World)(h t q:Array Value):∃U:World,(((w.alloc (.cells h 165)).alloc (.map #[] 0)).alloc (.cells t 143)).setRow (w.heap.size+1+1) q=U/\U.heap[w.heap.size]?=some (.cells h 165 (0,0))/\Mp U (w.heap.size+1) (gnf [])/\U.heap[w.heap.size+2]?=some (.cells q 143 (0,0))/\Below w.heap.size w U/\U.heap.size=w.heap.size+3:=by
 obtain⟨b,i⟩:∃U,w.alloc (.cells h 165)=U:=⟨_,rfl⟩;obtain⟨d,j⟩:∃U,b.alloc (.map #[] 0)=U:=⟨_,rfl⟩;obtain⟨f,l⟩:∃U,d.alloc (.cells t 143)=U:=⟨_,rfl⟩;obtain⟨g,p⟩:∃U,f.setRow (w.heap.size+1+1) q=U:=⟨_,rfl⟩;have C:b.heap.size=w.heap.size+1:=by rw[<-i,size_alloc]
 have D:d.heap.size=w.heap.size+2:=by rw[<-j,size_alloc,C]
 have H:f.heap.size=w.heap.size+3:=by rw[<-l,size_alloc,D]
 have I:g.heap.size=w.heap.size+3:=by rw[<-p,<-H];simp
 have E:Below w.heap.size w b:=by rw[<-i];exact al _ _
 have v:Below b.heap.size b d:=by rw[<-j];exact al _ _
 have r:Below d.heap.size d f:=by rw[<-l];exact al _ _
 have s:But (λk=>k=w.heap.size+2) f g:=by rw[<-p];exact Q.iD _ _ _
 have J:b.heap[w.heap.size]?=some (.cells h 165 (0,0)):=by rw[<-i];exact ag _ _
 have K:Mp d (w.heap.size+1) (gnf []):=by rw[<-C,<-j];exact(Mp.made _).congr (λk=>by simp[gnf])
 have M:f.heap[w.heap.size+2]?=some (.cells t 143 (0,0)):=by rw[<-D,<-l];exact ag _ _
 have N:g.heap[w.heap.size+2]?=some (.cells q 143 (0,0)):=by rw[<-p];exact bu _ _ _ _ _ _ M
 refine⟨g,by rw[i,j,l,p],?_,?_,N,?_,I⟩
 . exact s.same ((bt v r).block _ (by omega) |>.trans J) (λe=>by omega)
 . exact(K.keep r).but s (λe=>by omega)
 . exact(((But.ofBelow (S:=λk=>k=w.heap.size+2) (bt (bt E v) r)).trans s (λ_ _ e=>e)).below (λk hk e=>by omega))
def StP{τ:Type}(Y:Yc τ)(rd:Int->Option Pg)(cn:τ->Nat)(s:Pst τ):Prop:=Y.ystp s.c=false/\Gok rd s.G/\cn s.c<=8*s.G.length
def StI{τ:Type}(Y:Yc τ)(rd:Int->Option Pg)(cn:τ->Nat)(G:List Int)(m:Nat)(c:τ):Prop:=Y.ystp c=false/\Gok rd G/\cn c+m<=8*G.length
theorem StI.skip{τ:Type}{Y:Yc τ}{b:τ->Nat}{c:τ}(h:StI Y rd b G (m+1) c):StI Y rd b G m c:=⟨h.1,h.2.1,by have:=h.2.2;omega⟩
theorem StI.less{τ:Type}{Y:Yc τ}{b:τ->Nat}{c:τ}(h:StI Y rd b G (m+1) c){N:Nat}(d:jx rd N):b c<8*N:=by
 have e:=h.2.1.len d;have f:=h.2.2;omega
theorem StI.yl{τ:Type}{Y:Yc τ}{b:τ->Nat}(e:∀c p,b (Y.yl c p)<=b c+1){c:τ}(h:StI Y rd b G (m+1) c){p:List Nat×List Nat}(d:Y.ystp (Y.yl c p)=false):StI Y rd b G m (Y.yl c p):=⟨d,h.2.1,by have:=h.2.2;have:=e c p;omega⟩
theorem StP.inn{τ:Type}{Y:Yc τ}{b:τ->Nat}{s:Pst τ}(h:StP Y rd b s){n:Int}{p:Pg}(e:rd n=some p)(d:n∉s.G)(f:m<=8):StI Y rd b (n::s.G) m s.c:=⟨h.1,h.2.1.cons e d,by have:=h.2.2;rw[a7];omega⟩
theorem StI.o{τ:Type}{Y:Yc τ}{b:τ->Nat}{c:τ}(h:StI Y rd b G m c){s:Pst τ}(d:s.G=G)(e:s.c=c):StP Y rd b s:=⟨by rw[e];exact h.1,by rw[d];exact h.2.1,by rw[e,d];have:=h.2.2;omega⟩
theorem Bh:(prog.info? 143).map (·.size)=some 4:=by kernel_rfl
def PrI{τ:Type}(J:(Nat->Prop)->τ->World->Prop)(Y:Yc τ)(rd:Int->Option Pg)(cn:τ->Nat)(mb:Nat)(F:Nat->Prop)(s:Pst τ)(V:World):Prop:=∃Fc:Nat->Prop,(∀k,F k↔(Fc k\/k=mb))/\¬Fc mb/\J Fc s.c V/\StP Y rd cn s/\Mp V mb (gnf s.G)
def PrX{τ:Type}(J Jx:(Nat->Prop)->τ->World->Prop)(Y:Yc τ)(mb:Nat)(id:Nat)(c:Code)(F:Nat->Prop)(s:Pst τ)(V:World):Prop:=∃Fc:Nat->Prop,(∀k,F k↔(Fc k\/k=mb))/\¬Fc mb/\mb<V.heap.size/\c=.exit id/\Y.ystp s.c=true/\(J Fc s.c V\/Jx Fc s.c V)
def InI{τ:Type}(J:(Nat->Prop)->τ->World->Prop)(Y:Yc τ)(rd:Int->Option Pg)(cn:τ->Nat)(mb:Nat)(L OL:List Iv)(G:List Int)(F:Nat->Prop)(s:List Iv×τ)(V:World):Prop:=∃Fc:Nat->Prop,(∀k,F k↔(Fc k\/kI L k))/\¬Fc mb/\J Fc s.2 V/\StI Y rd cn G s.1.length s.2/\(∃pre,OL=pre++s.1)/\(∀y∈s.1,Unt Fc V y)/\Mp V mb (gnf G)/\(∀k,kI L k->k<V.heap.size)
def InX{τ:Type}(J Jx:(Nat->Prop)->τ->World->Prop)(Y:Yc τ)(mb:Nat)(L:List Iv)(c:Code)(F:Nat->Prop)(s:List Iv×τ)(V:World):Prop:=∃Fc:Nat->Prop,(∀k,F k↔(Fc k\/kI L k))/\¬Fc mb/\c=.exit 0/\Y.ystp s.2=true/\(J Fc s.2 V\/Jx Fc s.2 V)/\(∀k,kI L k->k<V.heap.size)/\mb<V.heap.size
theorem InI.abid{τ:Type}{J:(Nat->Prop)->τ->World->Prop}{Y:Yc τ}{i:τ->Nat}{s:List Iv×τ}(h:InI J Y rd i mb L OL G F s A)(I:∀y∈OL,y∈L)(p:mF m J)(hb:But (λk=>¬F k/\n<=k) A B)(H:m<=n)(M:mb<n):InI J Y rd i mb L OL G F s B:=by
 obtain⟨Fc,d,q,r,v,j,l,C,D⟩:=h
 have K:∀y∈s.1,y∈L:=λy b=>by
  obtain⟨pre,e⟩:=j;exact I y (by rw[e];exact dQ _ b)
 exact⟨Fc,d,q,p Fc _ A B r (hb.mono λk _ e=>⟨λE=>e.1 ((d k).2 (.inl E)),ay H e.2⟩),v,j,λy b=>(l y b).but hb (λt f x g e=>e.1 ((d _).2 (.inr ⟨t,mN (K y b) f,x,g,rfl⟩))) (λt f x g=>((l y b).rw t f).2.2 x g),C.but hb (λe=>by have:=e.2;omega),λk hk=>a6 (D k hk) hb.size⟩
theorem InI.siz{τ:Type}{J:(Nat->Prop)->τ->World->Prop}{Y:Yc τ}{b:τ->Nat}{s:List Iv×τ}(h:InI J Y rd b mb L OL G F s A)(g:oA J):∀k,F k->k<A.heap.size:=λk hk=>by
 obtain⟨Fc,d,i,e,j,l,p,q,f⟩:=h;rcases (d k).1 hk with h|h
 . exact g _ _ _ e k h
 . exact f k h
theorem InX.abid{τ:Type}{J d:(Nat->Prop)->τ->World->Prop}{Y:Yc τ}{c:Code}{s:List Iv×τ}(h:InX J d Y mb L c F s A)(g:mF m J)(v:mF m d)(hb:But (λk=>¬F k/\n<=k) A B)(b:m<=n):InX J d Y mb L c F s B:=by
 obtain⟨Fc,f,i,j,l,p,q,r⟩:=h;have b:But (λk=>¬Fc k/\m<=k) A B:=hb.mono λk _ e=>⟨λt=>e.1 ((f k).2 (.inl t)),ay b e.2⟩
 exact⟨Fc,f,i,j,l,p.imp (λh=>g Fc _ A B h b) (λh=>v Fc _ A B h b),λk hk=>a6 (q k hk) hb.size,a6 r hb.size⟩
theorem InX.siz{τ:Type}{J d:(Nat->Prop)->τ->World->Prop}{Y:Yc τ}{c:Code}{s:List Iv×τ}(h:InX J d Y mb L c F s A)(i:oA J)(j:oA d):∀k,F k->k<A.heap.size:=λk hk=>by
 obtain⟨Fc,e,l,p,q,f,g,r⟩:=h;rcases (e k).1 hk with h|h
 . exact f.elim (λb=>i _ _ _ b k h) (λb=>j _ _ _ b k h)
 . exact g k h
theorem lI{bu:Type}(Y:Yc bu)(aR:∀c e,e≠0->Y.ystp (Y.ybad c e)=true)(rd:Int->Option Pg)(hA:iF rd)(cn:bu->Nat)(cH:∀c p,cn (Y.yl c p)<=cn c+1)(b6:Nat)(hN:jx rd b6)(aM:Nat)(XV:Nat->Prop)(w:World)(t1 t2 t3 t4:Nat)(root Z b5:Int)(h2:1<=Z)(h3:Z<=12)(r:Rv)(o:Bool)
 (bR:w.heap[t1]?=some (.cells #[.int .i64 root,.int .i64 Z,.int .i64 b5] 34 (0,0))) (bS:w.heap[t2]?=some (.cells r.cs 62 (0,0))) (bl:w.cell? ⟨t3,0,none⟩=some (.pointer (some ⟨aM,0,none⟩))) (bm:w.cell? ⟨t4,0,none⟩=some (.int .i64 (if o=true then 0 else 1)))
 (cC:Ri w r) (dw:Rb r) (hR:i9 52 (.pointer (some ⟨aM,0,none⟩)) rd XV w) (hX:∀k,XV k->k<w.heap.size) (cE:∀k,i5 r k->k<w.heap.size) (s0:bu) (bW:Y.ystp s0=false) (cG:cn s0=0):
 mh prog 86 #[.pointer (some ⟨t1,0,none⟩),.pointer (some ⟨t2,0,none⟩),.pointer (some ⟨t3,0,none⟩),.pointer (some ⟨t4,0,none⟩)] Y.ystp (EnR Y cn (8*b6)) (λ_=>False) (λ_ _=>True) s0
  (λs=>s=(iE (prM Y rd r.rg o) rd (iU r.rg) o (Z-1).toNat ⟨[],s0⟩ (ja root Z)).c) w (λk=>k=t1\/k=t2\/k=t3\/k=t4\/XV k\/i5 r k):=by
 intro aE ao Jx W F0 hW hS aJ sJ cv cN bk hY h0;have cY:=ix (hW.same bR (λh=>h (.inl rfl)))
 have dV:=ix (hW.same bS (λh=>h (.inr (.inl rfl))))
 have cZ:=ix ((hW.cell (p:=⟨t3,0,none⟩) (block_lt_of_cell bl) (λh=>h (.inr (.inr (.inl rfl))))).trans bl)
 have bq:=ix ((hW.cell (p:=⟨t4,0,none⟩) (block_lt_of_cell bm) (λh=>h (.inr (.inr (.inr (.inl rfl)))))).trans bm)
 have RI:=ix (cC.but hW (λk hk h=>h (.inr (.inr (.inr (.inr (.inr hk)))))))
 have RW:=ix (hR.but hW (λk h hk=>h (.inr (.inr (.inr (.inr (.inl hk)))))))
 have dD:=hW.size;have L1:=(ae.1 bR).1;have L2:=(ae.1 bS).1;have L3:t3<w.heap.size:=block_lt_of_cell bl;have L4:t4<w.heap.size:=block_lt_of_cell bm
 have I:Hid (∀k,(k=t1\/k=t2\/k=t3\/k=t4\/XV k\/i5 r k)->k<W.heap.size):=ix (λk hk=>by
  rcases hk with rfl|rfl|rfl|rfl|hk|hk
  . omega
  . omega
  . omega
  . omega
  . have:=hX k hk;omega
  . have:=cE k hk;omega)
 have HS:=ix hS;have AJ:=ix aJ;have SJ:=ix sJ;have bv:=ix cv;have cr:=ix cN;have YY:=ix hY;have J0:=ix h0;have a4:=ix (sJ _ _ _ h0);have HA:=ix hA;clear hW bR bS bl bm cC hR hS aJ sJ cv cN bk hY h0 hX cE L1 L2 L3 L4 dD hA;obtain⟨ov,bV⟩:∃ov:Int,(if o=true then (0:Int) else 1)=ov:=⟨_,rfl⟩
 have ch:=ix bV;rw[bV] at bq;clear bV;have d5:((decide (root=0)&&(decide (Z=0)&&decide (b5=0))))=false:=by simp;omega
 have K:=λ(W:World)(k:Nat)(cs:Array Value)(t:TypeId)(e:W.heap.size=k)=>(e▸ag W (.cells cs t):(W.alloc (.cells cs t)).heap[k]?=some (.cells cs t (0,0)))
 have dC:= @run_makeMap prog;have A1:=ix (al W (.cells #[.func (.yield aE) #[] #[]] 165));obtain⟨c1,c2,c3⟩:=je ((A1.o.block t1 (I.o t1 (.inl rfl))).trans cY.o);have c4:=(A1.o.cell (p:=⟨t3,0,none⟩) (I.o t3 (.inr (.inr (.inl rfl))))).trans cZ.o;have c5:=(A1.o.cell (p:=⟨t4,0,none⟩) (I.o t4 (.inr (.inr (.inr (.inl rfl)))))).trans bq.o;have A2:=ix (bt A1.o (al (W.alloc (.cells #[.func (.yield aE) #[] #[]] 165)) (.map #[] 0)));have du:=(A2.o.cell (p:=⟨t4,0,none⟩) (I.o t4 (.inr (.inr (.inr (.inl rfl)))))).trans bq.o;refine dM func86 rfl trivial ?_ rfl;simp only[ntmps86,cR,a7,bg,Nat.reduceAdd,Nat.reduceSub,cx,cM,dg,c7,b9,b7];refine d6.2 ?_;go_upto_region 1 with fail
 refine wp_scope_straight ?_;go_upto_region 4 with(first|(refine bz rfl 143 _ _ rfl (W.heap.size+1+1) _ rfl rfl 143 _ (K _ _ _ _ (by simp[size_alloc])) Bh rfl (by simp[Value.oneCell']) ?_)|fail)
 apply wp_label;have RO:=ix (λ(W:World)=>rp W root Z b5 h2 h3)
 obtain⟨a2,hU,Y0,XM,X3,BU,sU⟩:=Ci W #[.func (.yield aE) #[] #[]] #[.pointer none,.map none,.nilFunc,.int .i64 0] #[.pointer (some ⟨aM,0,none⟩),.map (some (W.heap.size+1)),.func (.func 87) #[] #[.pointer (some ⟨t2,0,none⟩)],.int .i64 ov];rw[hU];clear hU K dC c1 c2 c3 c4 c5 du A1 A2;have Y0:=ix Y0;have XM:=ix XM;have X3:=ix X3;have BU:=ix BU;obtain⟨c1,c2,c3⟩:=je ((BU.o.block t1 (I.o t1 (.inl rfl))).trans cY.o);have ST:=ix (λ(W':World)=>pk W' (W.heap.size+2) ⟨root,Z-1,⟨none,0,[],none,0,[],true⟩⟩)
 unfold Plv.vl at ST;simp only[Plv.cs,bg] at ST;go_wp2_with fail
 refine(RO.o _).mono ?_;rintro _ U1 ⟨rfl,cF⟩;have B1:=ix cF;clear cF RO;go_wp2_with fail
 refine(ST.o _).mono ?_;rintro _ U2 ⟨rfl,bQ⟩;obtain⟨w1,w2,a3,dJ⟩:=iS U1 (.cells #[.pointer (some ⟨W.heap.size+2,0,none⟩)] 198) (.cells #[.int .i64 root,.int .i64 (Z-1),.slice none 0 0,.slice none 0 0,.bool true] 148) (Below.refl _ _);have ek:U2.heap.size=U1.heap.size+2:=by rw[bQ,size_alloc,size_alloc]
 rw[<-bQ] at w1 w2 a3 dJ;have em:=ix a3;have B2:=ix (bt B1.o a3);have k1:U2.cell? ⟨U1.heap.size,0,none⟩=some (.pointer (some ⟨W.heap.size+2,0,none⟩)):=by rw[ai _ _ _ _ _ _ w1];rfl
 have W2:=ix w2;have W1:=ix k1;have d8:a2.heap.size<=U1.heap.size:=B1.o.size;have aa:=ix (bt BU.o B2.o);have dj:=ix ((B2.o.block (W.heap.size+2) (ae.1 X3.o).1).trans X3.o);have ci:=ix (RW.o.keep aa.o);have R2:=ix ((aa.o.block t2 (I.o t2 (.inr (.inl rfl)))).trans dV.o);have cp:=ix (RI.o.keep aa.o);have V2:=ix ((aa.o.cell (p:=⟨t3,0,none⟩) (I.o t3 (.inr (.inr (.inl rfl))))).trans cZ.o);have O2:=ix ((aa.o.cell (p:=⟨t4,0,none⟩) (I.o t4 (.inr (.inr (.inr (.inl rfl)))))).trans bq.o);have Y2:=ix ((B2.o.block W.heap.size (ae.1 Y0.o).1).trans Y0.o);have M2:=ix (XM.o.keep B2.o)
 have TT:Hid (Tou U2 (W.heap.size+2) (W.heap.size+1) aM 87 #[.pointer (some ⟨t2,0,none⟩)] o rd XV (iU r.rg) (λk=>k=t2\/i5 r k)):=ix ⟨by rw[dj.o];unfold pE;rw[ch.o],ci.o,xj U2 t2 r R2.o cp.o dw,λk h=>by have:=I.o k (.inr (.inr (.inr (.inr (.inl h)))));omega,λk h=>by
  rcases h with h|h
  . have:=I.o k (.inr (.inl h));omega
  . have:=I.o k (.inr (.inr (.inr (.inr (.inr h)))));omega⟩
 have XX:Hid (∀k,XS (W.heap.size+2) U1.heap.size (U1.heap.size+1) ⟨root,Z-1,⟨none,0,[],none,0,[],true⟩⟩ XV (λk=>k=t2\/i5 r k) k->k<U2.heap.size/\¬(F0 k\/k=W.heap.size+1)):=ix (λk hk=>by
  have g:k=U1.heap.size\/k=U1.heap.size+1\/k=W.heap.size+2\/(k=t1\/k=t2\/k=t3\/k=t4\/XV k\/i5 r k):=by
   rcases hk with h|h|h|h|h|⟨y,f,_⟩|⟨y,f,_⟩
   . exact .inl h
   . exact .inr (.inl h)
   . exact .inr (.inr (.inl h))
   . exact .inr (.inr (.inr (.inr (.inr (.inr (.inr (.inl h)))))))
   . rcases h with h|h
     . exact .inr (.inr (.inr (.inr (.inl h))))
     . exact .inr (.inr (.inr (.inr (.inr (.inr (.inr (.inr h)))))))
   all_goals
    cases f
  have bZ:=a4.o k;rcases g with h|h|h|h
  . exact⟨by omega,λe=>by rcases e with e|e;have:=bZ e;omega;omega⟩
  . exact⟨by omega,λe=>by rcases e with e|e;have:=bZ e;omega;omega⟩
  . exact⟨by omega,λe=>by rcases e with e|e;have:=bZ e;omega;omega⟩
  . have h5:=I.o k h;exact⟨by omega,λe=>by rcases e with e|e;exact HS.o k e h;omega⟩)
 have SQ:=ix (tT (prM Y rd r.rg o) rd HA.o aM (W.heap.size+2) (W.heap.size+1) 87 #[.pointer (some ⟨t2,0,none⟩)] (enters_of func87 (by kernel_rfl) rfl) o XV (iU r.rg) (λk=>k=t2\/i5 r k) (λ_ _=>rfl) (λs=>aR _ _ (by decide)) pR (Z-1).toNat U2 U1.heap.size (U1.heap.size+1) ⟨root,Z-1,⟨none,0,[],none,0,[],true⟩⟩ ⟨[],s0⟩ (by show Z-1<=_;omega) W1.o W2.o ⟨Bs.nil _,am _,Bs.nil _,am _⟩ ⟨an _,an _⟩ (show N64 (Z-1) from⟨by omega,by omega⟩) TT.o bW (λk hk=>(XX.o k hk).1))
 have I2:Hid (PrI ao Y rd cn (W.heap.size+1) (λk=>F0 k\/k=W.heap.size+1) ⟨[],s0⟩ U2):=ix ⟨F0,λk=>dT,λh=>by have:=a4.o _ h;omega,AJ.o F0 s0 W _ J0.o (But.ofBelow aa.o),⟨bW,Gok.nil _,Nat.le_of_eq cG⟩,M2.o⟩
 have di:=ix cH;have HN:=ix hN;clear w1 w2 k1 a3 bQ ST c1 c2 c3 bW cG cH hN;go_wp2_with fail
 refine(d6 (n:=0)).1 ?_
 refine jX (gf:=116) (lb:=#[.pointer (some ⟨U1.heap.size,0,none⟩),.pointer (some ⟨U1.heap.size+1,0,none⟩)]) rfl (enters_of func116 (by kernel_rfl) rfl) SQ.o (But.refl _ _) (λk hk=>(XX.o k hk).1)
  (by rintro s W0 W1 c8 l er Gv (⟨p',q',rfl,_⟩|⟨rfl,_⟩)<;>rfl)
  (λk=>F0 k\/k=W.heap.size+1) (λk hk d=>(XX.o k d).2 hk) (PrI ao Y rd cn (W.heap.size+1)) (PrX ao Jx Y (W.heap.size+1) 0)
  (λF s A B h hb=>by
    obtain⟨Fc,X,q2,q3,q4,q5⟩:=h;exact⟨Fc,X,q2,AJ.o Fc _ A B q3 (hb.mono λk _ e=>⟨λhf=>e.1 ((X k).2 (.inl hf)),by have:=e.2;have:=aa.o.size;omega⟩),q4,q5.but hb (λe=>e.1 ((X _).2 (.inr rfl)))⟩)
  (λF s A h k hk=>by
    obtain⟨Fc,X,q2,q3,q4,q5⟩:=h;rcases (X k).1 hk with h|rfl
    . exact SJ.o _ _ _ q3 k h
    . exact q5.lt)
  (λc F s A B h hb=>by
    obtain⟨Fc,X,q2,q3,q4,q5,q6⟩:=h;have hm:But (λk=>¬Fc k/\W.heap.size<=k) A B:=hb.mono λk _ e=>⟨λhf=>e.1 ((X k).2 (.inl hf)),by have:=e.2;have:=aa.o.size;omega⟩
    exact⟨Fc,X,q2,a6 q3 hb.size,q4,q5,q6.imp (λh=>AJ.o Fc _ A B h hm) (λh=>bv.o Fc _ A B h hm)⟩)
  (λc F s A h k hk=>by
    obtain⟨Fc,X,q2,q3,q4,q5,q6⟩:=h;rcases (X k).1 hk with h|rfl
    . exact q6.elim (λh'=>SJ.o _ _ _ h' k h) (λh'=>cr.o _ _ _ h' k h)
    . exact q3)
  (λF s V h=>by
    obtain⟨Fc,X,q2,q3,q4,q5⟩:=h;exact⟨q5,λk hk=>(X k).2 (.inr hk)⟩)
  I2.o ?round ?done ?stop
 case round=>
  rintro H F s aG N c8 l er Gv ⟨Fc,av,aZ,hJ,bn,hM⟩ aS dx bO en aQ cA dz dA bK ⟨r0,d7⟩;have et:=aS.size;have d4:U2.heap.size<=H:=dz;have dB:H<aG.heap.size:=dA;have de:∀k,W.heap.size<=k->¬F0 k:=λk hk h=>by have:=a4.o k h;omega
  have ay:But (λk=>F0 k\/k=W.heap.size+1) U2 N:=bK.trans (aS.mono (T:=λk=>F0 k\/k=W.heap.size+1) λk _ e=>.inr e) (λ_ _ e=>e)
  have nX:∀k,(k=t1\/k=t2\/k=t3\/k=t4\/XV k\/i5 r k)->¬(F0 k\/k=W.heap.size+1):=λk hk e=>by
   have:=I.o k hk;rcases e with e|e
   . exact HS.o k e hk
   . omega
  have bI:=ix (ay.same Y2.o (λe=>by rcases e with e|e;exact de _ (am _) e;omega))
  have dk:=ix (ay.same R2.o (nX t2 (.inr (.inl rfl))));have dO:=ix (cp.o.but ay (λk hk=>nX k (.inr (.inr (.inr (.inr (.inr hk)))))))
  have ca:=ix ((ay.cell (p:=⟨t3,0,none⟩) (block_lt_of_cell V2.o) (nX t3 (.inr (.inr (.inl rfl))))).trans V2.o);have cl:=ix ((ay.cell (p:=⟨t4,0,none⟩) (block_lt_of_cell O2.o) (nX t4 (.inr (.inr (.inr (.inl rfl)))))).trans O2.o);have dK:=ix (ci.o.but ay (λk hk d=>nX k (.inr (.inr (.inr (.inr (.inl d))))) hk))
  have b2:∀k,Fc k->F0 k\/W.heap.size<=k:=λk hk=>by
   rcases aQ k ((av k).2 (.inl hk)) with(h|h)|h
   . exact .inl h
   . exact .inr (by omega)
   . exact .inr (by have:=aa.o.size;omega)
  have cD:=aa.o.size;rcases dx with⟨p,q,rfl,bk,hRb',hP',hrd',hlv',hng',hM',hs',rfl,hGv'⟩|⟨rfl,hM',rfl,hGv'⟩
  . obtain⟨no,lv,E⟩:=p;obtain⟨kq,lq,aq,cq,L,ad,cd,aY,nx⟩:=q;have ct:=ix (HA.o _ _ hrd');have ba:=ix (show l=(prM Y rd r.rg o).tel {s with G:=no::s.G} ⟨no,lv,E.rg⟩ (Pv.pg ⟨kq,lq,aq,cq,L,ad,cd,aY,nx⟩) from hs')
    clear hs';simp only[kU];gi_wp2
    refine⟨al _ _,λD ac dI b3=>?_⟩
    have aw:=al N (.cells #[.int .i64 no,.int .i64 lv,.slice E.aL E.lo.length E.cL,.slice E.aH E.hi.length E.cH,.bool E.op,.int .i64 kq,.int .i64 lq,.slice aq L.length cq,.slice ad aY.length cd,.int .i64 nx] 151);have nw:=ag N (.cells #[.int .i64 no,.int .i64 lv,.slice E.aL E.lo.length E.cL,.slice E.aH E.hi.length E.cH,.bool E.op,.int .i64 kq,.int .i64 lq,.slice aq L.length cq,.slice ad aY.length cd,.int .i64 nx] 151);have sw:=size_alloc N (.cells #[.int .i64 no,.int .i64 lv,.slice E.aL E.lo.length E.cL,.slice E.aH E.hi.length E.cH,.bool E.op,.int .i64 kq,.int .i64 lq,.slice aq L.length cq,.slice ad aY.length cd,.int .i64 nx] 151);generalize N.alloc (.cells #[.int .i64 no,.int .i64 lv,.slice E.aL E.lo.length E.cL,.slice E.aH E.hi.length E.cH,.bool E.op,.int .i64 kq,.int .i64 lq,.slice aq L.length cq,.slice ad aY.length cd,.int .i64 nx] 151)=dq at *;have ap:=ix ((But.ofBelow (S:=λk=>k=H) aw).trans ac (λ_ _ e=>e))
    have dZ:=ac.size;have bb:=ix (AJ.o Fc _ aG D hJ (((aS.mono (T:=λk=>¬Fc k/\W.heap.size<=k) λk _ e=>by have e:k=W.heap.size+1:=e;rw[e];exact⟨aZ,by omega⟩).andBelow aw).trans ac (λk _ e=>by have e:k=H:=e;rw[e];exact⟨λh=>cA ((av H).2 (.inl h)),by omega⟩)))
    have bo:D.cell? ⟨W.heap.size,0,none⟩=some (.func (.yield aE) #[] #[]):=by rw[ai _ _ _ _ _ _ (ap.o.same bI.o (λe=>by have e:W.heap.size=H:=e;omega))];rfl
    obtain⟨k0,k1,k2,k3,k4,k5,k6,k7,k8,k9⟩:=lg (ac.same nw (λe=>by have e:N.heap.size=H:=e;omega))
    have cj:=ix ((hM'.keep aw).but ac (λe=>by have e:W.heap.size+1=H:=e;omega))
    have d3:Mp N (W.heap.size+1) (gnf (no::s.G)):=hM';by_cases bU:kq=1
    . subst bU;have h8:L.length<=8:=by have:=(ct.o.node (.inl rfl)).2.2.1;simpa[Pv.pg] using this
      have ah:=ix (((hP'.keep aw).old ac (λk e=>by have e:k=H:=e;rw[e];exact dB)))
      have JS:=ah.o.pi (show L.length<=2199023255520 by omega)
      have cP:kg D aq Iv.cs 4 L:=by
       rcases JS.it.2.2 with h|⟨c,o',e,h⟩
       . exact .inl h
       . refine .inr ⟨c,o',e,λb8 x d=>?_⟩
         obtain⟨hi,e2⟩:=bA.1 d;have:=h b8 hi;rw[show L.getD b8 Iv.zero=x by simp[hi,e2]] at this
         exact this
      have IN:=ix (Dd D aq cq L cP (by omega) (λx d=>ah.o.it.lt d) o)
      rw[ch.o] at IN;have AP:=ix (yZ (o:=o) (yB (show(ji L).Pairwise jE from(dd.1 ah.o.dist).2)))
      have RB:Hid (∀k,kI L k->aG.heap.size<=k/\k<D.heap.size):=ix (λk hk=>by
       obtain⟨t,v,x,d,rfl⟩:=hk;refine⟨?_,(ah.o.fr t v).1.lt d⟩;rcases (ah.o.fr t v).2.1 x d with⟨z,K,_⟩|h2
       . cases K
       . exact h2)
      have a8:Hid (∀k,Fc k->k<aG.heap.size):=ix (λk hk=>SJ.o _ _ _ hJ k hk)
      have cQ:Hid (∀y∈L,Unt Fc D y):=ix (λy f=>⟨λt v=>⟨(ah.o.fr t (mN f v)).1,(ah.o.fr t (mN f v)).2.2,λx d h=>by
       have h1:=a8.o _ h;have h2:=(RB.o x.block ⟨t,mN f v,x,d,rfl⟩).1;omega⟩,ah.o.ns y f⟩)
      have be:Hid (l.G=no::s.G/\l.c=flw (λc (x:Iv)=>pst Y rd r.rg c x.it) Y.ystp (iW o L) s.c):=ix (by
       rw[ba.o];refine⟨rfl,?_⟩;show pit Y rd r.rg (iW o (L.map Iv.it)) s.c=_;rw[rZ aR _ _ bn.1,oy,<-pJ (λc x=>pst Y rd r.rg c x) Y.ystp Iv.it])
      have AQ:Hid (∀x,aq=some x->aG.heap.size<=x.block/\¬kI L x.block):=ix (λx d=>⟨by
       rcases ah.o.itn x d with⟨z,K,_⟩|h2
       . cases K
       . exact h2,λhk=>by
       obtain⟨t,v,y,f,e⟩:=hk;exact ah.o.it.ne (ah.o.fr t v).1 d f e.symm⟩)
      have dn:Hid (StI Y rd cn (no::s.G) (iW o L).length s.c):=ix (bn.inn hrd' hng' (by unfold iW;split;exact h8;rw[gy];exact h8))
      have dl:=ix (ap.o.same dk.o (λe=>by have e:t2=H:=e;have:=I.o t2 (.inr (.inl rfl));omega))
      have dP:=ix (dO.o.but ap.o (λk hk e=>by have e:k=H:=e;have:=I.o k (.inr (.inr (.inr (.inr (.inr hk)))));omega))
      have cb:=ix ((ap.o.cell (p:=⟨t3,0,none⟩) (block_lt_of_cell ca.o) (λe=>by have e:t3=H:=e;have:=I.o t3 (.inr (.inr (.inl rfl)));omega)).trans ca.o)
      have dH:=(ap.o.cell (p:=⟨t4,0,none⟩) (block_lt_of_cell cl.o) (λe=>by have e:t4=H:=e;have:=I.o t4 (.inr (.inr (.inr (.inl rfl))));omega)).trans cl.o
      have dL:=ix (dK.o.but ap.o (λk hk d=>by have hk:k=H:=hk;have:=I.o k (.inr (.inr (.inr (.inr (.inl d)))));omega))
      have dt:=ix (ap.o.same bI.o (λe=>by have e:W.heap.size=H:=e;omega))
      have cf:=ix b2;have aF:=ix av;have d9:N.heap.size<=D.heap.size:=by omega
      clear ba hrd' hlv' hng' hM' bO hP' bk hRb' hJ av b2 JS cP bK aS ay nX nw aw ac hM;gi_wp2_with (refine⟨trivial,rfl,?_⟩;refine CallsIn.mono (CallsIn.inRound H (dc.2 IN.o)) ?_;rintro _ bF ⟨gf,lb,ds,rfl,dW,cW,cU,c0⟩;have az:=ix cW;have XQ:=ix cU;have dm:=ix (c0 (λc (x:Iv)=>pst Y rd r.rg c x.it) Y.ystp s.c);clear cW cU c0 IN)
      have eh:=az.o.size;have dY:=(az.o.block H (ae.1 b3).1).trans b3
      have dr:Hid (∀k,(Fc k\/kI L k)->¬ds k):=ix (λk hk d=>by
       rcases (XQ.o k d).1 with h|⟨x,dF,e⟩
       . rcases hk with h2|h2
         . have:=a8.o k h2;omega
         . have:=(RB.o k h2).2;omega
       . have h3:=AQ.o x dF;rw[e] at h3;rcases hk with h2|h2
         . have:=a8.o k h2;omega
         . exact h3.2 h2)
      clear k0 k1 k2 k3 k4 k5 k6 k7 k8 k9 dH bo
      refine rz (l₀:=H) (r₀:=dI) dY (gf:=gf) (lb:=lb) rfl dW dm.o (But.refl _ _) (λk hk=>(XQ.o k hk).2) (by rintro s W0 W1 c8 l er Gv ⟨x,aT,_,rfl,_⟩;rfl)
       (λk=>Fc k\/kI L k) dr.o (InI ao Y rd cn (W.heap.size+1) L (iW o L) (no::s.G)) (InX ao Jx Y (W.heap.size+1) L)
       (λF s A B h hb=>h.abid (λy f=>nQ.1 f) AJ.o hb (by omega) (by omega))
       (λF s A h=>h.siz SJ.o)
       (λc F s A B h hb=>h.abid AJ.o bv.o hb (by omega))
       (λc F s A h=>h.siz SJ.o cr.o)
       (λF s A h=>⟨trivial,λk h=>h.elim⟩)
       ⟨Fc,λk=>dT,aZ,AJ.o Fc _ D bF bb.o (But.ofBelow az.o),dn.o,⟨[],rfl⟩,λy f=>(cQ.o y (nQ.1 f)).but (But.ofBelow (S:=λ_=>False) az.o) (λt v x d h=>h) (λt v x d h=>(((cQ.o y (nQ.1 f)).rw t v).2.2 x d h)),cj.o.keep az.o,λk hk=>by have:=(RB.o k hk).2;omega⟩ ?round2 ?done2 ?stop2
      case round2=>
       rintro b U s2 bH aB ey ei d2 bx ⟨P,g1,g2,g3,g4,⟨pre,g5⟩,g6,g7,g8⟩ aL ⟨x,aT,dG,rfl,rfl,rfl,dv⟩ dU eo dS b1 dX ep cT ⟨ef,eq⟩;obtain⟨rl,c2⟩:=s2;have G5:=ix g5;have G1:=ix g1;clear g5 g1;obtain rfl:rl=x::aT:=dG;have aL:Below bH.heap.size bH aB:=aL.below (λ_ _ h=>h.elim)
       have eu:=aL.size
       have cO:∀k,P k->F0 k\/W.heap.size<=k:=λk hk=>by
        rcases dS k ((G1.o k).2 (.inl hk)) with(h|h)|h
        . exact cf.o k h
        . exact .inr (by have:=(RB.o k h).1;omega)
        . exact .inr (by omega)
       have a0:∀k,(k=t1\/k=t2\/k=t3\/k=t4\/XV k\/i5 r k)->¬(Fc k\/kI L k):=λk hk e=>by
        have h1:=I.o k hk;rcases e with e|e
        . rcases cf.o k e with h|h
          . exact HS.o k h hk
          . omega
        . have:=(RB.o k e).1;omega
       have yn:¬(Fc W.heap.size\/kI L W.heap.size):=λe=>by
        rcases e with e|e
        . rcases aQ W.heap.size ((aF.o _).2 (.inl e)) with(h|h)|h
          . have:=a4.o _ h;omega
          all_goals
           omega
        . have:=(RB.o _ e).1;omega
       have BB:=ix ((But.ofBelow (S:=λk=>Fc k\/kI L k) az.o).trans (cT.andBelow aL) (λ_ _ e=>e))
       simp only[tf,Iv.cs];obtain⟨j,C,g,M,O,val,child,R⟩:=x;gi_wp2
       refine⟨al _ _,λaf aP eg es=>?_⟩
       have bj:=al aB (.cells #[.slice j g.length C,.slice M val.length O,.int .i64 child,.int .i64 R] 89);have cL:=ag aB (.cells #[.slice j g.length C,.slice M val.length O,.int .i64 child,.int .i64 R] 89);have el:=size_alloc aB (.cells #[.slice j g.length C,.slice M val.length O,.int .i64 child,.int .i64 R] 89);generalize aB.alloc (.cells #[.slice j g.length C,.slice M val.length O,.int .i64 child,.int .i64 R] 89)=d1 at *;have ev:=aP.size;have ed:bF.heap.size<=b:=dX
       have ee:¬(Fc b\/kI L b):=λe=>b1 ((G1.o b).2 (by
        rcases e with e|e
        . have:=a8.o _ e;omega
        . exact .inr e))
       have aU:=ix (((BB.o.andBelow bj).mono (T:=λk=>(Fc k\/kI L k)\/k=b) λ_ _ e=>.inl e).trans aP (λ_ _ e=>.inr e))
       have cm:=ix (aU.o.same dl.o (λe=>by
        rcases e with e|e
        . exact a0 t2 (.inr (.inl rfl)) e
        . have:=I.o t2 (.inr (.inl rfl));omega))
       have dR:=ix (dP.o.but aU.o (λk hk e=>by
        rcases e with e|e
        . exact a0 k (.inr (.inr (.inr (.inr (.inr hk))))) e
        . have:=I.o k (.inr (.inr (.inr (.inr (.inr hk)))));omega))
       have cc:=ix ((aU.o.cell (p:=⟨t3,0,none⟩) (block_lt_of_cell cb.o) (λe=>by
        rcases e with e|e
        . exact a0 t3 (.inr (.inr (.inl rfl))) e
        . have e:t3=b:=e;have:=I.o t3 (.inr (.inr (.inl rfl)));omega)).trans cb.o)
       have dN:=ix (dL.o.but aU.o (λk hk d=>by
        rcases hk with e|e
        . exact a0 k (.inr (.inr (.inr (.inr (.inl d))))) e
        . have:=I.o k (.inr (.inr (.inr (.inr (.inl d)))));omega))
       have bi:=ix (aU.o.same dt.o (λe=>by
        rcases e with e|e
        . exact yn e
        . omega))
       have bc:=ix (AJ.o P _ bH af g3 (((But.ofBelow (S:=λk=>¬P k/\W.heap.size<=k) aL).andBelow bj).trans aP (λk _ e=>by have e:k=b:=e;rw[e];exact⟨λh=>b1 ((G1.o b).2 (.inl h)),by omega⟩)))
       have c9:=ix (((But.ofBelow (S:=λk=>k=b) aL).andBelow bj).trans aP (λ_ _ e=>e))
       have bs:∀y∈(⟨j,C,g,M,O,val,child,R⟩:Iv)::aT,∀t∈y.rows,t∈ji L:=λy f t v=>mN (nQ.1 (by rw[G5.o];exact dQ _ f)) v
       have UA:=ix (λy (f:y∈(⟨j,C,g,M,O,val,child,R⟩:Iv)::aT)=>(g6 y f).but (Fc':=P) c9.o (λt v x d e=>b1 ((G1.o b).2 (.inr ⟨t,bs y f t v,x,d,e⟩))) (((g6 y f).rw · · |>.2.2)))
       have bp:=ix bs;have UX:=ix (UA.o _ bG);have ck:=ix (g7.but c9.o (λe=>by have e:W.heap.size+1=b:=e;omega))
       have bB:=ix (aP.same cL (λe=>by have e:aB.heap.size=b:=e;omega))
       have ce:=ix cO
       have cy:∀y∈aT,apI ⟨j,C,g,M,O,val,child,R⟩ y:=λy f=>by
        have h:=AP.o;rw[G5.o,dE] at h;exact(dd.1 h.2.1).1 y f
       have db:=ix cy;have aA:=ix (sh af r j _ C g dR.o UX.o.ii.bk rfl)
       have bd:Hid (∀k,(∃y,j=some y/\y.block=k)->aG.heap.size<=k/\k<D.heap.size/\¬P k):=ix (λk ⟨y,f,e⟩=>by
        subst e;have h1:=RB.o y.block ⟨⟨j,C,g⟩,bs _ bG _ (by simp[Iv.rows]),y,f,rfl⟩
        exact⟨h1.1,h1.2,(UX.o.rw ⟨j,C,g⟩ (by simp[Iv.rows])).2.2 y f⟩)
       have ew:bF.heap.size<=af.heap.size:=by omega
       have cI:∀k,kI L k->k<af.heap.size:=λk hk=>by have:=(RB.o k hk).2;omega
       have GX:=ix cI;clear g3 g6 g7 g8 cT aL bj cL aP a0 yn bs cy cO dU dv cI;unfold Rv.val at aA;simp only[Rv.cs] at aA cm;obtain⟨i0,i1,i2,i3⟩:=jJ bB.o;obtain⟨j0,j1,j2⟩:=je cm.o;cases J:has r.rg g with
       |false=>
        rw[J] at aA;have PS:Hid (pst Y rd r.rg c2 (Iv.it ⟨j,C,g,M,O,val,child,R⟩)=c2):=ix (if_pos J);clear J;gi_wp2_with (refine⟨trivial,rfl,?_⟩;refine CallsIn.mono (CallsIn.inRound b (dc.2 aA.o)) ?_;rintro _ bh ⟨rfl,aD⟩;have ar:=ix aD;clear aD aA)
        refine⟨U,(But.ofBelow (S:=U) ar.o).ing,λk hk=>.inl hk,λ_=>by rw[PS.o];exact g4.1,P,G1.o,g2,by rw[PS.o];exact AJ.o P _ af bh bc.o (But.ofBelow ar.o),by rw[PS.o];exact g4.skip,⟨pre++[⟨j,C,g,M,O,val,child,R⟩],G5.o.trans (by simp)⟩,λy f=>(UA.o y (br _ f)).but (But.ofBelow (S:=λ_=>False) ar.o) (λt v x d h=>h) (λt v x d=>((UA.o y (br _ f)).rw t v).2.2 x d),ck.o.keep ar.o,λk hk=>a6 (GX.o k hk) ar.o.size⟩
       |true=>
        rw[J] at aA;have aN:Hid (pst Y rd r.rg c2 (Iv.it ⟨j,C,g,M,O,val,child,R⟩)=if (ldI rd (Iv.it ⟨j,C,g,M,O,val,child,R⟩)).1≠0 then Y.ybad c2 (ldI rd (Iv.it ⟨j,C,g,M,O,val,child,R⟩)).1 else Y.yl c2 (g,(ldI rd (Iv.it ⟨j,C,g,M,O,val,child,R⟩)).2)):=ix (if_neg (by show ¬has r.rg g=false;rw[J];decide))
        have PO:=ix (λ(a2:World)(hb:Below af.heap.size af a2)=>yL a2 aM rd (dN.o.keep hb).reads ⟨j,C,g,M,O,val,child,R⟩ (UX.o.ii.keep hb))
        obtain⟨rr,cJ⟩:∃rr,ldI rd (Iv.it ⟨j,C,g,M,O,val,child,R⟩)=rr:=⟨_,rfl⟩;rw[cJ] at aN PO;clear J cJ;obtain⟨e1,vv⟩:=rr;unfold Iv.vl at PO;simp only[Iv.cs] at PO aN;gi_wp2_with (refine⟨trivial,rfl,?_⟩;refine CallsIn.mono (CallsIn.inRound b (dc.2 aA.o)) ?_;rintro _ bh ⟨rfl,aD⟩;have ar:=ix aD;obtain⟨p0,p1,p2,p3⟩:=jJ ((aD.block _ (ae.1 bB.o).1).trans bB.o);have cz:=(aD.cell (p:=⟨t3,0,none⟩) (block_lt_of_cell cc.o)).trans cc.o;have bE:=ix (PO.o bh aD);clear aD aA)
        refine⟨trivial,rfl,?_⟩;refine CallsIn.mono (CallsIn.inRound b (dc.2 bE.o)) ?_;rintro _ ab (⟨K,rfl,cX⟩|⟨K,a5,c5,rfl,hO,bJ⟩)
        . dsimp only;have K:e1≠0:=K;have aW:=ix (bt ar.o cX);have PS:Hid (pst Y rd r.rg c2 (Iv.it ⟨j,C,g,M,O,val,child,R⟩)=Y.ybad c2 e1):=ix (aN.o.trans (if_pos K));have eb:((e1:Int)==0)=false:=by simp[K]
          have ec:¬(e1:Int)=0:=by omega
          clear bE PO p0 p1 p2 p3 cz cX aN i0 i1 i2 i3 j0 j1 j2;have ax:=ix (al ab (.cells #[.slice none 0 0,.slice none 0 0] 45));have au:=ag ab (.cells #[.slice none 0 0,.slice none 0 0] 45);have bX:=size_alloc ab (.cells #[.slice none 0 0,.slice none 0 0] 45);obtain⟨τ,a1⟩:∃V,V=ab.alloc (.cells #[.slice none 0 0,.slice none 0 0] 45):=⟨_,rfl⟩;rw[<-a1] at ax au bX;have ak:=ix (bt aW.o ax.o);have d0:=aW.o.size;have bC:=ix (AJ.o P _ af τ bc.o (But.ofBelow ak.o));have bY:τ.cell? ⟨W.heap.size,0,none⟩=some (.func (.yield aE) #[] #[]):=by rw[ai _ _ _ _ _ _ ((ak.o.block W.heap.size (ae.1 bi.o).1).trans bi.o)];rfl
          have z0:τ.cell? ⟨ab.heap.size,0,none⟩=some (.slice none 0 0):=by rw[ai _ _ _ _ _ _ au];rfl
          have z1:τ.cell? ⟨ab.heap.size,1,none⟩=some (.slice none 0 0):=by rw[ai _ _ _ _ _ _ au];rfl
          obtain⟨fn,c6,da,cS,f,aC⟩:=YY.o P c2 τ τ #[.agg #[.slice none 0 0,.slice none 0 0],.int .i64 (e1:Int)] (Y.ybad c2 e1) true (λ_=>False) bC.o (But.refl _ _) (.inr ⟨e1,rfl,K,rfl,rfl,λ_ h=>h⟩) (λ_ h=>h.elim) (by omega) ce.o
          clear au ax;subst a1;gi_wp2
          generalize ab.alloc (.cells #[.slice none 0 0,.slice none 0 0] 45)=τ at *;refine⟨rfl,RoundIn.mono (F:=Fence.wide.inRound b) aC ?_⟩;rintro e aO ⟨G6,h6,aI,J⟩;have HH:Hid (ao G6 (Y.ybad c2 e1) aO\/Jx G6 (Y.ybad c2 e1) aO):=ix (J.imp (λh=>h.2.2) (λh=>h.2.2))
          have bT:e=.returned (.bool true)\/e=.returned (.bool false):=J.imp (λh=>h.1) (λh=>h.1)
          have H6:=ix h6.nog;have a9:=ix aI;clear J h6 aI f aC bY z0 z1
          have bw:Hid (∃F':Nat->Prop,But (λk=>U k\/bx k) af aO/\(∀k,F' k->U k\/bx k\/aB.heap.size<=k)/\Y.ystp (pst Y rd r.rg c2 (Iv.it ⟨j,C,g,M,O,val,child,R⟩))=true/\InX ao Jx Y (W.heap.size+1) L (.exit 0) F' (aT,pst Y rd r.rg c2 (Iv.it ⟨j,C,g,M,O,val,child,R⟩)) aO):=ix ⟨λk=>G6 k\/kI L k,((But.ofBelow (S:=U) ak.o).trans (H6.o.mono (T:=U) λk _ e=>(G1.o k).2 (.inl e)) (λ_ _ e=>e)).ing,λk hk=>by
           rcases hk with hk|hk
           . rcases a9.o k hk with h|h|h
             . exact .inl ((G1.o k).2 (.inl h))
             . exact h.elim
             . exact .inr (.inr (by omega))
           . exact .inl ((G1.o k).2 (.inr hk)),by rw[PS.o];exact aR _ _ K,G6,λk=>dT,λh=>by
           rcases a9.o _ h with h|h|h
           . exact g2 h
           . exact h.elim
           . omega,rfl,by rw[PS.o];exact aR _ _ K,by rw[PS.o];exact HH.o,λk hk=>by have:=GX.o k hk;have:=H6.o.size;omega,by have:=H6.o.size;omega⟩
          rcases bT with rfl|rfl
          all_goals
           gi_wp2
           exact bw.o
        . dsimp only at hO bJ K ⊢;have K:e1=0:=K;subst K;have OO:=ix hO;have dh:=ix bJ;have aW:=ix (bt ar.o hO.b);have PS:Hid (pst Y rd r.rg c2 (Iv.it ⟨j,C,g,M,O,val,child,R⟩)=Y.yl c2 (g,vv)):=ix (aN.o.trans (if_neg (by simp)))
          have ex:=ar.o.size;clear bE PO p0 p1 p2 p3 cz hO bJ aN i0 i1 i2 i3 j0 j1 j2;have ax:=ix (al ab (.cells #[.slice j g.length C,.slice a5 vv.length c5] 45));have au:=ag ab (.cells #[.slice j g.length C,.slice a5 vv.length c5] 45);have bX:=size_alloc ab (.cells #[.slice j g.length C,.slice a5 vv.length c5] 45);obtain⟨τ,a1⟩:∃V,V=ab.alloc (.cells #[.slice j g.length C,.slice a5 vv.length c5] 45):=⟨_,rfl⟩;rw[<-a1] at ax au bX;have ak:=ix (bt aW.o ax.o);have d0:=aW.o.size;have bC:=ix (AJ.o P _ af τ bc.o (But.ofBelow ak.o));have bY:τ.cell? ⟨W.heap.size,0,none⟩=some (.func (.yield aE) #[] #[]):=by rw[ai _ _ _ _ _ _ ((ak.o.block W.heap.size (ae.1 bi.o).1).trans bi.o)];rfl
          have z0:τ.cell? ⟨ab.heap.size,0,none⟩=some (.slice j g.length C):=by rw[ai _ _ _ _ _ _ au];rfl
          have z1:τ.cell? ⟨ab.heap.size,1,none⟩=some (.slice a5 vv.length c5):=by rw[ai _ _ _ _ _ _ au];rfl
          have aH:Hid (∀k,(∃y,a5=some y/\y.block=k)->bh.heap.size<=k/\k<τ.heap.size):=ix (λk ⟨y,f,e⟩=>by
           subst e;exact⟨OO.o.fresh f,by have:=OO.o.r.lt f;omega⟩)
          have df:Hid (∀k,P k->k<af.heap.size):=ix (λk hk=>SJ.o _ _ _ bc.o k hk)
          have KR:=ix ((UX.o.rw ⟨j,C,g⟩ (by simp[Iv.rows])))
          obtain⟨fn,c6,da,cS,f,aC⟩:=YY.o P c2 τ τ #[.agg #[.slice j g.length C,.slice a5 vv.length c5],.int .i64 0] (Y.yl c2 (g,vv)) false (λk=>(∃y,j=some y/\y.block=k)\/∃y,a5=some y/\y.block=k) bC.o (But.refl _ _)
           (.inl ⟨⟨j,C,g⟩,⟨a5,c5,vv⟩,rfl,KR.o.1.keep ak.o,KR.o.2.1,OO.o.r.keep ax.o,dh.o,λx y d f e=>by have h1:=(bd.o x.block ⟨x,d,rfl⟩).2.1;have h2:=(aH.o y.block ⟨y,f,rfl⟩).1;omega,rfl,rfl,g4.less HN.o,λk=>dT⟩)
           (λk hk=>by
             rcases hk with hk|hk
             . have h:=bd.o k hk;exact⟨h.2.2,by omega,by omega⟩
             . have h:=aH.o k hk;exact⟨λe=>by have:=df.o k e;omega,by omega,h.2⟩) (by omega) ce.o
          clear au ax;subst a1;gi_wp2
          generalize ab.alloc (.cells #[.slice j g.length C,.slice a5 vv.length c5] 45)=τ at *;refine⟨rfl,RoundIn.mono (F:=Fence.wide.inRound b) aC ?_⟩;rintro e aO ⟨G6,h6,aI,J⟩;have H6:=ix h6;have a9:=ix aI
          have BF:Hid (But U af aO):=ix ((But.ofBelow (S:=U) ak.o).trans h6 (λk hk e=>by
           rcases e with e|⟨y,f,e⟩|e
           . exact(G1.o k).2 (.inl e)
           . exact(G1.o k).2 (.inr ⟨⟨j,C,g⟩,bp.o _ bG _ (by simp[Iv.rows]),y,f,e⟩)
           . have:=(aH.o k e).1;omega))
          have GF:Hid (∀k,(G6 k\/kI L k)->U k\/bx k\/aB.heap.size<=k):=ix (λk hk=>by
           rcases hk with hk|hk
           . rcases aI k hk with h|(⟨y,f,e⟩|e)|h
             . exact .inl ((G1.o k).2 (.inl h))
             . exact .inl ((G1.o k).2 (.inr ⟨⟨j,C,g⟩,bp.o _ bG _ (by simp[Iv.rows]),y,f,e⟩))
             . exact .inr (.inr (by have:=(aH.o k e).1;omega))
             . exact .inr (.inr (by omega))
           . exact .inl ((G1.o k).2 (.inr hk)))
          have GM:Hid (¬G6 (W.heap.size+1)):=ix (λh=>by
           rcases aI _ h with h|(h|h)|h
           . exact g2 h
           . have:=(bd.o _ h).1;omega
           . have:=(aH.o _ h).1;omega
           . omega)
          have ej:=h6.size;clear h6 aI f aC bY z0 z1;rcases J with⟨rfl,hst6,hJ6⟩|⟨rfl,hst6,hJ6⟩
          . have aX:=ix (hst6 rfl);have J6:=ix hJ6;clear hst6 hJ6;gi_wp2
            refine⟨λk=>G6 k\/kI L k,BF.o.ing,GF.o,λ_=>by rw[PS.o];exact aX.o,G6,λk=>dT,GM.o,by rw[PS.o];exact J6.o,by rw[PS.o];exact g4.yl di.o aX.o,⟨pre++[⟨j,C,g,M,O,val,child,R⟩],G5.o.trans (by simp)⟩,λy f=>?_,?_,λk hk=>by have:=GX.o k hk;omega⟩
            . have cu:=(UA.o y (br _ f)).but (Fc':=P) (But.ofBelow (S:=λ_=>False) ak.o) (λt v x d h=>h) (λt v x d=>((UA.o y (br _ f)).rw t v).2.2 x d)
              have b4:∀t∈y.rows,∀x,t.a=some x->¬(P x.block\/(∃z,j=some z/\z.block=x.block)\/∃z,a5=some z/\z.block=x.block):=λt v x d e=>by
               rcases e with e|⟨z,K,e⟩|e
               . exact(cu.rw t v).2.2 x d e
               . exact db.o y f ⟨j,C,g⟩ (by simp[Iv.rows]) t v z x K d e
               . have h1:=(aH.o _ e).1;have h2:=(RB.o x.block ⟨t,bp.o y (br _ f) t v,x,d,rfl⟩).2;omega
              refine cu.but H6.o b4 (λt v x d e=>?_)
              rcases a9.o _ e with h|h|h
              . exact b4 t v x d (.inl h)
              . exact b4 t v x d (.inr h)
              . have h2:=(RB.o x.block ⟨t,bp.o y (br _ f) t v,x,d,rfl⟩).2;omega
            . refine(ck.o.keep ak.o).but H6.o (λe=>?_)
              rcases e with e|e|e
              . exact g2 e
              . have:=(bd.o _ e).1;omega
              . have:=(aH.o _ e).1;omega
          . have aX:=ix hst6;have J6:=ix hJ6;clear hst6 hJ6;gi_wp2
            exact⟨λk=>G6 k\/kI L k,BF.o.ing,GF.o,by rw[PS.o];exact aX.o,G6,λk=>dT,GM.o,rfl,by rw[PS.o];exact aX.o,by rw[PS.o];exact .inr J6.o,λk hk=>by have:=GX.o k hk;omega,by omega⟩
      case done2=>
       rintro U s2 V hI i bL bM;obtain⟨P,g1,g2,g3,g4,g5,g6,g7,g8⟩:=hI;have i:s2.2=flw (λc (x:Iv)=>pst Y rd r.rg c x.it) Y.ystp (iW o L) s.c:=i
       have hc:l.c=s2.2:=be.o.2.trans i.symm;gi_wp2
       refine⟨λk=>P k\/k=W.heap.size+1,?_,?_,λ_=>by show Y.ystp l.c=false;rw[hc];exact g4.1,P,λk=>dT,g2,by rw[hc];exact g3,g4.o be.o.1 hc,by rw[be.o.1];exact g7⟩
       . exact(But.ofBelow (S:=λk=>F k\/Gv k) az.o).trans bL (λk hk e=>by
          rcases e with e|e
          . exact .inl ((aF.o k).2 (.inl e))
          . obtain⟨t,v,x,d,rfl⟩:=e;exact .inr ((hGv' _).2 ⟨by first|rfl|trivial,.inr ⟨t,v,x,d,rfl⟩⟩))
       . intro k hk;rcases hk with hk|hk
         . rcases bM k ((g1 k).2 (.inl hk)) with(h|⟨t,v,x,d,rfl⟩)|h
           . exact .inl ((aF.o k).2 (.inl h))
           . exact .inr (.inl ((hGv' _).2 ⟨by first|rfl|trivial,.inr ⟨t,v,x,d,rfl⟩⟩))
           . exact .inr (.inr (by omega))
         . exact .inl ((aF.o k).2 (.inr hk))
      case stop2=>
       rintro c U s2 V hI i bL bM;obtain⟨P,g1,g2,rfl,g4,g5,g6,g7⟩:=hI;have i:s2.2=flw (λc (x:Iv)=>pst Y rd r.rg c x.it) Y.ystp (iW o L) s.c:=i
       have hc:l.c=s2.2:=be.o.2.trans i.symm;gi_wp2
       refine⟨λk=>P k\/k=W.heap.size+1,?_,?_,by show Y.ystp l.c=true;rw[hc];exact g4,P,λk=>dT,g2,g7,rfl,by rw[hc];exact g4,by rw[hc];exact g5⟩
       . exact(But.ofBelow (S:=λk=>F k\/Gv k) az.o).trans bL (λk hk e=>by
          rcases e with e|e
          . exact .inl ((aF.o k).2 (.inl e))
          . obtain⟨t,v,x,d,rfl⟩:=e;exact .inr ((hGv' _).2 ⟨by first|rfl|trivial,.inr ⟨t,v,x,d,rfl⟩⟩))
       . intro k hk;rcases hk with hk|hk
         . rcases bM k ((g1 k).2 (.inl hk)) with(h|⟨t,v,x,d,rfl⟩)|h
           . exact .inl ((aF.o k).2 (.inl h))
           . exact .inr (.inl ((hGv' _).2 ⟨by first|rfl|trivial,.inr ⟨t,v,x,d,rfl⟩⟩))
           . exact .inr (.inr (by omega))
         . exact .inl ((aF.o k).2 (.inr hk))
    . have dy:kq=2:=by
       rcases ct.o.kind with h|h|h
       . exact absurd h bU
       . exact h
       . exact absurd h (jA.1 hlv').1
      have U:Hid (l={s with G:=no::s.G}):=ix (ba.o.trans (if_neg bU));subst dy;have dp:Hid (StP Y rd cn l):=ix ((bn.inn hrd' hng' (m:=0) (by omega)).o (by rw[U.o]) (by rw[U.o]))
      clear ba hrd' hlv' hng' hM' hGv' bO hP' bk hRb' bo;gi_wp2
      exact⟨F,(But.refl F _).ing,λk hk=>.inl hk,λ_=>by show Y.ystp l.c=false;rw[U.o];exact bn.1,Fc,av,aZ,by rw[U.o];exact bb.o,dp.o,by rw[U.o];exact cj.o⟩
  . have HC:Hid (l.c=Y.ybad s.c 15):=ix (by rcases hM' with⟨rfl,_⟩|⟨n,rfl,_⟩<;>rfl)
    simp only[jZ];gi_wp2
    refine⟨al _ _,λD ac b3=>?_⟩
    have aw:=al N (.cells #[.int .i64 0,.int .i64 0,.slice none 0 0,.slice none 0 0,.bool false,.int .i64 0,.int .i64 0,.slice none 0 0,.slice none 0 0,.int .i64 0] 151);have nw:=ag N (.cells #[.int .i64 0,.int .i64 0,.slice none 0 0,.slice none 0 0,.bool false,.int .i64 0,.int .i64 0,.slice none 0 0,.slice none 0 0,.int .i64 0] 151);have sw:=size_alloc N (.cells #[.int .i64 0,.int .i64 0,.slice none 0 0,.slice none 0 0,.bool false,.int .i64 0,.int .i64 0,.slice none 0 0,.slice none 0 0,.int .i64 0] 151);generalize N.alloc (.cells #[.int .i64 0,.int .i64 0,.slice none 0 0,.slice none 0 0,.bool false,.int .i64 0,.int .i64 0,.slice none 0 0,.slice none 0 0,.int .i64 0] 151)=dq at *;have ap:=ix ((But.ofBelow (S:=λk=>k=H) aw).trans ac (λ_ _ e=>e))
    have dZ:=ac.size;have bb:=ix (AJ.o Fc _ aG D hJ (((aS.mono (T:=λk=>¬Fc k/\W.heap.size<=k) λk _ e=>by have e:k=W.heap.size+1:=e;rw[e];exact⟨aZ,by omega⟩).andBelow aw).trans ac (λk _ e=>by have e:k=H:=e;rw[e];exact⟨λh=>cA ((av H).2 (.inl h)),by omega⟩)))
    have bo:D.cell? ⟨W.heap.size,0,none⟩=some (.func (.yield aE) #[] #[]):=by rw[ai _ _ _ _ _ _ (ap.o.same bI.o (λe=>by have e:W.heap.size=H:=e;omega))];rfl
    obtain⟨k0,k1,k2,k3,k4,k5,k6,k7,k8,k9⟩:=lg (ac.same nw (λe=>by have e:N.heap.size=H:=e;omega))
    obtain⟨fn,c6,da,cS,f,aC⟩:=YY.o Fc s.c D D #[.agg #[.slice none 0 0,.slice none 0 0],.int .i64 15] (Y.ybad s.c 15) true (λ_=>False) bb.o (But.refl _ _) (.inr ⟨15,rfl,by decide,rfl,rfl,λ_ h=>h⟩) (λ_ h=>h.elim) (by omega) b2
    have ea:N.heap.size<=D.heap.size:=by omega
    clear hM' hGv' bO bK aS ay nX aw nw ac;gi_wp2
    refine⟨rfl,RoundIn.mono (F:=Fence.wide.inRound H) aC ?_⟩;rintro e V5 ⟨G5,h5,cB,J⟩;have HH:Hid (ao G5 (Y.ybad s.c 15) V5\/Jx G5 (Y.ybad s.c 15) V5):=ix (J.imp (λh=>h.2.2) (λh=>h.2.2))
    have bT:e=.returned (.bool true)\/e=.returned (.bool false):=J.imp (λh=>h.1) (λh=>h.1)
    have H5:=ix h5.nog;have cg:=ix cB;clear J h5 cB f aC k0 k1 k2 k3 k4 k5 k6 k7 k8 k9 bo
    have bw:Hid (∃F':Nat->Prop,But (λk=>F k\/Gv k) D V5/\(∀k,F' k->F k\/Gv k\/N.heap.size<=k)/\(prM Y rd r.rg o).stp l=true/\PrX ao Jx Y (W.heap.size+1) 0 (.exit 0) F' l V5):=ix ⟨λk=>G5 k\/k=W.heap.size+1,(H5.o.mono (T:=F) λk _ e=>(av k).2 (.inl e)).ing,λk hk=>by
     rcases hk with hk|hk
     . rcases cg.o k hk with h|h|h
       . exact .inl ((av k).2 (.inl h))
       . exact h.elim
       . exact .inr (.inr (by omega))
     . exact .inl ((av k).2 (.inr hk)),by show Y.ystp l.c=true;rw[HC.o];exact aR _ _ (by decide),G5,λk=>dT,λh=>by
     rcases cg.o _ h with h|h|h
     . exact aZ h
     . exact h.elim
     . omega,by have:=H5.o.size;omega,rfl,by rw[HC.o];exact aR _ _ (by decide),by rw[HC.o];exact HH.o⟩
    rcases bT with rfl|rfl
    all_goals
     gi_wp2
     exact bw.o
 case done=>
  rintro aj F s V hD bN ⟨Fc,X,q2,q3,q4,q5⟩ i hB aQ bP;have i:s=iE (prM Y rd r.rg o) rd (iU r.rg) o (Z-1).toNat ⟨[],s0⟩ (ja root Z):=i;have b0:=ix (bf Pst.c i);have Q3:=ix q3;clear i q3 q4;go_wp2_with fail
  refine⟨by simp,.inl ⟨_,_,rfl,cw bP,?_⟩⟩
  have bD:=(But.refl (λk=>k=aj) V).putObj (λ_=>rfl) (.deferred none)
  have cD:=aa.o.size
  refine⟨_,co rfl _ _ _,Fc,s.c,⟨_,rfl⟩,((((But.ofBelow (S:=F0) aa.o).trans hB (λk hk e=>by
   rcases e with e|e
   . exact e
   . omega))).trans bD (λk hk e=>by have e:k=aj:=e;omega)),λk hk=>by
   rcases aQ k ((X k).2 (.inl hk)) with(h|h)|h
   . exact .inl h
   . exact .inr (by omega)
   . exact .inr (by omega),b0.o,.inl (AJ.o Fc _ V _ Q3.o (bD.mono λk _ e=>by have e:k=aj:=e;rw[e];exact⟨λh=>bN ((X aj).2 (.inl h)),by omega⟩))⟩
 case stop=>
  rintro aj c F s V hD bN ⟨Fc,X,q2,q3,rfl,q4,q5⟩ i hB aQ bP;have i:s=iE (prM Y rd r.rg o) rd (iU r.rg) o (Z-1).toNat ⟨[],s0⟩ (ja root Z):=i;have b0:=ix (bf Pst.c i);have Q5:=ix q5;clear i q4 q5;gi_wp2
  go_wp2_with fail
  refine⟨by simp,.inl ⟨_,_,rfl,cw bP,?_⟩⟩
  have bD:=(But.refl (λk=>k=aj) V).putObj (λ_=>rfl) (.deferred none)
  have cD:=aa.o.size;have hm:But (λk=>¬Fc k/\W.heap.size<=k) V (V.putObj aj (.deferred none)):=bD.mono λk _ e=>by have e:k=aj:=e;rw[e];exact⟨λh=>bN ((X aj).2 (.inl h)),by omega⟩
  refine⟨_,co rfl _ _ _,Fc,s.c,⟨_,rfl⟩,((((But.ofBelow (S:=F0) aa.o).trans hB (λk hk e=>by
   rcases e with e|e
   . exact e
   . omega))).trans bD (λk hk e=>by have e:k=aj:=e;omega)),λk hk=>by
   rcases aQ k ((X k).2 (.inl hk)) with(h|h)|h
   . exact .inl h
   . exact .inr (by omega)
   . exact .inr (by omega),b0.o,Q5.o.imp (λh=>AJ.o Fc _ V _ h hm) (λh=>bv.o Fc _ V _ h hm)⟩
theorem uN{F:Fence}{q:Nat}{r e:TypeId}{sz bs:Nat}{z:Value}(R:prog.underlying r=some (.slice e))(ae:(prog.info? e).map (λi=>(i.zero,i.size,i.bytes))=some (some z,sz,bs))(U:z.cells.size=sz)(E:0<sz){w:World}{v:Array Oper}{D:List Oper}{o:Oper}{a:Act}{t:Exit->Act->World->Prop}(ab:o.guard=none)(s x:Operand)
 (p:o.op=.call {callee:=.builtin .append,args:=#[s,x],argTypes:=#[r,r]}) (b:Option Addr) (n cap:Nat) (C:List Value) (P:a.eval s=.slice b n cap) (I:Q.Gw e sz w b cap n C)
 (l:Addr) (c:Nat) (xs:List Value) (T:a.eval x=.slice (some l) 1 c) (M:xs.length=1*sz) (J:∀j u,xs[j]?=some u->w.cell? (l.add j)=some u) (H:∀u∈xs,u.oneCell'=true) (N:n+1<=maxLen) (ac:(n+1)*bs<=140737488355328)
 (h:∀g f d,Q.Gw e sz d (some ⟨g,0,none⟩) f (n+1) (C++xs)->New w b (some ⟨g,0,none⟩)->But (Q.InA b) w d->wpListIn F q prog v t D (a.put o.dst (.slice (some ⟨g,0,none⟩) (n+1) f)) d):wpListIn F q prog v t (o::D) a w:=by
 obtain⟨g,f,d,O,X,Y,Z⟩:=sO R ae U E w o.type b n cap C I l c xs M J H N ac;refine wpListIn_plain ab λaf K=>?_
 unfold Oper.wpIn;refine⟨?_,?_⟩
 . simp[Oper.about,p,resolve,Target.leads,ey]
 . rw[Oper.semAt_plain F _ _ (by rw[p];intro c aa;cases aa)]
   simp[execOp,p,resolve,invoke,builtin,P,T,O,Result.andThen];exact K _ _ (h g f d X Y Z)
theorem pa:(prog.info? 45).map (λi=>(i.zero,i.size,i.bytes))=some (some (.agg #[.slice none 0 0,.slice none 0 0]),2,48):=by kernel_rfl
def prv(C:List (Br×Br)):List Value:=(C.map λp=>[Value.slice p.1.a p.1.l.length p.1.c,Value.slice p.2.a p.2.l.length p.2.c]).flatten
def prR(C:List (Br×Br)):List Br:=(C.map λp=>[p.1,p.2]).flatten
def prl(C:List (Br×Br)):List (List Nat×List Nat):=C.map λp=>(p.1.l,p.2.l)
def prO(a:Option Addr)(C:List (Br×Br))(k:Nat):Prop:=(∃x,a=some x/\x.block=k)\/∃t∈prR C,∃x,t.a=some x/\x.block=k
theorem vQ(C:List (Br×Br))(p:Br×Br):prv C++[Value.slice p.1.a p.1.l.length p.1.c,Value.slice p.2.a p.2.l.length p.2.c]=prv (C++[p]):=by simp[prv]
theorem qI(C:List (Br×Br))(p:Br×Br):prR (C++[p])=prR C++[p.1,p.2]:=by simp[prR]
theorem uQ(C:List (Br×Br))(p:Br×Br):prl (C++[p])=prl C++[(p.1.l,p.2.l)]:=by simp[prl]
theorem i7(C:List (Br×Br)):(prl C).length=C.length:=by simp[prl]
structure Prs(W:World)(a:Option Addr)(c:Nat)(C:List (Br×Br)):Prop where
 row:Q.Gw 45 2 W a c C.length (prv C)
 ok:∀t∈prR C,Rw W t.a t.c t.l/\B8 t.l
 ap:(prR C).Pairwise jE
theorem Prs.nil(W:World):Prs W none 0 []:=⟨Q.Gw.nil _ _ _,λt b=>(by cases b),.nil⟩
theorem Prs.but{C:List (Br×Br)}(h:Prs W a c C)(hb:But S W V)(e:∀k,prO a C k->¬S k):Prs V a c C:=
 ⟨h.row.but hb (λx d=>e _ (.inl ⟨x,d,rfl⟩)),λt b=>⟨(h.ok t b).1.but hb (λx d=>e _ (.inr ⟨t,b,x,d,rfl⟩)),(h.ok t b).2⟩,h.ap⟩
theorem Prs.keep5{C:List (Br×Br)}(h:Prs W a c C)(hb:Below W.heap.size W V):Prs V a c C:=h.but (S:=λ_=>False) (But.ofBelow hb) (λ_ _ h=>h)
theorem Prs.lt{C:List (Br×Br)}(h:Prs W a c C)(hk:prO a C k):k<W.heap.size:=by
 rcases hk with⟨x,hx,rfl⟩|⟨t,ht,x,hx,rfl⟩
 . obtain⟨d,b⟩:=h.row.blk hx;exact(ae.1 b).1
 . exact(h.ok t ht).1.lt hx
theorem Rw.blk{w:World}{l:List Nat}(h:Rw w a c l)(b:a=some x):∃cur,w.heap[x.block]?=some (.cells cur 5 (0,0)):=by
 rcases h.cases with⟨e1,_⟩|⟨g,cur,e1,hg,_⟩
 . rw[e1] at b;cases b
 . rw[e1] at b;cases b;exact⟨cur,hg⟩
theorem Prs.ne{C:List (Br×Br)}(h:Prs W a c C)(e:a=some x){t:Br}(d:Rw W t.a t.c t.l){y:Addr}(f:t.a=some y):y.block≠x.block:=by
 obtain⟨i,b⟩:=h.row.blk e;obtain⟨j,g⟩:=d.blk f;exact jd g b (by decide)
theorem Prs.app{W V:World}{a:Option Addr}{c:Nat}{C:List (Br×Br)}(h:Prs W a c C){K Vl:Br}(j:Rw W K.a K.c K.l/\B8 K.l)(l:Rw W Vl.a Vl.c Vl.l/\B8 Vl.l)(D:jE K Vl)(q:∀k,prO a C k->(¬ ∃x,K.a=some x/\x.block=k)/\¬ ∃x,Vl.a=some x/\x.block=k)
 {g i:Nat} (r:Q.Gw 45 2 V (some ⟨g,0,none⟩) i (C.length+1) (prv C++[Value.slice K.a K.l.length K.c,Value.slice Vl.a Vl.l.length Vl.c])) (p:But (Q.InA a) W V):Prs V (some ⟨g,0,none⟩) i (C++[(K,Vl)]):=by
 have f:∀t:Br,Rw W t.a t.c t.l->Rw V t.a t.c t.l:=λt ht=>ht.but p (λx d ⟨y,b,e⟩=>h.ne b ht d e.symm)
 refine⟨by rw[af,<-vQ];exact r,λt ht=>?_,?_⟩
 . rw[qI] at ht;rcases bO.1 ht with ht|ht
   . exact⟨f t (h.ok t ht).1,(h.ok t ht).2⟩
   . simp only[bQ,cf,fY] at ht;rcases ht with rfl|rfl
     . exact⟨f _ j.1,j.2⟩
     . exact⟨f _ l.1,l.2⟩
 . rw[qI,dE];refine⟨h.ap,.cons (λt ht=>by simp only[bQ,cf,fY] at ht;rw[ht];exact D) (.cons (λt ht=>by cases ht) .nil),λs v t ht x y d b e=>?_⟩
   have hk:=q x.block (.inr ⟨s,v,x,d,rfl⟩);simp only[bQ,cf,fY] at ht;rcases ht with rfl|rfl
   . exact hk.1 ⟨y,b,e.symm⟩
   . exact hk.2 ⟨y,b,e.symm⟩
theorem oI{C:List (Br×Br)}{K V:Br}:prO a (C++[(K,V)]) k↔((∃x,a=some x/\x.block=k)\/(∃t∈prR C,∃x,t.a=some x/\x.block=k)\/(∃x,K.a=some x/\x.block=k)\/∃x,V.a=some x/\x.block=k):=by
 unfold prO;rw[qI];constructor
 . rintro(h|⟨t,ht,h⟩)
   . exact .inl h
   . rcases bO.1 ht with ht|ht
     . exact .inr (.inl ⟨t,ht,h⟩)
     . simp only[bQ,cf,fY] at ht;rcases ht with rfl|rfl
       . exact .inr (.inr (.inl h))
       . exact .inr (.inr (.inr h))
 . rintro(h|⟨t,ht,h⟩|h|h)
   . exact .inl h
   . exact .inr ⟨t,eD _ ht,h⟩
   . exact .inr ⟨K,dQ _ (by simp),h⟩
   . exact .inr ⟨V,dQ _ (by simp),h⟩
def Yl:Yc (List (List Nat×List Nat)×Nat):=⟨λc p=>(c.1++[p],0),λc e=>(c.1,e),λc=>decide (c.2≠0)⟩
theorem rC:∀c e,e≠0->Yl.ystp (Yl.ybad c e)=true:=λc e h=>by simp[Yl,h]
theorem yp:∀c p,(Yl.yl c p).1.length<=c.1.length+1:=λc p=>by simp[Yl]
def CoI(n:Nat)(F:Nat->Prop)(s:List (List Nat×List Nat)×Nat)(W:World):Prop:=
 ∃(a:Option Addr)(c:Nat)(C:List (Br×Br)),(∀k,F k↔(k=n\/k=n+1\/k=n+2\/prO a C k))/\Prs W a c C/\s=(prl C,0)/\W.heap[n]?=some (.cells #[.slice none 0 0] 60 (0,0))/\W.heap[n+1]?=some (.cells #[.int .i64 0] 39 (0,0))/\W.heap[n+2]?=some (.cells #[.slice a C.length c] 60 (0,0))/\∀k,prO a C k->n+2<k
def CoX(n:Nat)(F:Nat->Prop)(s:List (List Nat×List Nat)×Nat)(W:World):Prop:=
 (∀k,F k->k<W.heap.size)/\F n/\F (n+1)/\s.2≠0/\W.heap[n]?=some (.cells #[.slice none 0 0] 60 (0,0))/\W.heap[n+1]?=some (.cells #[.int .i64 (s.2:Int)] 39 (0,0))
theorem CoI.but{s:List (List Nat×List Nat)×Nat}(h:CoI n F s W)(hb:But S W V)(d:∀k,F k->¬S k):CoI n F s V:=by
 obtain⟨a,c,C,b,e,f,g,i,j,l⟩:=h;exact⟨a,c,C,b,e.but hb (λk hk=>d k ((b k).2 (.inr (.inr (.inr hk))))),f,hb.same g (d _ ((b _).2 (.inl rfl))),hb.same i (d _ ((b _).2 (.inr (.inl rfl)))),hb.same j (d _ ((b _).2 (.inr (.inr (.inl rfl))))),l⟩
theorem CoI.siz{s:List (List Nat×List Nat)×Nat}(h:CoI n F s W):∀k,F k->k<W.heap.size:=λk hk=>by
 obtain⟨a,c,C,b,d,f,g,i,e,j⟩:=h;have l:=(ae.1 e).1;rcases (b k).1 hk with rfl|rfl|rfl|hk
 . omega
 . omega
 . omega
 . exact d.lt hk
theorem CoX.but{s:List (List Nat×List Nat)×Nat}(h:CoX n F s W)(hb:But S W V)(e:∀k,F k->¬S k):CoX n F s V:=by
 obtain⟨f,b,d,g,i,j⟩:=h;exact⟨λk hk=>a6 (f k hk) hb.size,b,d,g,hb.same i (e _ b),hb.same j (e _ d)⟩
theorem By(w:World):∃U:World,((w.alloc (.cells #[.slice none 0 0] 60)).alloc (.cells #[.int .i64 0] 39)).alloc (.cells #[.slice none 0 0] 60)=U/\CoI w.heap.size (λk=>k=w.heap.size\/k=w.heap.size+1\/k=w.heap.size+2) ([],0) U/\Below w.heap.size w U/\U.heap.size=w.heap.size+3:=by
 obtain⟨b,f⟩:∃U,w.alloc (.cells #[.slice none 0 0] 60)=U:=⟨_,rfl⟩;obtain⟨d,g⟩:∃U,b.alloc (.cells #[.int .i64 0] 39)=U:=⟨_,rfl⟩;obtain⟨e,i⟩:∃U,d.alloc (.cells #[.slice none 0 0] 60)=U:=⟨_,rfl⟩;have q:b.heap.size=w.heap.size+1:=by rw[<-f,size_alloc]
 have r:d.heap.size=w.heap.size+2:=by rw[<-g,size_alloc,q]
 have v:e.heap.size=w.heap.size+3:=by rw[<-i,size_alloc,r]
 have s:Below w.heap.size w b:=by rw[<-f];exact al _ _
 have l:Below b.heap.size b d:=by rw[<-g];exact al _ _
 have j:Below d.heap.size d e:=by rw[<-i];exact al _ _
 have C:b.heap[w.heap.size]?=some (.cells #[.slice none 0 0] 60 (0,0)):=by rw[<-f];exact ag _ _
 have D:d.heap[w.heap.size+1]?=some (.cells #[.int .i64 0] 39 (0,0)):=by rw[<-q,<-g];exact ag _ _
 have E:e.heap[w.heap.size+2]?=some (.cells #[.slice none 0 0] 60 (0,0)):=by rw[<-r,<-i];exact ag _ _
 have p:∀k,¬prO none [] k:=λk hk=>by
  rcases hk with⟨x,hx,_⟩|⟨t,ht,_⟩
  . cases hx
  . cases ht
 exact⟨e,by rw[f,g,i],⟨none,0,[],λk=>⟨λh=>by rcases h with h|h|h;exact .inl h;exact .inr (.inl h);exact .inr (.inr (.inl h)),λh=>by rcases h with h|h|h|h;exact .inl h;exact .inr (.inl h);exact .inr (.inr h);exact(p k h).elim⟩,Prs.nil _,rfl,(bt l j).block _ (by omega) |>.trans C,(j.block _ (by omega)).trans D,E,λk hk=>(p k hk).elim⟩,bt (bt s l) j,v⟩
theorem qW{b:Func}{p q:Tmp}{d e:TypeId}(h:b.results=#[.cell p d,.cell q e])(tmps:Array Value)(w:World)(g k:Nat)(v u:Value)
 (i:tmps.getD p undef=.pointer (some ⟨g,0,none⟩)) (j:tmps.getD q undef=.pointer (some ⟨k,0,none⟩)) (f:(loadVar d ⟨g,0,none⟩).run prog w=.ok v w) (l:(loadVar e ⟨k,0,none⟩).run prog w=.ok u w):
 (results b tmps).run prog w=.ok (.tuple #[v,u]) w:=by
 have r:tmps[p]?.getD undef=.pointer (some ⟨g,0,none⟩):=by simpa using i
 have s:tmps[q]?.getD undef=.pointer (some ⟨k,0,none⟩):=by simpa using j
 simp[results,h,r,s,asAddr,f,l]
theorem rP(w:World)(g:Nat)(v:Value)(b:w.cell? ⟨g,0,none⟩=some v):(loadVar 60 ⟨g,0,none⟩).run prog w=.ok v w:=by
 go_simp
def CoR(w w':World)(e:Ending)(s:List (List Nat×List Nat)×Nat):Prop:=
 (s.2≠0/\e=.returned (.tuple #[.slice none 0 0,.int .i64 (s.2:Int)]))\/(s.2=0/\∃(a:Option Addr)(c:Nat)(C:List (Br×Br)),e=.returned (.tuple #[.slice a C.length c,.int .i64 0])/\Prs w' a c C/\prl C=s.1/\∀k,prO a C k->w.heap.size<=k)
end Go.Proofs.YteaogidofpfmmaaGreat
