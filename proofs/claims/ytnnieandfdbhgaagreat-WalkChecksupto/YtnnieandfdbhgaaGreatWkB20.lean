import Derived.Test.YtnnieandfdbhgaaGreatWkB19
import Derived.WalkMore
set_option linter.all false
set_option maxHeartbeats 16000000
set_option maxRecDepth 10000
namespace Go.Proofs.YtnnieandfdbhgaaGreat
open Go.Proofs.Tryz
open Go.RowKit Go.Shelf
attribute [local go_sem] Oper.semAt_some
variable {x:Addr}{rd:Int->Option Pg}{y:Iv}{G:List Int}{L OL:List Iv}{c k m mb n:Nat}{F Fc S:Nat->Prop}{a:Option Addr}{A B V W:World}
def pst{τ:Type}(Y:Yc τ)(rd:Int->Option Pg)(r:Rg)(c:τ)(x:It):τ:=if has r x.key=false then c else if (ldI rd x).1≠0 then Y.ybad c (ldI rd x).1 else Y.yl c (mO rd x)
theorem m9{τ:Type}{Y:Yc τ}(b:∀c e,e≠0->Y.ystp (Y.ybad c e)=true){rd:Int->Option Pg}{r:Rg}:∀(L:List It)(c:τ),Y.ystp c=false->pit Y rd r L c=flw (pst Y rd r) Y.ystp L c
 | [],c,_=>rfl
 |x::L,c,h=>by
  unfold pit;rw[iI];unfold pst;by_cases h1:has r x.key=false
  . rw[if_pos h1,if_pos h1,if_neg (by rw[h];decide)]
    exact m9 b L c h
  . rw[if_neg h1,if_neg h1];by_cases h2:(ldI rd x).1≠0
    . rw[if_pos h2,if_pos h2,if_pos (b _ _ h2)]
    . rw[if_neg h2,if_neg h2];by_cases h3:Y.ystp (Y.yl c (mO rd x))=true
      . rw[if_pos h3,if_pos h3]
      . rw[if_neg h3,if_neg h3];exact m9 b L _ (by simpa using h3)
structure Unt(Fc:Nat->Prop)(V:World)(y:Iv):Prop where
 rw:∀t∈y.rows,Rw V t.a t.c t.l/\B8 t.l/\∀x,t.a=some x->¬Fc x.block
 ns:N64 y.child/\N64 y.size
theorem Unt.ii(h:Unt Fc V y):Ii V y:=by
 have b:=h.rw ⟨y.aK,y.cK,y.key⟩ (by simp[Iv.rows])
 have d:=h.rw ⟨y.aV,y.cV,y.val⟩ (by simp[Iv.rows])
 exact⟨b.1.bs b.2.1 b.1.len_le,b.1.cap,d.1.bs d.2.1 d.1.len_le,d.1.cap,h.ns.1,h.ns.2⟩
theorem Unt.but{Fc':Nat->Prop}{d:World}(h:Unt Fc V y)(hb:But S V d)(f:∀t∈y.rows,∀x,t.a=some x->¬S x.block)(e:∀t∈y.rows,∀x,t.a=some x->¬Fc' x.block):Unt Fc' d y:=⟨λt b=>⟨(h.rw t b).1.but hb (f t b),(h.rw t b).2.1,e t b⟩,h.ns⟩
def gY(L:List Iv)(k:Nat):Prop:=∃t∈fI L,∃x,t.a=some x/\x.block=k
theorem jk(d:y∈L){t:Br}(b:t∈y.rows):t∈fI L:=List.mem_flatten.2 ⟨y.rows,bN.2 ⟨y,d,rfl⟩,b⟩
def apI(x y:Iv):Prop:=∀s∈x.rows,∀t∈y.rows,gV s t
theorem apI.symm{x:Iv}(h:apI x y):apI y x:=λs b t d=>(h t d s b).symm
theorem sy{L:List Iv}(h:(fI L).Pairwise gV):L.Pairwise apI:=by
 induction L with
 |nil=>exact .nil
 |cons x L ih=>
  rw[lj,cO] at h;exact .cons (λy e s b t d=>h.2.2 s b t (jk e d)) (ih h.2.1)
theorem so{o:Bool}(h:L.Pairwise apI):(ga o L).Pairwise apI:=by
 unfold ga;split
 . exact h
 . exact List.pairwise_reverse.2 (h.imp λh=>h.symm)
def EnR{τ:Type}(Y:Yc τ)(cn:τ->Nat)(B:Nat)(s:τ)(W0 W1:World)(vals:Array Value)(s':τ)(er:Bool)(Gv:Nat->Prop):Prop:=
 (∃K V:Br,vals=#[.agg #[.slice K.a K.l.length K.c,.slice V.a V.l.length V.c],.int .i64 0]/\Rw W1 K.a K.c K.l/\B8 K.l/\Rw W1 V.a V.c V.l/\B8 V.l/\gV K V/\s'=Y.yl s (K.l,V.l)/\er=false/\cn s<B/\∀k,Gv k↔((∃x,K.a=some x/\x.block=k)\/∃x,V.a=some x/\x.block=k))\/
 (∃e:Nat,vals=#[.agg #[.slice none 0 0,.slice none 0 0],.int .i64 (e:Int)]/\e≠0/\s'=Y.ybad s e/\er=true/\∀k,¬Gv k)
theorem vw(w:World)(h t q:Array Value):∃U:World,(((w.alloc (.cells h 165)).alloc (.map #[] 0)).alloc (.cells t 143)).setRow (w.heap.size+1+1) q=U/\U.heap[w.heap.size]?=some (.cells h 165 (0,0))/\Mp U (w.heap.size+1) (gnf [])/\U.heap[w.heap.size+2]?=some (.cells q 143 (0,0))/\Below w.heap.size w U/\U.heap.size=w.heap.size+3:=by
 obtain⟨b,i⟩:∃U,w.alloc (.cells h 165)=U:=⟨_,rfl⟩;obtain⟨d,j⟩:∃U,b.alloc (.map #[] 0)=U:=⟨_,rfl⟩;obtain⟨f,l⟩:∃U,d.alloc (.cells t 143)=U:=⟨_,rfl⟩;obtain⟨g,p⟩:∃U,f.setRow (w.heap.size+1+1) q=U:=⟨_,rfl⟩;have C:b.heap.size=w.heap.size+1:=by rw[<-i,size_alloc]
 have D:d.heap.size=w.heap.size+2:=by rw[<-j,size_alloc,C]
 have H:f.heap.size=w.heap.size+3:=by rw[<-l,size_alloc,D]
 have I:g.heap.size=w.heap.size+3:=by rw[<-p,<-H];simp
 have E:Below w.heap.size w b:=by rw[<-i];exact al _ _
 have v:Below b.heap.size b d:=by rw[<-j];exact al _ _
 have r:Below d.heap.size d f:=by rw[<-l];exact al _ _
 have s:But (λk=>k=w.heap.size+2) f g:=by rw[<-p];exact Q.ft _ _ _
 have J:b.heap[w.heap.size]?=some (.cells h 165 (0,0)):=by rw[<-i];exact ag _ _
 have K:Mp d (w.heap.size+1) (gnf []):=by rw[<-C,<-j];exact(Mp.made _).congr (λk=>by simp[gnf])
 have M:f.heap[w.heap.size+2]?=some (.cells t 143 (0,0)):=by rw[<-D,<-l];exact ag _ _
 have N:g.heap[w.heap.size+2]?=some (.cells q 143 (0,0)):=by rw[<-p];exact br _ _ _ _ _ _ M
 refine⟨g,by rw[i,j,l,p],?_,?_,N,?_,I⟩
 . exact s.same ((bt v r).block _ (by omega) |>.trans J) (λe=>by omega)
 . exact(K.keep r).but s (λe=>by omega)
 . exact(((But.ofBelow (S:=λk=>k=w.heap.size+2) (bt (bt E v) r)).trans s (λ_ _ e=>e)).below (λk O e=>by omega))
def StP{τ:Type}(Y:Yc τ)(rd:Int->Option Pg)(cn:τ->Nat)(s:Pst τ):Prop:=Y.ystp s.c=false/\Gok rd s.G/\cn s.c<=8*s.G.length
def StI{τ:Type}(Y:Yc τ)(rd:Int->Option Pg)(cn:τ->Nat)(G:List Int)(m:Nat)(c:τ):Prop:=Y.ystp c=false/\Gok rd G/\cn c+m<=8*G.length
theorem StI.skip{τ:Type}{Y:Yc τ}{b:τ->Nat}{c:τ}(h:StI Y rd b G (m+1) c):StI Y rd b G m c:=⟨h.1,h.2.1,by have:=h.2.2;omega⟩
theorem StI.less{τ:Type}{Y:Yc τ}{b:τ->Nat}{c:τ}(h:StI Y rd b G (m+1) c){N:Nat}(d:jc rd N):b c<8*N:=by
 have e:=h.2.1.len d;have f:=h.2.2;omega
theorem StI.yl{τ:Type}{Y:Yc τ}{b:τ->Nat}(e:∀c p,b (Y.yl c p)<=b c+1){c:τ}(h:StI Y rd b G (m+1) c){p:List Nat×List Nat}(d:Y.ystp (Y.yl c p)=false):StI Y rd b G m (Y.yl c p):=⟨d,h.2.1,by have:=h.2.2;have:=e c p;omega⟩
theorem StP.inn{τ:Type}{Y:Yc τ}{b:τ->Nat}{s:Pst τ}(h:StP Y rd b s){n:Int}{p:Pg}(e:rd n=some p)(d:n∉s.G)(f:m<=8):StI Y rd b (n::s.G) m s.c:=⟨h.1,h.2.1.cons e d,by have:=h.2.2;rw[aR];omega⟩
theorem StI.o{τ:Type}{Y:Yc τ}{b:τ->Nat}{c:τ}(h:StI Y rd b G m c){s:Pst τ}(d:s.G=G)(e:s.c=c):StP Y rd b s:=⟨by rw[e];exact h.1,by rw[d];exact h.2.1,by rw[e,d];have:=h.2.2;omega⟩
theorem uv:(prog.info? 143).map (·.size)=some 4:=by kernel_rfl
def PrI{τ:Type}(J:(Nat->Prop)->τ->World->Prop)(Y:Yc τ)(rd:Int->Option Pg)(cn:τ->Nat)(mb:Nat)(F:Nat->Prop)(s:Pst τ)(V:World):Prop:=∃Fc:Nat->Prop,(∀k,F k↔(Fc k\/k=mb))/\¬Fc mb/\J Fc s.c V/\StP Y rd cn s/\Mp V mb (gnf s.G)
def PrX{τ:Type}(J Jx:(Nat->Prop)->τ->World->Prop)(Y:Yc τ)(mb:Nat)(id:Nat)(c:Code)(F:Nat->Prop)(s:Pst τ)(V:World):Prop:=∃Fc:Nat->Prop,(∀k,F k↔(Fc k\/k=mb))/\¬Fc mb/\mb<V.heap.size/\c=.exit id/\Y.ystp s.c=true/\(J Fc s.c V\/Jx Fc s.c V)
def InI{τ:Type}(J:(Nat->Prop)->τ->World->Prop)(Y:Yc τ)(rd:Int->Option Pg)(cn:τ->Nat)(mb:Nat)(L OL:List Iv)(G:List Int)(F:Nat->Prop)(s:List Iv×τ)(V:World):Prop:=∃Fc:Nat->Prop,(∀k,F k↔(Fc k\/gY L k))/\¬Fc mb/\J Fc s.2 V/\StI Y rd cn G s.1.length s.2/\(∃pre,OL=pre++s.1)/\(∀y∈s.1,Unt Fc V y)/\Mp V mb (gnf G)/\(∀k,gY L k->k<V.heap.size)
def InX{τ:Type}(J Jx:(Nat->Prop)->τ->World->Prop)(Y:Yc τ)(mb:Nat)(L:List Iv)(c:Code)(F:Nat->Prop)(s:List Iv×τ)(V:World):Prop:=∃Fc:Nat->Prop,(∀k,F k↔(Fc k\/gY L k))/\¬Fc mb/\c=.exit 0/\Y.ystp s.2=true/\(J Fc s.2 V\/Jx Fc s.2 V)/\(∀k,gY L k->k<V.heap.size)/\mb<V.heap.size
theorem InI.abid{τ:Type}{J:(Nat->Prop)->τ->World->Prop}{Y:Yc τ}{i:τ->Nat}{s:List Iv×τ}(h:InI J Y rd i mb L OL G F s A)(K:∀y∈OL,y∈L)(p:je m J)(hb:But (λk=>¬F k/\n<=k) A B)(I:m<=n)(N:mb<n):InI J Y rd i mb L OL G F s B:=by
 obtain⟨Fc,d,q,r,v,j,l,C,D⟩:=h
 have M:∀y∈s.1,y∈L:=λy b=>by
  obtain⟨pre,e⟩:=j;exact K y (by rw[e];exact dM _ b)
 exact⟨Fc,d,q,p Fc _ A B r (hb.mono λk _ e=>⟨λE=>e.1 ((d k).2 (.inl E)),az I e.2⟩),v,j,λy b=>(l y b).but hb (λt f x g e=>e.1 ((d _).2 (.inr ⟨t,jk (M y b) f,x,g,rfl⟩))) (λt f x g=>((l y b).rw t f).2.2 x g),C.but hb (λe=>by have:=e.2;omega),λk H=>aE (D k H) hb.size⟩
theorem InI.siz{τ:Type}{J:(Nat->Prop)->τ->World->Prop}{Y:Yc τ}{b:τ->Nat}{s:List Iv×τ}(h:InI J Y rd b mb L OL G F s A)(i:jY J):∀k,F k->k<A.heap.size:=λk g=>by
 obtain⟨Fc,d,j,e,l,p,q,r,f⟩:=h;rcases (d k).1 g with h|h
 . exact i _ _ _ e k h
 . exact f k h
theorem InX.abid{τ:Type}{J d:(Nat->Prop)->τ->World->Prop}{Y:Yc τ}{c:Code}{s:List Iv×τ}(h:InX J d Y mb L c F s A)(g:je m J)(C:je m d)(hb:But (λk=>¬F k/\n<=k) A B)(b:m<=n):InX J d Y mb L c F s B:=by
 obtain⟨Fc,f,i,j,l,p,q,r⟩:=h;have b:But (λk=>¬Fc k/\m<=k) A B:=hb.mono λk _ e=>⟨λt=>e.1 ((f k).2 (.inl t)),az b e.2⟩
 exact⟨Fc,f,i,j,l,p.imp (λh=>g Fc _ A B h b) (λh=>C Fc _ A B h b),λk v=>aE (q k v) hb.size,aE r hb.size⟩
theorem InX.siz{τ:Type}{J d:(Nat->Prop)->τ->World->Prop}{Y:Yc τ}{c:Code}{s:List Iv×τ}(h:InX J d Y mb L c F s A)(j:jY J)(l:jY d):∀k,F k->k<A.heap.size:=λk i=>by
 obtain⟨Fc,e,p,q,r,f,g,t⟩:=h;rcases (e k).1 i with h|h
 . exact f.elim (λb=>j _ _ _ b k h) (λb=>l _ _ _ b k h)
 . exact g k h
theorem ss{bA:Type}(Y:Yc bA)(a0:∀c e,e≠0->Y.ystp (Y.ybad c e)=true)(rd:Int->Option Pg)(hA:gc rd)(cn:bA->Nat)(cN:∀c p,cn (Y.yl c p)<=cn c+1)(ce:Nat)(hN:jc rd ce)(aP:Nat)(XV:Nat->Prop)(w:World)(t1 t2 t3 t4:Nat)(root U cc:Int)(h2:1<=U)(h3:U<=12)(r:Rv)(o:Bool)
 (bW:w.heap[t1]?=some (.cells #[.int .i64 root,.int .i64 U,.int .i64 cc] 34 (0,0))) (bY:w.heap[t2]?=some (.cells r.cs 62 (0,0))) (bq:w.cell? ⟨t3,0,none⟩=some (.pointer (some ⟨aP,0,none⟩))) (br:w.cell? ⟨t4,0,none⟩=some (.int .i64 (if o=true then 0 else 1)))
 (cF:Ri w r) (dA:Rb r) (hR:gu 52 (.pointer (some ⟨aP,0,none⟩)) rd XV w) (hX:∀k,XV k->k<w.heap.size) (cI:∀k,iY r k->k<w.heap.size) (s0:bA) (b2:Y.ystp s0=false) (cL:cn s0=0):
 jE prog 86 #[.pointer (some ⟨t1,0,none⟩),.pointer (some ⟨t2,0,none⟩),.pointer (some ⟨t3,0,none⟩),.pointer (some ⟨t4,0,none⟩)] Y.ystp (EnR Y cn (8*ce)) (λ_=>False) (λ_ _=>True) s0
  (λs=>s=(fs (prM Y rd r.rg o) rd (iz r.rg) o (U-1).toNat ⟨[],s0⟩ (i8 root U)).c) w (λk=>k=t1\/k=t2\/k=t3\/k=t4\/XV k\/iY r k):=by
 intro aG ao Jx W F0 hW hS aJ sJ cA cS bp hY h0;have c9:=e7 (hW.same bW (λh=>h (.inl rfl)))
 have dX:=e7 (hW.same bY (λh=>h (.inr (.inl rfl))))
 have da:=e7 ((hW.cell (p:=⟨t3,0,none⟩) (block_lt_of_cell bq) (λh=>h (.inr (.inr (.inl rfl))))).trans bq)
 have bw:=e7 ((hW.cell (p:=⟨t4,0,none⟩) (block_lt_of_cell br) (λh=>h (.inr (.inr (.inr (.inl rfl)))))).trans br)
 have RI:=e7 (cF.but hW (λk hk h=>h (.inr (.inr (.inr (.inr (.inr hk)))))))
 have RW:=e7 (hR.but hW (λk h hk=>h (.inr (.inr (.inr (.inr (.inl hk)))))))
 have dH:=hW.size;have L1:=(ae.1 bW).1;have L2:=(ae.1 bY).1;have L3:t3<w.heap.size:=block_lt_of_cell bq;have L4:t4<w.heap.size:=block_lt_of_cell br
 have I:Hid (∀k,(k=t1\/k=t2\/k=t3\/k=t4\/XV k\/iY r k)->k<W.heap.size):=e7 (λk hk=>by
  rcases hk with rfl|rfl|rfl|rfl|hk|hk
  . omega
  . omega
  . omega
  . omega
  . have:=hX k hk;omega
  . have:=cI k hk;omega)
 have HS:=e7 hS;have AJ:=e7 aJ;have SJ:=e7 sJ;have bB:=e7 cA;have cx:=e7 cS;have YY:=e7 hY;have J0:=e7 h0;have bd:=e7 (sJ _ _ _ h0);have HA:=e7 hA;clear hW bW bY bq br cF hR hS aJ sJ cA cS bp hY h0 hX cI L1 L2 L3 L4 dH hA;obtain⟨ov,b1⟩:∃ov:Int,(if o=true then (0:Int) else 1)=ov:=⟨_,rfl⟩
 have cm:=e7 b1;rw[b1] at bw;clear b1;have d7:((decide (root=0)&&(decide (U=0)&&decide (cc=0))))=false:=by simp;omega
 have K:=λ(W:World)(k:Nat)(cs:Array Value)(t:TypeId)(e:W.heap.size=k)=>(e▸ag W (.cells cs t):(W.alloc (.cells cs t)).heap[k]?=some (.cells cs t (0,0)))
 have dG:= @run_makeMap prog;have A1:=e7 (al W (.cells #[.func (.yield aG) #[] #[]] 165));obtain⟨c1,c2,c3⟩:=ix ((A1.o.block t1 (I.o t1 (.inl rfl))).trans c9.o);have c4:=(A1.o.cell (p:=⟨t3,0,none⟩) (I.o t3 (.inr (.inr (.inl rfl))))).trans da.o;have c5:=(A1.o.cell (p:=⟨t4,0,none⟩) (I.o t4 (.inr (.inr (.inr (.inl rfl)))))).trans bw.o;have A2:=e7 (bt A1.o (al (W.alloc (.cells #[.func (.yield aG) #[] #[]] 165)) (.map #[] 0)));have dy:=(A2.o.cell (p:=⟨t4,0,none⟩) (I.o t4 (.inr (.inr (.inr (.inl rfl)))))).trans bw.o;refine dg func86 rfl trivial ?_ rfl;simp only[ntmps86,bM,aR,aO,Nat.reduceAdd,Nat.reduceSub,bT,bX,cG,b7,cu,cM];refine dW.2 ?_;go_upto_region 1 with fail
 refine wp_scope_straight ?_;go_upto_region 4 with(first|(refine aZ rfl 143 _ _ rfl (W.heap.size+1+1) _ rfl rfl 143 _ (K _ _ _ _ (by simp[size_alloc])) uv rfl (by simp[Value.oneCell']) ?_)|fail)
 apply wp_label;have RO:=e7 (λ(W:World)=>mI W root U cc h2 h3)
 obtain⟨bb,hU,Y0,XM,X3,BU,sU⟩:=vw W #[.func (.yield aG) #[] #[]] #[.pointer none,.map none,.nilFunc,.int .i64 0] #[.pointer (some ⟨aP,0,none⟩),.map (some (W.heap.size+1)),.func (.func 87) #[] #[.pointer (some ⟨t2,0,none⟩)],.int .i64 ov];rw[hU];clear hU K dG c1 c2 c3 c4 c5 dy A1 A2;have Y0:=e7 Y0;have XM:=e7 XM;have X3:=e7 X3;have BU:=e7 BU;obtain⟨c1,c2,c3⟩:=ix ((BU.o.block t1 (I.o t1 (.inl rfl))).trans c9.o);have ST:=e7 (λ(W':World)=>kx W' (W.heap.size+2) ⟨root,U-1,⟨none,0,[],none,0,[],true⟩⟩)
 unfold Plv.vl at ST;simp only[Plv.cs,aO] at ST;go_wp2_with fail
 refine(RO.o _).mono ?_;rintro _ U1 ⟨rfl,cJ⟩;have B1:=e7 cJ;clear cJ RO;go_wp2_with fail
 refine(ST.o _).mono ?_;rintro _ U2 ⟨rfl,bV⟩;obtain⟨w1,w2,bc,dN⟩:=fK U1 (.cells #[.pointer (some ⟨W.heap.size+2,0,none⟩)] 198) (.cells #[.int .i64 root,.int .i64 (U-1),.slice none 0 0,.slice none 0 0,.bool true] 148) (Below.refl _ _);have el:U2.heap.size=U1.heap.size+2:=by rw[bV,size_alloc,size_alloc]
 rw[<-bV] at w1 w2 bc dN;have en:=e7 bc;have B2:=e7 (bt B1.o bc);have k1:U2.cell? ⟨U1.heap.size,0,none⟩=some (.pointer (some ⟨W.heap.size+2,0,none⟩)):=by rw[ah _ _ _ _ _ _ w1];rfl
 have W2:=e7 w2;have W1:=e7 k1;have d9:bb.heap.size<=U1.heap.size:=B1.o.size;have ab:=e7 (bt BU.o B2.o);have dn:=e7 ((B2.o.block (W.heap.size+2) (ae.1 X3.o).1).trans X3.o);have co:=e7 (RW.o.keep ab.o);have R2:=e7 ((ab.o.block t2 (I.o t2 (.inr (.inl rfl)))).trans dX.o);have cw:=e7 (RI.o.keep ab.o);have V2:=e7 ((ab.o.cell (p:=⟨t3,0,none⟩) (I.o t3 (.inr (.inr (.inl rfl))))).trans da.o);have O2:=e7 ((ab.o.cell (p:=⟨t4,0,none⟩) (I.o t4 (.inr (.inr (.inr (.inl rfl)))))).trans bw.o);have Y2:=e7 ((B2.o.block W.heap.size (ae.1 Y0.o).1).trans Y0.o);have M2:=e7 (XM.o.keep B2.o)
 have TT:Hid (Tou U2 (W.heap.size+2) (W.heap.size+1) aP 87 #[.pointer (some ⟨t2,0,none⟩)] o rd XV (iz r.rg) (λk=>k=t2\/iY r k)):=e7 ⟨by rw[dn.o];unfold kW;rw[cm.o],co.o,rm U2 t2 r R2.o cw.o dA,λk h=>by have:=I.o k (.inr (.inr (.inr (.inr (.inl h)))));omega,λk h=>by
  rcases h with h|h
  . have:=I.o k (.inr (.inl h));omega
  . have:=I.o k (.inr (.inr (.inr (.inr (.inr h)))));omega⟩
 have XX:Hid (∀k,XS (W.heap.size+2) U1.heap.size (U1.heap.size+1) ⟨root,U-1,⟨none,0,[],none,0,[],true⟩⟩ XV (λk=>k=t2\/iY r k) k->k<U2.heap.size/\¬(F0 k\/k=W.heap.size+1)):=e7 (λk hk=>by
  have g:k=U1.heap.size\/k=U1.heap.size+1\/k=W.heap.size+2\/(k=t1\/k=t2\/k=t3\/k=t4\/XV k\/iY r k):=by
   rcases hk with h|h|h|h|h|⟨y,f,_⟩|⟨y,f,_⟩
   . exact .inl h
   . exact .inr (.inl h)
   . exact .inr (.inr (.inl h))
   . exact .inr (.inr (.inr (.inr (.inr (.inr (.inr (.inl h)))))))
   . rcases h with h|h
     . exact .inr (.inr (.inr (.inr (.inl h))))
     . exact .inr (.inr (.inr (.inr (.inr (.inr (.inr (.inr h)))))))
   all_goals
    cases f
  have b5:=bd.o k;rcases g with h|h|h|h
  . exact⟨by omega,λe=>by rcases e with e|e;have:=b5 e;omega;omega⟩
  . exact⟨by omega,λe=>by rcases e with e|e;have:=b5 e;omega;omega⟩
  . exact⟨by omega,λe=>by rcases e with e|e;have:=b5 e;omega;omega⟩
  . have h5:=I.o k h;exact⟨by omega,λe=>by rcases e with e|e;exact HS.o k e h;omega⟩)
 have SQ:=e7 (oH (prM Y rd r.rg o) rd HA.o aP (W.heap.size+2) (W.heap.size+1) 87 #[.pointer (some ⟨t2,0,none⟩)] (enters_of func87 (by kernel_rfl) rfl) o XV (iz r.rg) (λk=>k=t2\/iY r k) (λ_ _=>rfl) (λs=>a0 _ _ (by decide)) ld (U-1).toNat U2 U1.heap.size (U1.heap.size+1) ⟨root,U-1,⟨none,0,[],none,0,[],true⟩⟩ ⟨[],s0⟩ (by show U-1<=_;omega) W1.o W2.o ⟨Bs.nil _,ai _,Bs.nil _,ai _⟩ ⟨ar _,ar _⟩ (show N64 (U-1) from⟨by omega,by omega⟩) TT.o b2 (λk hk=>(XX.o k hk).1))
 have I2:Hid (PrI ao Y rd cn (W.heap.size+1) (λk=>F0 k\/k=W.heap.size+1) ⟨[],s0⟩ U2):=e7 ⟨F0,λk=>df,λh=>by have:=bd.o _ h;omega,AJ.o F0 s0 W _ J0.o (But.ofBelow ab.o),⟨b2,Gok.nil _,Nat.le_of_eq cL⟩,M2.o⟩
 have dm:=e7 cN;have HN:=e7 hN;clear w1 w2 k1 bc bV ST c1 c2 c3 b2 cL cN hN;go_wp2_with fail
 refine(dW (n:=0)).1 ?_
 refine iO (gf:=116) (lb:=#[.pointer (some ⟨U1.heap.size,0,none⟩),.pointer (some ⟨U1.heap.size+1,0,none⟩)]) rfl (enters_of func116 (by kernel_rfl) rfl) SQ.o (But.refl _ _) (λk hk=>(XX.o k hk).1)
  (by rintro s W0 W1 dd D er Gv (⟨p',q',rfl,_⟩|⟨rfl,_⟩)<;>rfl)
  (λk=>F0 k\/k=W.heap.size+1) (λk hk d=>(XX.o k d).2 hk) (PrI ao Y rd cn (W.heap.size+1)) (PrX ao Jx Y (W.heap.size+1) 0)
  (λF s A B h hb=>by
    obtain⟨Fc,Z,q2,q3,q4,q5⟩:=h;exact⟨Fc,Z,q2,AJ.o Fc _ A B q3 (hb.mono λk _ e=>⟨λhf=>e.1 ((Z k).2 (.inl hf)),by have:=e.2;have:=ab.o.size;omega⟩),q4,q5.but hb (λe=>e.1 ((Z _).2 (.inr rfl)))⟩)
  (λF s A h k hk=>by
    obtain⟨Fc,Z,q2,q3,q4,q5⟩:=h;rcases (Z k).1 hk with h|rfl
    . exact SJ.o _ _ _ q3 k h
    . exact q5.lt)
  (λc F s A B h hb=>by
    obtain⟨Fc,Z,q2,q3,q4,q5,q6⟩:=h;have hm:But (λk=>¬Fc k/\W.heap.size<=k) A B:=hb.mono λk _ e=>⟨λhf=>e.1 ((Z k).2 (.inl hf)),by have:=e.2;have:=ab.o.size;omega⟩
    exact⟨Fc,Z,q2,aE q3 hb.size,q4,q5,q6.imp (λh=>AJ.o Fc _ A B h hm) (λh=>bB.o Fc _ A B h hm)⟩)
  (λc F s A h k hk=>by
    obtain⟨Fc,Z,q2,q3,q4,q5,q6⟩:=h;rcases (Z k).1 hk with h|rfl
    . exact q6.elim (λh'=>SJ.o _ _ _ h' k h) (λh'=>cx.o _ _ _ h' k h)
    . exact q3)
  (λF s V h=>by
    obtain⟨Fc,Z,q2,q3,q4,q5⟩:=h;exact⟨q5,λk hk=>(Z k).2 (.inr hk)⟩)
  I2.o ?round ?done ?stop
 case round=>
  rintro H F s aI aa dd D er Gv ⟨Fc,ax,a8,hJ,bs,hM⟩ a1 dB bS eo aX cD dD dE bN ⟨r0,d8⟩;have eu:=a1.size;have d6:U2.heap.size<=H:=dD;have dF:H<aI.heap.size:=dE;have dj:∀k,W.heap.size<=k->¬F0 k:=λk hk h=>by have:=bd.o k h;omega
  have az:But (λk=>F0 k\/k=W.heap.size+1) U2 aa:=bN.trans (a1.mono (T:=λk=>F0 k\/k=W.heap.size+1) λk _ e=>.inr e) (λ_ _ e=>e)
  have nX:∀k,(k=t1\/k=t2\/k=t3\/k=t4\/XV k\/iY r k)->¬(F0 k\/k=W.heap.size+1):=λk hk e=>by
   have:=I.o k hk;rcases e with e|e
   . exact HS.o k e hk
   . omega
  have bK:=e7 (az.same Y2.o (λe=>by rcases e with e|e;exact dj _ (ai _) e;omega))
  have dp:=e7 (az.same R2.o (nX t2 (.inr (.inl rfl))));have dR:=e7 (cw.o.but az (λk hk=>nX k (.inr (.inr (.inr (.inr (.inr hk)))))))
  have cg:=e7 ((az.cell (p:=⟨t3,0,none⟩) (block_lt_of_cell V2.o) (nX t3 (.inr (.inr (.inl rfl))))).trans V2.o);have ct:=e7 ((az.cell (p:=⟨t4,0,none⟩) (block_lt_of_cell O2.o) (nX t4 (.inr (.inr (.inr (.inl rfl)))))).trans O2.o);have dO:=e7 (co.o.but az (λk hk d=>nX k (.inr (.inr (.inr (.inr (.inl d))))) hk))
  have b9:∀k,Fc k->F0 k\/W.heap.size<=k:=λk hk=>by
   rcases aX k ((ax k).2 (.inl hk)) with(h|h)|h
   . exact .inl h
   . exact .inr (by omega)
   . exact .inr (by have:=ab.o.size;omega)
  have cH:=ab.o.size;rcases dB with⟨p,q,rfl,bp,hRb',hP',hrd',hlv',hng',hM',hs',rfl,hGv'⟩|⟨rfl,hM',rfl,hGv'⟩
  . obtain⟨no,lv,E⟩:=p;obtain⟨kq,lq,aq,cq,L,ad,cd,a7,nx⟩:=q;have cy:=e7 (HA.o _ _ hrd');have bg:=e7 (show D=(prM Y rd r.rg o).tel {s with G:=no::s.G} ⟨no,lv,E.rg⟩ (Pv.pg ⟨kq,lq,aq,cq,L,ad,cd,a7,nx⟩) from hs')
    clear hs';simp only[il];gi_wp2
    refine⟨al _ _,λτ af dL ca=>?_⟩
    have aw:=al aa (.cells #[.int .i64 no,.int .i64 lv,.slice E.aL E.lo.length E.cL,.slice E.aH E.hi.length E.cH,.bool E.op,.int .i64 kq,.int .i64 lq,.slice aq L.length cq,.slice ad a7.length cd,.int .i64 nx] 151);have nw:=ag aa (.cells #[.int .i64 no,.int .i64 lv,.slice E.aL E.lo.length E.cL,.slice E.aH E.hi.length E.cH,.bool E.op,.int .i64 kq,.int .i64 lq,.slice aq L.length cq,.slice ad a7.length cd,.int .i64 nx] 151);have sw:=size_alloc aa (.cells #[.int .i64 no,.int .i64 lv,.slice E.aL E.lo.length E.cL,.slice E.aH E.hi.length E.cH,.bool E.op,.int .i64 kq,.int .i64 lq,.slice aq L.length cq,.slice ad a7.length cd,.int .i64 nx] 151);generalize aa.alloc (.cells #[.int .i64 no,.int .i64 lv,.slice E.aL E.lo.length E.cL,.slice E.aH E.hi.length E.cH,.bool E.op,.int .i64 kq,.int .i64 lq,.slice aq L.length cq,.slice ad a7.length cd,.int .i64 nx] 151)=du at *;have ap:=e7 ((But.ofBelow (S:=λk=>k=H) aw).trans af (λ_ _ e=>e))
    have d1:=af.size;have bh:=e7 (AJ.o Fc _ aI τ hJ (((a1.mono (T:=λk=>¬Fc k/\W.heap.size<=k) λk _ e=>by have e:k=W.heap.size+1:=e;rw[e];exact⟨a8,by omega⟩).andBelow aw).trans af (λk _ e=>by have e:k=H:=e;rw[e];exact⟨λh=>cD ((ax H).2 (.inl h)),by omega⟩)))
    have bu:τ.cell? ⟨W.heap.size,0,none⟩=some (.func (.yield aG) #[] #[]):=by rw[ah _ _ _ _ _ _ (ap.o.same bK.o (λe=>by have e:W.heap.size=H:=e;omega))];rfl
    obtain⟨k0,k1,k2,k3,k4,k5,k6,k7,k8,k9⟩:=iD (af.same nw (λe=>by have e:aa.heap.size=H:=e;omega))
    have cp:=e7 ((hM'.keep aw).but af (λe=>by have e:W.heap.size+1=H:=e;omega))
    have d5:Mp aa (W.heap.size+1) (gnf (no::s.G)):=hM';by_cases b0:kq=1
    . subst b0;have h8:L.length<=8:=by have:=(cy.o.node (.inl rfl)).2.2.1;simpa[Pv.pg] using this
      have ak:=e7 (((hP'.keep aw).old af (λk e=>by have e:k=H:=e;rw[e];exact dF)))
      have JS:=ak.o.pi (show L.length<=2199023255520 by omega)
      have cX:gz τ aq Iv.cs 4 L:=by
       rcases JS.it.2.2 with h|⟨c,o',e,h⟩
       . exact .inl h
       . refine .inr ⟨c,o',e,λcf x d=>?_⟩
         obtain⟨hi,e2⟩:=aW.1 d;have:=h cf hi;rw[show L.getD cf Iv.zero=x by simp[hi,e2]] at this
         exact this
      have IN:=e7 (wl τ aq cq L cX (by omega) (λx d=>ak.o.it.lt d) o)
      rw[cm.o] at IN;have AP:=e7 (so (o:=o) (sy (show(fI L).Pairwise gV from(bz.1 ak.o.dist).2)))
      have RB:Hid (∀k,gY L k->aI.heap.size<=k/\k<τ.heap.size):=e7 (λk hk=>by
       obtain⟨t,v,x,d,rfl⟩:=hk;refine⟨?_,(ak.o.fr t v).1.lt d⟩;rcases (ak.o.fr t v).2.1 x d with⟨z,K,_⟩|h2
       . cases K
       . exact h2)
      have be:Hid (∀k,Fc k->k<aI.heap.size):=e7 (λk hk=>SJ.o _ _ _ hJ k hk)
      have cY:Hid (∀y∈L,Unt Fc τ y):=e7 (λy f=>⟨λt v=>⟨(ak.o.fr t (jk f v)).1,(ak.o.fr t (jk f v)).2.2,λx d h=>by
       have h1:=be.o _ h;have h2:=(RB.o x.block ⟨t,jk f v,x,d,rfl⟩).1;omega⟩,ak.o.ns y f⟩)
      have bk:Hid (D.G=no::s.G/\D.c=flw (λc (x:Iv)=>pst Y rd r.rg c x.it) Y.ystp (ga o L) s.c):=e7 (by
       rw[bg.o];refine⟨rfl,?_⟩;show pit Y rd r.rg (ga o (L.map Iv.it)) s.c=_;rw[m9 a0 _ _ bs.1,lS,<-kR (λc x=>pst Y rd r.rg c x) Y.ystp Iv.it])
      have AQ:Hid (∀x,aq=some x->aI.heap.size<=x.block/\¬gY L x.block):=e7 (λx d=>⟨by
       rcases ak.o.itn x d with⟨z,K,_⟩|h2
       . cases K
       . exact h2,λhk=>by
       obtain⟨t,v,y,f,e⟩:=hk;exact ak.o.it.ne (ak.o.fr t v).1 d f e.symm⟩)
      have ds:Hid (StI Y rd cn (no::s.G) (ga o L).length s.c):=e7 (bs.inn hrd' hng' (by unfold ga;split;exact h8;rw[List.length_reverse];exact h8))
      have dq:=e7 (ap.o.same dp.o (λe=>by have e:t2=H:=e;have:=I.o t2 (.inr (.inl rfl));omega))
      have dS:=e7 (dR.o.but ap.o (λk hk e=>by have e:k=H:=e;have:=I.o k (.inr (.inr (.inr (.inr (.inr hk)))));omega))
      have ch:=e7 ((ap.o.cell (p:=⟨t3,0,none⟩) (block_lt_of_cell cg.o) (λe=>by have e:t3=H:=e;have:=I.o t3 (.inr (.inr (.inl rfl)));omega)).trans cg.o)
      have dK:=(ap.o.cell (p:=⟨t4,0,none⟩) (block_lt_of_cell ct.o) (λe=>by have e:t4=H:=e;have:=I.o t4 (.inr (.inr (.inr (.inl rfl))));omega)).trans ct.o
      have dP:=e7 (dO.o.but ap.o (λk hk d=>by have hk:k=H:=hk;have:=I.o k (.inr (.inr (.inr (.inr (.inl d)))));omega))
      have dx:=e7 (ap.o.same bK.o (λe=>by have e:W.heap.size=H:=e;omega))
      have ck:=e7 b9;have aH:=e7 ax;have ea:aa.heap.size<=τ.heap.size:=by omega
      clear bg hrd' hlv' hng' hM' bS hP' bp hRb' hJ ax b9 JS cX bN a1 az nX nw aw af hM;gi_wp2_with (refine⟨trivial,rfl,?_⟩;refine CallsIn.mono (CallsIn.inRound H (cW.2 IN.o)) ?_;rintro _ bI ⟨gf,lb,dw,rfl,dY,c7,c6,db⟩;have aA:=e7 c7;have XQ:=e7 c6;have dr:=e7 (db (λc (x:Iv)=>pst Y rd r.rg c x.it) Y.ystp s.c);clear c7 c6 db IN)
      have ei:=aA.o.size;have d0:=(aA.o.block H (ae.1 ca).1).trans ca
      have dv:Hid (∀k,(Fc k\/gY L k)->¬dw k):=e7 (λk hk d=>by
       rcases (XQ.o k d).1 with h|⟨x,dI,e⟩
       . rcases hk with h2|h2
         . have:=be.o k h2;omega
         . have:=(RB.o k h2).2;omega
       . have h3:=AQ.o x dI;rw[e] at h3;rcases hk with h2|h2
         . have:=be.o k h2;omega
         . exact h3.2 h2)
      clear k0 k1 k2 k3 k4 k5 k6 k7 k8 k9 dK bu
      refine mK (l₀:=H) (r₀:=dL) d0 (gf:=gf) (lb:=lb) rfl dY dr.o (But.refl _ _) (λk hk=>(XQ.o k hk).2) (by rintro s W0 W1 dd D er Gv ⟨x,a2,_,rfl,_⟩;rfl)
       (λk=>Fc k\/gY L k) dv.o (InI ao Y rd cn (W.heap.size+1) L (ga o L) (no::s.G)) (InX ao Jx Y (W.heap.size+1) L)
       (λF s A B h hb=>h.abid (λy f=>jJ.1 f) AJ.o hb (by omega) (by omega))
       (λF s A h=>h.siz SJ.o)
       (λc F s A B h hb=>h.abid AJ.o bB.o hb (by omega))
       (λc F s A h=>h.siz SJ.o cx.o)
       (λF s A h=>⟨trivial,λk h=>h.elim⟩)
       ⟨Fc,λk=>df,a8,AJ.o Fc _ τ bI bh.o (But.ofBelow aA.o),ds.o,⟨[],rfl⟩,λy f=>(cY.o y (jJ.1 f)).but (But.ofBelow (S:=λ_=>False) aA.o) (λt v x d h=>h) (λt v x d h=>(((cY.o y (jJ.1 f)).rw t v).2.2 x d h)),cp.o.keep aA.o,λk hk=>by have:=(RB.o k hk).2;omega⟩ ?round2 ?done2 ?stop2
      case round2=>
       rintro i b s2 bJ aC ez ej d4 bE ⟨P,g1,g2,g3,g4,⟨pre,g5⟩,g6,g7,g8⟩ aN ⟨x,a2,dJ,rfl,rfl,rfl,dz⟩ dV ep dU b8 dZ eq c0 ⟨eg,es⟩;obtain⟨rl,c2⟩:=s2;have G5:=e7 g5;have G1:=e7 g1;clear g5 g1;obtain rfl:rl=x::a2:=dJ;have aN:Below bJ.heap.size bJ aC:=aN.below (λ_ _ h=>h.elim)
       have ev:=aN.size
       have cT:∀k,P k->F0 k\/W.heap.size<=k:=λk hk=>by
        rcases dU k ((G1.o k).2 (.inl hk)) with(h|h)|h
        . exact ck.o k h
        . exact .inr (by have:=(RB.o k h).1;omega)
        . exact .inr (by omega)
       have a9:∀k,(k=t1\/k=t2\/k=t3\/k=t4\/XV k\/iY r k)->¬(Fc k\/gY L k):=λk hk e=>by
        have h1:=I.o k hk;rcases e with e|e
        . rcases ck.o k e with h|h
          . exact HS.o k h hk
          . omega
        . have:=(RB.o k e).1;omega
       have yn:¬(Fc W.heap.size\/gY L W.heap.size):=λe=>by
        rcases e with e|e
        . rcases aX W.heap.size ((aH.o _).2 (.inl e)) with(h|h)|h
          . have:=bd.o _ h;omega
          all_goals
           omega
        . have:=(RB.o _ e).1;omega
       have BB:=e7 ((But.ofBelow (S:=λk=>Fc k\/gY L k) aA.o).trans (c0.andBelow aN) (λ_ _ e=>e))
       simp only[oj,Iv.cs];obtain⟨j,C,g,M,O,val,X,R⟩:=x;gi_wp2
       refine⟨al _ _,λaj aT eh et=>?_⟩
       have bo:=al aC (.cells #[.slice j g.length C,.slice M val.length O,.int .i64 X,.int .i64 R] 89);have cR:=ag aC (.cells #[.slice j g.length C,.slice M val.length O,.int .i64 X,.int .i64 R] 89);have em:=size_alloc aC (.cells #[.slice j g.length C,.slice M val.length O,.int .i64 X,.int .i64 R] 89);generalize aC.alloc (.cells #[.slice j g.length C,.slice M val.length O,.int .i64 X,.int .i64 R] 89)=d3 at *;have ew:=aT.size;have ee:bI.heap.size<=i:=dZ
       have ef:¬(Fc i\/gY L i):=λe=>b8 ((G1.o i).2 (by
        rcases e with e|e
        . have:=be.o _ e;omega
        . exact .inr e))
       have a3:=e7 (((BB.o.andBelow bo).mono (T:=λk=>(Fc k\/gY L k)\/k=i) λ_ _ e=>.inl e).trans aT (λ_ _ e=>.inr e))
       have cv:=e7 (a3.o.same dq.o (λe=>by
        rcases e with e|e
        . exact a9 t2 (.inr (.inl rfl)) e
        . have:=I.o t2 (.inr (.inl rfl));omega))
       have dT:=e7 (dS.o.but a3.o (λk hk e=>by
        rcases e with e|e
        . exact a9 k (.inr (.inr (.inr (.inr (.inr hk))))) e
        . have:=I.o k (.inr (.inr (.inr (.inr (.inr hk)))));omega))
       have ci:=e7 ((a3.o.cell (p:=⟨t3,0,none⟩) (block_lt_of_cell ch.o) (λe=>by
        rcases e with e|e
        . exact a9 t3 (.inr (.inr (.inl rfl))) e
        . have e:t3=i:=e;have:=I.o t3 (.inr (.inr (.inl rfl)));omega)).trans ch.o)
       have dQ:=e7 (dP.o.but a3.o (λk hk d=>by
        rcases hk with e|e
        . exact a9 k (.inr (.inr (.inr (.inr (.inl d))))) e
        . have:=I.o k (.inr (.inr (.inr (.inr (.inl d)))));omega))
       have bn:=e7 (a3.o.same dx.o (λe=>by
        rcases e with e|e
        . exact yn e
        . omega))
       have bi:=e7 (AJ.o P _ bJ aj g3 (((But.ofBelow (S:=λk=>¬P k/\W.heap.size<=k) aN).andBelow bo).trans aT (λk _ e=>by have e:k=i:=e;rw[e];exact⟨λh=>b8 ((G1.o i).2 (.inl h)),by omega⟩)))
       have de:=e7 (((But.ofBelow (S:=λk=>k=i) aN).andBelow bo).trans aT (λ_ _ e=>e))
       have bx:∀y∈(⟨j,C,g,M,O,val,X,R⟩:Iv)::a2,∀t∈y.rows,t∈fI L:=λy f t v=>jk (jJ.1 (by rw[G5.o];exact dM _ f)) v
       have UA:=e7 (λy (f:y∈(⟨j,C,g,M,O,val,X,R⟩:Iv)::a2)=>(g6 y f).but (Fc':=P) de.o (λt v x d e=>b8 ((G1.o i).2 (.inr ⟨t,bx y f t v,x,d,e⟩))) (((g6 y f).rw · · |>.2.2)))
       have bv:=e7 bx;have UX:=e7 (UA.o _ cU);have cr:=e7 (g7.but de.o (λe=>by have e:W.heap.size+1=i:=e;omega))
       have bF:=e7 (aT.same cR (λe=>by have e:aC.heap.size=i:=e;omega))
       have cj:=e7 cT
       have cB:∀y∈a2,apI ⟨j,C,g,M,O,val,X,R⟩ y:=λy f=>by
        have h:=AP.o;rw[G5.o,cO] at h;exact(bz.1 h.2.1).1 y f
       have di:=e7 cB;have aB:=e7 (nR aj r j _ C g dT.o UX.o.ii.bk rfl)
       have bj:Hid (∀k,(∃y,j=some y/\y.block=k)->aI.heap.size<=k/\k<τ.heap.size/\¬P k):=e7 (λk ⟨y,f,e⟩=>by
        subst e;have h1:=RB.o y.block ⟨⟨j,C,g⟩,bx _ cU _ (by simp[Iv.rows]),y,f,rfl⟩
        exact⟨h1.1,h1.2,(UX.o.rw ⟨j,C,g⟩ (by simp[Iv.rows])).2.2 y f⟩)
       have ex:bI.heap.size<=aj.heap.size:=by omega
       have cP:∀k,gY L k->k<aj.heap.size:=λk hk=>by have:=(RB.o k hk).2;omega
       have GX:=e7 cP;clear g3 g6 g7 g8 c0 aN bo cR aT a9 yn bx cB cT dV dz cP;unfold Rv.val at aB;simp only[Rv.cs] at aB cv;obtain⟨i0,i1,i2,i3⟩:=fO bF.o;obtain⟨j0,j1,j2⟩:=ix cv.o;cases l:has r.rg g with
       |false=>
        rw[l] at aB;have PS:Hid (pst Y rd r.rg c2 (Iv.it ⟨j,C,g,M,O,val,X,R⟩)=c2):=e7 (if_pos l);clear l;gi_wp2_with (refine⟨trivial,rfl,?_⟩;refine CallsIn.mono (CallsIn.inRound i (cW.2 aB.o)) ?_;rintro _ bl ⟨rfl,aF⟩;have au:=e7 aF;clear aF aB)
        refine⟨b,(But.ofBelow (S:=b) au.o).ing,λk hk=>.inl hk,λ_=>by rw[PS.o];exact g4.1,P,G1.o,g2,by rw[PS.o];exact AJ.o P _ aj bl bi.o (But.ofBelow au.o),by rw[PS.o];exact g4.skip,⟨pre++[⟨j,C,g,M,O,val,X,R⟩],G5.o.trans (by simp)⟩,λy f=>(UA.o y (aY _ f)).but (But.ofBelow (S:=λ_=>False) au.o) (λt v x d h=>h) (λt v x d=>((UA.o y (aY _ f)).rw t v).2.2 x d),cr.o.keep au.o,λk hk=>aE (GX.o k hk) au.o.size⟩
       |true=>
        rw[l] at aB;have aQ:Hid (pst Y rd r.rg c2 (Iv.it ⟨j,C,g,M,O,val,X,R⟩)=if (ldI rd (Iv.it ⟨j,C,g,M,O,val,X,R⟩)).1≠0 then Y.ybad c2 (ldI rd (Iv.it ⟨j,C,g,M,O,val,X,R⟩)).1 else Y.yl c2 (g,(ldI rd (Iv.it ⟨j,C,g,M,O,val,X,R⟩)).2)):=e7 (if_neg (by show ¬has r.rg g=false;rw[l];decide))
        have PO:=e7 (λ(bb:World)(hb:Below aj.heap.size aj bb)=>sR bb aP rd (dQ.o.keep hb).reads ⟨j,C,g,M,O,val,X,R⟩ (UX.o.ii.keep hb))
        obtain⟨rr,cQ⟩:∃rr,ldI rd (Iv.it ⟨j,C,g,M,O,val,X,R⟩)=rr:=⟨_,rfl⟩;rw[cQ] at aQ PO;clear l cQ;obtain⟨e1,vv⟩:=rr;unfold Iv.vl at PO;simp only[Iv.cs] at PO aQ;gi_wp2_with (refine⟨trivial,rfl,?_⟩;refine CallsIn.mono (CallsIn.inRound i (cW.2 aB.o)) ?_;rintro _ bl ⟨rfl,aF⟩;have au:=e7 aF;obtain⟨p0,p1,p2,p3⟩:=fO ((aF.block _ (ae.1 bF.o).1).trans bF.o);have cC:=(aF.cell (p:=⟨t3,0,none⟩) (block_lt_of_cell ci.o)).trans ci.o;have bH:=e7 (PO.o bl aF);clear aF aB)
        refine⟨trivial,rfl,?_⟩;refine CallsIn.mono (CallsIn.inRound i (cW.2 bH.o)) ?_;rintro _ ac (⟨K,rfl,c8⟩|⟨K,a5,c5,rfl,hO,bL⟩)
        . dsimp only;have K:e1≠0:=K;have a4:=e7 (bt au.o c8);have PS:Hid (pst Y rd r.rg c2 (Iv.it ⟨j,C,g,M,O,val,X,R⟩)=Y.ybad c2 e1):=e7 (aQ.o.trans (if_pos K));have ec:((e1:Int)==0)=false:=by simp[K]
          have ed:¬(e1:Int)=0:=by omega
          clear bH PO p0 p1 p2 p3 cC c8 aQ i0 i1 i2 i3 j0 j1 j2;have ay:=e7 (al ac (.cells #[.slice none 0 0,.slice none 0 0] 45));have av:=ag ac (.cells #[.slice none 0 0,.slice none 0 0] 45);have b3:=size_alloc ac (.cells #[.slice none 0 0,.slice none 0 0] 45);obtain⟨N,ba⟩:∃V,V=ac.alloc (.cells #[.slice none 0 0,.slice none 0 0] 45):=⟨_,rfl⟩;rw[<-ba] at ay av b3;have an:=e7 (bt a4.o ay.o);have d2:=a4.o.size;have bG:=e7 (AJ.o P _ aj N bi.o (But.ofBelow an.o));have b4:N.cell? ⟨W.heap.size,0,none⟩=some (.func (.yield aG) #[] #[]):=by rw[ah _ _ _ _ _ _ ((an.o.block W.heap.size (ae.1 bn.o).1).trans bn.o)];rfl
          have z0:N.cell? ⟨ac.heap.size,0,none⟩=some (.slice none 0 0):=by rw[ah _ _ _ _ _ _ av];rfl
          have z1:N.cell? ⟨ac.heap.size,1,none⟩=some (.slice none 0 0):=by rw[ah _ _ _ _ _ _ av];rfl
          obtain⟨fn,dc,dh,cZ,f,aD⟩:=YY.o P c2 N N #[.agg #[.slice none 0 0,.slice none 0 0],.int .i64 (e1:Int)] (Y.ybad c2 e1) true (λ_=>False) bG.o (But.refl _ _) (.inr ⟨e1,rfl,K,rfl,rfl,λ_ h=>h⟩) (λ_ h=>h.elim) (by omega) cj.o
          clear av ay;subst ba;gi_wp2
          generalize ac.alloc (.cells #[.slice none 0 0,.slice none 0 0] 45)=N at *;refine⟨rfl,RoundIn.mono (F:=Fence.wide.inRound i) aD ?_⟩;rintro e aS ⟨G6,h6,aM,l⟩;have HH:Hid (ao G6 (Y.ybad c2 e1) aS\/Jx G6 (Y.ybad c2 e1) aS):=e7 (l.imp (λh=>h.2.2) (λh=>h.2.2))
          have bZ:e=.returned (.bool true)\/e=.returned (.bool false):=l.imp (λh=>h.1) (λh=>h.1)
          have H6:=e7 h6.nog;have bf:=e7 aM;clear l h6 aM f aD b4 z0 z1
          have bC:Hid (∃F':Nat->Prop,But (λk=>b k\/bE k) aj aS/\(∀k,F' k->b k\/bE k\/aC.heap.size<=k)/\Y.ystp (pst Y rd r.rg c2 (Iv.it ⟨j,C,g,M,O,val,X,R⟩))=true/\InX ao Jx Y (W.heap.size+1) L (.exit 0) F' (a2,pst Y rd r.rg c2 (Iv.it ⟨j,C,g,M,O,val,X,R⟩)) aS):=e7 ⟨λk=>G6 k\/gY L k,((But.ofBelow (S:=b) an.o).trans (H6.o.mono (T:=b) λk _ e=>(G1.o k).2 (.inl e)) (λ_ _ e=>e)).ing,λk hk=>by
           rcases hk with hk|hk
           . rcases bf.o k hk with h|h|h
             . exact .inl ((G1.o k).2 (.inl h))
             . exact h.elim
             . exact .inr (.inr (by omega))
           . exact .inl ((G1.o k).2 (.inr hk)),by rw[PS.o];exact a0 _ _ K,G6,λk=>df,λh=>by
           rcases bf.o _ h with h|h|h
           . exact g2 h
           . exact h.elim
           . omega,rfl,by rw[PS.o];exact a0 _ _ K,by rw[PS.o];exact HH.o,λk hk=>by have:=GX.o k hk;have:=H6.o.size;omega,by have:=H6.o.size;omega⟩
          rcases bZ with rfl|rfl
          all_goals
           gi_wp2
           exact bC.o
        . dsimp only at hO bL K ⊢;have K:e1=0:=K;subst K;have OO:=e7 hO;have dl:=e7 bL;have a4:=e7 (bt au.o hO.b);have PS:Hid (pst Y rd r.rg c2 (Iv.it ⟨j,C,g,M,O,val,X,R⟩)=Y.yl c2 (g,vv)):=e7 (aQ.o.trans (if_neg (by simp)))
          have ey:=au.o.size;clear bH PO p0 p1 p2 p3 cC hO bL aQ i0 i1 i2 i3 j0 j1 j2;have ay:=e7 (al ac (.cells #[.slice j g.length C,.slice a5 vv.length c5] 45));have av:=ag ac (.cells #[.slice j g.length C,.slice a5 vv.length c5] 45);have b3:=size_alloc ac (.cells #[.slice j g.length C,.slice a5 vv.length c5] 45);obtain⟨N,ba⟩:∃V,V=ac.alloc (.cells #[.slice j g.length C,.slice a5 vv.length c5] 45):=⟨_,rfl⟩;rw[<-ba] at ay av b3;have an:=e7 (bt a4.o ay.o);have d2:=a4.o.size;have bG:=e7 (AJ.o P _ aj N bi.o (But.ofBelow an.o));have b4:N.cell? ⟨W.heap.size,0,none⟩=some (.func (.yield aG) #[] #[]):=by rw[ah _ _ _ _ _ _ ((an.o.block W.heap.size (ae.1 bn.o).1).trans bn.o)];rfl
          have z0:N.cell? ⟨ac.heap.size,0,none⟩=some (.slice j g.length C):=by rw[ah _ _ _ _ _ _ av];rfl
          have z1:N.cell? ⟨ac.heap.size,1,none⟩=some (.slice a5 vv.length c5):=by rw[ah _ _ _ _ _ _ av];rfl
          have aL:Hid (∀k,(∃y,a5=some y/\y.block=k)->bl.heap.size<=k/\k<N.heap.size):=e7 (λk ⟨y,f,e⟩=>by
           subst e;exact⟨OO.o.fresh f,by have:=OO.o.r.lt f;omega⟩)
          have dk:Hid (∀k,P k->k<aj.heap.size):=e7 (λk hk=>SJ.o _ _ _ bi.o k hk)
          have KR:=e7 ((UX.o.rw ⟨j,C,g⟩ (by simp[Iv.rows])))
          obtain⟨fn,dc,dh,cZ,f,aD⟩:=YY.o P c2 N N #[.agg #[.slice j g.length C,.slice a5 vv.length c5],.int .i64 0] (Y.yl c2 (g,vv)) false (λk=>(∃y,j=some y/\y.block=k)\/∃y,a5=some y/\y.block=k) bG.o (But.refl _ _)
           (.inl ⟨⟨j,C,g⟩,⟨a5,c5,vv⟩,rfl,KR.o.1.keep an.o,KR.o.2.1,OO.o.r.keep ay.o,dl.o,λx y d f e=>by have h1:=(bj.o x.block ⟨x,d,rfl⟩).2.1;have h2:=(aL.o y.block ⟨y,f,rfl⟩).1;omega,rfl,rfl,g4.less HN.o,λk=>df⟩)
           (λk hk=>by
             rcases hk with hk|hk
             . have h:=bj.o k hk;exact⟨h.2.2,by omega,by omega⟩
             . have h:=aL.o k hk;exact⟨λe=>by have:=dk.o k e;omega,by omega,h.2⟩) (by omega) cj.o
          clear av ay;subst ba;gi_wp2
          generalize ac.alloc (.cells #[.slice j g.length C,.slice a5 vv.length c5] 45)=N at *;refine⟨rfl,RoundIn.mono (F:=Fence.wide.inRound i) aD ?_⟩;rintro e aS ⟨G6,h6,aM,l⟩;have H6:=e7 h6;have bf:=e7 aM
          have BF:Hid (But b aj aS):=e7 ((But.ofBelow (S:=b) an.o).trans h6 (λk hk e=>by
           rcases e with e|⟨y,f,e⟩|e
           . exact(G1.o k).2 (.inl e)
           . exact(G1.o k).2 (.inr ⟨⟨j,C,g⟩,bv.o _ cU _ (by simp[Iv.rows]),y,f,e⟩)
           . have:=(aL.o k e).1;omega))
          have GF:Hid (∀k,(G6 k\/gY L k)->b k\/bE k\/aC.heap.size<=k):=e7 (λk hk=>by
           rcases hk with hk|hk
           . rcases aM k hk with h|(⟨y,f,e⟩|e)|h
             . exact .inl ((G1.o k).2 (.inl h))
             . exact .inl ((G1.o k).2 (.inr ⟨⟨j,C,g⟩,bv.o _ cU _ (by simp[Iv.rows]),y,f,e⟩))
             . exact .inr (.inr (by have:=(aL.o k e).1;omega))
             . exact .inr (.inr (by omega))
           . exact .inl ((G1.o k).2 (.inr hk)))
          have GM:Hid (¬G6 (W.heap.size+1)):=e7 (λh=>by
           rcases aM _ h with h|(h|h)|h
           . exact g2 h
           . have:=(bj.o _ h).1;omega
           . have:=(aL.o _ h).1;omega
           . omega)
          have ek:=h6.size;clear h6 aM f aD b4 z0 z1;rcases l with⟨rfl,hst6,hJ6⟩|⟨rfl,hst6,hJ6⟩
          . have a6:=e7 (hst6 rfl);have J6:=e7 hJ6;clear hst6 hJ6;gi_wp2
            refine⟨λk=>G6 k\/gY L k,BF.o.ing,GF.o,λ_=>by rw[PS.o];exact a6.o,G6,λk=>df,GM.o,by rw[PS.o];exact J6.o,by rw[PS.o];exact g4.yl dm.o a6.o,⟨pre++[⟨j,C,g,M,O,val,X,R⟩],G5.o.trans (by simp)⟩,λy f=>?_,?_,λk hk=>by have:=GX.o k hk;omega⟩
            . have cz:=(UA.o y (aY _ f)).but (Fc':=P) (But.ofBelow (S:=λ_=>False) an.o) (λt v x d h=>h) (λt v x d=>((UA.o y (aY _ f)).rw t v).2.2 x d)
              have cb:∀t∈y.rows,∀x,t.a=some x->¬(P x.block\/(∃z,j=some z/\z.block=x.block)\/∃z,a5=some z/\z.block=x.block):=λt v x d e=>by
               rcases e with e|⟨z,K,e⟩|e
               . exact(cz.rw t v).2.2 x d e
               . exact di.o y f ⟨j,C,g⟩ (by simp[Iv.rows]) t v z x K d e
               . have h1:=(aL.o _ e).1;have h2:=(RB.o x.block ⟨t,bv.o y (aY _ f) t v,x,d,rfl⟩).2;omega
              refine cz.but H6.o cb (λt v x d e=>?_)
              rcases bf.o _ e with h|h|h
              . exact cb t v x d (.inl h)
              . exact cb t v x d (.inr h)
              . have h2:=(RB.o x.block ⟨t,bv.o y (aY _ f) t v,x,d,rfl⟩).2;omega
            . refine(cr.o.keep an.o).but H6.o (λe=>?_)
              rcases e with e|e|e
              . exact g2 e
              . have:=(bj.o _ e).1;omega
              . have:=(aL.o _ e).1;omega
          . have a6:=e7 hst6;have J6:=e7 hJ6;clear hst6 hJ6;gi_wp2
            exact⟨λk=>G6 k\/gY L k,BF.o.ing,GF.o,by rw[PS.o];exact a6.o,G6,λk=>df,GM.o,rfl,by rw[PS.o];exact a6.o,by rw[PS.o];exact .inr J6.o,λk hk=>by have:=GX.o k hk;omega,by omega⟩
      case done2=>
       rintro b s2 V hI J bO bP;obtain⟨P,g1,g2,g3,g4,g5,g6,g7,g8⟩:=hI;have J:s2.2=flw (λc (x:Iv)=>pst Y rd r.rg c x.it) Y.ystp (ga o L) s.c:=J
       have hc:D.c=s2.2:=bk.o.2.trans J.symm;gi_wp2
       refine⟨λk=>P k\/k=W.heap.size+1,?_,?_,λ_=>by show Y.ystp D.c=false;rw[hc];exact g4.1,P,λk=>df,g2,by rw[hc];exact g3,g4.o bk.o.1 hc,by rw[bk.o.1];exact g7⟩
       . exact(But.ofBelow (S:=λk=>F k\/Gv k) aA.o).trans bO (λk hk e=>by
          rcases e with e|e
          . exact .inl ((aH.o k).2 (.inl e))
          . obtain⟨t,v,x,d,rfl⟩:=e;exact .inr ((hGv' _).2 ⟨by first|rfl|trivial,.inr ⟨t,v,x,d,rfl⟩⟩))
       . intro k hk;rcases hk with hk|hk
         . rcases bP k ((g1 k).2 (.inl hk)) with(h|⟨t,v,x,d,rfl⟩)|h
           . exact .inl ((aH.o k).2 (.inl h))
           . exact .inr (.inl ((hGv' _).2 ⟨by first|rfl|trivial,.inr ⟨t,v,x,d,rfl⟩⟩))
           . exact .inr (.inr (by omega))
         . exact .inl ((aH.o k).2 (.inr hk))
      case stop2=>
       rintro c b s2 V hI J bO bP;obtain⟨P,g1,g2,rfl,g4,g5,g6,g7⟩:=hI;have J:s2.2=flw (λc (x:Iv)=>pst Y rd r.rg c x.it) Y.ystp (ga o L) s.c:=J
       have hc:D.c=s2.2:=bk.o.2.trans J.symm;gi_wp2
       refine⟨λk=>P k\/k=W.heap.size+1,?_,?_,by show Y.ystp D.c=true;rw[hc];exact g4,P,λk=>df,g2,g7,rfl,by rw[hc];exact g4,by rw[hc];exact g5⟩
       . exact(But.ofBelow (S:=λk=>F k\/Gv k) aA.o).trans bO (λk hk e=>by
          rcases e with e|e
          . exact .inl ((aH.o k).2 (.inl e))
          . obtain⟨t,v,x,d,rfl⟩:=e;exact .inr ((hGv' _).2 ⟨by first|rfl|trivial,.inr ⟨t,v,x,d,rfl⟩⟩))
       . intro k hk;rcases hk with hk|hk
         . rcases bP k ((g1 k).2 (.inl hk)) with(h|⟨t,v,x,d,rfl⟩)|h
           . exact .inl ((aH.o k).2 (.inl h))
           . exact .inr (.inl ((hGv' _).2 ⟨by first|rfl|trivial,.inr ⟨t,v,x,d,rfl⟩⟩))
           . exact .inr (.inr (by omega))
         . exact .inl ((aH.o k).2 (.inr hk))
    . have dC:kq=2:=by
       rcases cy.o.kind with h|h|h
       . exact absurd h b0
       . exact h
       . exact absurd h (iM.1 hlv').1
      have b:Hid (D={s with G:=no::s.G}):=e7 (bg.o.trans (if_neg b0));subst dC;have dt:Hid (StP Y rd cn D):=e7 ((bs.inn hrd' hng' (m:=0) (by omega)).o (by rw[b.o]) (by rw[b.o]))
      clear bg hrd' hlv' hng' hM' hGv' bS hP' bp hRb' bu;gi_wp2
      exact⟨F,(But.refl F _).ing,λk hk=>.inl hk,λ_=>by show Y.ystp D.c=false;rw[b.o];exact bs.1,Fc,ax,a8,by rw[b.o];exact bh.o,dt.o,by rw[b.o];exact cp.o⟩
  . have HC:Hid (D.c=Y.ybad s.c 15):=e7 (by rcases hM' with⟨rfl,_⟩|⟨n,rfl,_⟩<;>rfl)
    simp only[fZ];gi_wp2
    refine⟨al _ _,λτ af ca=>?_⟩
    have aw:=al aa (.cells #[.int .i64 0,.int .i64 0,.slice none 0 0,.slice none 0 0,.bool false,.int .i64 0,.int .i64 0,.slice none 0 0,.slice none 0 0,.int .i64 0] 151);have nw:=ag aa (.cells #[.int .i64 0,.int .i64 0,.slice none 0 0,.slice none 0 0,.bool false,.int .i64 0,.int .i64 0,.slice none 0 0,.slice none 0 0,.int .i64 0] 151);have sw:=size_alloc aa (.cells #[.int .i64 0,.int .i64 0,.slice none 0 0,.slice none 0 0,.bool false,.int .i64 0,.int .i64 0,.slice none 0 0,.slice none 0 0,.int .i64 0] 151);generalize aa.alloc (.cells #[.int .i64 0,.int .i64 0,.slice none 0 0,.slice none 0 0,.bool false,.int .i64 0,.int .i64 0,.slice none 0 0,.slice none 0 0,.int .i64 0] 151)=du at *;have ap:=e7 ((But.ofBelow (S:=λk=>k=H) aw).trans af (λ_ _ e=>e))
    have d1:=af.size;have bh:=e7 (AJ.o Fc _ aI τ hJ (((a1.mono (T:=λk=>¬Fc k/\W.heap.size<=k) λk _ e=>by have e:k=W.heap.size+1:=e;rw[e];exact⟨a8,by omega⟩).andBelow aw).trans af (λk _ e=>by have e:k=H:=e;rw[e];exact⟨λh=>cD ((ax H).2 (.inl h)),by omega⟩)))
    have bu:τ.cell? ⟨W.heap.size,0,none⟩=some (.func (.yield aG) #[] #[]):=by rw[ah _ _ _ _ _ _ (ap.o.same bK.o (λe=>by have e:W.heap.size=H:=e;omega))];rfl
    obtain⟨k0,k1,k2,k3,k4,k5,k6,k7,k8,k9⟩:=iD (af.same nw (λe=>by have e:aa.heap.size=H:=e;omega))
    obtain⟨fn,dc,dh,cZ,f,aD⟩:=YY.o Fc s.c τ τ #[.agg #[.slice none 0 0,.slice none 0 0],.int .i64 15] (Y.ybad s.c 15) true (λ_=>False) bh.o (But.refl _ _) (.inr ⟨15,rfl,by decide,rfl,rfl,λ_ h=>h⟩) (λ_ h=>h.elim) (by omega) b9
    have eb:aa.heap.size<=τ.heap.size:=by omega
    clear hM' hGv' bS bN a1 az nX aw nw af;gi_wp2
    refine⟨rfl,RoundIn.mono (F:=Fence.wide.inRound H) aD ?_⟩;rintro e V5 ⟨G5,h5,cE,l⟩;have HH:Hid (ao G5 (Y.ybad s.c 15) V5\/Jx G5 (Y.ybad s.c 15) V5):=e7 (l.imp (λh=>h.2.2) (λh=>h.2.2))
    have bZ:e=.returned (.bool true)\/e=.returned (.bool false):=l.imp (λh=>h.1) (λh=>h.1)
    have H5:=e7 h5.nog;have cl:=e7 cE;clear l h5 cE f aD k0 k1 k2 k3 k4 k5 k6 k7 k8 k9 bu
    have bC:Hid (∃F':Nat->Prop,But (λk=>F k\/Gv k) τ V5/\(∀k,F' k->F k\/Gv k\/aa.heap.size<=k)/\(prM Y rd r.rg o).stp D=true/\PrX ao Jx Y (W.heap.size+1) 0 (.exit 0) F' D V5):=e7 ⟨λk=>G5 k\/k=W.heap.size+1,(H5.o.mono (T:=F) λk _ e=>(ax k).2 (.inl e)).ing,λk hk=>by
     rcases hk with hk|hk
     . rcases cl.o k hk with h|h|h
       . exact .inl ((ax k).2 (.inl h))
       . exact h.elim
       . exact .inr (.inr (by omega))
     . exact .inl ((ax k).2 (.inr hk)),by show Y.ystp D.c=true;rw[HC.o];exact a0 _ _ (by decide),G5,λk=>df,λh=>by
     rcases cl.o _ h with h|h|h
     . exact a8 h
     . exact h.elim
     . omega,by have:=H5.o.size;omega,rfl,by rw[HC.o];exact a0 _ _ (by decide),by rw[HC.o];exact HH.o⟩
    rcases bZ with rfl|rfl
    all_goals
     gi_wp2
     exact bC.o
 case done=>
  rintro am F s V hD bR ⟨Fc,Z,q2,q3,q4,q5⟩ J hB aX bU;have J:s=fs (prM Y rd r.rg o) rd (iz r.rg) o (U-1).toNat ⟨[],s0⟩ (i8 root U):=J;have b6:=e7 (aU Pst.c J);have Q3:=e7 q3;clear J q3 q4;go_wp2_with fail
  refine⟨by simp,.inl ⟨_,_,rfl,bQ bU,?_⟩⟩
  have bD:=(But.refl (λk=>k=am) V).putObj (λ_=>rfl) (.deferred none)
  have cH:=ab.o.size
  refine⟨_,bm rfl _ _ _,Fc,s.c,⟨_,rfl⟩,((((But.ofBelow (S:=F0) ab.o).trans hB (λk hk e=>by
   rcases e with e|e
   . exact e
   . omega))).trans bD (λk hk e=>by have e:k=am:=e;omega)),λk hk=>by
   rcases aX k ((Z k).2 (.inl hk)) with(h|h)|h
   . exact .inl h
   . exact .inr (by omega)
   . exact .inr (by omega),b6.o,.inl (AJ.o Fc _ V _ Q3.o (bD.mono λk _ e=>by have e:k=am:=e;rw[e];exact⟨λh=>bR ((Z am).2 (.inl h)),by omega⟩))⟩
 case stop=>
  rintro am c F s V hD bR ⟨Fc,Z,q2,q3,rfl,q4,q5⟩ J hB aX bU;have J:s=fs (prM Y rd r.rg o) rd (iz r.rg) o (U-1).toNat ⟨[],s0⟩ (i8 root U):=J;have b6:=e7 (aU Pst.c J);have Q5:=e7 q5;clear J q4 q5;gi_wp2
  go_wp2_with fail
  refine⟨by simp,.inl ⟨_,_,rfl,bQ bU,?_⟩⟩
  have bD:=(But.refl (λk=>k=am) V).putObj (λ_=>rfl) (.deferred none)
  have cH:=ab.o.size;have hm:But (λk=>¬Fc k/\W.heap.size<=k) V (V.putObj am (.deferred none)):=bD.mono λk _ e=>by have e:k=am:=e;rw[e];exact⟨λh=>bR ((Z am).2 (.inl h)),by omega⟩
  refine⟨_,bm rfl _ _ _,Fc,s.c,⟨_,rfl⟩,((((But.ofBelow (S:=F0) ab.o).trans hB (λk hk e=>by
   rcases e with e|e
   . exact e
   . omega))).trans bD (λk hk e=>by have e:k=am:=e;omega)),λk hk=>by
   rcases aX k ((Z k).2 (.inl hk)) with(h|h)|h
   . exact .inl h
   . exact .inr (by omega)
   . exact .inr (by omega),b6.o,Q5.o.imp (λh=>AJ.o Fc _ V _ h hm) (λh=>bB.o Fc _ V _ h hm)⟩
theorem qj{F:Fence}{q:Nat}{r e:TypeId}{sz bs:Nat}{z:Value}(R:prog.underlying r=some (.slice e))(ae:(prog.info? e).map (λi=>(i.zero,i.size,i.bytes))=some (some z,sz,bs))(U:z.cells.size=sz)(E:0<sz){w:World}{v:Array Oper}{D:List Oper}{o:Oper}{a:Act}{t:Exit->Act->World->Prop}(ab:o.guard=none)(s x:Operand)
 (p:o.op=.call {callee:=.builtin .append,args:=#[s,x],argTypes:=#[r,r]}) (b:Option Addr) (n cap:Nat) (C:List Value) (P:a.eval s=.slice b n cap) (I:Q.Gw e sz w b cap n C)
 (l:Addr) (c:Nat) (xs:List Value) (T:a.eval x=.slice (some l) 1 c) (M:xs.length=1*sz) (J:∀j u,xs[j]?=some u->w.cell? (l.add j)=some u) (H:∀u∈xs,u.oneCell'=true) (N:n+1<=maxLen) (ac:(n+1)*bs<=140737488355328)
 (h:∀g f d,Q.Gw e sz d (some ⟨g,0,none⟩) f (n+1) (C++xs)->New w b (some ⟨g,0,none⟩)->But (Q.InA b) w d->wpListIn F q prog v t D (a.put o.dst (.slice (some ⟨g,0,none⟩) (n+1) f)) d):wpListIn F q prog v t (o::D) a w:=by
 obtain⟨g,f,d,O,X,Y,Z⟩:=ni R ae U E w o.type b n cap C I l c xs M J H N ac;refine wpListIn_plain ab λaf K=>?_
 unfold Oper.wpIn;refine⟨?_,?_⟩
 . simp[Oper.about,p,resolve,Target.leads,dy]
 . rw[Oper.semAt_plain F _ _ (by rw[p];intro c aa;cases aa)]
   simp[execOp,p,resolve,invoke,builtin,P,T,O,Result.andThen];exact K _ _ (h g f d X Y Z)
theorem us:(prog.info? 45).map (λi=>(i.zero,i.size,i.bytes))=some (some (.agg #[.slice none 0 0,.slice none 0 0]),2,48):=by kernel_rfl
def prv(C:List (Br×Br)):List Value:=(C.map λp=>[Value.slice p.1.a p.1.l.length p.1.c,Value.slice p.2.a p.2.l.length p.2.c]).flatten
def prR(C:List (Br×Br)):List Br:=(C.map λp=>[p.1,p.2]).flatten
def prl(C:List (Br×Br)):List (List Nat×List Nat):=C.map λp=>(p.1.l,p.2.l)
def prO(a:Option Addr)(C:List (Br×Br))(k:Nat):Prop:=(∃x,a=some x/\x.block=k)\/∃t∈prR C,∃x,t.a=some x/\x.block=k
theorem vQ(C:List (Br×Br))(p:Br×Br):prv C++[Value.slice p.1.a p.1.l.length p.1.c,Value.slice p.2.a p.2.l.length p.2.c]=prv (C++[p]):=by simp[prv]
theorem lO(C:List (Br×Br))(p:Br×Br):prR (C++[p])=prR C++[p.1,p.2]:=by simp[prR]
theorem ww(C:List (Br×Br))(p:Br×Br):prl (C++[p])=prl C++[(p.1.l,p.2.l)]:=by simp[prl]
theorem rY(C:List (Br×Br)):(prl C).length=C.length:=by simp[prl]
structure Prs(W:World)(a:Option Addr)(c:Nat)(C:List (Br×Br)):Prop where
 row:Q.Gw 45 2 W a c C.length (prv C)
 ok:∀t∈prR C,Rw W t.a t.c t.l/\B8 t.l
 ap:(prR C).Pairwise gV
theorem Prs.nil(W:World):Prs W none 0 []:=⟨Q.Gw.nil _ _ _,λt b=>(by cases b),.nil⟩
theorem Prs.but{C:List (Br×Br)}(h:Prs W a c C)(hb:But S W V)(e:∀k,prO a C k->¬S k):Prs V a c C:=
 ⟨h.row.but hb (λx d=>e _ (.inl ⟨x,d,rfl⟩)),λt b=>⟨(h.ok t b).1.but hb (λx d=>e _ (.inr ⟨t,b,x,d,rfl⟩)),(h.ok t b).2⟩,h.ap⟩
theorem Prs.keep5{C:List (Br×Br)}(h:Prs W a c C)(hb:Below W.heap.size W V):Prs V a c C:=h.but (S:=λ_=>False) (But.ofBelow hb) (λ_ _ h=>h)
theorem Prs.lt{C:List (Br×Br)}(h:Prs W a c C)(d:prO a C k):k<W.heap.size:=by
 rcases d with⟨x,hx,rfl⟩|⟨t,ht,x,hx,rfl⟩
 . obtain⟨e,b⟩:=h.row.blk hx;exact(ae.1 b).1
 . exact(h.ok t ht).1.lt hx
theorem Rw.blk{w:World}{l:List Nat}(h:Rw w a c l)(b:a=some x):∃cur,w.heap[x.block]?=some (.cells cur 5 (0,0)):=by
 rcases h.cases with⟨e1,_⟩|⟨g,cur,e1,hg,_⟩
 . rw[e1] at b;cases b
 . rw[e1] at b;cases b;exact⟨cur,hg⟩
theorem Prs.ne{C:List (Br×Br)}(h:Prs W a c C)(e:a=some x){t:Br}(d:Rw W t.a t.c t.l){y:Addr}(f:t.a=some y):y.block≠x.block:=by
 obtain⟨i,b⟩:=h.row.blk e;obtain⟨j,g⟩:=d.blk f;exact fJ g b (by decide)
theorem Prs.app{W V:World}{a:Option Addr}{c:Nat}{C:List (Br×Br)}(h:Prs W a c C){K Vl:Br}(j:Rw W K.a K.c K.l/\B8 K.l)(l:Rw W Vl.a Vl.c Vl.l/\B8 Vl.l)(E:gV K Vl)(r:∀k,prO a C k->(¬ ∃x,K.a=some x/\x.block=k)/\¬ ∃x,Vl.a=some x/\x.block=k)
 {g i:Nat} (v:Q.Gw 45 2 V (some ⟨g,0,none⟩) i (C.length+1) (prv C++[Value.slice K.a K.l.length K.c,Value.slice Vl.a Vl.l.length Vl.c])) (q:But (Q.InA a) W V):Prs V (some ⟨g,0,none⟩) i (C++[(K,Vl)]):=by
 have f:∀t:Br,Rw W t.a t.c t.l->Rw V t.a t.c t.l:=λt ht=>ht.but q (λx d ⟨y,b,e⟩=>h.ne b ht d e.symm)
 refine⟨by rw[af,<-vQ];exact v,λt ht=>?_,?_⟩
 . rw[lO] at ht;rcases bg.1 ht with ht|ht
   . exact⟨f t (h.ok t ht).1,(h.ok t ht).2⟩
   . simp only[b8,bZ,or_false] at ht;rcases ht with rfl|rfl
     . exact⟨f _ j.1,j.2⟩
     . exact⟨f _ l.1,l.2⟩
 . rw[lO,cO];refine⟨h.ap,.cons (λt ht=>by simp only[b8,bZ,or_false] at ht;rw[ht];exact E) (.cons (λt ht=>by cases ht) .nil),λs D t ht x y d b e=>?_⟩
   have p:=r x.block (.inr ⟨s,D,x,d,rfl⟩);simp only[b8,bZ,or_false] at ht;rcases ht with rfl|rfl
   . exact p.1 ⟨y,b,e.symm⟩
   . exact p.2 ⟨y,b,e.symm⟩
theorem lG{C:List (Br×Br)}{K V:Br}:prO a (C++[(K,V)]) k↔((∃x,a=some x/\x.block=k)\/(∃t∈prR C,∃x,t.a=some x/\x.block=k)\/(∃x,K.a=some x/\x.block=k)\/∃x,V.a=some x/\x.block=k):=by
 unfold prO;rw[lO];constructor
 . rintro(h|⟨t,ht,h⟩)
   . exact .inl h
   . rcases bg.1 ht with ht|ht
     . exact .inr (.inl ⟨t,ht,h⟩)
     . simp only[b8,bZ,or_false] at ht;rcases ht with rfl|rfl
       . exact .inr (.inr (.inl h))
       . exact .inr (.inr (.inr h))
 . rintro(h|⟨t,ht,h⟩|h|h)
   . exact .inl h
   . exact .inr ⟨t,List.mem_append_left _ ht,h⟩
   . exact .inr ⟨K,dM _ (by simp),h⟩
   . exact .inr ⟨V,dM _ (by simp),h⟩
def Yl:Yc (List (List Nat×List Nat)×Nat):=⟨λc p=>(c.1++[p],0),λc e=>(c.1,e),λc=>decide (c.2≠0)⟩
theorem uu:∀c e,e≠0->Yl.ystp (Yl.ybad c e)=true:=λc e h=>by simp[Yl,h]
theorem yE:∀c p,(Yl.yl c p).1.length<=c.1.length+1:=λc p=>by simp[Yl]
def CoI(n:Nat)(F:Nat->Prop)(s:List (List Nat×List Nat)×Nat)(W:World):Prop:=
 ∃(a:Option Addr)(c:Nat)(C:List (Br×Br)),(∀k,F k↔(k=n\/k=n+1\/k=n+2\/prO a C k))/\Prs W a c C/\s=(prl C,0)/\W.heap[n]?=some (.cells #[.slice none 0 0] 60 (0,0))/\W.heap[n+1]?=some (.cells #[.int .i64 0] 39 (0,0))/\W.heap[n+2]?=some (.cells #[.slice a C.length c] 60 (0,0))/\∀k,prO a C k->n+2<k
def CoX(n:Nat)(F:Nat->Prop)(s:List (List Nat×List Nat)×Nat)(W:World):Prop:=
 (∀k,F k->k<W.heap.size)/\F n/\F (n+1)/\s.2≠0/\W.heap[n]?=some (.cells #[.slice none 0 0] 60 (0,0))/\W.heap[n+1]?=some (.cells #[.int .i64 (s.2:Int)] 39 (0,0))
theorem CoI.but{s:List (List Nat×List Nat)×Nat}(h:CoI n F s W)(hb:But S W V)(d:∀k,F k->¬S k):CoI n F s V:=by
 obtain⟨a,c,C,b,e,f,g,i,j,l⟩:=h;exact⟨a,c,C,b,e.but hb (λk p=>d k ((b k).2 (.inr (.inr (.inr p))))),f,hb.same g (d _ ((b _).2 (.inl rfl))),hb.same i (d _ ((b _).2 (.inr (.inl rfl)))),hb.same j (d _ ((b _).2 (.inr (.inr (.inl rfl))))),l⟩
theorem CoI.siz{s:List (List Nat×List Nat)×Nat}(h:CoI n F s W):∀k,F k->k<W.heap.size:=λk hk=>by
 obtain⟨a,c,C,b,d,f,g,i,e,j⟩:=h;have l:=(ae.1 e).1;rcases (b k).1 hk with rfl|rfl|rfl|hk
 . omega
 . omega
 . omega
 . exact d.lt hk
theorem CoX.but{s:List (List Nat×List Nat)×Nat}(h:CoX n F s W)(hb:But S W V)(e:∀k,F k->¬S k):CoX n F s V:=by
 obtain⟨f,b,d,g,i,j⟩:=h;exact⟨λk l=>aE (f k l) hb.size,b,d,g,hb.same i (e _ b),hb.same j (e _ d)⟩
theorem uP(w:World):∃U:World,((w.alloc (.cells #[.slice none 0 0] 60)).alloc (.cells #[.int .i64 0] 39)).alloc (.cells #[.slice none 0 0] 60)=U/\CoI w.heap.size (λk=>k=w.heap.size\/k=w.heap.size+1\/k=w.heap.size+2) ([],0) U/\Below w.heap.size w U/\U.heap.size=w.heap.size+3:=by
 obtain⟨b,f⟩:∃U,w.alloc (.cells #[.slice none 0 0] 60)=U:=⟨_,rfl⟩;obtain⟨d,g⟩:∃U,b.alloc (.cells #[.int .i64 0] 39)=U:=⟨_,rfl⟩;obtain⟨e,i⟩:∃U,d.alloc (.cells #[.slice none 0 0] 60)=U:=⟨_,rfl⟩;have r:b.heap.size=w.heap.size+1:=by rw[<-f,size_alloc]
 have s:d.heap.size=w.heap.size+2:=by rw[<-g,size_alloc,r]
 have C:e.heap.size=w.heap.size+3:=by rw[<-i,size_alloc,s]
 have v:Below w.heap.size w b:=by rw[<-f];exact al _ _
 have p:Below b.heap.size b d:=by rw[<-g];exact al _ _
 have j:Below d.heap.size d e:=by rw[<-i];exact al _ _
 have D:b.heap[w.heap.size]?=some (.cells #[.slice none 0 0] 60 (0,0)):=by rw[<-f];exact ag _ _
 have E:d.heap[w.heap.size+1]?=some (.cells #[.int .i64 0] 39 (0,0)):=by rw[<-r,<-g];exact ag _ _
 have H:e.heap[w.heap.size+2]?=some (.cells #[.slice none 0 0] 60 (0,0)):=by rw[<-s,<-i];exact ag _ _
 have q:∀k,¬prO none [] k:=λk l=>by
  rcases l with⟨x,hx,_⟩|⟨t,ht,_⟩
  . cases hx
  . cases ht
 exact⟨e,by rw[f,g,i],⟨none,0,[],λk=>⟨λh=>by rcases h with h|h|h;exact .inl h;exact .inr (.inl h);exact .inr (.inr (.inl h)),λh=>by rcases h with h|h|h|h;exact .inl h;exact .inr (.inl h);exact .inr (.inr h);exact(q k h).elim⟩,Prs.nil _,rfl,(bt p j).block _ (by omega) |>.trans D,(j.block _ (by omega)).trans E,H,λk l=>(q k l).elim⟩,bt (bt v p) j,C⟩
theorem mA{b:Func}{p q:Tmp}{d e:TypeId}(h:b.results=#[.cell p d,.cell q e])(tmps:Array Value)(w:World)(g k:Nat)(v u:Value)
 (i:tmps.getD p undef=.pointer (some ⟨g,0,none⟩)) (j:tmps.getD q undef=.pointer (some ⟨k,0,none⟩)) (f:(loadVar d ⟨g,0,none⟩).run prog w=.ok v w) (l:(loadVar e ⟨k,0,none⟩).run prog w=.ok u w):
 (results b tmps).run prog w=.ok (.tuple #[v,u]) w:=by
 have r:tmps[p]?.getD undef=.pointer (some ⟨g,0,none⟩):=by simpa using i
 have s:tmps[q]?.getD undef=.pointer (some ⟨k,0,none⟩):=by simpa using j
 simp[results,h,r,s,asAddr,f,l]
theorem mH(w:World)(g:Nat)(v:Value)(b:w.cell? ⟨g,0,none⟩=some v):(loadVar 60 ⟨g,0,none⟩).run prog w=.ok v w:=by
 go_simp
def CoR(w w':World)(e:Ending)(s:List (List Nat×List Nat)×Nat):Prop:=
 (s.2≠0/\e=.returned (.tuple #[.slice none 0 0,.int .i64 (s.2:Int)]))\/(s.2=0/\∃(a:Option Addr)(c:Nat)(C:List (Br×Br)),e=.returned (.tuple #[.slice a C.length c,.int .i64 0])/\Prs w' a c C/\prl C=s.1/\∀k,prO a C k->w.heap.size<=k)
end Go.Proofs.YtnnieandfdbhgaaGreat
