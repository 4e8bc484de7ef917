import Derived.Test.YteaogidofpfmmaaGreatWgB27
set_option linter.all false
set_option maxHeartbeats 32000000
set_option maxRecDepth 16000
namespace Go.Proofs.YteaogidofpfmmaaGreat
open Go.Proofs.Tryz
open Go.RowKit
variable {bs:Bool}{e:Ending}{X Y:List Nat}{g:Nat}{t:TypeId}{W w w':World}
def PrQ(w w':World)(e:Ending)(X Y:List Nat)(bs:Bool):Prop:=Below w.heap.size w w'/\∃(aX aY:Option Addr)(cX cY:Nat),e=.returned (.tuple #[.agg #[.slice aX X.length cX,.slice aY Y.length cY],.bool bs,.int .i64 0])/\Fam w w' [⟨aX,cX,X⟩,⟨aY,cY,Y⟩]/\Bs w' aX X/\Bs w' aY Y
def PrZ(w w':World)(e:Ending)(X Y:List Nat)(bs:Bool):Prop:=Below w.heap.size w w'/\∃(aX aY:Option Addr)(cX cY:Nat),e=.returned (.tuple #[.agg #[.slice aX X.length cX,.slice aY Y.length cY],.bool bs,.int .i64 0])/\Bs w' aX X/\Bs w' aY Y
theorem PrP.fix{R:Option (List Nat×List Nat)}(h:PrP w w' e R)(n:R.getD ([],[])=(X,Y))(p:R.isSome=bs):PrQ w w' e X Y bs:=by
 obtain⟨hb,⟨j,l,q⟩,⟨k,m,r⟩,rfl,b,c,f,d,i,ap⟩:=h;rw[n] at b;simp only[fN] at b;obtain⟨rfl,rfl⟩:=b;subst p;refine⟨hb,j,k,l,m,rfl,⟨λt a=>?_,?_⟩,c.r.bs f c.r.len_le,d.r.bs i d.r.len_le⟩
 . simp only[bN,bX,fL] at a;rcases a with rfl|rfl
   . exact⟨c,f⟩
   . exact⟨d,i⟩
 . refine cF.2 ⟨λt a=>?_,eo _ _⟩
   rw[aM.1 a];exact ap
theorem PrD.fix{R:Option (List Nat×List Nat)}(h:PrD w w' e R)(i:R.getD ([],[])=(X,Y))(j:R.isSome=bs):PrZ w w' e X Y bs:=by
 obtain⟨hb,⟨b,d,m⟩,⟨c,f,n⟩,rfl,a,k,l⟩:=h.one;rw[i] at a;simp only[fN] at a;obtain⟨rfl,rfl⟩:=a;subst j;exact⟨hb,b,c,d,f,rfl,k,l⟩
theorem oX{a:Option Addr}{l:List Nat}{f i:Option Addr}{p q c1 c2:Nat}(h:Bs W a l)(j:W.heap[g]?=some (.cells #[.slice f p c1,.slice i q c2] t (0,0))){x:Addr}(n:a=some x)(d:l≠[])(e:x.block=g):False:=by
 obtain⟨_,_,h⟩:=h;rcases h with h|⟨b,off,c,m⟩
 . exact d h
 . rw[n,ay] at c;subst c;dsimp only at e;subst e;have k:=m 0 (bQ.2 d);rw[am _ _ _ _ _ _ j] at k;rcases off with _|_|off
   . cases k
   . cases k
   . simp at k
theorem Au{vs:List Value}(h:W.heap[g]?=some (.cells vs.toArray t (0,0))):∀j u,vs[j]?=some u->W.cell? ((⟨g,0,none⟩:Addr).add j)=some u:=λj u a=>by
 rw[Addr.add_mid,b9,am _ _ _ _ _ _ h,<-a];simp
theorem Eu{b V:World}{a d n:Nat}{c:List Int}(i:∀y,(some ⟨a,0,none⟩:Option Addr)=some y->b.heap.size<=y.block)(l:c.length=n)(h:Q.Gw 3 1 V (some ⟨a,0,none⟩) d n (Q.vi c))(hb:Below b.heap.size b V)(j:Nat):
 ∃f:List Int,f.length=n/\Q.Gw 3 1 (V.setCell ⟨a,j,none⟩ (.int .i64 (-1))) (some ⟨a,0,none⟩) d n (Q.vi f)/\Below b.heap.size b (V.setCell ⟨a,j,none⟩ (.int .i64 (-1))):=
 ⟨c.set j (-1),by rw[cx];exact l,by rw[<-ow];exact h.setc j _,((But.ofBelow (S:=λk=>k=a) hb).trans ((But.refl (λk=>k=a) V).setCell (p:=⟨a,j,none⟩) (λ_=>rfl) _) (λ_ _ e=>e)).below (λk hk e=>by
   have e:k=a:=e;have:b.heap.size<=a:=i _ rfl;omega)⟩
theorem BP{N:Nat}{f:Nat->Value}(h:w.rowIs g t N f):g<w.heap.size:=by
 obtain⟨cs,h,_⟩:=h;exact(ae.1 h).1
theorem jF{u v x:Value}(h:W.heap[g]?=some (.cells #[u,v,x] t (0,0))):W.cell? ⟨g,0,none⟩=some u/\W.cell? ⟨g,1,none⟩=some v/\W.cell? ⟨g,2,none⟩=some x:=ia h
theorem walkGets_any(w:World)(x:Img)(d:Imi w x)(z:Int)(aR:Option Addr)(cR:Nat)(T:List Br)(hT:Bl w aR T)(dP:T.length<=1048576):
 Calls prog 3 #[.agg x.cs,.int .i64 z,.slice aR T.length cR] w λe w'=>e=.returned (.bool true)/\Below w.heap.size w w':=by
 have LV:=gW λ(W:World)=>zr W
 have A0:=gW (al w (.cells x.cs 26));have X0:=gW (ah w (.cells x.cs 26));have LD:=gW λ(W:World)(hb:Below w.heap.size w W)=>qQ W x (d.keep hb)
 have HT:=gW λ(W:World)(hb:Below w.heap.size w W)=>(d.keep hb).t
 have BL:=gW λ(W:World)(hb:Below w.heap.size w W)=>hT.keep hb
 clear d hT;obtain⟨dh,aC,cC,df,aN,cN,dg,aT,cT,TT⟩:=x;simp only[Img.cs] at *;unfold qS at LD;obtain⟨ab,hn⟩:∃ab,T.length=ab:=⟨_,rfl⟩;have HN:=gW hn;rw[hn] at dP ⊢;clear hn;obtain⟨b8,hm⟩:∃b8,TT.length=b8:=⟨_,rfl⟩;have HM:=gW hm;simp only[hm] at A0 X0 LD ⊢;clear hm;go_enter func3,ntmps3;obtain⟨x0,x1,x2,x3⟩:=jp X0.o;go_wp2_with fail
 refine(LD.o _ A0.o).mono ?_;rintro _ w2 (⟨_,rfl,hb⟩|⟨Z,h4,b7,rb,S,pb,mb,pc,dK,b6,da,rfl,hL⟩)
 . have HB:=gW (bt A0.o hb);clear hb x0 x1 x2 x3;go_wp2_with fail
   refine(LV.o _).mono ?_;rintro _ w3 ⟨rfl,aL⟩;have H3:=gW (bt HB.o aL);clear aL;go_wp2_with fail
   go_ret;exact⟨rfl,H3.o⟩
 . have LX:=gW hL;have B2:=gW (bt A0.o hL.bl);have X2:=gW (iy X0.o hL.bl);clear hL Z h4 x0 x1 x2 x3 X0;generalize (iu dh df (nmg dg)).2=rd at*
   have TR:=gW (by
    have h:=yH w2 rb b6 da LX.o.r (by rw[LX.o.rr];exact LX.o.ok) aT cT TT (HT.o _ B2.o) z
    rw[LX.o.rr,HM.o] at h;exact h)
   obtain⟨x0,x1,x2,x3⟩:=jp X2.o;go_wp2_with fail
   refine TR.o.mono ?_;rintro _ w3 ⟨t,b5,rfl,aL,hB⟩;have cj:=gW (LX.o.keep14 aL);have B3:=gW (bt B2.o aL);have bD:=gW hB;clear aL hB LX X2 x0 x1 x2 x3 TR;have A3:=gW (al w3 (.cells #[.int .i64 t.root,.int .i64 t.height,.int .i64 t.items] 34));have X3:=gW (ah w3 (.cells #[.int .i64 t.root,.int .i64 t.height,.int .i64 t.items] 34));go_upto_region 5 with fail
   obtain⟨q,bR⟩:∃W,w3.alloc (.cells #[.int .i64 t.root,.int .i64 t.height,.int .i64 t.items] 34)=W:=⟨_,rfl⟩;rw[bR] at A3 X3 ⊢;have B4:=gW (bt B3.o A3.o);obtain⟨r,bQ⟩:∃g,w3.heap.size=g:=⟨_,rfl⟩;have S4:r<q.heap.size:=by rw[<-bR,size_alloc,bQ];omega
   simp only[bQ] at X3 ⊢;have bi:=gW (cj.o.keep14 A3.o);clear bQ bR A3 B3 cj HT;by_cases bI:b5=true
   . subst bI;have ch:=gW ((m6 bi.o.ok (bD.o rfl)).2);have L:=gW (bi.o.get (bD.o rfl));have KP:=gW λ(W:World)(hb:Below q.heap.size q W)=>(show Calls prog 24 #[.pointer (some ⟨b7,0,none⟩),.pointer (some ⟨rb,0,none⟩)] W λe w'=>e=.returned (.bool true)/\Below W.heap.size W w' from zQ _ W b7 rb S pb mb pc dK b6 da rd (bi.o.keep14 hb))
     obtain⟨ar,hL⟩:∃ar,PLt rd t=ar:=⟨_,rfl⟩;rw[hL] at L;clear hL bi bD;obtain⟨ba,bh,bd⟩:=t;dsimp only at L X3 ch ⊢;go_upto_region 9 with fail
     go_loopw [12,13] (λvt vi m=>∃(i:Nat)(aP:Option Addr)(cP:Nat)(b:List Br),i<=2*ab/\vt=.slice aP b.length cP/\vi=.int .i64 (i:Int)/\Fam q m b/\(∀t∈b,t.l.length<=3840)/\Ar m aP cP (b.map bv)/\(∀y,aP=some y->q.heap.size<=y.block)/\Below q.heap.size q m/\b.length=5*i) (λ_ vi _=>2*ab-(intOf vi).toNat)
     case atStart=>exact⟨0,none,0,[],an _,rfl,rfl,Fam.nil _ _,(λt ht=>by cases ht),Ar.nil _,(λy hy=>by cases hy),Below.refl _ _,rfl⟩
     case round=>
      obtain⟨i,aP,cP,b,hi,rfl,rfl,hF,hl,hG,cB,hb,cM⟩:=hrel;have FF:=gW hF;have FL:=gW hl;have GG:=gW hG;have NN:=gW cB;have BB:=gW hb;have LN:=gW cM;have XT:=gW (iy X3.o hb);have en:IntKind.i64.wrap (2*(ab:Int))=2*(ab:Int):=iz (by omega) (by omega)
      clear hF hl hG cB hb cM;obtain⟨A,E,t2⟩:=jF XT.o;by_cases cO:i<2*ab
      . have dR:(i:Int)<2*(ab:Int):=by omega
        obtain⟨k,hk⟩:∃k,i/2=k:=⟨_,rfl⟩;have cL:k<ab:=by omega
        have ek:(i:Int).tdiv 2=(k:Int):=by rw[Int.tdiv_eq_ediv_of_nonneg (by omega)];omega
        have el:(k:Int)<(ab:Int):=by omega
        have em:IntKind.i64.wrap (k:Int)=(k:Int):=iz (by omega) (by omega)
        have ej:(0:Int)<=(k:Int):=by omega
        clear hk;have bw:=gW λ(W:World)(hb:Below q.heap.size q W)=>BL.o W (bt B4.o hb)
        obtain⟨gR,oR,rfl,hc⟩:=(bw.o wr BB.o).c k (by rw[HN.o];exact cL)
        obtain⟨aJ,bO,bl⟩:=(bw.o wr BB.o).r (T.getD k Br0) (tM (by rw[HN.o];exact cL))
        obtain⟨⟨aK,cK,K⟩,d⟩:∃x,T.getD k Br0=x:=⟨_,rfl⟩;rw[d] at hc aJ bO bl;dsimp only[bv] at hc aJ bO bl;clear d;have aO:=gW λ(W:World)(R:Option Addr)(ck:Nat)(hb:Below q.heap.size q W)(hk:Bs W R K)=>L.o.get W R ck K hb hk
        have aM:=gW λ(W:World)(R:Option Addr)(ck:Nat)(hb:Below q.heap.size q W)(hk:Bs W R K)=>L.o.dget W R ck K hb hk
        have a8:=gW (BT L.o.len K);obtain⟨⟨G,gb,ge⟩,cx⟩:∃y,kR ar K=y:=⟨_,rfl⟩;rw[cx] at aO aM a8;unfold uO at aO;unfold GtD at aM;dsimp only at aO aM a8;clear cx;obtain⟨⟨I,J⟩,bj⟩:∃y,(jQ ar K).getD ([],[])=y:=⟨_,rfl⟩;obtain⟨dJ,bJ⟩:∃y,(jQ ar K).isSome=y:=⟨_,rfl⟩;have a5:=gW (Aa L.o.len K);rw[bj] at a5;have bp:=gW λ(W:World)(R:Option Addr)(ck:Nat)(hb:Below q.heap.size q W)(hk:Bs W R K)(hc:K.length<=ck)(cO:∀x,R=some x->x.block<W.heap.size)=>(L.o.ceil W R ck K hb hk hc bl cO).mono λe w' h=>h.fix bj bJ
        have bo:=gW λ(W:World)(R:Option Addr)(ck:Nat)(hb:Below q.heap.size q W)(hk:Bs W R K)=>(L.o.dceil W R ck K hb hk).mono λe w' h=>h.fix bj bJ
        clear bj bJ;obtain⟨⟨M,O⟩,bk⟩:∃y,(jr ar K).getD ([],[])=y:=⟨_,rfl⟩;obtain⟨dL,bL⟩:∃y,(jr ar K).isSome=y:=⟨_,rfl⟩;have a7:=gW (xp L.o.len K);rw[bk] at a7;have bg:=gW λ(W:World)(R:Option Addr)(ck:Nat)(hb:Below q.heap.size q W)(hk:Bs W R K)=>(L.o.floor W R ck K hb hk bl).mono λe w' h=>h.fix bk bL
        have be:=gW λ(W:World)(R:Option Addr)(ck:Nat)(hb:Below q.heap.size q W)(hk:Bs W R K)=>(L.o.dfloor W R ck K hb hk).mono λe w' h=>h.fix bk bL
        clear bk bL;unfold PrQ at bp bg;unfold PrZ at bo be;obtain⟨C,ep,cv,ct⟩:=L.o.ways ch.o K;have bc:=gW cv;have bb:=gW ct;unfold Du at bc;unfold PtD at bb;dsimp only at bc bb;clear cv ct;have SP:=gW (yS wr aK K.length cK K aJ rfl (by omega))
        have KB:=gW λ(W:World)(hb:Below wr.heap.size wr W)=>aJ.keep hb
        have K8:=gW aJ.1;have RC:=gW λ(W:World)(hb:Below wr.heap.size wr W)=>(hb.cell (p:=⟨gR,oR+k,none⟩) (block_lt_of_cell hc)).trans hc
        have aa:=gW λ(W:World)(hb:Below wr.heap.size wr W)=>iy XT.o hb
        have P:=gW λ(W:World)(hb:Below wr.heap.size wr W)=>(show W.cell? ⟨r,0,none⟩=some (.int .i64 ba)/\W.cell? ⟨r,1,none⟩=some (.int .i64 bh)/\W.cell? ⟨r,2,none⟩=some (.int .i64 bd)/\W.cell? ⟨gR,oR+k,none⟩=some (.slice aK K.length cK) from⟨(jF (aa.o W hb)).1,(jF (aa.o W hb)).2.1,(jF (aa.o W hb)).2.2,RC.o W hb⟩)
        clear bw aJ bO;go_wp2_with fail
        refine SP.o.mono ?_;rintro _ w5 ⟨rfl,bn,a2⟩;have E5:=gW a2;have RI:=gW λ(W:World)(hb:Below w5.heap.size w5 W)=>pI bn hb
        have SB:=gW λ(W:World)(hb:Below w5.heap.size w5 W)=>(uu bn (by omega) K8.o (by omega)).keep hb
        have dO:wr.heap.size<w5.heap.size:=BP bn;have cp:=aa.o _ E5.o;have bx:=gW (bt BB.o E5.o);clear bn a2 SP A E t2 hc;obtain⟨A,E,t2⟩:=jF cp;clear cp;go_wp2_with fail
        refine(aO.o _ _ _ bx.o (SB.o _ (Below.refl _ _))).mono ?_;rintro _ w6 ⟨aG,cG,rfl,aF,bM⟩;have OG:=gW aF;have G8:=gW bM;have E6:=gW (bt E5.o aF.b);have F6:=gW aF.b;have T2:=gW (Fam.add (FF.o.keep E5.o) (Fam.one aF bM) aF.b bx.o);have ca:=gW (bt bx.o aF.b);have cq:=aa.o _ E6.o;clear aF bM A E t2;obtain⟨A,E,t2⟩:=jF cq;clear cq;go_upto_region 13 with fail
        have V:=gW (bt E6.o (dr2 w6));refine bA (S:=λW=>W.cell? ⟨r,0,none⟩=some (.int .i64 ba)/\W.cell? ⟨r,1,none⟩=some (.int .i64 bh)/\W.cell? ⟨r,2,none⟩=some (.int .i64 bd)/\W.cell? ⟨gR,oR+k,none⟩=some (.slice aK K.length cK)) (by kernel_rfl) (P.o _ V.o) (λhHeld=>?_)
        refine tkd 0 1 2 3 ?_;refine tkb 4 5 ?_;refine tk 6 ?_;refine tw 7 λB a=>?_
        go_simp;refine(aM.o _ _ _ (bt ca.o (dr2 w6)) (KB.o _ V.o)).mono ?_;rintro _ w7 ⟨ae,aD,cD,rfl,hD⟩;have E7:=gW (bt V.o ae);have F7:=gW (bt (dr2 w6) ae);have dj:=gW (bt (bt ca.o (dr2 w6)) ae);have GD:=gW hD;clear ae hD V;go_wp2_with fail
        refine a.o _ _ (P.o _ E7.o) (λhHeld=>?_)
        refine tkd 8 9 10 11 ?_;refine tkb 12 13 ?_;refine tk 14 ?_;refine td ?_;have Q1:=gW (ky w7 aG aD G.length G.length cG cD G G ((OG.o.keep F7.o).r.bs G8.o OG.o.r.len_le) GD.o rfl rfl);simp only[decide_true] at Q1;have dM:(gb != gb)=false:=by simp
        have dN:(((ge:Nat):Int) != ((ge:Nat):Int))=false:=by simp
        clear A E t2;go_wp2_with fail
        refine Q1.o.mono ?_;rintro _ w8 ⟨rfl,a3⟩;have E8:=gW (bt E7.o a3);have F8:=gW (bt F7.o a3);have bC:=gW (bt F6.o (bt F7.o a3));have bz:=gW (bt dj.o a3);have cr:=aa.o _ E8.o;clear a3 Q1 dM dN;obtain⟨A,E,t2⟩:=jF cr;clear cr;go_wp2_with fail
        refine(bp.o _ _ _ bz.o (SB.o _ bC.o) (by omega) (λx d=>by cases d;exact a6 dO bC.o.size)).mono ?_
        rintro _ w9 ⟨ay,aX,aY,cX,cY,rfl,bK,cF,cH⟩;have FC:=gW bK;have E9:=gW (bt E8.o ay);have F9:=gW (bt F8.o ay);have dw:=gW (bt bC.o ay);have dk:=gW (bt bz.o ay);have P9:=gW ay;have T4:=gW (Fam.add (T2.o.keep F8.o) bK ay bz.o);have dl:=gW cF;have dm:=gW cH;have cs:=aa.o _ E9.o;have ap:=gW (al w9 (.cells #[.slice aX I.length cX,.slice aY J.length cY] 45));have bE:=gW (ah w9 (.cells #[.slice aX I.length cX,.slice aY J.length cY] 45));clear ay bK cF cH A E t2;obtain⟨A,E,t2⟩:=jF cs;clear cs;go_upto_region 17 with fail
        obtain⟨F,b3⟩:∃W,w9.alloc (.cells #[.slice aX I.length cX,.slice aY J.length cY] 45)=W:=⟨_,rfl⟩;have ec:w9.heap.size<F.heap.size:=by rw[<-b3,size_alloc];omega
        rw[b3] at ap bE ⊢;clear b3;obtain⟨gp,bP⟩:∃g,w9.heap.size=g:=⟨_,rfl⟩;have av:=gW (bt E9.o ap.o);have dp:=gW (bt F9.o ap.o);have d2:=gW (bt dw.o ap.o);have bV:=gW (bt dk.o ap.o);simp only[bP] at bE ec ⊢;have ef:=gW bP;clear bP A E t2;go_cut [19,20,22] from 55 to 227 (λbS bT dU m=>bS=.bool dJ/\bT=.int .i64 0/\∃(gq:Nat)(f l:Option Addr)(s v:Nat),dU=.pointer (some ⟨gq,0,none⟩)/\m.heap[gq]?=some (.cells #[.slice f I.length s,.slice l J.length v] 45 (0,0))/\Bs m f I/\Bs m l J/\Below F.heap.size F m)
        case first=>
         have V:=gW (bt av.o (dr2 F));have au:=gW (show Below F.drew.heap.size F.drew (F.drew.alloc (.cells #[.slice none 0 0,.slice none 0 0] 45)) from al F.drew (.cells #[.slice none 0 0,.slice none 0 0] 45))
         have ax:=gW (show(F.drew.alloc (.cells #[.slice none 0 0,.slice none 0 0] 45)).heap[F.heap.size]?=some (.cells #[.slice none 0 0,.slice none 0 0] 45 (0,0)) from ah F.drew (.cells #[.slice none 0 0,.slice none 0 0] 45))
         clear aO aM a8 a5 bp be bg a7 FC OG FF FL GG NN RI GD T2 T4 bc bb;refine bA (S:=λW=>W.cell? ⟨r,0,none⟩=some (.int .i64 ba)/\W.cell? ⟨r,1,none⟩=some (.int .i64 bh)/\W.cell? ⟨r,2,none⟩=some (.int .i64 bd)/\W.cell? ⟨gR,oR+k,none⟩=some (.slice aK K.length cK)) (by kernel_rfl) (P.o _ V.o) (λhHeld=>?_)
         refine tkd 0 1 2 3 ?_;refine tkb 4 5 ?_;refine tk 6 ?_;refine t2 7 12 (λB a=>?p1) (λB a=>?p2)
         case p1=>
          go_simp;refine(bo.o _ _ _ (bt bV.o (dr2 F)) (KB.o _ V.o)).mono ?_;rintro _ aA ⟨D,f,l,s,v,rfl,hX,hY⟩;have aS:=gW (bt V.o D);have ad:=gW (bt (dr2 F) D);have HX:=gW hX;have HY:=gW hY;have aj:=gW (al aA (.cells #[.slice none 0 0,.slice none 0 0] 45));have U:=gW (ah aA (.cells #[.slice none 0 0,.slice none 0 0] 45));clear D hX hY au ax;go_wp2_with fail
          refine a.o _ _ (P.o _ aS.o) (λhHeld=>?_)
          refine tkd 8 9 10 11 ?_;refine tw 12 λB a=>?_
          go_simp;refine a.o _ _ (P.o _ (bt aS.o aj.o)) (λhHeld=>?_)
          refine tw 13 λB a=>?_
          rw[if_pos (by rfl)]
          refine fF 45 _ _ rfl aA.heap.size #[.slice f I.length s,.slice l J.length v] (by simp[Act.eval]) (by simp[Act.eval]) 45 _ U.o il rfl (by simp[Value.oneCell']) ?_
          have ac:Hid (Below F.heap.size F ((aA.alloc (.cells #[.slice none 0 0,.slice none 0 0] 45)).setRow aA.heap.size #[.slice f I.length s,.slice l J.length v])):=below_setRow (bt ad.o aj.o) ad.o.size _;refine a.o _ _ (P.o _ (bt av.o ac.o)) (λhHeld=>?_)
          refine tkb 14 15 ?_;refine td ?_;go_wp2_with fail
          go_meet
          case rel=>exact⟨rfl,rfl,_,f,l,s,v,rfl,br _ _ _ _ _ _ U.o,(HX.o.keep aj.o).but (Q.gZ _ _ _) (λx d Z e=>by have:=(HX.o).lt d Z;omega),(HY.o.keep aj.o).but (Q.gZ _ _ _) (λx d Z e=>by have:=(HY.o).lt d Z;omega),ac.o⟩
         case p2=>
          go_simp;have DA:=gW (bt (dr2 F) au.o);refine a.o _ _ (P.o _ (bt av.o DA.o)) (λhHeld=>?_)
          refine tw 7 λB a=>?_
          go_simp;refine(bo.o _ _ _ (bt bV.o DA.o) (KB.o _ (bt av.o DA.o))).mono ?_;rintro _ aA ⟨D,f,l,s,v,rfl,hX,hY⟩;have ad:=gW (bt DA.o D);have HX:=gW hX;have HY:=gW hY;have U:=gW (iy ax.o D);clear D hX hY au ax;go_wp2_with fail
          refine a.o _ _ (P.o _ (bt av.o ad.o)) (λhHeld=>?_)
          refine tkd 8 9 10 11 ?_;refine tw 13 λB a=>?_
          rw[if_pos (by rfl)]
          refine fF 45 _ _ rfl F.heap.size #[.slice f I.length s,.slice l J.length v] (by simp[Act.eval]) (by simp[Act.eval]) 45 _ U.o il rfl (by simp[Value.oneCell']) ?_
          have ac:Hid (Below F.heap.size F (aA.setRow F.heap.size #[.slice f I.length s,.slice l J.length v])):=below_setRow ad.o (ai _) _;refine a.o _ _ (P.o _ (bt av.o ac.o)) (λhHeld=>?_)
          refine tkb 14 15 ?_;refine td ?_;go_wp2_with fail
          go_meet
          case rel=>exact⟨rfl,rfl,_,f,l,s,v,rfl,br _ _ _ _ _ _ U.o,HX.o.but (Q.gZ _ _ _) (λx d Z e=>oX HX.o U.o d Z e),HY.o.but (Q.gZ _ _ _) (λx d Z e=>oX HY.o U.o d Z e),ac.o⟩
        case rest=>
         obtain⟨rfl,rfl,gq,f,l,s,v,rfl,a0,aZ,a1,ao⟩:=hcut;have cb:=gW (bt av.o ao);have dB:=gW (bt ap.o ao);have dq:=gW (bt dp.o ao);have d3:=gW (bt d2.o ao);have dY:=gW (bt bV.o ao);have U:=gW (iy bE.o ao);have XQ:=gW a0;have Q2:=gW (pC wc aX aY f l cX cY s v I.length J.length I J ((dl.o.keep ap.o).keep ao) ((dm.o.keep ap.o).keep ao) aZ a1 rfl rfl);have c4:=aa.o _ cb.o;clear a0 aZ a1 ao bo bp aM aO;obtain⟨A,E,t2⟩:=jF c4;obtain⟨p0,p1⟩:=li U.o;obtain⟨q0,q1⟩:=li XQ.o;clear c4;go_wp2_with fail
         refine Q2.o.mono ?_;rintro _ eo ⟨rfl,aH⟩;have cc:=gW (bt cb.o aH);have dC:=gW (bt dB.o aH);have dr:=gW (bt dq.o aH);have c2:=gW (bt d3.o aH);have bW:=gW (bt dY.o aH);have dF:=gW (iy U.o aH);have c6:=aa.o _ cc.o;clear aH Q2 XQ A E t2 p0 p1 q0 q1;obtain⟨A,E,t2⟩:=jF c6;clear c6;go_wp2_with fail
         refine(bg.o _ _ _ bW.o (SB.o _ c2.o)).mono ?_;rintro _ a4 ⟨aq,N,n,cU,cV,rfl,b0,db,dc⟩;have FU:=gW b0;have eg:=gW aq;have T6:=gW (Fam.add (T4.o.keep dC.o) b0 aq bW.o);have cd:=gW (bt cc.o aq);have ds:=gW (bt dr.o aq);have d4:=gW (bt c2.o aq);have dZ:=gW (bt bW.o aq);have du:=gW db;have dv:=gW dc;have dG:=gW (iy dF.o aq);have c7:=aa.o _ cd.o;have am:=gW (al a4 (.cells #[.slice N M.length cU,.slice n O.length cV] 45));have bF:=gW (ah a4 (.cells #[.slice N M.length cU,.slice n O.length cV] 45));clear aq b0 db dc A E t2;obtain⟨A,E,t2⟩:=jF c7;clear c7;go_upto_region 21 with fail
         obtain⟨H,b4⟩:∃W,a4.alloc (.cells #[.slice N M.length cU,.slice n O.length cV] 45)=W:=⟨_,rfl⟩;have ed:a4.heap.size<H.heap.size:=by rw[<-b4,size_alloc];omega
         rw[b4] at am bF ⊢;clear b4;obtain⟨gu,cJ⟩:∃g,a4.heap.size=g:=⟨_,rfl⟩;have aw:=gW (bt cd.o am.o);have dt:=gW (bt ds.o am.o);have d5:=gW (bt d4.o am.o);have bY:=gW (bt dZ.o am.o);have d9:=gW (iy dG.o am.o);simp only[cJ] at bF ed ⊢;clear cJ A E t2;go_cut [19,20,24] from 55 to 227 (λbS bT dV m=>bS=.bool dL/\bT=.int .i64 0/\∃(gr:Nat)(f l:Option Addr)(s v:Nat),dV=.pointer (some ⟨gr,0,none⟩)/\m.heap[gr]?=some (.cells #[.slice f M.length s,.slice l O.length v] 45 (0,0))/\Bs m f M/\Bs m l O/\Below H.heap.size H m)
         case first=>
          have V:=gW (bt aw.o (dr2 H));have au:=gW (show Below H.drew.heap.size H.drew (H.drew.alloc (.cells #[.slice none 0 0,.slice none 0 0] 45)) from al H.drew (.cells #[.slice none 0 0,.slice none 0 0] 45))
          have ax:=gW (show(H.drew.alloc (.cells #[.slice none 0 0,.slice none 0 0] 45)).heap[H.heap.size]?=some (.cells #[.slice none 0 0,.slice none 0 0] 45 (0,0)) from ah H.drew (.cells #[.slice none 0 0,.slice none 0 0] 45))
          clear a8 a5 bg a7 FC FU OG FF FL GG NN RI T2 T4 T6 bc bb;refine bA (S:=λW=>W.cell? ⟨r,0,none⟩=some (.int .i64 ba)/\W.cell? ⟨r,1,none⟩=some (.int .i64 bh)/\W.cell? ⟨r,2,none⟩=some (.int .i64 bd)/\W.cell? ⟨gR,oR+k,none⟩=some (.slice aK K.length cK)) (by kernel_rfl) (P.o _ V.o) (λhHeld=>?_)
          refine tkd 0 1 2 3 ?_;refine tkb 4 5 ?_;refine tk 6 ?_;refine t2 7 12 (λB a=>?p1) (λB a=>?p2)
          case p1=>
           go_simp;refine(be.o _ _ _ (bt bY.o (dr2 H)) (KB.o _ V.o)).mono ?_;rintro _ aB ⟨D,f,l,s,v,rfl,hX,hY⟩;have aS:=gW (bt V.o D);have ad:=gW (bt (dr2 H) D);have HX:=gW hX;have HY:=gW hY;have aj:=gW (al aB (.cells #[.slice none 0 0,.slice none 0 0] 45));have U:=gW (ah aB (.cells #[.slice none 0 0,.slice none 0 0] 45));clear D hX hY au ax;go_wp2_with fail
           refine a.o _ _ (P.o _ aS.o) (λhHeld=>?_)
           refine tkd 8 9 10 11 ?_;refine tw 12 λB a=>?_
           go_simp;refine a.o _ _ (P.o _ (bt aS.o aj.o)) (λhHeld=>?_)
           refine tw 13 λB a=>?_
           rw[if_pos (by rfl)]
           refine fF 45 _ _ rfl aB.heap.size #[.slice f M.length s,.slice l O.length v] (by simp[Act.eval]) (by simp[Act.eval]) 45 _ U.o il rfl (by simp[Value.oneCell']) ?_
           have ac:Hid (Below H.heap.size H ((aB.alloc (.cells #[.slice none 0 0,.slice none 0 0] 45)).setRow aB.heap.size #[.slice f M.length s,.slice l O.length v])):=below_setRow (bt ad.o aj.o) ad.o.size _;refine a.o _ _ (P.o _ (bt aw.o ac.o)) (λhHeld=>?_)
           refine tkb 14 15 ?_;refine td ?_;go_wp2_with fail
           go_meet
           case rel=>exact⟨rfl,rfl,_,f,l,s,v,rfl,br _ _ _ _ _ _ U.o,(HX.o.keep aj.o).but (Q.gZ _ _ _) (λx d Z e=>by have:=(HX.o).lt d Z;omega),(HY.o.keep aj.o).but (Q.gZ _ _ _) (λx d Z e=>by have:=(HY.o).lt d Z;omega),ac.o⟩
          case p2=>
           go_simp;have DA:=gW (bt (dr2 H) au.o);refine a.o _ _ (P.o _ (bt aw.o DA.o)) (λhHeld=>?_)
           refine tw 7 λB a=>?_
           go_simp;refine(be.o _ _ _ (bt bY.o DA.o) (KB.o _ (bt aw.o DA.o))).mono ?_;rintro _ aB ⟨D,f,l,s,v,rfl,hX,hY⟩;have ad:=gW (bt DA.o D);have HX:=gW hX;have HY:=gW hY;have U:=gW (iy ax.o D);clear D hX hY au ax;go_wp2_with fail
           refine a.o _ _ (P.o _ (bt aw.o ad.o)) (λhHeld=>?_)
           refine tkd 8 9 10 11 ?_;refine tw 13 λB a=>?_
           rw[if_pos (by rfl)]
           refine fF 45 _ _ rfl H.heap.size #[.slice f M.length s,.slice l O.length v] (by simp[Act.eval]) (by simp[Act.eval]) 45 _ U.o il rfl (by simp[Value.oneCell']) ?_
           have ac:Hid (Below H.heap.size H (aB.setRow H.heap.size #[.slice f M.length s,.slice l O.length v])):=below_setRow ad.o (ai _) _;refine a.o _ _ (P.o _ (bt aw.o ac.o)) (λhHeld=>?_)
           refine tkb 14 15 ?_;refine td ?_;go_wp2_with fail
           go_meet
           case rel=>exact⟨rfl,rfl,_,f,l,s,v,rfl,br _ _ _ _ _ _ U.o,HX.o.but (Q.gZ _ _ _) (λx d Z e=>oX HX.o U.o d Z e),HY.o.but (Q.gZ _ _ _) (λx d Z e=>oX HY.o U.o d Z e),ac.o⟩
         case rest=>
          obtain⟨rfl,rfl,gr,f,l,s,v,rfl,a0,aZ,a1,ag⟩:=hcut;have ce:=gW (bt aw.o ag);have dD:=gW (bt am.o ag);have ee:=gW (bt dt.o ag);have d6:=gW (bt d5.o ag);have d0:=gW (bt bY.o ag);have co:=gW (iy bF.o ag);have ea:=gW (iy d9.o ag);have XQ:=gW a0;have Q3:=gW (pC wc N n f l cU cV s v M.length O.length M O ((du.o.keep am.o).keep ag) ((dv.o.keep am.o).keep ag) aZ a1 rfl rfl);have c8:=aa.o _ ce.o;clear a0 aZ a1 ag be bg;obtain⟨A,E,t2⟩:=jF c8;obtain⟨p0,p1⟩:=li co.o;obtain⟨q0,q1⟩:=li XQ.o;clear c8;go_wp2_with fail
          refine Q3.o.mono ?_;rintro _ bm ⟨rfl,aI⟩;have bB:=gW (bt ce.o aI);have c3:=gW (bt d6.o aI);have bZ:=gW (bt d0.o aI);have dE:=gW (bt dD.o aI);have dH:=gW (iy co.o aI);have eb:=gW (iy ea.o aI);have c9:=aa.o _ bB.o;clear aI Q3 XQ A E t2 p0 p1 q0 q1;obtain⟨A,E,t2⟩:=jF c9;clear c9;go_wp2_with fail
          refine(bc.o _ _ _ bZ.o (SB.o _ c3.o)).mono ?_;rintro _ bU ⟨a9,aQ,cQ,rfl,cy,cA⟩;have GQ:=gW cy;have NQ:=gW cA;have dA:=gW a9;have dn:=gW (bt bB.o a9);have d7:=gW (bt c3.o a9);have d1:=gW (bt bZ.o a9);clear a9 cy cA A E t2;go_upto_region 25 with fail
          have V:=gW (bt dn.o (dr2 bU));refine bA (S:=λW=>W.cell? ⟨r,0,none⟩=some (.int .i64 ba)/\W.cell? ⟨r,1,none⟩=some (.int .i64 bh)/\W.cell? ⟨r,2,none⟩=some (.int .i64 bd)/\W.cell? ⟨gR,oR+k,none⟩=some (.slice aK K.length cK)) (by kernel_rfl) (P.o _ V.o) (λhHeld=>?_)
          refine tkd 0 1 2 3 ?_;refine tkb 4 5 ?_;refine tk 6 ?_;refine tw 7 λB a=>?_
          go_simp;refine(bb.o _ _ _ (bt d1.o (dr2 bU)) (KB.o _ V.o)).mono ?_;rintro _ dW ⟨b1,aW,cW,rfl,cw⟩;have cf:=gW (bt V.o b1);have cl:=gW (bt (dr2 bU) b1);have GW:=gW cw;clear b1 cw V;go_wp2_with fail
          refine a.o _ _ (P.o _ cf.o) (λhHeld=>?_)
          refine tkd 8 9 10 11 ?_;refine tk 12 ?_;refine td ?_;have Q4:=gW (mC dW aQ aW C.length C.length cQ cW C (DC (GQ.o.keep cl.o)) (DC GW.o) rfl rfl (by omega))
          clear hHeld;go_wp2_with fail
          refine Q4.o.mono ?_;rintro _ dX ⟨rfl,b2⟩;have cm:=gW (bt cl.o b2);have cg:=gW (bt cf.o b2);have d8:=gW (bt d7.o cm.o);have dT:=RC.o _ cg.o;have Q5:=gW (Dj dX wr.heap.size (K.length+64) aK K.length K.length cK K (RI.o _ d8.o) (KB.o _ cg.o) rfl rfl rfl (by omega))
          clear b2 Q4;go_wp2_with fail
          refine Q5.o.mono ?_;rintro _ cS ⟨rfl,de⟩;have cn:=gW (bt cm.o de);have I0:Hid (∃PC:List Int,PC.length=C.length/\Q.Gw 3 1 cS aQ cQ C.length (Q.vi PC)/\Below bm.heap.size bm cS):=⟨C,rfl,GQ.o.keep cn.o,bt dA.o cn.o⟩;clear de Q5 dT GQ GW;go_upto_region 29 with fail
          go_loopw [27] (λvj m=>∃j:Nat,j<=C.length/\vj=.int .i64 (j:Int)/\∃PC:List Int,PC.length=C.length/\Q.Gw 3 1 m aQ cQ C.length (Q.vi PC)/\Below bm.heap.size bm m) (λvj _=>C.length-(intOf vj).toNat)
          case atStart=>exact⟨0,an _,rfl,I0.o⟩
          case round=>
           clear I0;obtain⟨j,hj,rfl,PC,cE,hG,hb⟩:=hrel;have GJ:=gW hG;have BJ:=gW hb;have ci:=gW cE;clear hG hb cE;by_cases ei:j<C.length
           . have dS:(j:Int)<(C.length:Int):=by omega
             have eh:(0:Int)<=(j:Int):=by omega
             obtain⟨gQ,dQ⟩:=GJ.o.addr (by omega)
             subst dQ;have c0:=GJ.o.cell (show(Q.vi PC)[j]?=some (.int .i64 (PC.getD j 0)) by have:=ci.o;simp[Q.vi,show j<PC.length by omega])
             have f0:=GJ.o.free j;have SJ:=gW (Eu NQ.o ci.o GJ.o BJ.o j);go_wp2_with fail
             go_roundw
             case rel=>exact⟨j+1,by omega,by first|rfl|(go_num;done)|exact bf (Value.int IntKind.i64) (by omega),SJ.o⟩
             case measure=>first|(simp[intOf];done)|(simp[intOf];omega)
           . have dS:¬(j:Int)<(C.length:Int):=by omega
             have EE:=gW (bt bB.o BJ.o);obtain⟨p0,p1⟩:=li (iy eb.o BJ.o);obtain⟨q0,q1⟩:=li (iy dH.o BJ.o);have bq:=gW (al wr (.cells #[.slice aG G.length cG,.slice aX I.length cX,.slice aY J.length cY,.slice N M.length cU,.slice n O.length cV] 37));have dI:=gW (ah wr (.cells #[.slice aG G.length cG,.slice aX I.length cX,.slice aY J.length cY,.slice N M.length cU,.slice n O.length cV] 37));have AR:=gW ((GG.o.keep EE.o).keep bq.o);have T7:=gW ((T6.o.keep (bt dE.o BJ.o)).keep bq.o);have c1:=gW (bt (bt bZ.o BJ.o) bq.o)
             have dx:Hid (((b.map bv).length+5)*24<=140737488355328):=by
              show _<=_;rw[bu,LN.o];omega
             go_wp2_with (at_builtin;refine tT rfl _ _ rfl aP b.length cP (b.map bv) rfl (by simp) AR.o ⟨wr.heap.size,0,none⟩ 5 5 [Value.slice aG G.length cG,Value.slice aX I.length cX,Value.slice aY J.length cY,Value.slice N M.length cU,Value.slice n O.length cV] rfl rfl (Au dI.o) (by simp[Value.oneCell']) (by simp) dx.o ?_)
             intro g5 c5 cZ cu cz bH;have b9:=gW (((But.ofBelow (S:=Q.InA aP) c1.o).trans bH (λ_ _ e=>e)).below (λk hk ⟨x,d,e⟩=>by have:=NN.o x d;omega))
             have T8:=gW (Fam.ap T7.o AR.o bH b9.o)
             have dz:=gW (show ∀y,(some ⟨g5,0,none⟩:Option Addr)=some y->q.heap.size<=y.block from λy hy=>by
              rcases cz y hy with⟨z,hz,e⟩|h
              . rw[<-e];exact NN.o z hz
              . exact az c1.o.size h)
             have di:Hid (Ar cZ (some ⟨g5,0,none⟩) c5 ((b++([⟨aG,cG,G⟩,⟨aX,cX,I⟩,⟨aY,cY,J⟩,⟨N,cU,M⟩,⟨n,cV,O⟩]:List Br)).map bv)):=by
              show Ar _ _ _ _;rw[dd];exact cu
             have dy:Hid (∀t∈b++([⟨aG,cG,G⟩,⟨aX,cX,I⟩,⟨aY,cY,J⟩,⟨N,cU,M⟩,⟨n,cV,O⟩]:List Br),t.l.length<=3840):=λt ht=>by
              rcases bG.1 ht with h|h
              . exact FL.o t h
              . simp only[bN,bX,fL] at h;rcases h with rfl|rfl|rfl|rfl|rfl
                . exact a8.o
                . exact a5.o.1
                . exact a5.o.2
                . exact a7.o.1
                . exact a7.o.2
             have S8:Hid ((b++([⟨aG,cG,G⟩,⟨aX,cX,I⟩,⟨aY,cY,J⟩,⟨N,cU,M⟩,⟨n,cV,O⟩]:List Br)).length=b.length+5):=af;have S9:=gW (show 5*i+5=5*(i+1) by omega)
             have T9:Hid (Fam q cZ (b++[⟨aG,cG,G⟩,⟨aX,cX,I⟩,⟨aY,cY,J⟩,⟨N,cU,M⟩,⟨n,cV,O⟩])):=by
              have h:=T8.o;simp only[aE] at h;exact h
             clear cu cz bH p0 p1 q0 q1 AR T7 T8;go_wp2_with fail
             refine⟨?rel,?measure⟩
             case rel=>
              refine⟨i+1,some ⟨g5,0,none⟩,c5,b++([⟨aG,cG,G⟩,⟨aX,cX,I⟩,⟨aY,cY,J⟩,⟨N,cU,M⟩,⟨n,cV,O⟩]:List Br),by omega,?_,?_,T9.o,dy.o,di.o,dz.o,b9.o,?_⟩
              . rw[S8.o]
              . exact bf (Value.int IntKind.i64) (by omega)
              . rw[S8.o,LN.o];exact S9.o
             case measure=>first|(simp[intOf];done)|(simp[intOf];omega)
      . have dR:¬(i:Int)<2*(ab:Int):=by omega
        have AP:=gW (yq wr aP cP b GG.o (λt ht=>(FF.o.own t ht).1.r) FF.o.dist (by have:=LN.o;omega) FL.o)
        clear A E t2;go_wp2_with fail
        refine AP.o.mono ?_;rintro _ w5 ⟨rfl,a2⟩;have B5:=gW (((But.ofBelow BB.o).trans a2 (λ_ _ e=>e)).below (λk hk ⟨t,ht,y,hy,e⟩=>by have:=(FF.o.own t ht).1.fresh hy;omega))
        clear a2 AP;go_wp2_with fail
        refine(KP.o _ B5.o).mono ?_;rintro _ w6 ⟨rfl,cI⟩;have B6:=gW (bt B4.o (bt B5.o cI));clear cI;go_wp2_with fail
        refine(LV.o _).mono ?_;rintro _ w7 ⟨rfl,ae⟩;have B7:=gW (bt B6.o ae);clear ae;go_wp2_with fail
        go_ret;exact⟨rfl,B7.o⟩
   . obtain rfl:b5=false:=by simpa using bI
     clear bI;go_wp2_with fail
     refine(LV.o _).mono ?_;rintro _ w7 ⟨rfl,ae⟩;have B7:=gW (bt B4.o ae);clear ae;go_wp2_with fail
     go_ret;exact⟨rfl,B7.o⟩
end Go.Proofs.YteaogidofpfmmaaGreat
