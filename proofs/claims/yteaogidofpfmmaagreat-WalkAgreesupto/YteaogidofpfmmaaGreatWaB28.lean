import Derived.Test.YteaogidofpfmmaaGreatWaB27
set_option linter.all false
set_option maxHeartbeats 32000000
set_option maxRecDepth 16000
namespace Go.Proofs.YteaogidofpfmmaaGreat
open Go.Proofs.Tryz
open Go.RowKit
variable {g:Nat}{t:TypeId}{W:World}
def PrN(w w':World)(e:Ending)(X Y:List Nat)(bs:Bool):Prop:=Below w.heap.size w w'/\∃(aX aY:Option Addr)(cX cY:Nat),e=.returned (.tuple #[.agg #[.slice aX X.length cX,.slice aY Y.length cY],.bool bs,.int .i64 0])/\Bs w' aX X/\Bs w' aY Y
theorem PrP.near{w d:World}{e:Ending}{R:Option (List Nat×List Nat)}{X Y:List Nat}{bs:Bool}(h:PrP w d e R)(n:R.getD ([],[])=(X,Y))(p:R.isSome=bs):PrN w d e X Y bs:=by
 obtain⟨hb,⟨f,l,r⟩,⟨i,m,s⟩,rfl,a,b,j,c,k,q⟩:=h;rw[n] at a;simp only[gX] at a;obtain⟨rfl,rfl⟩:=a;subst p;exact⟨hb,f,i,l,m,rfl,b.r.bs j b.r.len_le,c.r.bs k c.r.len_le⟩
theorem rA{a:Option Addr}{l:List Nat}{f i:Option Addr}{p q c1 c2:Nat}(h:Bs W a l)(j:W.heap[g]?=some (.cells #[.slice f p c1,.slice i q c2] t (0,0))){x:Addr}(n:a=some x)(d:l≠[])(e:x.block=g):False:=by
 obtain⟨_,_,h⟩:=h;rcases h with h|⟨b,off,c,m⟩
 . exact d h
 . rw[n,au] at c;subst c;dsimp only at e;subst e;have k:=m 0 (bY.2 d);rw[ai _ _ _ _ _ _ j] at k;rcases off with _|_|off
   . cases k
   . cases k
   . simp at k
theorem od{u v x:Value}(h:W.heap[g]?=some (.cells #[u,v,x] t (0,0))):W.cell? ⟨g,0,none⟩=some u/\W.cell? ⟨g,1,none⟩=some v/\W.cell? ⟨g,2,none⟩=some x:=iz h
theorem Dx(w:World)(a3 rb:Nat)(rd:Int->Option Pg)(t:Tr)(hA:iF rd)(bz:chk rd t=0)(GT:GeT w a3 rb rd t (PLt rd t))(cp:∀W:World,Below w.heap.size w W->∃XV:Nat->Prop,i9 52 (.pointer (some ⟨a3,0,none⟩)) rd XV W)(aA:Option Addr)(cA:Nat)(m:List (Br×Br))(hP:Prs w aA cA m)(hL:prl m=PLt rd t)(i:Nat)(hi:i<m.length)(di:m.length<=524288):
 Calls prog 38 #[.pointer (some ⟨a3,0,none⟩),.agg #[.int .i64 t.root,.int .i64 t.height,.int .i64 t.items],.slice aA m.length cA,.int .i64 (i:Int)] w λe w'=>e=.returned (.bool true)/\Below w.heap.size w w':=by
 have l:=ix (al w (.cells #[.int .i64 t.root,.int .i64 t.height,.int .i64 t.items] 34));have X0:=ix (ag w (.cells #[.int .i64 t.root,.int .i64 t.height,.int .i64 t.items] 34));obtain⟨n,hn⟩:∃n,m.length=n:=⟨_,rfl⟩;have HN:=ix hn;have PP:=ix hP;have HL:=ix hL;have bw:Hid ((PLt rd t).length=n):=by show _=_;rw[<-hL,i7,hn]
 obtain⟨g,db,bj,bl,⟨D,Z⟩,N,L⟩:=hP.at hi;have I:(PLt rd t).getD i p00=((m.getD i br0).1.l,(m.getD i br0).2.l):=by rw[<-hL];exact lz m i
 obtain⟨⟨⟨E,F,K⟩,⟨aV,cV,V⟩⟩,f⟩:∃x,m.getD i br0=x:=⟨_,rfl⟩;rw[f] at bj bl D Z N L I;dsimp only at bj bl D Z N L I;have a5:=xS hA bz;have cl:=uI hA bz;have aT:i<(PLt rd t).length:=by rw[bw.o];omega
 have b9:(K,V)∈PLt rd t:=by rw[<-I];simp[aT]
 have bZ:=GT.len _ b9;dsimp only at bZ;have ck:K.length<=1048576:=by omega
 have e1:=Ga cl a5 aT;have e2:=Cq a5 aT;have e3:=Ah a5 aT;have e4:=ix (yo a5 aT);have e5:=ix (wN a5 aT);rw[I] at e1 e2 e3 e4 e5;rw[bw.o] at e4 e5;dsimp only at e1 e2 e3 e4 e5;have KB:=ix λ(W:World)(hb:Below w.heap.size w W)=>(D.keep hb).bs Z D.len_le
 have VB:=ix λ(W:World)(hb:Below w.heap.size w W)=>(N.keep hb).bs L N.len_le
 have bB:=ix λ(W:World)(hb:Below w.heap.size w W)=>(show Calls prog 11 #[.pointer (some ⟨a3,0,none⟩),.agg #[.int .i64 t.root,.int .i64 t.height,.int .i64 t.items],.slice E K.length F] W λe w'=>sD W w' e (V,true,0) from by
  have h:=GT.get W E F K hb (KB.o W hb);rw[e1] at h;exact h)
 have bH:=ix λ(W:World)(hb:Below w.heap.size w W)=>(GT.ceil W E F K hb (KB.o W hb) D.cap ck (λx f=>a6 (D.lt f) hb.size)).mono λe w' h=>h.near (X:=K) (Y:=V) (bs:=true) (by rw[e2];rfl) (by rw[e2];rfl)
 have bJ:=ix λ(W:World)(hb:Below w.heap.size w W)=>(GT.floor W E F K hb (KB.o W hb) ck).mono λe w' h=>h.near (X:=K) (Y:=V) (bs:=true) (by rw[e3];rfl) (by rw[e3];rfl)
 obtain⟨way,xl,ql,bp,cS,dg,cT,cU,b0,b2,cW⟩:=Hd hA bz b9;have bI:=ix λ(W:World)(hb:Below w.heap.size w W)=>(show Calls prog 19 #[.pointer (some ⟨a3,0,none⟩),.agg #[.int .i64 t.root,.int .i64 t.height,.int .i64 t.items],.slice E K.length F] W λe w'=>Ef W w' e (way.map Prod.fst) from(GT.path W E F K hb (KB.o W hb)).mono λe w' h=>yD.fix (by rw[<-bp];exact h) rfl)
 obtain⟨A,bc⟩:∃A,way.map Prod.fst=A:=⟨_,rfl⟩;rw[bc] at bI;have ce:Hid ((A.length:Int)=t.height):=by show _=_;rw[<-bc,bM];exact cS
 have cc:Hid (1<=A.length):=by show _<=_;have:=ce.o;omega
 have c8:Hid (A[0]?=some t.root):=by
  show _=_;obtain⟨p,l',e⟩:=cT;rw[<-bc,e];rfl
 have c9:Hid (A[A.length-1]?=some xl):=by
  show _=_;rw[<-List.getLast?_eq_getElem?,<-bc,List.getLast?_map,cU];rfl
 have cf:=ix λ(W:World)(hb:Below w.heap.size w W)=>(show Calls prog 52 #[.pointer (some ⟨a3,0,none⟩),.int .i64 xl] W λe w'=>Below W.heap.size W w'/\∃(lq:Int)(aq:Option Addr)(cq:Nat)(r:List Iv)(ad:Option Addr)(cd:Nat)(aI:List Nat)(nx:Int),e=.returned (.tuple #[.agg #[.int .i64 1,.int .i64 lq,.slice aq r.length cq,.slice ad aI.length cd,.int .i64 nx],.int .i64 0])/\(∀V:World,Below w'.heap.size w' V->Pi V ⟨1,lq,aq,cq,r,ad,cd,aI,nx⟩)/\r.length<=8/\∃j,j<r.length/\(r.getD j Iv.zero).key=K from by
  refine((cp W hb).choose_spec W (But.refl _ _) xl).mono λe w' ⟨ca,c,C,h3,h4⟩=>?_
  rw[b0] at c h3;have h3:ca.pg=ql:=h3;obtain⟨kq,lq,aq,cq,r,ad,cd,aI,nx⟩:=ca;have hs:=hA xl ql b0;have cO:ql.items=r.map Iv.it:=by rw[<-h3];rfl
  obtain rfl:kq=1:=by
   have e:(Pv.pg ⟨kq,lq,aq,cq,r,ad,cd,aI,nx⟩).kind=kq:=rfl;rw[<-e,h3];exact b2
  have cm:r.length<=8:=by
   have:=(hs.node (.inl b2)).2.2.1;rw[cO] at this;simpa using this
  obtain⟨a4,hy,dh⟩:=cW;rw[cO] at hy;obtain⟨dl,hv,rfl⟩:=bE.1 hy;obtain⟨j,hj,rfl⟩:=go hv;refine⟨h4,lq,aq,cq,r,ad,cd,aI,nx,c,λV hv=>(C.keep hv).pi (by show r.length<=_;omega),cm,j,hj,?_⟩
  rw[aM,bX hj];exact dh)
 unfold sD at bB;unfold PrN at bH bJ;unfold Ef at bI;dsimp only at bB;have c0:=ix λ(W:World)(hb:Below w.heap.size w W)=>(hb.cell (p:=⟨g,i*2,none⟩) (block_lt_of_cell bj)).trans bj
 have c1:=ix λ(W:World)(hb:Below w.heap.size w W)=>(hb.cell (p:=⟨g,i*2+1,none⟩) (block_lt_of_cell bl)).trans bl
 subst db;have bR:=ix λ(W:World)(hb:Below w.heap.size w W)(a:Option Addr)(az:Nat)(c:Bs W a (K++[0]))(C:(K++[0]).length<=az)(h3:∀x,a=some x->x.block<W.heap.size)=>GT.ceil W a az (K++[0]) hb c C (by rw[af,dR];omega) h3
 have bS:=ix λ(W:World)(hb:Below w.heap.size w W)(a:Option Addr)(az:Nat)(c:Bs W a (K++[0]))=>GT.floor W a az (K++[0]) hb c (by rw[af,dR];omega)
 have dx:i<n:=by omega
 have dw:n<=524288:=by omega
 have dp:(i:Int)<(n:Int):=by omega
 have dn:(0:Int)<=(i:Int):=by omega
 have dK:=ix bZ;clear hP hL f I a5 cl aT b9 e1 e2 e3 bc bp cS dg cT cU b0 b2 cW way bj bl D Z N L cp di hi hA bz GT bZ;simp only[hn];clear hn;obtain⟨ax,cn⟩:∃ax,PLt rd t=ax:=⟨_,rfl⟩;rw[cn] at HL bw e4 e5 bR bS;clear cn;obtain⟨aw,a0,a7⟩:=t;dsimp only at *;go_enter func38,ntmps38;obtain⟨t0,t1,t2⟩:=od X0.o;go_upto_region 1 with fail
 obtain⟨w1,bp⟩:∃W,w.alloc (.cells #[.int .i64 aw,.int .i64 a0,.int .i64 a7] 34)=W:=⟨_,rfl⟩;rw[bp] at l X0 ⊢;clear bp t0 t1 t2;obtain⟨M,cM⟩:∃g,w.heap.size=g:=⟨_,rfl⟩;have XT:=ix λ(W:World)(hb:Below w1.heap.size w1 W)=>iJ X0.o hb
 have dm:=ix cM;rw[cM] at XT;have H:=ix λ(W:World)(hb:Below w1.heap.size w1 W)=>(show W.cell? ⟨M,0,none⟩=some (.int .i64 aw)/\W.cell? ⟨M,1,none⟩=some (.int .i64 a0)/\W.cell? ⟨M,2,none⟩=some (.int .i64 a7)/\W.cell? ⟨g,i*2,none⟩=some (.slice E K.length F) from⟨(od (XT.o W hb)).1,(od (XT.o W hb)).2.1,(od (XT.o W hb)).2.2,c0.o W (bt l.o hb)⟩)
 have U:=ix (dr2 w1);refine be (S:=λW=>W.cell? ⟨M,0,none⟩=some (.int .i64 aw)/\W.cell? ⟨M,1,none⟩=some (.int .i64 a0)/\W.cell? ⟨M,2,none⟩=some (.int .i64 a7)/\W.cell? ⟨g,i*2,none⟩=some (.slice E K.length F)) (by kernel_rfl) (H.o _ U.o) (λhHeld=>?_)
 refine tkd 0 1 2 3 ?_;refine tkb 4 5 ?_;refine tk 6 ?_;refine tw 7 λJ d=>?_
 go_simp;refine(bB.o _ (bt l.o U.o)).mono ?_;rintro _ w2 ⟨aG,cG,rfl,bG,ci⟩;have E2:=ix (bt U.o bG.b);have Q1:=ix (jY w2 aG aV V.length V.length cG cV V V (bG.r.bs ci bG.r.len_le) (VB.o _ (bt l.o E2.o)) rfl rfl);simp only[decide_true] at Q1;clear bG ci U;go_wp2_with fail
 refine d.o _ _ (H.o _ E2.o) (λhHeld=>?_)
 refine tkd 8 9 10 11 ?_;refine tkb 12 13 ?_;refine tk 14 ?_;refine td ?_;have y1:=c1.o _ (bt l.o E2.o);clear bB;go_wp2_with fail
 refine Q1.o.mono ?_;rintro _ w3 ⟨rfl,cr⟩;have E3:=ix (bt E2.o cr);clear cr Q1 y1 E2;go_upto_region 4 with fail
 go_cut [10,12,13] from 25 to 239 (λva vb vc q=>va=.bool true/\vc=.int .i64 0/\∃(gq:Nat)(aX aY:Option Addr)(cX cY:Nat),vb=.pointer (some ⟨gq,0,none⟩)/\q.heap[gq]?=some (.cells #[.slice aX K.length cX,.slice aY V.length cY] 45 (0,0))/\Bs q aX K/\Bs q aY V/\Below w3.heap.size w3 q)
 case first=>
  as_aux_lemma=>
   have U:=ix (bt E3.o (dr2 w3));have aP:=ix (show Below w3.drew.heap.size w3.drew (w3.drew.alloc (.cells #[.slice none 0 0,.slice none 0 0] 45)) from al w3.drew (.cells #[.slice none 0 0,.slice none 0 0] 45))
   have aS:=ix (show(w3.drew.alloc (.cells #[.slice none 0 0,.slice none 0 0] 45)).heap[w3.heap.size]?=some (.cells #[.slice none 0 0,.slice none 0 0] 45 (0,0)) from ag w3.drew (.cells #[.slice none 0 0,.slice none 0 0] 45))
   refine be (S:=λW=>W.cell? ⟨M,0,none⟩=some (.int .i64 aw)/\W.cell? ⟨M,1,none⟩=some (.int .i64 a0)/\W.cell? ⟨M,2,none⟩=some (.int .i64 a7)/\W.cell? ⟨g,i*2,none⟩=some (.slice E K.length F)) (by kernel_rfl) (H.o _ U.o) (λhHeld=>?_)
   refine tkd 0 1 2 3 ?_;refine tkb 4 5 ?_;refine tk 6 ?_;refine t2 7 12 (λJ d=>?p1) (λJ d=>?p2)
   case p1=>
    go_simp;refine(bH.o _ (bt l.o U.o)).mono ?_;rintro _ aj ⟨ak,ab,ac,ae,ai,rfl,k,b⟩;have a9:=ix (bt U.o ak);have av:=ix (bt (dr2 w3) ak);have HX:=ix k;have HY:=ix b;have aB:=ix (al aj (.cells #[.slice none 0 0,.slice none 0 0] 45));have aa:=ix (ag aj (.cells #[.slice none 0 0,.slice none 0 0] 45));clear ak k b aP aS;go_wp2_with fail
    refine d.o _ _ (H.o _ a9.o) (λhHeld=>?_)
    refine tkd 8 9 10 11 ?_;refine tw 12 λJ d=>?_
    go_simp;refine d.o _ _ (H.o _ (bt a9.o aB.o)) (λhHeld=>?_)
    refine tw 13 λJ d=>?_
    rw[if_pos (by rfl)]
    refine fQ 45 _ _ rfl aj.heap.size #[.slice ab K.length ae,.slice ac V.length ai] (by simp[Act.eval]) (by simp[Act.eval]) 45 _ aa.o iN rfl (by simp[Value.oneCell']) ?_
    have au:Hid (Below w3.heap.size w3 ((aj.alloc (.cells #[.slice none 0 0,.slice none 0 0] 45)).setRow aj.heap.size #[.slice ab K.length ae,.slice ac V.length ai])):=below_setRow (bt av.o aB.o) av.o.size _;refine d.o _ _ (H.o _ (bt E3.o au.o)) (λhHeld=>?_)
    refine tkb 14 15 ?_;refine td ?_;go_wp2_with fail
    go_meet
    case rel=>exact⟨rfl,rfl,_,ab,ac,ae,ai,rfl,bu _ _ _ _ _ _ aa.o,(HX.o.keep aB.o).but (Q.iD _ _ _) (λx f B e=>by have:=(HX.o).lt f B;omega),(HY.o.keep aB.o).but (Q.iD _ _ _) (λx f B e=>by have:=(HY.o).lt f B;omega),au.o⟩
   case p2=>
    go_simp;have DA:=ix (bt (dr2 w3) aP.o);refine d.o _ _ (H.o _ (bt E3.o DA.o)) (λhHeld=>?_)
    refine tw 7 λJ d=>?_
    go_simp;refine(bH.o _ (bt l.o (bt E3.o DA.o))).mono ?_;rintro _ aj ⟨ak,ab,ac,ae,ai,rfl,k,b⟩;have av:=ix (bt DA.o ak);have HX:=ix k;have HY:=ix b;have aa:=ix (iJ aS.o ak);clear ak k b aP aS;go_wp2_with fail
    refine d.o _ _ (H.o _ (bt E3.o av.o)) (λhHeld=>?_)
    refine tkd 8 9 10 11 ?_;refine tw 13 λJ d=>?_
    rw[if_pos (by rfl)]
    refine fQ 45 _ _ rfl w3.heap.size #[.slice ab K.length ae,.slice ac V.length ai] (by simp[Act.eval]) (by simp[Act.eval]) 45 _ aa.o iN rfl (by simp[Value.oneCell']) ?_
    have au:Hid (Below w3.heap.size w3 (aj.setRow w3.heap.size #[.slice ab K.length ae,.slice ac V.length ai])):=below_setRow av.o (am _) _;refine d.o _ _ (H.o _ (bt E3.o au.o)) (λhHeld=>?_)
    refine tkb 14 15 ?_;refine td ?_;go_wp2_with fail
    go_meet
    case rel=>exact⟨rfl,rfl,_,ab,ac,ae,ai,rfl,bu _ _ _ _ _ _ aa.o,HX.o.but (Q.iD _ _ _) (λx f B e=>rA HX.o aa.o f B e),HY.o.but (Q.iD _ _ _) (λx f B e=>rA HY.o aa.o f B e),au.o⟩
 case rest=>
  obtain⟨rfl,rfl,gc,aC,bC,cC,dC,rfl,bg,bd,bh,ao⟩:=hcut;have E4:=ix (bt E3.o ao);have XC:=ix λ(W:World)(hb:Below wc.heap.size wc W)=>iJ bg hb
  have BC:=ix λ(W:World)(hb:Below wc.heap.size wc W)=>And.intro (bd.keep hb) (bh.keep hb)
  generalize wc=R at *;clear bg bd bh ao bH;go_upto_region 5 with fail
  go_cut [14,15,16] from 25 to 239 (λva vb vc q=>vb=.bool true/\vc=.int .i64 0/\∃(gq:Nat)(aX aY:Option Addr)(cX cY:Nat),va=.pointer (some ⟨gq,0,none⟩)/\q.heap[gq]?=some (.cells #[.slice aX K.length cX,.slice aY V.length cY] 45 (0,0))/\Bs q aX K/\Bs q aY V/\Below R.heap.size R q)
  case first=>
   as_aux_lemma=>
    have U:=ix (bt E4.o (dr2 R));have aP:=ix (show Below R.drew.heap.size R.drew (R.drew.alloc (.cells #[.slice none 0 0,.slice none 0 0] 45)) from al R.drew (.cells #[.slice none 0 0,.slice none 0 0] 45))
    have aS:=ix (show(R.drew.alloc (.cells #[.slice none 0 0,.slice none 0 0] 45)).heap[R.heap.size]?=some (.cells #[.slice none 0 0,.slice none 0 0] 45 (0,0)) from ag R.drew (.cells #[.slice none 0 0,.slice none 0 0] 45))
    refine be (S:=λW=>W.cell? ⟨M,0,none⟩=some (.int .i64 aw)/\W.cell? ⟨M,1,none⟩=some (.int .i64 a0)/\W.cell? ⟨M,2,none⟩=some (.int .i64 a7)/\W.cell? ⟨g,i*2,none⟩=some (.slice E K.length F)) (by kernel_rfl) (H.o _ U.o) (λhHeld=>?_)
    refine tkd 0 1 2 3 ?_;refine tkb 4 5 ?_;refine tk 6 ?_;refine t2 7 12 (λJ d=>?p1) (λJ d=>?p2)
    case p1=>
     go_simp;refine(bJ.o _ (bt l.o U.o)).mono ?_;rintro _ aj ⟨ak,ab,ac,ae,ai,rfl,k,b⟩;have a9:=ix (bt U.o ak);have av:=ix (bt (dr2 R) ak);have HX:=ix k;have HY:=ix b;have aB:=ix (al aj (.cells #[.slice none 0 0,.slice none 0 0] 45));have aa:=ix (ag aj (.cells #[.slice none 0 0,.slice none 0 0] 45));clear ak k b aP aS;go_wp2_with fail
     refine d.o _ _ (H.o _ a9.o) (λhHeld=>?_)
     refine tkd 8 9 10 11 ?_;refine tw 12 λJ d=>?_
     go_simp;refine d.o _ _ (H.o _ (bt a9.o aB.o)) (λhHeld=>?_)
     refine tw 13 λJ d=>?_
     rw[if_pos (by rfl)]
     refine fQ 45 _ _ rfl aj.heap.size #[.slice ab K.length ae,.slice ac V.length ai] (by simp[Act.eval]) (by simp[Act.eval]) 45 _ aa.o iN rfl (by simp[Value.oneCell']) ?_
     have au:Hid (Below R.heap.size R ((aj.alloc (.cells #[.slice none 0 0,.slice none 0 0] 45)).setRow aj.heap.size #[.slice ab K.length ae,.slice ac V.length ai])):=below_setRow (bt av.o aB.o) av.o.size _;refine d.o _ _ (H.o _ (bt E4.o au.o)) (λhHeld=>?_)
     refine tkb 14 15 ?_;refine td ?_;go_wp2_with fail
     go_meet
     case rel=>exact⟨rfl,rfl,_,ab,ac,ae,ai,rfl,bu _ _ _ _ _ _ aa.o,(HX.o.keep aB.o).but (Q.iD _ _ _) (λx f B e=>by have:=(HX.o).lt f B;omega),(HY.o.keep aB.o).but (Q.iD _ _ _) (λx f B e=>by have:=(HY.o).lt f B;omega),au.o⟩
    case p2=>
     go_simp;have DA:=ix (bt (dr2 R) aP.o);refine d.o _ _ (H.o _ (bt E4.o DA.o)) (λhHeld=>?_)
     refine tw 7 λJ d=>?_
     go_simp;refine(bJ.o _ (bt l.o (bt E4.o DA.o))).mono ?_;rintro _ aj ⟨ak,ab,ac,ae,ai,rfl,k,b⟩;have av:=ix (bt DA.o ak);have HX:=ix k;have HY:=ix b;have aa:=ix (iJ aS.o ak);clear ak k b aP aS;go_wp2_with fail
     refine d.o _ _ (H.o _ (bt E4.o av.o)) (λhHeld=>?_)
     refine tkd 8 9 10 11 ?_;refine tw 13 λJ d=>?_
     rw[if_pos (by rfl)]
     refine fQ 45 _ _ rfl R.heap.size #[.slice ab K.length ae,.slice ac V.length ai] (by simp[Act.eval]) (by simp[Act.eval]) 45 _ aa.o iN rfl (by simp[Value.oneCell']) ?_
     have au:Hid (Below R.heap.size R (aj.setRow R.heap.size #[.slice ab K.length ae,.slice ac V.length ai])):=below_setRow av.o (am _) _;refine d.o _ _ (H.o _ (bt E4.o au.o)) (λhHeld=>?_)
     refine tkb 14 15 ?_;refine td ?_;go_wp2_with fail
     go_meet
     case rel=>exact⟨rfl,rfl,_,ab,ac,ae,ai,rfl,bu _ _ _ _ _ _ aa.o,HX.o.but (Q.iD _ _ _) (λx f B e=>rA HX.o aa.o f B e),HY.o.but (Q.iD _ _ _) (λx f B e=>rA HY.o aa.o f B e),au.o⟩
  case rest=>
   obtain⟨rfl,rfl,gf,aF,bF,cF,dF,rfl,bg,bd,bh,ao⟩:=hcut;have E5:=ix (bt E4.o ao);have XF:=ix λ(W:World)(hb:Below wc.heap.size wc W)=>iJ bg hb
   have bq:=ix ao;have BF:=ix λ(W:World)(hb:Below wc.heap.size wc W)=>And.intro (bd.keep hb) (bh.keep hb)
   generalize wc=w5 at *;clear bg bd bh ao bJ
   have H6:=ix λ(W:World)(hb:Below w5.heap.size w5 W)=>(show W.cell? ⟨gc,0,none⟩=some (.slice aC K.length cC)/\W.cell? ⟨gc,1,none⟩=some (.slice bC V.length dC)/\W.cell? ⟨gf,0,none⟩=some (.slice aF K.length cF)/\W.cell? ⟨gf,1,none⟩=some (.slice bF V.length dF)/\W.cell? ⟨g,i*2,none⟩=some (.slice E K.length F)/\W.cell? ⟨g,i*2+1,none⟩=some (.slice aV V.length cV) from by
    obtain⟨p0,p1⟩:=ld (XC.o W (bt bq.o hb));obtain⟨q0,q1⟩:=ld (XF.o W hb);exact⟨p0,p1,q0,q1,c0.o W (bt l.o (bt E5.o hb)),c1.o W (bt l.o (bt E5.o hb))⟩)
   go_upto_region 6 with fail
   refine be (S:=λW=>W.cell? ⟨gc,0,none⟩=some (.slice aC K.length cC)/\W.cell? ⟨gc,1,none⟩=some (.slice bC V.length dC)/\W.cell? ⟨gf,0,none⟩=some (.slice aF K.length cF)/\W.cell? ⟨gf,1,none⟩=some (.slice bF V.length dF)/\W.cell? ⟨g,i*2,none⟩=some (.slice E K.length F)/\W.cell? ⟨g,i*2+1,none⟩=some (.slice aV V.length cV)) (by kernel_rfl) (H6.o _ (dr2 w5)) (λhHeld=>?_)
   refine tkd 0 1 2 3 ?_;refine tkd 4 5 6 7 ?_;refine tkd 8 9 10 11 ?_;refine tw 12 λJ d=>?_
   go_simp;refine(kG w5.drew aC bC E aV cC dC F cV K.length V.length K V (BC.o _ (bt bq.o (dr2 w5))).1 (BC.o _ (bt bq.o (dr2 w5))).2 (KB.o _ (bt l.o (bt E5.o (dr2 w5)))) (VB.o _ (bt l.o (bt E5.o (dr2 w5)))) rfl rfl).mono ?_;rintro _ w6 ⟨rfl,cs⟩;have E6:=ix (bt (dr2 w5) cs);clear cs;go_wp2_with fail
   refine d.o _ _ (H6.o _ E6.o) (λhHeld=>?_)
   refine tkd 13 14 15 16 ?_;refine tkd 17 18 19 20 ?_;refine tw 21 λJ d=>?_
   go_simp;refine(kG w6 aF bF E aV cF dF F cV K.length V.length K V (BF.o _ E6.o).1 (BF.o _ E6.o).2 (KB.o _ (bt l.o (bt E5.o E6.o))) (VB.o _ (bt l.o (bt E5.o E6.o))) rfl rfl).mono ?_;rintro _ w7 ⟨rfl,ct⟩;have bQ:=ix (bt E6.o ct);clear ct;go_wp2_with fail
   refine d.o _ _ (H6.o _ bQ.o) (λhHeld=>?_)
   refine tkb 22 23 ?_;refine td ?_;have E7:=ix (bt E5.o bQ.o);clear H6 XC XF BC BF bq E6 bQ E5 E4 E3;have CB:=ix (j9 w7 E K.length F K (KB.o _ (bt l.o E7.o)) rfl (by omega))
   have y0:=c0.o _ (bt l.o E7.o);go_wp2_with fail
   refine CB.o.mono ?_;rintro _ w8 ⟨a1,d1,rfl,hO⟩;have R1:=ix (hO.r.keep (al w8 (.cells #[.int .u8 0] 5)));have N1:=ix hO;have B0:=ix (show Bs (w8.alloc (.cells #[.int .u8 0] 5)) (some ⟨w8.heap.size,0,none⟩) [0] from s7 _)
   have aU:=ix (al w8 (.cells #[.int .u8 0] 5));clear hO CB y0;go_wp2_with (at_builtin;refine jP rfl _ _ rfl a1 K.length d1 K rfl rfl R1.o (some ⟨w8.heap.size,0,none⟩) 1 1 [0] rfl rfl B0.o (by simp;omega) ?_)
   intro a2 d2 w9 bo de cH _;have hA1:But (Q.InA a1) (w8.alloc (.cells #[.int .u8 0] 5)) w9:=But.inA cH;have E9:=ix (bt E7.o (((But.ofBelow (S:=λj=>w7.heap.size<=j) (bt N1.o.b aU.o)).trans (hA1.mono (T:=λj=>w7.heap.size<=j) λj _ ⟨x,f,e⟩=>by have:=N1.o.fresh f;omega) (λ_ _ e=>e)).below (λj hj e=>by omega)))
   have c4:B8 (K++[0]):=λx f=>by
    rcases bO.1 f with h|h
    . exact(KB.o _ (Below.refl _ _)).1 x h
    . rw[aZ.1 h];decide
   have AB:=ix λ(W:World)(hb:Below w9.heap.size w9 W)=>(bo.keep hb).bs c4 bo.len_le
   have AC:=ix (show(K++[0]).length<=d2 from bo.cap)
   have AL:=ix (show ∀x,a2=some x->x.block<w9.heap.size from λx f=>bo.lt f)
   have AN:Hid ((K++[0]).length=K.length+1):=by show _=_;simp
   clear bo de cH hA1 c4 R1 N1 B0 aU E7;obtain⟨⟨s,NY⟩,bW⟩:∃a4,(kJ ax (K++[0])).getD ([],[])=a4:=⟨_,rfl⟩;obtain⟨nb,bY⟩:∃a4,(kJ ax (K++[0])).isSome=a4:=⟨_,rfl⟩;obtain⟨⟨O,P⟩,bU⟩:∃a4,(jT ax (K++[0])).getD ([],[])=a4:=⟨_,rfl⟩;have ch:(jT ax (K++[0])).isSome=true:=by rw[e5.o];split<;>rfl
   have br:=ix λ(W:World)(hb:Below w.heap.size w W)(a:Option Addr)(az:Nat)(c:Bs W a (K++[0]))(C:(K++[0]).length<=az)(h3:∀x,a=some x->x.block<W.heap.size)=>(bR.o W hb a az c C h3).mono λe w' h=>h.near bW bY
   have bv:=ix λ(W:World)(hb:Below w.heap.size w W)(a:Option Addr)(az:Nat)(c:Bs W a (K++[0]))=>(bS.o W hb a az c).mono λe w' h=>h.near bU ch
   have NB:Hid (nb=decide (i+1<n)):=by
    show _=_;rw[<-bY,e4.o];split
    . rename_i h;rw[ar h];rfl
    . rename_i h;rw[ah h];rfl
   have ba:Hid (i+1<n->(s,NY)=ax.getD (i+1) p00):=λh=>by
    rw[<-bW,e4.o,if_pos h];rfl
   have bP:Hid ((O,P)=if i+1<n/\s=K++[0] then (s,NY) else (K,V)):=by
    show _=_;rw[<-bU,e5.o];by_cases h:i+1<n
    . have e:=ba.o h;rw[<-e];dsimp only;by_cases C:s=K++[0]
      . rw[if_pos ⟨h,C⟩,if_pos ⟨h,C⟩];rfl
      . rw[if_neg (λa=>C a.2),if_neg (λa=>C a.2)];rfl
    . rw[if_neg (λa=>h a.1),if_neg (λa=>h a.1)];rfl
   clear bW bY bU ch e4 e5 bR bS;unfold PrN at br bv;rw[AN.o] at br bv;have T9:=od (XT.o w9 E9.o);obtain⟨t0,t1,t2⟩:=T9;go_upto_region 9 with fail
   try simp only[AN.o]
   go_wp2_with fail
   refine(br.o _ (bt l.o E9.o) a2 d2 (AB.o _ (Below.refl _ _)) (by rw[<-AN.o];exact AC.o) AL.o).mono ?_
   rintro _ wA ⟨cu,aN,bN,cN,dN,rfl,k,b⟩;have A9:=ix (al wA (.cells #[.slice aN s.length cN,.slice bN NY.length dN] 45));have X9:=ix (ag wA (.cells #[.slice aN s.length cN,.slice bN NY.length dN] 45));have F9:=ix (bt cu A9.o);have EA:=ix (bt E9.o F9.o);have BN:=ix λ(W:World)(hb:Below (wA.alloc (.cells #[.slice aN s.length cN,.slice bN NY.length dN] 45)).heap.size (wA.alloc (.cells #[.slice aN s.length cN,.slice bN NY.length dN] 45)) W)=>And.intro ((k.keep A9.o).keep hb) ((b.keep A9.o).keep hb)
   clear cu k b t0 t1 t2;go_upto_region 10 with fail
   obtain⟨wB,cZ⟩:∃W,wA.alloc (.cells #[.slice aN s.length cN,.slice bN NY.length dN] 45)=W:=⟨_,rfl⟩;rw[cZ] at A9 X9 F9 EA BN ⊢;clear cZ A9;obtain⟨gN,cL⟩:∃g,wA.heap.size=g:=⟨_,rfl⟩;simp only[cL] at X9 ⊢;clear cL;obtain⟨t0,t1,t2⟩:=od (XT.o wB EA.o);go_wp2_with fail
   refine(bv.o _ (bt l.o EA.o) a2 d2 (AB.o _ F9.o)).mono ?_;rintro _ wC ⟨cv,aD,bD,cD,dD,rfl,k,b⟩;have a8:=ix (al wC (.cells #[.slice aD O.length cD,.slice bD P.length dD] 45));have bb:=ix (ag wC (.cells #[.slice aD O.length cD,.slice bD P.length dD] 45));have aR:=ix (bt cv a8.o);have EC:=ix (bt EA.o aR.o);have BD:=ix λ(W:World)(hb:Below (wC.alloc (.cells #[.slice aD O.length cD,.slice bD P.length dD] 45)).heap.size (wC.alloc (.cells #[.slice aD O.length cD,.slice bD P.length dD] 45)) W)=>And.intro ((k.keep a8.o).keep hb) ((b.keep a8.o).keep hb)
   clear cv k b t0 t1 t2 br bv;go_upto_region 11 with fail
   obtain⟨y,c2⟩:∃W,wC.alloc (.cells #[.slice aD O.length cD,.slice bD P.length dD] 45)=W:=⟨_,rfl⟩;rw[c2] at a8 bb aR EC BD ⊢;clear c2 a8;obtain⟨gD,cI⟩:∃g,wC.heap.size=g:=⟨_,rfl⟩;simp only[cI] at bb ⊢;clear cI;have cg:=ix (iJ X9.o aR.o);go_cut [148] from 25 to 239 (λdj q=>dj=.bool false/\Below y.heap.size y q)
   case first=>
    as_aux_lemma=>
     by_cases h:i+1<n
     . obtain rfl:nb=true:=by rw[NB.o];exact ar h
       have B:=ba.o h;have bn:i+1<m.length:=by rw[HN.o];exact h
       obtain⟨g',bm,G,k1,⟨D,Z⟩,N,L⟩:=PP.o.at bn;cases bm;have I:ax.getD (i+1) p00=((m.getD (i+1) br0).1.l,(m.getD (i+1) br0).2.l):=by rw[<-HL.o];exact lz m (i+1)
       obtain⟨⟨⟨aE,aH,K2⟩,⟨aJ,aL,V2⟩⟩,f⟩:∃x,m.getD (i+1) br0=x:=⟨_,rfl⟩;rw[f] at G k1 D Z N L I;dsimp only at G k1 D Z N L I;rw[I] at B;obtain⟨c,C⟩:=fG B;subst c C
       have SC:=ix λ(W:World)(hb:Below y.heap.size y W)=>(show W.cell? ⟨gN,0,none⟩=some (.slice aN s.length cN)/\W.cell? ⟨gN,1,none⟩=some (.slice bN NY.length dN)/\W.cell? ⟨g,(i+1)*2,none⟩=some (.slice aE s.length aH)/\W.cell? ⟨g,(i+1)*2+1,none⟩=some (.slice aJ NY.length aL) from by
        obtain⟨p0,p1⟩:=ld (iJ cg.o hb);have aO:=bt l.o (bt EC.o hb);exact⟨p0,p1,(aO.cell (p:=⟨g,(i+1)*2,none⟩) (block_lt_of_cell G)).trans G,(aO.cell (p:=⟨g,(i+1)*2+1,none⟩) (block_lt_of_cell k1)).trans k1⟩)
       have EQ:=ix (kG y.drew aN bN aE aJ cN dN aH aL s.length NY.length s NY (BN.o _ (bt aR.o (dr2 y))).1 (BN.o _ (bt aR.o (dr2 y))).2 ((D.keep (bt l.o (bt EC.o (dr2 y)))).bs Z D.len_le) ((N.keep (bt l.o (bt EC.o (dr2 y)))).bs L N.len_le) rfl rfl);have b8:IntKind.i64.wrap ((i:Int)+1)=(i:Int)+1:=iQ (by omega) (by omega)
       have b7:(i:Int)+1<(n:Int):=by omega
       have c5:(0:Int)<=(i:Int)+1:=by omega
       clear G k1 D Z N L I f;refine be (S:=λW=>W.cell? ⟨gN,0,none⟩=some (.slice aN s.length cN)/\W.cell? ⟨gN,1,none⟩=some (.slice bN NY.length dN)/\W.cell? ⟨g,(i+1)*2,none⟩=some (.slice aE s.length aH)/\W.cell? ⟨g,(i+1)*2+1,none⟩=some (.slice aJ NY.length aL)) (by kernel_rfl) (SC.o _ (dr2 y)) (λhHeld=>?_)
       refine tkd 0 1 2 3 ?_;refine tkd 4 5 6 7 ?_;refine tkd 8 9 10 11 ?_;refine tkd 12 13 14 15 ?_;refine tw 16 λJ d=>?_
       go_simp;refine EQ.o.mono ?_;rintro _ wE ⟨rfl,cw⟩;have BE:=ix (bt (dr2 y) cw);clear cw EQ;go_wp2_with fail
       refine d.o _ _ (SC.o _ BE.o) (λhHeld=>?_)
       refine tkd 17 18 19 20 ?_;refine tkb 21 22 ?_;refine tk 23 ?_;refine td ?_;go_wp2_with fail
       go_meet
       case rel=>exact⟨rfl,BE.o⟩
     . obtain rfl:nb=false:=by rw[NB.o];exact ah h
       have b8:IntKind.i64.wrap ((i:Int)+1)=(i:Int)+1:=iQ (by omega) (by omega)
       have b7:¬(i:Int)+1<(n:Int):=by omega
       refine be (S:=λW=>True) (by kernel_rfl) trivial (λhHeld=>?_)
       refine tkd 0 1 2 3 ?_;refine tkd 4 5 6 7 ?_;refine tkb 8 9 ?_;refine tu 10 ?_;refine tu 11 ?_;refine tu 12 ?_;refine tu 13 ?_;refine tu 14 ?_;refine tu 15 ?_;refine tu 16 ?_;refine tu 17 ?_;refine tkd 18 19 20 21 ?_;refine tkb 22 23 ?_;refine td ?_;go_wp2_with fail
       go_meet
       case rel=>exact⟨rfl,dr2 y⟩
   case rest=>
    obtain⟨rfl,ao⟩:=hcut;have BE:=ix ao;clear ao;generalize wc=wE at *;go_upto_region 13 with fail
    go_cut [159] from 25 to 239 (λdk q=>dk=.bool (decide (i+1<n/\s=K++[0]))/\Below y.heap.size y q)
    case first=>
     as_aux_lemma=>
      by_cases h:i+1<n
      . obtain rfl:nb=true:=by rw[NB.o];exact ar h
        have B:=ba.o h;have bn:i+1<m.length:=by rw[HN.o];exact h
        obtain⟨g',bm,G,k1,⟨D,Z⟩,N,L⟩:=PP.o.at bn;cases bm;have I:ax.getD (i+1) p00=((m.getD (i+1) br0).1.l,(m.getD (i+1) br0).2.l):=by rw[<-HL.o];exact lz m (i+1)
        obtain⟨⟨⟨aE,aH,K2⟩,⟨aJ,aL,V2⟩⟩,f⟩:∃x,m.getD (i+1) br0=x:=⟨_,rfl⟩;rw[f] at G k1 D Z N L I;dsimp only at G k1 D Z N L I;rw[I] at B;obtain⟨c,C⟩:=fG B;subst c C;have b8:IntKind.i64.wrap ((i:Int)+1)=(i:Int)+1:=iQ (by omega) (by omega)
        have b7:(i:Int)+1<(n:Int):=by omega
        have c5:(0:Int)<=(i:Int)+1:=by omega
        have b6:=bt l.o (bt EC.o BE.o);have q0:=(b6.cell (p:=⟨g,(i+1)*2,none⟩) (block_lt_of_cell G)).trans G;have EB:=ix (jY wE aE a2 s.length (K.length+1) aH d2 s (K++[0]) ((D.keep b6).bs Z D.len_le) (AB.o _ (bt F9.o (bt aR.o BE.o))) rfl AN.o.symm);rw[show decide (s=K++[0])=decide (i+1<n/\s=K++[0]) from by simp[h]] at EB
        obtain⟨vb,ap⟩:∃vb,decide (i+1<n/\s=K++[0])=vb:=⟨_,rfl⟩;rw[ap] at EB;have bT:=ix ap;clear I f b6 ap;go_wp2_with fail
        refine EB.o.mono ?_;rintro _ wF ⟨rfl,cx⟩;have v:=ix (bt BE.o cx);clear cx EB q0;go_wp2_with fail
        go_meet
        case rel=>exact⟨bf Value.bool bT.o.symm,v.o⟩
      . obtain rfl:nb=false:=by rw[NB.o];exact ah h
        have ap:decide (i+1<n/\s=K++[0])=false:=ah λa=>h a.1
        have bT:=ix ap;clear ap;go_wp2_with fail
        go_meet
        case rel=>exact⟨bf Value.bool bT.o.symm,BE.o⟩
    case rest=>
     obtain⟨rfl,ao⟩:=hcut;have v:=ix ao;clear ao BE;generalize wc=wF at *;obtain⟨vb,ap⟩:∃vb,decide (i+1<n/\s=K++[0])=vb:=⟨_,rfl⟩;rw[ap];go_upto_if 159 with fail
     go_cut [] from 25 to 239 (λq=>Below y.heap.size y q)
     case first=>
      as_aux_lemma=>
       cases vb with
       |true=>
        obtain⟨h,C⟩:=fI ap;have B:=ba.o h;have bn:i+1<m.length:=by rw[HN.o];exact h
        obtain⟨g',bm,G,k1,⟨D,Z⟩,N,L⟩:=PP.o.at bn;cases bm;have I:ax.getD (i+1) p00=((m.getD (i+1) br0).1.l,(m.getD (i+1) br0).2.l):=by rw[<-HL.o];exact lz m (i+1)
        obtain⟨⟨⟨aE,aH,K2⟩,⟨aJ,aL,V2⟩⟩,f⟩:∃x,m.getD (i+1) br0=x:=⟨_,rfl⟩;rw[f] at G k1 D Z N L I;dsimp only at G k1 D Z N L I;rw[I] at B;obtain⟨c,C⟩:=fG B;subst c C;clear I f;obtain⟨rfl,rfl⟩:=fG (bP.o.trans (if_pos ⟨h,C⟩));clear C ap;have b8:IntKind.i64.wrap ((i:Int)+1)=(i:Int)+1:=iQ (by omega) (by omega)
        have b7:(i:Int)+1<(n:Int):=by omega
        have c5:(0:Int)<=(i:Int)+1:=by omega
        have SD:=ix λ(W:World)(hb:Below wF.heap.size wF W)=>(show W.cell? ⟨gD,0,none⟩=some (.slice aD O.length cD)/\W.cell? ⟨gD,1,none⟩=some (.slice bD P.length dD)/\W.cell? ⟨g,(i+1)*2,none⟩=some (.slice aE O.length aH)/\W.cell? ⟨g,(i+1)*2+1,none⟩=some (.slice aJ P.length aL) from by
         obtain⟨p0,p1⟩:=ld (iJ bb.o (bt v.o hb));have aO:=bt l.o (bt EC.o (bt v.o hb));exact⟨p0,p1,(aO.cell (p:=⟨g,(i+1)*2,none⟩) (block_lt_of_cell G)).trans G,(aO.cell (p:=⟨g,(i+1)*2+1,none⟩) (block_lt_of_cell k1)).trans k1⟩)
        have ED:=ix λ(W:World)(hb:Below wF.heap.size wF W)=>kG W aD bD aE aJ cD dD aH aL O.length P.length O P (BD.o _ (bt v.o hb)).1 (BD.o _ (bt v.o hb)).2 ((D.keep (bt l.o (bt EC.o (bt v.o hb)))).bs Z D.len_le) ((N.keep (bt l.o (bt EC.o (bt v.o hb)))).bs L N.len_le) rfl rfl
        go_upto_region 14 with fail
        refine be (S:=λW=>W.cell? ⟨gD,0,none⟩=some (.slice aD O.length cD)/\W.cell? ⟨gD,1,none⟩=some (.slice bD P.length dD)/\W.cell? ⟨g,(i+1)*2,none⟩=some (.slice aE O.length aH)/\W.cell? ⟨g,(i+1)*2+1,none⟩=some (.slice aJ P.length aL)) (by kernel_rfl) (SD.o _ (dr2 wF)) (λhHeld=>?_)
        refine tkd 0 1 2 3 ?_;refine tkb 4 5 ?_;refine tw 6 λJ d=>?_
        go_simp;refine(ED.o _ (dr2 wF)).mono ?_;rintro _ wG ⟨rfl,bi⟩;have BG:=ix (bt (dr2 wF) bi);clear bi ED;go_wp2_with fail
        refine d.o _ _ (SD.o _ BG.o) (λhHeld=>?_)
        refine tk 7 ?_;refine td ?_;go_wp2_with fail
        go_meet
        case rel=>exact bt v.o BG.o
       |false=>
        have C:¬(i+1<n/\s=K++[0]):=of_decide_eq_false ap;obtain⟨rfl,rfl⟩:=fG (bP.o.trans (if_neg C));clear C ap
        have SD:=ix λ(W:World)(hb:Below wF.heap.size wF W)=>(show W.cell? ⟨gD,0,none⟩=some (.slice aD O.length cD)/\W.cell? ⟨gD,1,none⟩=some (.slice bD P.length dD)/\W.cell? ⟨g,i*2,none⟩=some (.slice E O.length F)/\W.cell? ⟨g,i*2+1,none⟩=some (.slice aV P.length cV) from by
         obtain⟨p0,p1⟩:=ld (iJ bb.o (bt v.o hb));have aO:=bt l.o (bt EC.o (bt v.o hb));exact⟨p0,p1,c0.o _ aO,c1.o _ aO⟩)
        have ED:=ix λ(W:World)(hb:Below wF.heap.size wF W)=>kG W aD bD E aV cD dD F cV O.length P.length O P (BD.o _ (bt v.o hb)).1 (BD.o _ (bt v.o hb)).2 (KB.o _ (bt l.o (bt EC.o (bt v.o hb)))) (VB.o _ (bt l.o (bt EC.o (bt v.o hb)))) rfl rfl
        go_upto_region 16 with fail
        refine be (S:=λW=>W.cell? ⟨gD,0,none⟩=some (.slice aD O.length cD)/\W.cell? ⟨gD,1,none⟩=some (.slice bD P.length dD)/\W.cell? ⟨g,i*2,none⟩=some (.slice E O.length F)/\W.cell? ⟨g,i*2+1,none⟩=some (.slice aV P.length cV)) (by kernel_rfl) (SD.o _ (dr2 wF)) (λhHeld=>?_)
        refine tkd 0 1 2 3 ?_;refine tk 4 ?_;refine tw 5 λJ d=>?_
        go_simp;refine(ED.o _ (dr2 wF)).mono ?_;rintro _ wG ⟨rfl,bi⟩;have BG:=ix (bt (dr2 wF) bi);clear bi ED;go_wp2_with fail
        refine d.o _ _ (SD.o _ BG.o) (λhHeld=>?_)
        refine tk 6 ?_;refine td ?_;go_wp2_with fail
        go_meet
        case rel=>exact bt v.o BG.o
     case rest=>
      have c6:=ix (bt EC.o hcut);clear hcut;generalize wc=wH at*
      as_aux_lemma=>
       clear BN BD AB AC AL X9 bb cg F9 aR EA EC E9 ba bP NB PP HL bw HN;have U:=ix (bt c6.o (dr2 wH));go_upto_region 18 with fail
       refine be (S:=λW=>W.cell? ⟨M,0,none⟩=some (.int .i64 aw)/\W.cell? ⟨M,1,none⟩=some (.int .i64 a0)/\W.cell? ⟨M,2,none⟩=some (.int .i64 a7)/\W.cell? ⟨g,i*2,none⟩=some (.slice E K.length F)) (by kernel_rfl) (H.o _ U.o) (λhHeld=>?_)
       refine tkd 0 1 2 3 ?_;refine tkb 4 5 ?_;refine tk 6 ?_;refine tw 7 λJ d=>?_
       go_simp;refine(bI.o _ (bt l.o U.o)).mono ?_;rintro _ wI ⟨cy,aQ,cQ,rfl,hG,da⟩;have EI:=ix (bt U.o cy);have GQ:=ix hG;clear cy hG da U;go_wp2_with fail
       refine d.o _ _ (H.o _ EI.o) (λhHeld=>?_)
       refine tkd 8 9 10 11 ?_;refine tk 12 ?_;refine td ?_;obtain rfl:(A.length:Int)=a0:=ce.o;obtain⟨gQ,dc⟩:=GQ.o.addr (by have:=cc.o;omega)
       subst dc;have df:=cc.o;have q0:=GQ.o.cell (show(Q.vi A)[0]?=some (.int .i64 aw) by unfold Q.vi;rw[ed,c8.o];rfl)
       have b3:=GQ.o.cell (show(Q.vi A)[A.length-1]?=some (.int .i64 xl) by unfold Q.vi;rw[ed,c9.o];rfl)
       have HQ:=ix λ(W:World)(hb:Below wI.heap.size wI W)=>(show W.cell? ⟨M,0,none⟩=some (.int .i64 aw)/\W.cell? ⟨M,1,none⟩=some (.int .i64 (A.length:Int))/\W.cell? ⟨gQ,0,none⟩=some (.int .i64 aw) from⟨(H.o W (bt EI.o hb)).1,(H.o W (bt EI.o hb)).2.1,(hb.cell (p:=⟨gQ,0,none⟩) (block_lt_of_cell q0)).trans q0⟩)
       have QL:=ix λ(W:World)(hb:Below wI.heap.size wI W)=>(hb.cell (p:=⟨gQ,A.length-1,none⟩) (block_lt_of_cell b3)).trans b3
       clear q0 b3 hHeld;have dH:(0:Int)<(A.length:Int):=by omega
       have dI:0<A.length:=df
       have dy:A.length<=9223372036854775807:=by
        have:=GQ.o.capLe;unfold maxLen at this;omega
       go_upto_region 19 with fail
       refine be (S:=λW=>W.cell? ⟨M,0,none⟩=some (.int .i64 aw)/\W.cell? ⟨M,1,none⟩=some (.int .i64 (A.length:Int))/\W.cell? ⟨gQ,0,none⟩=some (.int .i64 aw)) (by kernel_rfl) (HQ.o _ (dr2 wI)) (λhHeld=>?_)
       refine tkd 0 1 2 3 ?_;refine tkd 4 5 6 7 ?_;refine tkd 8 9 10 11 ?_;refine tkd 12 13 14 15 ?_;refine tk 16 ?_;refine td ?_;have BI:=ix (bt EI.o (dr2 wI));have y0:=QL.o _ (dr2 wI);have ds:(A.length:Int)-1=((A.length-1:Nat):Int):=by omega
       have dt:((A.length-1:Nat):Int)<(A.length:Int):=by omega
       have du:(0:Int)<=((A.length-1:Nat):Int):=by omega
       have dv:A.length-1<A.length:=by omega
       clear hHeld;go_wp2_with fail
       refine(cf.o _ (bt l.o BI.o)).mono ?_;rintro _ wJ ⟨cz,lq,aq,cq,r,ad,cd,aI,nx,rfl,co,cm,cj⟩;have bL:=ix (al wJ (.cells #[.int .i64 1,.int .i64 lq,.slice aq r.length cq,.slice ad aI.length cd,.int .i64 nx] 77));have bx:=ix (ag wJ (.cells #[.int .i64 1,.int .i64 lq,.slice aq r.length cq,.slice ad aI.length cd,.int .i64 nx] 77));have BJ:=ix (bt BI.o cz);have PI:=ix co;have JK:=ix cj;clear cz co cj y0 cf bI HQ QL;go_upto_region 22 with fail
       obtain⟨wK,c3⟩:∃W,wJ.alloc (.cells #[.int .i64 1,.int .i64 lq,.slice aq r.length cq,.slice ad aI.length cd,.int .i64 nx] 77)=W:=⟨_,rfl⟩;rw[c3] at bL bx ⊢;clear c3;obtain⟨gL,cJ⟩:∃g,wJ.heap.size=g:=⟨_,rfl⟩;have EK:=ix (bt BJ.o bL.o);have PK:=ix λ(V:World)(hb:Below wK.heap.size wK V)=>PI.o V (bt bL.o hb)
       simp only[cJ] at bx ⊢;clear cJ;obtain⟨m0,m1,m2,m3,m4⟩:=i6 bx.o;go_wp2_with fail
       clear m0 m1 m2 m3 m4;go_loopw [24] (λvi q=>∃j:Nat,j<=r.length/\vi=.int .i64 (j:Int)/\(∀ay,ay<j->(r.getD ay Iv.zero).key≠K)/\Below wK.heap.size wK q) (λvi _=>r.length-(intOf vi).toNat)
       case atStart=>exact⟨0,an _,rfl,λay hk=>absurd hk (dA _),Below.refl _ _⟩
       case round=>
        obtain⟨j,hj,rfl,cR,hb⟩:=hrel;have BB:=ix hb;have NO:=ix cR;clear cR hb;obtain⟨m0,m1,m2,m3,m4⟩:=i6 (iJ bx.o BB.o);by_cases cP:j<r.length
        . have dr:(j:Int)<(r.length:Int):=by omega
          have dq:(0:Int)<=(j:Int):=by omega
          obtain⟨b1,o1,cE,hr⟩:=(PK.o wr BB.o).it.at cP;obtain⟨G,k1,k2,k3⟩:=jn hr;have bA:=((PK.o wr BB.o).it.1 _ (iH cP)).bk
          have KY:=ix (show ∀ay,ay<j+1->(r.getD j Iv.zero).key≠K->(r.getD ay Iv.zero).key≠K from λay hk hn=>by
           rcases gG.1 hk with h|rfl
           . exact NO.o ay h
           . exact hn)
          obtain⟨x,f⟩:∃x,r.getD j Iv.zero=x:=⟨_,rfl⟩;rw[f] at G bA KY;obtain⟨b4,b5,aW,dz,dB,dJ,dE,dG⟩:=x;dsimp only at G bA KY cE;have K0:=ix G;have M2:=ix m2;have cb:=ix λ(W:World)(hb:Below wr.heap.size wr W)=>(show W.cell? ⟨gL,2,none⟩=some (.slice aq r.length cq)/\W.cell? ⟨b1,o1+j*4,none⟩=some (.slice b4 aW.length b5)/\W.cell? ⟨g,i*2,none⟩=some (.slice E K.length F) from⟨(hb.cell (p:=⟨gL,2,none⟩) (block_lt_of_cell m2)).trans m2,(hb.cell (p:=⟨b1,o1+j*4,none⟩) (block_lt_of_cell G)).trans G,c0.o W (bt l.o (bt EK.o (bt BB.o hb)))⟩)
          have EQ:=ix λ(W:World)(hb:Below wr.heap.size wr W)=>jY W b4 E aW.length K.length b5 F aW K (bA.keep hb) (KB.o W (bt l.o (bt EK.o (bt BB.o hb)))) rfl rfl
          subst cE;clear f hr G k1 k2 k3 bA;go_upto_region 27 with fail
          clear m0 m1 m2 m3 m4;refine be (S:=λW=>W.cell? ⟨gL,2,none⟩=some (.slice (some ⟨b1,o1,none⟩) r.length cq)/\W.cell? ⟨b1,o1+j*4,none⟩=some (.slice b4 aW.length b5)/\W.cell? ⟨g,i*2,none⟩=some (.slice E K.length F)) (by kernel_rfl) (cb.o _ (dr2 wr)) (λhHeld=>?_)
          refine tkd 0 1 2 3 ?_;refine tkd 4 5 6 7 ?_;refine tkb 8 9 ?_;refine tk 10 ?_;refine tw 11 λJ d=>?_
          go_simp;refine(EQ.o _ (dr2 wr)).mono ?_;rintro _ wL ⟨rfl,cB⟩;have BL:=ix (bt (dr2 wr) cB);clear cB EQ;go_wp2_with fail
          refine d.o _ _ (cb.o _ BL.o) (λhHeld=>?_)
          refine td ?_;have c7:=ix (bt l.o (bt EK.o (bt BB.o BL.o)));have BN:=ix (bt BB.o BL.o);by_cases hk:aW=K
          . rw[show decide (aW=K)=true from ar hk]
            clear hk hHeld;go_wp2_with fail
            go_ret;exact⟨rfl,c7.o⟩
          . rw[show decide (aW=K)=false from ah hk]
            have KZ:=ix (λay dd=>KY.o ay dd hk)
            clear hk hHeld;go_wp2_with fail
            go_roundw
            case rel=>exact⟨j+1,by omega,by first|rfl|(go_num;done)|exact bf (Value.int IntKind.i64) (by omega),KZ.o,BN.o⟩
            case measure=>first|(simp[intOf];done)|(simp[intOf];omega)
        . exact absurd JK.o (λ⟨j0,c,C⟩=>NO.o j0 (by omega) C)
theorem walkAgrees_any(w:World)(x:Img)(d:Imi w x)(z:Int)(a:Option Addr)(b:Nat)(U:List Nat)(c:Bs w a U)(j:U.length<=1048576)(i:U.length<=b)(h:∀x,a=some x->x.block<w.heap.size):
 Calls prog 6 #[.agg x.cs,.int .i64 z,.slice a U.length b] w λe f=>e=.returned (.bool true)/\Below w.heap.size w f:=ue Dx w x d z a b U c j i h
end Go.Proofs.YteaogidofpfmmaaGreat
namespace Go.Proofs.YteaogidofpfmmaaGreat
open Go.Proofs.Tryz
theorem okw_lt{W:World}{c len cap:Nat}{a:Option Addr}(h:Value.okWide prog W .any c 37 (.slice a len cap)):∀x,a=some x->x.block<W.heap.size:=by
 rintro x rfl;simp only[Value.okWide,Cell.okWide,Cell.ok,underlying37] at h;obtain⟨_,_,_,_,row,cells,b,_⟩:=h;unfold World.shape? at b;cases hx:W.heap[x.block]? with
 |none=>rw[hx] at b;cases b
 |some o=>exact(ae.1 hx).1
end Go.Proofs.YteaogidofpfmmaaGreat
