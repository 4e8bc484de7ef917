import Derived.Test.YteaogidofpfmmaaGreatWaB24
set_option linter.all false
set_option maxHeartbeats 16000000
set_option maxRecDepth 16000
namespace Go.Proofs.YteaogidofpfmmaaGreat
open Go.Proofs.Tryz
open Go.RowKit Go.Shelf
attribute [local go_sem] Oper.semAt_some
variable {bk:Bool}{kk:Int}{l:List Nat}{cW g i n nW:Nat}{F S:Nat->Prop}{aW:Option Addr}{V W:World}
theorem vU(w:World)(f:FuncId)(lb:Array Value):(binOp .eql 68 (.func (.func f) #[] lb) .nilFunc).run prog w=.ok (.bool false) w:=by
 have h:∀d:Nat,(Op.equalIn (d+1) 68 (.func (.func f) #[] lb) .nilFunc).run prog w=.ok false w:=λd=>by
  simp[Op.equalIn,dU underlying68]
 have a:(Op.equal 68 (.func (.func f) #[] lb) .nilFunc).run prog w=.ok false w:=h _;simp[binOp,a]
def gst:Nat->List Nat×List Nat->Nat:=λt _=>t+1
def mt(k:Int):Nat->Bool:=λt=>decide (k<((t:Nat):Int))
theorem sS(k:Int):∀(L:List (List Nat×List Nat))(t:Nat),mt k (flw gst (mt k) L t)=false->flw gst (mt k) L t=t+L.length
 | [],t,_=>rfl
 |x::L,t,h=>by
  rw[jB] at h ⊢;by_cases hs:mt k (gst t x)=true
  . rw[if_pos hs] at h;rw[hs] at h;cases h
  . rw[if_neg hs] at h ⊢;rw[sS k L _ h];show t+1+L.length=t+(L.length+1);omega
def GoI(n:Nat)(xs:List (List Nat×List Nat))(kk:Int)(bk:Bool)(aW:Option Addr)(nW cW:Nat)(F:Nat->Prop)(s:List (List Nat×List Nat)×Nat)(W:World):Prop:=
 (∀j,F j↔(n<=j/\j<n+5))/\s.1=xs.drop s.2/\s.2<=xs.length/\mt kk s.2=false/\W.heap[n]?=some (.cells #[.slice aW nW cW] 60 (0,0))/\W.heap[n+1]?=some (.cells #[.bool bk] 4 (0,0))/\W.heap[n+2]?=some (.cells #[.int .i64 kk] 3 (0,0))/\W.heap[n+3]?=some (.cells #[.bool false] 4 (0,0))/\W.heap[n+4]?=some (.cells #[.int .i64 ((s.2:Nat):Int)] 3 (0,0))
def GoX(n:Nat)(F:Nat->Prop)(W:World):Prop:=(∀j,F j↔(n<=j/\j<n+5))/\n+5<=W.heap.size/\W.heap[n+3]?=some (.cells #[.bool true] 4 (0,0))
theorem GoI.but{xs:List (List Nat×List Nat)}{s:List (List Nat×List Nat)×Nat}(h:GoI n xs kk bk aW nW cW F s W)(hb:But S W V)(b:∀k,F k->¬S k):GoI n xs kk bk aW nW cW F s V:=by
 obtain⟨a,c,d,e,f,j,m,p,q⟩:=h;exact⟨a,c,d,e,hb.same f (b _ ((a _).2 (by omega))),hb.same j (b _ ((a _).2 (by omega))),hb.same m (b _ ((a _).2 (by omega))),hb.same p (b _ ((a _).2 (by omega))),hb.same q (b _ ((a _).2 (by omega)))⟩
theorem GoI.siz{xs:List (List Nat×List Nat)}{s:List (List Nat×List Nat)×Nat}(h:GoI n xs kk bk aW nW cW F s W):∀k,F k->k<W.heap.size:=λk hk=>by
 obtain⟨a,c,d,e,f,j,m,p,b⟩:=h;have:=(a k).1 hk;have:=(ae.1 b).1;omega
theorem GoX.but(h:GoX n F W)(hb:But S W V)(a:∀k,F k->¬S k):GoX n F V:=
 ⟨h.1,ay h.2.1 hb.size,hb.same h.2.2 (a _ ((h.1 _).2 (by omega)))⟩
theorem GoX.siz(h:GoX n F W):∀k,F k->k<W.heap.size:=λk hk=>by
 have:=(h.1 k).1 hk;have:=h.2.1;omega
theorem rS(w:World)(c d e f b:Obj):∃U:World,((((w.alloc c).alloc d).alloc e).alloc f).alloc b=U/\U.heap[w.heap.size]?=some c/\U.heap[w.heap.size+1]?=some d/\U.heap[w.heap.size+2]?=some e/\U.heap[w.heap.size+3]?=some f/\U.heap[w.heap.size+4]?=some b/\Below w.heap.size w U/\U.heap.size=w.heap.size+5:=by
 obtain⟨U,k,m,p,q,r,hb,h⟩:=oD w c d e f;have a:Below U.heap.size U (U.alloc b):=al _ _;have j:=ag U b;rw[h] at j;exact⟨U.alloc b,by rw[k],(a.block _ (by omega)).trans m,(a.block _ (by omega)).trans p,(a.block _ (by omega)).trans q,(a.block _ (by omega)).trans r,j,bt hb a,by rw[size_alloc,h]⟩
theorem vK{α:Type}{xs a:List α}{x:α}(h:xs.drop i=x::a):xs[i]?=some x/\a=xs.drop (i+1):=by
 have b:(xs.drop i)[0]?=some x:=by rw[h];rfl
 have c:(xs.drop i).tail=a:=by rw[h];rfl
 rw[List.getElem?_drop,dp] at b;rw[List.tail_drop] at c;exact⟨b,c.symm⟩
theorem xz{a C:List (Br×Br)}(d:prl C=iW (!bk) (prl a)){x:List Nat×List Nat}(h:(prl C)[i]?=some x):i<a.length/\((a.getD (if bk=true then a.length-1-i else i) br0).1.l,(a.getD (if bk=true then a.length-1-i else i) br0).2.l)=x:=by
 rw[d] at h
 have b:i<a.length:=by
  have c:=(bA.1 h).1;cases bk
  all_goals
   simpa[iW,i7] using c
 refine⟨b,?_⟩;cases bk
 . have h:(prl a)[i]?=some x:=h;rw[vE b] at h;exact fC h
 . have h:(prl a).reverse[i]?=some x:=h;rw[List.getElem?_reverse (by rw[i7];exact b),i7,vE (by omega)] at h
   exact fC h
theorem yy{j:Nat}(h:j<n)(hb:n<=9223372036854775807):wrap64 ((j:Int)+1)=(j:Int)+1:=by unfold wrap64;omega
theorem iR{v:Value}{t:TypeId}(h:W.heap[g]?=some (.cells #[v] t (0,0))):W.cell? ⟨g,0,none⟩=some v:=by rw[ai _ _ _ _ _ _ h];rfl
theorem m7(h:B8 l){z:Nat}(b:z<256):B8 (l.set i z):=λt a=>by
 rcases gz a with a|rfl
 . exact h t a
 . exact b
theorem Rw.thw{w:World}{c:Nat}(h:Rw w (some ⟨g,0,none⟩) c l)(i:Nat):w.frozen? ⟨g,i,none⟩=false:=by
 obtain⟨b,a⟩:=h.blk rfl;exact bq _ g i _ _ a
theorem goes_forth(w:World)(E:Nat)(a:Option Addr)(c:Nat)(C:List (Br×Br))(hc:w.cell? ⟨E,0,none⟩=some (.slice a C.length c))(hP:Prs w a c C)(hL:∀t∈prR C,t.l.length<=140737488355328)(aM:C.length<=1099511627776)(aW:Option Addr)(cW:Nat)(b:List (Br×Br))(hW:Prs w aW cW b)(d:prl C=iW (!false) (prl b))(kk:Int)(h0:0<=kk):
 Calls prog 30 #[.func (.func 97) #[] #[.pointer (some ⟨E,0,none⟩)],.slice aW b.length cW,.bool false,.int .i64 kk] w λe w'=>e=.returned (.bool true)/\Below w.heap.size w w':=by
 have aZ:b.length=C.length:=by
  have h:=bf List.length d;rw[i7] at h;simpa[iW,i7] using h.symm
 obtain⟨aO,hU,x0,x1,x2,y,x4,bU,sU⟩:=rS w (.cells #[.slice aW b.length cW] 60) (.cells #[.bool false] 4) (.cells #[.int .i64 kk] 3) (.cells #[.bool false] 4) (.cells #[.int .i64 0] 3);have EB:=block_lt_of_cell hc;have a5:=(bU.cell (p:=⟨E,0,none⟩) EB).trans hc;have SQ:=ix (vp gst (mt kk) 0 aO E a c C a5 (hP.keep5 bU) hL aM);have XW:=ix (show ∀q,(q=E\/prO a C q)->q<w.heap.size from λq A=>A.elim (λe=>by rw[e];exact EB) (λh=>hP.lt h))
 have PW:=ix (hW.keep5 bU);have WL:=ix (λq (h:prO aW b q)=>hW.lt h)
 have HX:=ix d;have BU:=ix bU;have SU:=ix sU;have HU:=ix hU;have av:=ix aZ;have bi:=ix aM;have EG:=ix (enters_of func97 (by kernel_rfl) rfl)
 have I0:=ix (show GoI w.heap.size (prl C) kk false aW b.length cW (λj=>w.heap.size<=j/\j<w.heap.size+5) (prl C,0) aO from⟨λj=>dT,rfl,an _,ah (by omega),x0,x1,x2,y,x4⟩)
 clear hU x0 x1 x2 y x4 bU sU a5 hP hW d hL aM hc EB aZ;refine(dc (n:=0)).1 ?_;refine dM func30 rfl trivial ?_ rfl;simp only[ntmps30,cR,a7,bg,Nat.reduceAdd,Nat.reduceSub,cx,cM,dg,c7,b9,b7];refine d6.2 ?_;have FN:=λW=>vU W 97 #[.pointer (some ⟨E,0,none⟩)]
 go_wp2_with fail
 clear FN;rw[HU.o];refine(d6 (n:=0)).1 ?_
 refine jX (gf:=97) (lb:=#[.pointer (some ⟨E,0,none⟩)]) rfl EG.o SQ.o (But.refl _ _) (λk hk=>by have:=XW.o k hk;have:=SU.o;omega)
  (by rintro s W0 W1 bH s' er H ⟨aN,V,bG,_,rfl,_⟩;rfl)
  (λj=>w.heap.size<=j/\j<w.heap.size+5) (λk hk d=>by have:=XW.o k d;omega) (GoI w.heap.size (prl C) kk false aW b.length cW) (λc F s W=>c=.ret/\GoX w.heap.size F W)
  (λF s aq ba h hb=>h.but hb (λk hk e=>e.1 hk))
  (λF s aq h=>h.siz)
  (λc F s aq ba h hb=>⟨h.1,h.2.but hb (λk hk e=>e.1 hk)⟩)
  (λc F s aq h=>h.2.siz)
  (λF s W h=>⟨trivial,λk h=>h.elim⟩)
  I0.o ?round ?done ?stop
 case round=>
  rintro l F s W0 W bH s' er H hI aL ⟨aN,V,bG,aH,rfl,am,rfl,⟨hK,aA⟩,⟨hV,aB⟩,a2,az⟩ a1 bL bu a0 bT bW aY ⟨r0,a6⟩;have I1:=ix (hI.but aL (λk _ h=>h))
  obtain⟨s1,i⟩:=s;have hd:=hI.2.1;dsimp only at aH hd am;rw[aH] at hd;obtain⟨ao,a9⟩:=vK hd.symm;obtain⟨aK,cK,lK⟩:=aN;obtain⟨aV,cV,lV⟩:=V;dsimp only at hK aA hV aB ao am az;obtain⟨bv,ak⟩:=xz HX.o ao;obtain⟨m,hm⟩:∃m,(if false=true then b.length-1-i else i)=m:=⟨_,rfl⟩
  rw[hm] at ak;have bx:m<b.length:=by rw[<-hm];first|exact bv|(split<;>omega)
  have bz:m=i:=by rw[<-hm];rfl
  have aS:=(PW.o.but aY (λk hk e=>by have:=WL.o k hk;omega)).but aL (λ_ _ h=>h)
  have aa:=ix am;have bl:=ix a9;have GE:=ix az;have bh:=ix a2;have K8:=ix aA;have G:=ix aB;have GV:=ix a1;have be:=ix a0;have bj:=ix a6;have F5:=ix hI.1;have bm:=ix ao;have aw:=ix hK;have ax:=ix hV;have aT:=ix aS;clear hI aL aH hd ao a9 am a2 az a1 hK hV aA aB hm a0 a6 aY aS bu;gi_wp2
  refine⟨Below.refl _ _,λM J bB=>?_⟩
  have B4:=ix J;have I4:=ix (I1.o.but J (λk hk e=>by have e:k=l:=e;rw[e] at hk;exact be.o hk))
  have nl:∀{a:Option Addr}{c:Nat}{m:List Nat},Rw W a c m->∀x,a=some x->¬x.block=l:=λh x d e=>by
   obtain⟨bJ,hc⟩:=h.blk d;rw[e,bj.o] at hc;cases hc
  have KR:=ix (aw.o.but J (λx d e=>nl aw.o x d e))
  have VR:=ix (ax.o.but J (λx d e=>nl ax.o x d e))
  have bn:=ix (aT.o.but J (λk hk e=>by have e:k=l:=e;have:=WL.o k hk;have:=SU.o;omega))
  clear J nl bB I1 aT aw ax;obtain⟨g,a3,d0,d1,⟨rK,bK⟩,rV,bV⟩:=bn.o.at bx;obtain⟨⟨⟨kA,kC,f⟩,⟨vA,vC,r⟩⟩,d⟩:∃x,b.getD m br0=x:=⟨_,rfl⟩;rw[d] at d0 d1 rK bK rV bV ak;dsimp only at d0 d1 rK bK rV bV ak;obtain⟨rfl,rfl⟩:=fG ak;have aQ:=ix (lH M aK kA f.length f.length cK kC f (KR.o.bs bK KR.o.len_le) (rK.bs bK rK.len_le) rfl rfl);have aR:=ix (λ(V5:World)(hb:Below M.heap.size M V5)=>lH V5 aV vA r.length r.length cV vC r ((VR.o.keep hb).bs bV VR.o.len_le) ((rV.keep hb).bs bV rV.len_le) rfl rfl)
  have D0:=ix d0;have D1:=ix d1;have bI:=ix a3;obtain⟨_,_,_,_,N,y1,Z,O,P⟩:=I4.o;have aP:=ix (λ(V:World)(hb:Below M.heap.size M V)=>And.intro (iR ((hb.block _ (ae.1 N).1).trans N)) ((hb.cell (p:=⟨g,m*2+1,none⟩) (block_lt_of_cell d1)).trans d1))
  have z0:=iR N;have z1:=iR y1;have z4:=iR P;dsimp only at z4;have bX:=bi.o;have bM:=av.o;have bN:(i:Int)<(b.length:Int):=by omega
  have bQ:¬(b.length:Int)<=(i:Int):=by omega
  have bP:(m:Int)<(b.length:Int):=by omega
  have bZ:(0:Int)<=(m:Int):=by omega
  have bF:=bz.symm;subst bF;subst a3;clear N y1 Z O P d ak rK rV;gi_wp2_with fail
  refine⟨trivial,rfl,?_⟩;refine CallsIn.mono (CallsIn.inRound l (dc.2 aQ.o)) ?_;rintro _ V5 ⟨rfl,aD⟩;have B5:=ix aD;obtain⟨u0,u1⟩:=aP.o V5 aD;clear aD z0 z1 z4 d0 d1 aQ;gi_wp2_with fail
  refine⟨trivial,rfl,?_⟩;refine CallsIn.mono (CallsIn.inRound l (dc.2 (aR.o V5 B5.o))) ?_;rintro _ V6 ⟨rfl,a4⟩;have B6:=ix (bt B5.o a4);clear a4 u0 u1 aR aP B5;have a8:=ix (KR.o.keep B6.o);have bp:=ix (VR.o.keep B6.o);have bC:=ix bK;have br:=ix bV;gi_wp2_with fail
  gi_loopw [13] (λB wx=>∃(j:Nat)(m:List Nat),j<=f.length/\B=.int .i64 (j:Int)/\m.length=f.length/\B8 m/\Rw wx aK cK m/\But (λq=>∃x,aK=some x/\x.block=q) V6 wx) (λB _=>f.length-(intOf B).toNat)
  case atStart=>exact⟨0,f,an _,rfl,rfl,bC.o,a8.o,But.refl _ _⟩
  case round=>
   obtain⟨j,m,hj,rfl,aj,ai,al,ac⟩:=hrel;have Y:=ix aj;have X:=ix ai;have v:=ix al;have R:=ix ac;clear aj ai al ac;by_cases ag:j<f.length
   . have aG:(j:Int)<(f.length:Int):=by omega
     have bw:(0:Int)<=(j:Int):=by omega
     have af:j<m.length:=by rw[Y.o];exact ag
     obtain⟨gr,aF,_,_⟩:=v.o.addr2 (by omega)
     subst aF;have cV:=v.o.cell af;have fV:=v.o.thw j;have K:m.getD j 0<256:=X.o _ (by simp[af])
     obtain⟨q,A⟩:∃q,m.getD j 0=q:=⟨_,rfl⟩;rw[A] at cV K;clear A;obtain⟨z,hz,aJ⟩:∃z:Nat,bits .xor .u8 ((q:Nat):Int) 1=((z:Nat):Int)/\z<256:=⟨q ^^^ 1,u8_xor_nat q 1 K (by decide),gJ (n:=8) K (by decide)⟩
     have R2:=ix (v.o.set j z);have B2:=ix (R.o.setCell (p:=⟨gr,j,none⟩) (λ_=>⟨_,rfl,rfl⟩) (.int .u8 ((z:Nat):Int)))
     have HZ:=ix aJ;have L:=yy ag a8.o.len_le;gi_wp2_with fail
     go_roundw
     case rel=>
      have e:Value.int IntKind.i64 (wrap64 ((j:Int)+1))=Value.int IntKind.i64 ((j+1:Nat):Int):=bf (Value.int IntKind.i64) L;clear L;exact⟨j+1,m.set j z,by omega,e,by rw[da];exact Y.o,m7 X.o HZ.o,R2.o,B2.o⟩
     case measure=>
      rw[L];clear L;first|(simp[intOf];done)|(simp[intOf];omega)
   . obtain rfl:j=f.length:=by omega
     have aG:¬(f.length:Int)<(f.length:Int):=by omega
     have aU:=ix R.o;clear Y X v R;generalize aI:wr=V7 at *;clear aI;have aX:=ix (bp.o.but aU.o (λx d ⟨bc,hy,e⟩=>bh.o bc x hy d e))
     gi_wp2_with fail
     gi_loopw [14] (λB wx=>∃(j:Nat)(m:List Nat),j<=r.length/\B=.int .i64 (j:Int)/\m.length=r.length/\B8 m/\Rw wx aV cV m/\But (λq=>∃x,aV=some x/\x.block=q) V7 wx) (λB _=>r.length-(intOf B).toNat)
     case atStart=>exact⟨0,r,an _,rfl,rfl,br.o,aX.o,But.refl _ _⟩
     case round=>
      obtain⟨j,m,hj,rfl,aj,ai,al,ac⟩:=hrel;have Y:=ix aj;have X:=ix ai;have v:=ix al;have R:=ix ac;clear aj ai al ac;by_cases ag:j<r.length
      . have aG:(j:Int)<(r.length:Int):=by omega
        have bw:(0:Int)<=(j:Int):=by omega
        have af:j<m.length:=by rw[Y.o];exact ag
        obtain⟨gr,aF,_,_⟩:=v.o.addr2 (by omega)
        subst aF;have cV:=v.o.cell af;have fV:=v.o.thw j;have K:m.getD j 0<256:=X.o _ (by simp[af])
        obtain⟨q,A⟩:∃q,m.getD j 0=q:=⟨_,rfl⟩;rw[A] at cV K;clear A;obtain⟨z,hz,aJ⟩:∃z:Nat,bits .xor .u8 ((q:Nat):Int) 1=((z:Nat):Int)/\z<256:=⟨q ^^^ 1,u8_xor_nat q 1 K (by decide),gJ (n:=8) K (by decide)⟩
        have R2:=ix (v.o.set j z);have B2:=ix (R.o.setCell (p:=⟨gr,j,none⟩) (λ_=>⟨_,rfl,rfl⟩) (.int .u8 ((z:Nat):Int)))
        have HZ:=ix aJ;have L:=yy ag aX.o.len_le;gi_wp2_with fail
        go_roundw
        case rel=>
         have e:Value.int IntKind.i64 (wrap64 ((j:Int)+1))=Value.int IntKind.i64 ((j+1:Nat):Int):=bf (Value.int IntKind.i64) L;clear L;exact⟨j+1,m.set j z,by omega,e,by rw[da];exact Y.o,m7 X.o HZ.o,R2.o,B2.o⟩
        case measure=>
         rw[L];clear L;first|(simp[intOf];done)|(simp[intOf];omega)
      . obtain rfl:j=r.length:=by omega
        have aG:¬(r.length:Int)<(r.length:Int):=by omega
        have bo:=ix R.o;clear Y X v R;generalize aI:wr=G at *;clear aI;have bd:=ix (show But H V6 G from(aU.o.mono (T:=H) λq _ h=>(GE.o q).2 (.inl h)).trans bo.o (λq _ h=>(GE.o q).2 (.inr h)))
        have B9:=ix ((But.ofBelow (S:=H) B6.o).trans bd.o (λ_ _ e=>e))
        have I9:=ix (I4.o.but B9.o (λk hk e=>(GV.o k e).1 hk))
        obtain⟨_,_,bO,_,N,y1,Z,O,P⟩:=I9.o;have z2:=iR Z;have z4:=iR P;have f4:=bq _ (w.heap.size+4) 0 _ _ P;dsimp only at z4;have bR:IntKind.i64.wrap ((i:Int)+1)=(i:Int)+1:=iQ (by omega) (by omega)
        have c1:But (λk=>k=w.heap.size+4) G (G.setCell ⟨w.heap.size+4,0,none⟩ (.int .i64 ((i:Int)+1))):=(But.refl (λk=>k=w.heap.size+4) _).setCell (p:=⟨w.heap.size+4,0,none⟩) (λ_=>rfl) _
        have t2:=iR (c1.same Z (λe=>by omega))
        have t3:=c1.same O (λe=>by omega)
        have t4:=aE _ (w.heap.size+4) 0 _ _ (.int .i64 ((i:Int)+1)) P;have bY:=iR t4;have n4:F (w.heap.size+4):=(F5.o _).2 (by omega)
        have n3:F (w.heap.size+3):=(F5.o _).2 (by omega)
        have BF:Hid (But (λk=>F k\/H k) M (G.setCell ⟨w.heap.size+4,0,none⟩ (.int .i64 ((i:Int)+1)))):=(B9.o.mono (T:=λk=>F k\/H k) λ_ _ e=>.inr e).trans c1 (λk _ e=>.inl (by have e:k=w.heap.size+4:=e;rw[e];exact n4))
        by_cases bS:kk<(i:Int)+1
        . have f3:=bq _ (w.heap.size+3) 0 _ _ t3;have z3:=iR t3
          have au:Hid (∃I:Nat->Prop,But (λk=>F k\/H k) M ((G.setCell ⟨w.heap.size+4,0,none⟩ (.int .i64 ((i:Int)+1))).setCell ⟨w.heap.size+3,0,none⟩ (.bool true))/\(∀k,I k->F k\/H k\/W.heap.size<=k)/\mt kk s'.2=true/\(Code.ret=Code.ret/\GoX w.heap.size I ((G.setCell ⟨w.heap.size+4,0,none⟩ (.int .i64 ((i:Int)+1))).setCell ⟨w.heap.size+3,0,none⟩ (.bool true)))):=by
           have c2:But (λk=>k=w.heap.size+3) (G.setCell ⟨w.heap.size+4,0,none⟩ (.int .i64 ((i:Int)+1))) ((G.setCell ⟨w.heap.size+4,0,none⟩ (.int .i64 ((i:Int)+1))).setCell ⟨w.heap.size+3,0,none⟩ (.bool true)):=(But.refl (λk=>k=w.heap.size+3) _).setCell (p:=⟨w.heap.size+3,0,none⟩) (λ_=>rfl) _
           refine⟨F,BF.o.trans c2 (λk _ e=>.inl (by have e:k=w.heap.size+3:=e;rw[e];exact n3)),λk hk=>.inl hk,by rw[aa.o];exact ar (by show kk<((i+1:Nat):Int);omega),rfl,F5.o,?_,aE _ (w.heap.size+3) 0 _ _ (.bool true) t3⟩
           have:=(ae.1 (c2.same t4 (λe=>by omega))).1
           omega
          clear N y1 Z O P t2 t3 t4 c1 BF n3 n4;gi_wp2_with fail
          obtain⟨I,q1,q2,q3,_,q4⟩:=au.o;exact⟨I,q1,q2,q3,rfl,q4⟩
        . have au:Hid (∃I:Nat->Prop,But (λk=>F k\/H k) M (G.setCell ⟨w.heap.size+4,0,none⟩ (.int .i64 ((i:Int)+1)))/\(∀k,I k->F k\/H k\/W.heap.size<=k)/\(false=false->mt kk s'.2=false)/\GoI w.heap.size (prl C) kk false (some ⟨g,0,none⟩) b.length cW I s' (G.setCell ⟨w.heap.size+4,0,none⟩ (.int .i64 ((i:Int)+1)))):=by
           have hg:mt kk s'.2=false:=by rw[aa.o];exact ah (by show ¬kk<((i+1:Nat):Int);omega)
           refine⟨F,BF.o,λk hk=>.inl hk,λ_=>hg,F5.o,by rw[aa.o];exact bl.o,by rw[aa.o];exact(bA.1 bm.o).1,hg,c1.same N (λe=>by omega),c1.same y1 (λe=>by omega),c1.same Z (λe=>by omega),t3,by rw[aa.o];exact t4⟩
          clear N y1 Z O P t2 t3 t4 c1 BF n3 n4;gi_wp2_with fail
          obtain⟨I,q1,q2,q3,q4⟩:=au.o;rw[av.o] at q4;exact⟨I,q1,q2,λ_=>q3 trivial,q4⟩
 case done=>
  rintro D F s W hD ay hI ap ab hF ad;obtain⟨h1,h2,h3,J,x0,x1,x2,y,x4⟩:=hI
  have bE:s.2=b.length:=by
   have h:=ap;have e:=sS kk (prl C) 0 (by rw[<-h];exact J)
   rw[<-h,i7,de,<-av.o] at e;exact e
  rw[bE] at x4;have nD:∀j,w.heap.size<=j->j<w.heap.size+5->¬j=D:=λj h5 h6 e=>ay ((h1 D).2 (by omega))
  have c1:But (λk=>k=w.heap.size+3) W (W.setCell ⟨w.heap.size+3,0,none⟩ (.bool true)):=(But.refl (λk=>k=w.heap.size+3) _).setCell (p:=⟨w.heap.size+3,0,none⟩) (λ_=>rfl) _
  have O:=aE _ (w.heap.size+3) 0 _ _ (.bool true) y;have d3:=c1.same ad (λe=>nD _ (by omega) (by omega) e.symm)
  have U:=(But.refl (λk=>k=D) (W.setCell ⟨w.heap.size+3,0,none⟩ (.bool true))).putObj (λ_=>rfl) (.deferred none)
  have F3:=ix (iR (U.same O (nD _ (by omega) (by omega))))
  have bb:=(c1.mono (T:=λk=>w.heap.size<=k) λk _ e=>by have e:k=w.heap.size+3:=e;omega).trans U (λk _ e=>by have e:k=D:=e;have:=SU.o;omega)
  have FB:=ix ((((But.ofBelow (S:=λk=>w.heap.size<=k) BU.o).trans (ab.mono (T:=λk=>w.heap.size<=k) λk _ e=>e.1) (λ_ _ e=>e)).trans bb (λ_ _ e=>e)).below (λk hk e=>by omega))
  have FD:=ix d3;have z0:=iR x0;have z3:=iR y;have f3:=bq _ (w.heap.size+3) 0 _ _ y;have z4:=iR x4;clear h1 h2 h3 J x0 x1 x2 y x4 nD c1 O d3 U bb ab hF ad ap;go_wp2_with fail
  refine⟨by simp,.inl ⟨_,_,rfl,cw FD.o,?_⟩⟩
  exact⟨_,jW results30 _ _ (w.heap.size+3) _ rfl F3.o (ls _ _ _ F3.o),rfl,FB.o⟩
 case stop=>
  rintro D c F s W hD ay ⟨rfl,aC⟩ ap ab hF ad;have U:=(But.refl (λk=>k=D) W).putObj (λ_=>rfl) (.deferred none)
  have F3:=ix (iR (U.same aC.2.2 (λe=>ay (e▸(aC.1 _).2 (by omega)))))
  have FB:=ix ((((But.ofBelow (S:=λk=>w.heap.size<=k) BU.o).trans (ab.mono (T:=λk=>w.heap.size<=k) λk _ e=>e.1) (λ_ _ e=>e)).trans (U.mono (T:=λk=>w.heap.size<=k) λk _ e=>by have e:k=D:=e;have:=SU.o;omega) (λ_ _ e=>e)).below (λk hk e=>by omega))
  have FD:=ix ad;clear aC U ab hF ad ap;gi_wp2
  refine⟨by simp,.inl ⟨_,_,rfl,cw FD.o,?_⟩⟩
  exact⟨_,jW results30 _ _ (w.heap.size+3) _ rfl F3.o (ls _ _ _ F3.o),rfl,FB.o⟩
theorem zR(w:World)(E:Nat)(a:Option Addr)(c:Nat)(C:List (Br×Br))(hc:w.cell? ⟨E,0,none⟩=some (.slice a C.length c))(hP:Prs w a c C)(hL:∀t∈prR C,t.l.length<=140737488355328)(aM:C.length<=1099511627776)(aW:Option Addr)(cW:Nat)(b:List (Br×Br))(hW:Prs w aW cW b)(d:prl C=iW (!true) (prl b))(kk:Int)(h0:0<=kk):
 Calls prog 30 #[.func (.func 97) #[] #[.pointer (some ⟨E,0,none⟩)],.slice aW b.length cW,.bool true,.int .i64 kk] w λe w'=>e=.returned (.bool true)/\Below w.heap.size w w':=by
 have aZ:b.length=C.length:=by
  have h:=bf List.length d;rw[i7] at h;simpa[iW,i7] using h.symm
 obtain⟨aO,hU,x0,x1,x2,y,x4,bU,sU⟩:=rS w (.cells #[.slice aW b.length cW] 60) (.cells #[.bool true] 4) (.cells #[.int .i64 kk] 3) (.cells #[.bool false] 4) (.cells #[.int .i64 0] 3);have EB:=block_lt_of_cell hc;have a5:=(bU.cell (p:=⟨E,0,none⟩) EB).trans hc;have SQ:=ix (vp gst (mt kk) 0 aO E a c C a5 (hP.keep5 bU) hL aM);have XW:=ix (show ∀q,(q=E\/prO a C q)->q<w.heap.size from λq A=>A.elim (λe=>by rw[e];exact EB) (λh=>hP.lt h))
 have PW:=ix (hW.keep5 bU);have WL:=ix (λq (h:prO aW b q)=>hW.lt h)
 have HX:=ix d;have BU:=ix bU;have SU:=ix sU;have HU:=ix hU;have av:=ix aZ;have bi:=ix aM;have EG:=ix (enters_of func97 (by kernel_rfl) rfl)
 have I0:=ix (show GoI w.heap.size (prl C) kk true aW b.length cW (λj=>w.heap.size<=j/\j<w.heap.size+5) (prl C,0) aO from⟨λj=>dT,rfl,an _,ah (by omega),x0,x1,x2,y,x4⟩)
 clear hU x0 x1 x2 y x4 bU sU a5 hP hW d hL aM hc EB aZ;refine(dc (n:=0)).1 ?_;refine dM func30 rfl trivial ?_ rfl;simp only[ntmps30,cR,a7,bg,Nat.reduceAdd,Nat.reduceSub,cx,cM,dg,c7,b9,b7];refine d6.2 ?_;have FN:=λW=>vU W 97 #[.pointer (some ⟨E,0,none⟩)]
 go_wp2_with fail
 clear FN;rw[HU.o];refine(d6 (n:=0)).1 ?_
 refine jX (gf:=97) (lb:=#[.pointer (some ⟨E,0,none⟩)]) rfl EG.o SQ.o (But.refl _ _) (λk hk=>by have:=XW.o k hk;have:=SU.o;omega)
  (by rintro s W0 W1 bG s' er H ⟨aN,V,bF,_,rfl,_⟩;rfl)
  (λj=>w.heap.size<=j/\j<w.heap.size+5) (λk hk d=>by have:=XW.o k d;omega) (GoI w.heap.size (prl C) kk true aW b.length cW) (λc F s W=>c=.ret/\GoX w.heap.size F W)
  (λF s aq ba h hb=>h.but hb (λk hk e=>e.1 hk))
  (λF s aq h=>h.siz)
  (λc F s aq ba h hb=>⟨h.1,h.2.but hb (λk hk e=>e.1 hk)⟩)
  (λc F s aq h=>h.2.siz)
  (λF s W h=>⟨trivial,λk h=>h.elim⟩)
  I0.o ?round ?done ?stop
 case round=>
  rintro l F s W0 W bG s' er H hI aL ⟨aN,V,bF,aH,rfl,am,rfl,⟨hK,aA⟩,⟨hV,aB⟩,a2,az⟩ a1 bJ bu a0 bS bT aY ⟨r0,a6⟩;have I1:=ix (hI.but aL (λk _ h=>h))
  obtain⟨s1,i⟩:=s;have hd:=hI.2.1;dsimp only at aH hd am;rw[aH] at hd;obtain⟨ao,a9⟩:=vK hd.symm;obtain⟨aK,cK,lK⟩:=aN;obtain⟨aV,cV,lV⟩:=V;dsimp only at hK aA hV aB ao am az;obtain⟨bv,ak⟩:=xz HX.o ao;obtain⟨m,hm⟩:∃m,(if true=true then b.length-1-i else i)=m:=⟨_,rfl⟩
  rw[hm] at ak;have bx:m<b.length:=by rw[<-hm];first|exact bv|(split<;>omega)
  have bz:m=b.length-1-i:=by rw[<-hm];rfl
  have aS:=(PW.o.but aY (λk hk e=>by have:=WL.o k hk;omega)).but aL (λ_ _ h=>h)
  have aa:=ix am;have bl:=ix a9;have GE:=ix az;have bh:=ix a2;have K8:=ix aA;have G:=ix aB;have GV:=ix a1;have be:=ix a0;have bj:=ix a6;have F5:=ix hI.1;have bm:=ix ao;have aw:=ix hK;have ax:=ix hV;have aT:=ix aS;clear hI aL aH hd ao a9 am a2 az a1 hK hV aA aB hm a0 a6 aY aS bu;gi_wp2
  refine⟨Below.refl _ _,λM J bB=>?_⟩
  have B4:=ix J;have I4:=ix (I1.o.but J (λk hk e=>by have e:k=l:=e;rw[e] at hk;exact be.o hk))
  have nl:∀{a:Option Addr}{c:Nat}{m:List Nat},Rw W a c m->∀x,a=some x->¬x.block=l:=λh x d e=>by
   obtain⟨bI,hc⟩:=h.blk d;rw[e,bj.o] at hc;cases hc
  have KR:=ix (aw.o.but J (λx d e=>nl aw.o x d e))
  have VR:=ix (ax.o.but J (λx d e=>nl ax.o x d e))
  have bn:=ix (aT.o.but J (λk hk e=>by have e:k=l:=e;have:=WL.o k hk;have:=SU.o;omega))
  clear J nl bB I1 aT aw ax;obtain⟨g,a3,d0,d1,⟨rK,bK⟩,rV,bV⟩:=bn.o.at bx;obtain⟨⟨⟨kA,kC,f⟩,⟨vA,vC,r⟩⟩,d⟩:∃x,b.getD m br0=x:=⟨_,rfl⟩;rw[d] at d0 d1 rK bK rV bV ak;dsimp only at d0 d1 rK bK rV bV ak;obtain⟨rfl,rfl⟩:=fG ak;have aQ:=ix (lH M aK kA f.length f.length cK kC f (KR.o.bs bK KR.o.len_le) (rK.bs bK rK.len_le) rfl rfl);have aR:=ix (λ(V5:World)(hb:Below M.heap.size M V5)=>lH V5 aV vA r.length r.length cV vC r ((VR.o.keep hb).bs bV VR.o.len_le) ((rV.keep hb).bs bV rV.len_le) rfl rfl)
  have D0:=ix d0;have D1:=ix d1;have bH:=ix a3;obtain⟨_,_,_,_,N,y1,Z,O,P⟩:=I4.o;have aP:=ix (λ(V:World)(hb:Below M.heap.size M V)=>And.intro (iR ((hb.block _ (ae.1 N).1).trans N)) ((hb.cell (p:=⟨g,m*2+1,none⟩) (block_lt_of_cell d1)).trans d1))
  have z0:=iR N;have z1:=iR y1;have z4:=iR P;dsimp only at z4;have bW:=bi.o;have bL:=av.o;have bM:(i:Int)<(b.length:Int):=by omega
  have bP:¬(b.length:Int)<=(i:Int):=by omega
  have bO:(m:Int)<(b.length:Int):=by omega
  have bZ:(0:Int)<=(m:Int):=by omega
  have bX:(C.length:Int)-1-(i:Int)=(m:Int):=by omega
  clear bz;subst a3;clear N y1 Z O P d ak rK rV;gi_wp2_with fail
  refine⟨trivial,rfl,?_⟩;refine CallsIn.mono (CallsIn.inRound l (dc.2 aQ.o)) ?_;rintro _ V5 ⟨rfl,aD⟩;have B5:=ix aD;obtain⟨u0,u1⟩:=aP.o V5 aD;clear aD z0 z1 z4 d0 d1 aQ;gi_wp2_with fail
  refine⟨trivial,rfl,?_⟩;refine CallsIn.mono (CallsIn.inRound l (dc.2 (aR.o V5 B5.o))) ?_;rintro _ V6 ⟨rfl,a4⟩;have B6:=ix (bt B5.o a4);clear a4 u0 u1 aR aP B5;have a8:=ix (KR.o.keep B6.o);have bp:=ix (VR.o.keep B6.o);have bC:=ix bK;have br:=ix bV;gi_wp2_with fail
  gi_loopw [13] (λB wx=>∃(j:Nat)(m:List Nat),j<=f.length/\B=.int .i64 (j:Int)/\m.length=f.length/\B8 m/\Rw wx aK cK m/\But (λq=>∃x,aK=some x/\x.block=q) V6 wx) (λB _=>f.length-(intOf B).toNat)
  case atStart=>exact⟨0,f,an _,rfl,rfl,bC.o,a8.o,But.refl _ _⟩
  case round=>
   obtain⟨j,m,hj,rfl,aj,ai,al,ac⟩:=hrel;have Y:=ix aj;have X:=ix ai;have v:=ix al;have R:=ix ac;clear aj ai al ac;by_cases ag:j<f.length
   . have aG:(j:Int)<(f.length:Int):=by omega
     have bw:(0:Int)<=(j:Int):=by omega
     have af:j<m.length:=by rw[Y.o];exact ag
     obtain⟨gr,aF,_,_⟩:=v.o.addr2 (by omega)
     subst aF;have cV:=v.o.cell af;have fV:=v.o.thw j;have K:m.getD j 0<256:=X.o _ (by simp[af])
     obtain⟨q,A⟩:∃q,m.getD j 0=q:=⟨_,rfl⟩;rw[A] at cV K;clear A;obtain⟨z,hz,aJ⟩:∃z:Nat,bits .xor .u8 ((q:Nat):Int) 1=((z:Nat):Int)/\z<256:=⟨q ^^^ 1,u8_xor_nat q 1 K (by decide),gJ (n:=8) K (by decide)⟩
     have R2:=ix (v.o.set j z);have B2:=ix (R.o.setCell (p:=⟨gr,j,none⟩) (λ_=>⟨_,rfl,rfl⟩) (.int .u8 ((z:Nat):Int)))
     have HZ:=ix aJ;have L:=yy ag a8.o.len_le;gi_wp2_with fail
     go_roundw
     case rel=>
      have e:Value.int IntKind.i64 (wrap64 ((j:Int)+1))=Value.int IntKind.i64 ((j+1:Nat):Int):=bf (Value.int IntKind.i64) L;clear L;exact⟨j+1,m.set j z,by omega,e,by rw[da];exact Y.o,m7 X.o HZ.o,R2.o,B2.o⟩
     case measure=>
      rw[L];clear L;first|(simp[intOf];done)|(simp[intOf];omega)
   . obtain rfl:j=f.length:=by omega
     have aG:¬(f.length:Int)<(f.length:Int):=by omega
     have aU:=ix R.o;clear Y X v R;generalize aI:wr=V7 at *;clear aI;have aX:=ix (bp.o.but aU.o (λx d ⟨bc,hy,e⟩=>bh.o bc x hy d e))
     gi_wp2_with fail
     gi_loopw [14] (λB wx=>∃(j:Nat)(m:List Nat),j<=r.length/\B=.int .i64 (j:Int)/\m.length=r.length/\B8 m/\Rw wx aV cV m/\But (λq=>∃x,aV=some x/\x.block=q) V7 wx) (λB _=>r.length-(intOf B).toNat)
     case atStart=>exact⟨0,r,an _,rfl,rfl,br.o,aX.o,But.refl _ _⟩
     case round=>
      obtain⟨j,m,hj,rfl,aj,ai,al,ac⟩:=hrel;have Y:=ix aj;have X:=ix ai;have v:=ix al;have R:=ix ac;clear aj ai al ac;by_cases ag:j<r.length
      . have aG:(j:Int)<(r.length:Int):=by omega
        have bw:(0:Int)<=(j:Int):=by omega
        have af:j<m.length:=by rw[Y.o];exact ag
        obtain⟨gr,aF,_,_⟩:=v.o.addr2 (by omega)
        subst aF;have cV:=v.o.cell af;have fV:=v.o.thw j;have K:m.getD j 0<256:=X.o _ (by simp[af])
        obtain⟨q,A⟩:∃q,m.getD j 0=q:=⟨_,rfl⟩;rw[A] at cV K;clear A;obtain⟨z,hz,aJ⟩:∃z:Nat,bits .xor .u8 ((q:Nat):Int) 1=((z:Nat):Int)/\z<256:=⟨q ^^^ 1,u8_xor_nat q 1 K (by decide),gJ (n:=8) K (by decide)⟩
        have R2:=ix (v.o.set j z);have B2:=ix (R.o.setCell (p:=⟨gr,j,none⟩) (λ_=>⟨_,rfl,rfl⟩) (.int .u8 ((z:Nat):Int)))
        have HZ:=ix aJ;have L:=yy ag aX.o.len_le;gi_wp2_with fail
        go_roundw
        case rel=>
         have e:Value.int IntKind.i64 (wrap64 ((j:Int)+1))=Value.int IntKind.i64 ((j+1:Nat):Int):=bf (Value.int IntKind.i64) L;clear L;exact⟨j+1,m.set j z,by omega,e,by rw[da];exact Y.o,m7 X.o HZ.o,R2.o,B2.o⟩
        case measure=>
         rw[L];clear L;first|(simp[intOf];done)|(simp[intOf];omega)
      . obtain rfl:j=r.length:=by omega
        have aG:¬(r.length:Int)<(r.length:Int):=by omega
        have bo:=ix R.o;clear Y X v R;generalize aI:wr=G at *;clear aI;have bd:=ix (show But H V6 G from(aU.o.mono (T:=H) λq _ h=>(GE.o q).2 (.inl h)).trans bo.o (λq _ h=>(GE.o q).2 (.inr h)))
        have B9:=ix ((But.ofBelow (S:=H) B6.o).trans bd.o (λ_ _ e=>e))
        have I9:=ix (I4.o.but B9.o (λk hk e=>(GV.o k e).1 hk))
        obtain⟨_,_,bN,_,N,y1,Z,O,P⟩:=I9.o;have z2:=iR Z;have z4:=iR P;have f4:=bq _ (w.heap.size+4) 0 _ _ P;dsimp only at z4;have bQ:IntKind.i64.wrap ((i:Int)+1)=(i:Int)+1:=iQ (by omega) (by omega)
        have c1:But (λk=>k=w.heap.size+4) G (G.setCell ⟨w.heap.size+4,0,none⟩ (.int .i64 ((i:Int)+1))):=(But.refl (λk=>k=w.heap.size+4) _).setCell (p:=⟨w.heap.size+4,0,none⟩) (λ_=>rfl) _
        have t2:=iR (c1.same Z (λe=>by omega))
        have t3:=c1.same O (λe=>by omega)
        have t4:=aE _ (w.heap.size+4) 0 _ _ (.int .i64 ((i:Int)+1)) P;have bY:=iR t4;have n4:F (w.heap.size+4):=(F5.o _).2 (by omega)
        have n3:F (w.heap.size+3):=(F5.o _).2 (by omega)
        have BF:Hid (But (λk=>F k\/H k) M (G.setCell ⟨w.heap.size+4,0,none⟩ (.int .i64 ((i:Int)+1)))):=(B9.o.mono (T:=λk=>F k\/H k) λ_ _ e=>.inr e).trans c1 (λk _ e=>.inl (by have e:k=w.heap.size+4:=e;rw[e];exact n4))
        by_cases bR:kk<(i:Int)+1
        . have f3:=bq _ (w.heap.size+3) 0 _ _ t3;have z3:=iR t3
          have au:Hid (∃I:Nat->Prop,But (λk=>F k\/H k) M ((G.setCell ⟨w.heap.size+4,0,none⟩ (.int .i64 ((i:Int)+1))).setCell ⟨w.heap.size+3,0,none⟩ (.bool true))/\(∀k,I k->F k\/H k\/W.heap.size<=k)/\mt kk s'.2=true/\(Code.ret=Code.ret/\GoX w.heap.size I ((G.setCell ⟨w.heap.size+4,0,none⟩ (.int .i64 ((i:Int)+1))).setCell ⟨w.heap.size+3,0,none⟩ (.bool true)))):=by
           have c2:But (λk=>k=w.heap.size+3) (G.setCell ⟨w.heap.size+4,0,none⟩ (.int .i64 ((i:Int)+1))) ((G.setCell ⟨w.heap.size+4,0,none⟩ (.int .i64 ((i:Int)+1))).setCell ⟨w.heap.size+3,0,none⟩ (.bool true)):=(But.refl (λk=>k=w.heap.size+3) _).setCell (p:=⟨w.heap.size+3,0,none⟩) (λ_=>rfl) _
           refine⟨F,BF.o.trans c2 (λk _ e=>.inl (by have e:k=w.heap.size+3:=e;rw[e];exact n3)),λk hk=>.inl hk,by rw[aa.o];exact ar (by show kk<((i+1:Nat):Int);omega),rfl,F5.o,?_,aE _ (w.heap.size+3) 0 _ _ (.bool true) t3⟩
           have:=(ae.1 (c2.same t4 (λe=>by omega))).1
           omega
          clear N y1 Z O P t2 t3 t4 c1 BF n3 n4;gi_wp2_with fail
          obtain⟨I,q1,q2,q3,_,q4⟩:=au.o;exact⟨I,q1,q2,q3,rfl,q4⟩
        . have au:Hid (∃I:Nat->Prop,But (λk=>F k\/H k) M (G.setCell ⟨w.heap.size+4,0,none⟩ (.int .i64 ((i:Int)+1)))/\(∀k,I k->F k\/H k\/W.heap.size<=k)/\(false=false->mt kk s'.2=false)/\GoI w.heap.size (prl C) kk true (some ⟨g,0,none⟩) b.length cW I s' (G.setCell ⟨w.heap.size+4,0,none⟩ (.int .i64 ((i:Int)+1)))):=by
           have hg:mt kk s'.2=false:=by rw[aa.o];exact ah (by show ¬kk<((i+1:Nat):Int);omega)
           refine⟨F,BF.o,λk hk=>.inl hk,λ_=>hg,F5.o,by rw[aa.o];exact bl.o,by rw[aa.o];exact(bA.1 bm.o).1,hg,c1.same N (λe=>by omega),c1.same y1 (λe=>by omega),c1.same Z (λe=>by omega),t3,by rw[aa.o];exact t4⟩
          clear N y1 Z O P t2 t3 t4 c1 BF n3 n4;gi_wp2_with fail
          obtain⟨I,q1,q2,q3,q4⟩:=au.o;rw[av.o] at q4;exact⟨I,q1,q2,λ_=>q3 trivial,q4⟩
 case done=>
  rintro D F s W hD ay hI ap ab hF ad;obtain⟨h1,h2,h3,J,x0,x1,x2,y,x4⟩:=hI
  have bE:s.2=b.length:=by
   have h:=ap;have e:=sS kk (prl C) 0 (by rw[<-h];exact J)
   rw[<-h,i7,de,<-av.o] at e;exact e
  rw[bE] at x4;have nD:∀j,w.heap.size<=j->j<w.heap.size+5->¬j=D:=λj h5 h6 e=>ay ((h1 D).2 (by omega))
  have c1:But (λk=>k=w.heap.size+3) W (W.setCell ⟨w.heap.size+3,0,none⟩ (.bool true)):=(But.refl (λk=>k=w.heap.size+3) _).setCell (p:=⟨w.heap.size+3,0,none⟩) (λ_=>rfl) _
  have O:=aE _ (w.heap.size+3) 0 _ _ (.bool true) y;have d3:=c1.same ad (λe=>nD _ (by omega) (by omega) e.symm)
  have U:=(But.refl (λk=>k=D) (W.setCell ⟨w.heap.size+3,0,none⟩ (.bool true))).putObj (λ_=>rfl) (.deferred none)
  have F3:=ix (iR (U.same O (nD _ (by omega) (by omega))))
  have bb:=(c1.mono (T:=λk=>w.heap.size<=k) λk _ e=>by have e:k=w.heap.size+3:=e;omega).trans U (λk _ e=>by have e:k=D:=e;have:=SU.o;omega)
  have FB:=ix ((((But.ofBelow (S:=λk=>w.heap.size<=k) BU.o).trans (ab.mono (T:=λk=>w.heap.size<=k) λk _ e=>e.1) (λ_ _ e=>e)).trans bb (λ_ _ e=>e)).below (λk hk e=>by omega))
  have FD:=ix d3;have z0:=iR x0;have z3:=iR y;have f3:=bq _ (w.heap.size+3) 0 _ _ y;have z4:=iR x4;clear h1 h2 h3 J x0 x1 x2 y x4 nD c1 O d3 U bb ab hF ad ap;go_wp2_with fail
  refine⟨by simp,.inl ⟨_,_,rfl,cw FD.o,?_⟩⟩
  exact⟨_,jW results30 _ _ (w.heap.size+3) _ rfl F3.o (ls _ _ _ F3.o),rfl,FB.o⟩
 case stop=>
  rintro D c F s W hD ay ⟨rfl,aC⟩ ap ab hF ad;have U:=(But.refl (λk=>k=D) W).putObj (λ_=>rfl) (.deferred none)
  have F3:=ix (iR (U.same aC.2.2 (λe=>ay (e▸(aC.1 _).2 (by omega)))))
  have FB:=ix ((((But.ofBelow (S:=λk=>w.heap.size<=k) BU.o).trans (ab.mono (T:=λk=>w.heap.size<=k) λk _ e=>e.1) (λ_ _ e=>e)).trans (U.mono (T:=λk=>w.heap.size<=k) λk _ e=>by have e:k=D:=e;have:=SU.o;omega) (λ_ _ e=>e)).below (λk hk e=>by omega))
  have FD:=ix ad;clear aC U ab hF ad ap;gi_wp2
  refine⟨by simp,.inl ⟨_,_,rfl,cw FD.o,?_⟩⟩
  exact⟨_,jW results30 _ _ (w.heap.size+3) _ rfl F3.o (ls _ _ _ F3.o),rfl,FB.o⟩
end Go.Proofs.YteaogidofpfmmaaGreat
namespace Go.Proofs.YteaogidofpfmmaaGreat
open Go.Proofs.Tryz
open Go.RowKit
def StR(w w':World)(e:Ending)(rd:Int->Option Pg)(t:Tr):Prop:=∃B:Bool,e=.returned (.bool B)/\Below w.heap.size w w'/\(B=true->chk rd t=0)
theorem ET{P Q:Nat->Prop}{m:Nat}(a:∃n,∀x,P x->P n/\∀k,P k->n<=k)(b:∃n,∀x,Q x->Q n/\∀k,Q k->n<=k)(c:P m)(d:∃k,Q k)(h:∀k,Q k->m<k):a.choose<b.choose:=by
 have f:=(a.choose_spec m c).2 m c;obtain⟨q,e⟩:=d;have g:=h _ (b.choose_spec q e).1;omega
def StL(w:World)(G:List Int)(bi bm N n:Nat)(vt:Value)(wx:World):Prop:=
 ∃(aT:Option Addr)(cT:Nat)(S I Gm:List Int),vt=.slice aT S.length cT/\Stq w wx bi bm N aT cT S I Gm/\(∀x∈S,x∈G)/\Gm.Nodup/\(∀x∈Gm,x∈G)/\S.length<=8*Gm.length+1/\n+16*Gm.length=1120000+S.length
theorem yQ(w:World)(rb:Nat)(D:Rd)(aN:Nat->Nat)(hR:Rq w rb D aN)(hA:iF (rdR D))(aL:Option Addr)(cL:Nat)(t:Tr)(hT:Trs w aL [t]):
 Calls prog 41 #[.pointer (some ⟨rb,0,none⟩),.slice aL 1 cL] w λe w'=>StR w w' e (rdR D) t:=by
 obtain⟨J,O,rfl,f⟩:=hT 0 (by simp)
 have aI:Hid (∀W:World,Below w.heap.size w W->W.cell? ⟨J,O,none⟩=some (.int .i64 t.root)/\W.cell? ⟨J,O+1,none⟩=some (.int .i64 t.height)/\W.cell? ⟨J,O+2,none⟩=some (.int .i64 t.items)):=λW hb=>by
  have k0:w.cell? ⟨J,O,none⟩=some (.int .i64 t.root):=by have:=f 0 _ rfl;simpa using this
  have k1:w.cell? ⟨J,O+1,none⟩=some (.int .i64 t.height):=by have:=f 1 _ rfl;simpa using this
  have k2:w.cell? ⟨J,O+2,none⟩=some (.int .i64 t.items):=by have:=f 2 _ rfl;simpa using this
  exact⟨(hb.cell (p:=⟨J,O,none⟩) (block_lt_of_cell k0)).trans k0,(hb.cell (p:=⟨J,O+1,none⟩) (block_lt_of_cell k1)).trans k1,(hb.cell (p:=⟨J,O+2,none⟩) (block_lt_of_cell k2)).trans k2⟩
 have LR:=ix λ(W:World)(hb:Below w.heap.size w W)=>uT W rb D aN (hR.keep hb)
 have CK:=ix λ(W:World)(hb:Below w.heap.size w W)=>yM W rb D aN (hR.keep hb) hA t
 have HR:=ix hR;have HA:=ix hA;have h6:=hR.n6;obtain⟨N,i⟩:∃N,D.C.length=N:=⟨_,rfl⟩
 have aj:Hid (∀n:Int,(rdR D n).isSome=true->1<=n/\n<=(N:Int)):=λn M=>by
  by_cases K:0<D.count n
  . have:=Rd.has_iff.1 (jN K);rw[i] at this;exact this
  . rw[mY K] at M;cases M
 simp only[i] at LR h6;have HN:=ix i;clear hR hA hT f i;have b1:IntKind.i64.wrap ((N:Int)+1)=(N:Int)+1:=iQ (by omega) (by omega)
 have bu:∀W,(Instr.makeSlice 22 (.int .i64 ((N:Int)+1)) (.int .i64 ((N:Int)+1))).run prog W=.ok (.slice (some ⟨W.heap.size,0,none⟩) (N+1) (N+1)) (W.alloc (.cells (Q.vi (List.replicate (N+1) 0)).toArray 3)):=λW=>by
  have:=zP (N+1) (by omega) W
  have e:(((N+1:Nat)):Int)=(N:Int)+1:=by omega
  rw[e] at this;exact this
 have aC:∀W,(Instr.makeSlice 105 (.int .i64 ((N:Int)+1)) (.int .i64 ((N:Int)+1))).run prog W=.ok (.slice (some ⟨W.heap.size,0,none⟩) (N+1) (N+1)) (W.alloc (.cells (vbl (List.replicate (N+1) false)).toArray 4)):=λW=>by
  have:=rU (N+1) (by omega) W
  have e:(((N+1:Nat)):Int)=(N:Int)+1:=by omega
  rw[e] at this;exact this
 have aV:=ix aC;clear aC;go_enter func41,ntmps41;go_wp2_with fail
 refine(LR.o _ (Below.refl _ _)).mono ?_;rintro _ wq ⟨rfl,av⟩;obtain rfl:=av.symm;clear av;go_upto_region 2 with fail
 have A1:=ix (al w (.cells (Q.vi (List.replicate (N+1) 0)).toArray 3));have I1:Hid (Q.Gw 3 1 (w.alloc (.cells (Q.vi (List.replicate (N+1) 0)).toArray 3)) (some ⟨w.heap.size,0,none⟩) (N+1) (N+1) (Q.vi (List.replicate (N+1) 0))):=Q.Gw.mk (by simp[Q.vi]) (ag w _) (am _) (by unfold maxLen;omega) (by simp[Q.vi]) (by simp[Q.vi])
 generalize w.alloc (.cells (Q.vi (List.replicate (N+1) 0)).toArray 3)=w1 at *;obtain⟨a,a3⟩:∃aG,w.heap.size=aG:=⟨_,rfl⟩;have NI:Hid (w.heap.size<=a):=by show _<=_;omega
 simp only[a3] at I1 ⊢;clear a3 bu;go_wp2_with fail
 go_loopw [6] (λvi A=>∃(k:Nat)(I:List Int),k<=1/\vi=.int .i64 (k:Int)/\Below w.heap.size w A/\Q.Gw 3 1 A (some ⟨a,0,none⟩) (N+1) (N+1) (Q.vi I)/\(k=1->chk (rdR D) t=0)) (λvi _=>1-(intOf vi).toNat)
 case atStart=>exact⟨0,_,an _,rfl,A1.o,I1.o,λh=>absurd h (by decide)⟩
 case round=>
  clear A1 I1;obtain⟨k,I,hk,rfl,hb,hI,ae⟩:=hrel;have BB:=ix hb;have II:=ix hI;have aU:=ix ae;clear hb hI ae;rcases Nat.eq_zero_or_pos k with hk0|hk0
  . subst hk0;obtain⟨k0,k1,k2⟩:=aI.o _ BB.o;have CC:=ix (CK.o _ BB.o);obtain⟨ai,f⟩:∃ai,chk (rdR D) t=ai:=⟨_,rfl⟩;rw[f] at CC;go_wp2_with fail
    refine CC.o.mono ?_;rintro _ w3 ⟨rfl,aQ⟩;have B3:=ix (bt BB.o aQ);have I3:=ix (II.o.keep aQ);clear aQ k0 k1 k2 CC;obtain⟨k0,k1,k2⟩:=aI.o _ B3.o;by_cases ak:ai=0
    . subst ak
      have bx:∃r:Nat,t.root=(r:Int)/\r<N+1:=by
       by_cases K:t.root=0
       . exact⟨0,K,by omega⟩
       . obtain⟨G,C,_,Y⟩:=xM HA.o f K;obtain⟨p,H,_⟩:=C _ Y;have:=aj.o _ (by rw[H];rfl)
         exact⟨t.root.toNat,by omega,by omega⟩
      obtain⟨r,hr,b4⟩:=bx;have HC:=ix f;have b3:(0:Int)<=(r:Int):=by omega
      have b5:(r:Int)<(N:Int)+1:=by omega
      rw[hr] at k0;have bc:I.length=N+1:=by have:=I3.o.length;rw[uV] at this;omega
      have c0:=I3.o.cell (show(Q.vi I)[r]?=some (.int .i64 (I.getD r 0)) by simp[Q.vi,show r<I.length by omega])
      obtain⟨bl,aw⟩:=kh I3.o rfl;have f0:w3.frozen? ⟨a,r,none⟩=false:=by simp[World.frozen?,show w3.heap[a]?=_ from aw]
      clear f aw;go_wp2_with fail
      go_roundw
      case rel=>
       exact⟨1,I.set r _,am _,rfl,((But.ofBelow (S:=λk=>k=a) B3.o).trans ((But.refl (λk=>k=a) w3).setCell (p:=⟨a,r,none⟩) (λ_=>rfl) _) (λ_ _ e=>e)).below (λk hk e=>by have e:k=a:=e;have:=NI.o;omega),by rw[<-ry];exact I3.o.setc r _,λ_=>HC.o⟩
      case measure=>(simp[intOf])
    . have bK:¬(ai:Int)=0:=by omega
      have bJ:((ai:Int) != 0)=true:=by simp[ak]
      go_wp2_with fail
      go_ret;exact⟨false,rfl,B3.o,λh=>by cases h⟩
  . obtain rfl:k=1:=by omega
    have ae:=aU.o rfl
    have C:∃G:List Int,Clo (rdR D) G/\G.length<=65536/\(t.root≠0->t.root∈G):=by
     by_cases K:t.root=0
     . exact⟨[],λx d=>(by cases d),an _,λh=>absurd K h⟩
     . obtain⟨G,C,ap,Y⟩:=xM HA.o ae K;refine⟨G,C,ay (ml N G ap λn M=>?_) h6,λ_=>Y⟩
       obtain⟨p,H,_⟩:=C n M;exact aj.o _ (by rw[H];rfl)
    obtain⟨G,bb,aY,a9⟩:=C;have GL:=ix aY;have aH:=ix bb;have bk:=ix a9;have bj:=ix ae;clear ae aU bb aY a9;have bc:I.length=N+1:=by have:=II.o.length;rw[uV] at this;omega
    have c0:=II.o.cell (show(Q.vi I)[0]?=some (.int .i64 (I.getD 0 0)) by simp[Q.vi,show 0<I.length by omega])
    obtain⟨bl,aw⟩:=kh II.o rfl;have f0:wr.frozen? ⟨a,0,none⟩=false:=by simp[World.frozen?,show wr.heap[a]?=_ from aw]
    have bW:(0:Int)<(N:Int)+1:=by omega
    clear aw bc;go_upto_region 9 with fail
    have bs:But (λk=>k=a) wr (wr.setCell ⟨a,0,none⟩ (.int .i64 0)):=(But.refl (λk=>k=a) wr).setCell (p:=⟨a,0,none⟩) (λ_=>rfl) _
    have B4:=ix (((But.ofBelow (S:=λk=>k=a) BB.o).trans bs (λ_ _ e=>e)).below (λk hk e=>by have e:k=a:=e;have:=NI.o;omega))
    have I4:Hid (Q.Gw 3 1 (wr.setCell ⟨a,0,none⟩ (.int .i64 0)) (some ⟨a,0,none⟩) (N+1) (N+1) (Q.vi (I.set 0 0))):=by show Q.Gw _ _ _ _ _ _ _;rw[<-ry];exact II.o.setc 0 _
    clear BB II c0 f0 bs;generalize wr.setCell ⟨a,0,none⟩ (.int .i64 0)=w4 at *;generalize I.set 0 0=aJ at *;go_wp2_with fail
    refine(LR.o _ B4.o).mono ?_;rintro _ wq ⟨rfl,av⟩;obtain rfl:=av.symm;clear av;have aC:=aV.o;go_upto_region 10 with fail
    have R:=ix (al w4 (.cells (vbl (List.replicate (N+1) false)).toArray 4))
    have S5:Hid (Stq w (w4.alloc (.cells (vbl (List.replicate (N+1) false)).toArray 4)) a w4.heap.size N none 0 [] aJ []):=⟨bt B4.o R.o,I4.o.keep R.o,by
     rw[ag];congr 3
     unfold nN vbl;apply fW
     . simp
     . intro ab h1 h2;simp,Q.Gw.nil _ _ _,NI.o,B4.o.size,λx d=>by cases d⟩
    generalize w4.alloc (.cells (vbl (List.replicate (N+1) false)).toArray 4)=w5 at *;obtain⟨s,a4⟩:∃aG,w4.heap.size=aG:=⟨_,rfl⟩;simp only[a4] at S5 ⊢;clear a4 aC R I4 B4 aV;go_wp2_with fail
    go_loopw [8,9] (λvt vi A=>∃(k:Nat)(V:Option Addr)(B:Nat)(S:List Int),k<=1/\vi=.int .i64 (k:Int)/\vt=.slice V S.length B/\Stq w A a s N V B S aJ []/\(∀x∈S,x∈G)/\S.length<=k) (λ_ vi _=>1-(intOf vi).toNat)
    case atStart=>exact⟨0,none,0,[],an _,rfl,rfl,S5.o,λx d=>(by cases d),am _⟩
    case round=>
     clear S5;obtain⟨k,V,B,S,hk,rfl,rfl,X,c,a1⟩:=hrel;have F:=ix X;have b:=ix c;clear X c;rcases Nat.eq_zero_or_pos k with hk0|hk0
     . subst hk0;obtain rfl:S=[]:=List.eq_nil_of_length_eq_zero (Nat.le_zero.1 a1);obtain⟨k0,k1,k2⟩:=aI.o _ F.o.b;by_cases K:0<t.root
       . have A7:=ix (al wr (.cells #[.int .i64 t.root] 3));have Y7:=ix (ag wr (.cells #[.int .i64 t.root] 3));have S7:=ix (F.o.keep A7.o);have RG:=ix (bk.o (λe=>by omega))
         go_wp2_with (at_builtin;refine jq underlying22 li rfl (by decide) rfl _ _ rfl V 0 B (Q.vi []) rfl S7.o.t ⟨wr.heap.size,0,none⟩ 1 [Value.int .i64 t.root] rfl rfl (lF Y7.o) (λu hu=>by rw[aZ.1 hu];rfl) (by decide) (by decide) ?_)
         intro g5 c5 w7 C i hB;have E:=ix (S7.o.push (x:=t.root) C i hB);clear C i hB;go_wp2_with fail
         go_roundw
         case rel=>exact⟨1,some ⟨g5,0,none⟩,c5,[t.root],am _,rfl,rfl,E.o,λx d=>by rw[aZ.1 d];exact RG.o,am _⟩
         case measure=>(simp[intOf])
       . go_wp2_with fail
         go_roundw
         case rel=>exact⟨1,V,B,[],am _,rfl,rfl,F.o,λx d=>(by cases d),an _⟩
         case measure=>(simp[intOf])
     . obtain rfl:k=1:=by omega
       have R0:Hid (∃n,StL w G a s N n (.slice V S.length B) wr):=⟨1120000+S.length,V,B,S,aJ,[],rfl,F.o,b.o,List.nodup_nil,λx d=>(by cases d),by omega,rfl⟩
       clear F b a1;go_wp2_with fail
       go_loopw [8] (λvt A=>∃n,StL w G a s N n vt A) (λvt A=>(kY λn=>StL w G a s N n vt A).choose)
       case atStart=>exact R0.o
       case round=>
        clear R0;obtain⟨n0,bn,be⟩:∃n0,StL w G a s N n0 u8 wr/\∀k,StL w G a s N k u8 wr->n0<=k:=⟨_,((kY λn=>StL w G a s N n u8 wr).choose_spec hrel).1,((kY λn=>StL w G a s N n u8 wr).choose_spec hrel).2⟩
        have EX:=ix hrel;have az:=ix be;clear hrel be;obtain⟨V,B,S,I,T,rfl,X,c,ap,aO,au,M⟩:=bn;have F:=ix X;have b:=ix c;have ND:=ix ap;have GG:=ix aO;have SL:=ix au;have NN:=ix M
        have ac:Hid (T.length<=65536):=ay (ml N T ap λn M=>by
         obtain⟨p,H,_⟩:=aH.o n (aO n M);exact aj.o _ (by rw[H];rfl)) h6
        clear X c ap aO au M;rcases ie S with aA|⟨S',x,aA⟩
        . subst aA;clear EX az ND GG SL NN ac b;go_wp2_with fail
          simp only[bg,show((1:Nat):Int)=1 from rfl]
          generalize wr=w8 at *;go_loopw [13] (λvi A=>∃k:Nat,1<=k/\k<=N+1/\vi=.int .i64 (k:Int)/\Below w8.heap.size w8 A) (λvi _=>N+1-(intOf vi).toNat)
          case atStart=>exact⟨1,am _,by omega,rfl,Below.refl _ _⟩
          case round=>
           obtain⟨k,bS,bT,rfl,aS⟩:=hrel;have E:=ix (F.o.keep aS);have BW:=ix aS;clear aS;by_cases aB:k<N+1
           . have bq:(k:Int)<(N:Int)+1:=by omega
             have hk0:(0:Int)<=(k:Int):=by omega
             obtain⟨n,rfl⟩:∃n,k=n+1:=⟨k-1,by omega⟩
             obtain⟨i0,_⟩:=E.o.iAt aB;have U:=HR.o.keep E.o.b;obtain⟨_,r1,_⟩:=U.cells;obtain⟨gc,a6,bo⟩:=U.cAt (show n<D.C.length by have:=HN.o;omega)
             rw[a6,HN.o] at r1;have bE:((n+1:Nat):Int)-1=(n:Int):=by omega
             have bV:IntKind.i64.wrap (((n+1:Nat):Int)-1)=(n:Int):=by rw[bE];exact iQ (by omega) (by omega)
             have b0:(0:Int)<=(n:Int):=by omega
             have b2:(n:Int)<(N:Int):=by omega
             clear U a6;obtain⟨cv,a5⟩:∃v,D.C.getD n 0=v:=⟨_,rfl⟩;obtain⟨iv,ao⟩:∃v,I.getD (n+1) 0=v:=⟨_,rfl⟩;rw[a5] at bo;rw[ao] at i0;clear a5 ao;by_cases bL:cv<iv
             . go_wp2_with fail
               go_quiet (fail)
               go_wp2_with fail
               go_ret;exact⟨false,rfl,bt E.o.b (drN _ _),λh=>by cases h⟩
             . go_wp2_with fail
               go_quiet (fail)
               go_wp2_with fail
               go_roundw
               case rel=>exact⟨n+1+1,by omega,by omega,by first|(go_num;done)|exact bf (Value.int IntKind.i64) (by omega),bt BW.o (drN _ _)⟩
               case measure=>(simp[intOf];omega)
           . obtain rfl:k=N+1:=by omega
             have bq:¬(((N+1:Nat):Int)<(N:Int)+1):=by omega
             go_wp2_with fail
             go_ret;exact⟨true,rfl,E.o.b,λ_=>bj.o⟩
        . rw[fO] at aA;subst aA;obtain⟨ax,rfl,ak,bD,bp⟩:=F.o.top;have XG:=ix (b.o x (dQ _ (List.mem_singleton_self _)));obtain⟨p,H,a8⟩:=aH.o x XG.o;obtain⟨aE,aD⟩:=qR H;have b7:=aj.o x (by rw[H];rfl)
          have KK:=ix a8;obtain⟨m,Y⟩:∃m,S'.length=m:=⟨_,rfl⟩;have HM:=ix Y;have br:(S'++[x]).length=m+1:=by rw[af,Y];rfl
          rw[Y] at ak bD;simp only[br] at EX az NN SL ⊢;have bY:m+1<=600000:=by have:=SL.o;have:=ac.o;omega
          have ci:(0:Int)<((m+1:Nat):Int):=by omega
          have bz:((m+1:Nat):Int)-1=(m:Int):=by omega
          have b6:IntKind.i64.wrap (((m+1:Nat):Int)-1)=(m:Int):=by rw[bz];exact iQ (by omega) (by omega)
          have cg:(m:Int)<((m+1:Nat):Int):=by omega
          have bX:(0:Int)<=(m:Int):=by omega
          have bZ:(m:Int)<=(B:Int):=by omega
          obtain⟨z,rfl⟩:∃z:Nat,x=(z:Int):=⟨x.toNat,by omega⟩
          have ca:(0:Int)<=(z:Int):=by omega
          have cc:(z:Int)<(N:Int)+1:=by omega
          have S3:=ix F.o.pop;have aW:Hid (∀y∈S',y∈G):=λy hy=>b.o y (eD _ hy)
          obtain⟨m0,f0⟩:=F.o.mAt (k:=z) (by omega)
          clear Y bp a8 b;by_cases aF:(z:Int)∈T
          . rw[ar aF] at m0;clear aE aD H;go_wp2_with fail
            have FR:Hid (StL w G a s N (n0-1) (.slice (some ⟨ax,0,none⟩) m B) wr):=⟨some ⟨ax,0,none⟩,B,S',I,T,by rw[HM.o],S3.o,aW.o,ND.o,GG.o,by rw[HM.o];have:=SL.o;omega,by rw[HM.o];have:=NN.o;have:=ac.o;omega⟩
            go_roundw
            case rel=>exact⟨_,FR.o⟩
            case measure=>exact wk FR.o EX.o (λk hk=>by have:=az.o k hk;have:=NN.o;have:=ac.o;omega)
          . rw[ah aF] at m0;have bC:=ix aF;go_upto_region 21 with fail
            have S4:=ix (S3.o.setM z);clear m0 f0 S3 F ak;generalize wr.setCell ⟨s,z,none⟩ (.bool true)=w6 at *;have U:=ix (HR.o.keep S4.o.b);obtain⟨ab,g2,ce,hi,bH,c3,f⟩:=U.o.page aE;have bd:=Rd.on_mem U.o (jN aE);have PI:=ix ((U.o.pz _ bd).pi);have aX:=ix (HA.o _ _ H);obtain⟨q,L⟩:∃q,D.on (z:Int)=q:=⟨_,rfl⟩;rw[L] at aD f PI;have IK:=ix (zx w6 q PI.o);rw[aD] at IK;clear L bd aE H aF PI;have cf:IntKind.i64.wrap ((z:Int)-1)=(ab:Int):=by rw[show(z:Int)-1=(ab:Int) by omega];exact iQ (by omega) (by omega)
            have bM:(0:Int)<=(ab:Int):=by omega
            have bN:(ab:Int)<(D.C.length:Int):=by omega
            have cb:(z:Int)-1=(ab:Int):=by omega
            obtain⟨kq,lq,aq,cq,bF,ad,cd,bG,nx⟩:=q;unfold Pv.vl at IK;simp only[Pv.cs] at IK;have y0:=f 0 _ (by decide) rfl
            have y1:=f 1 _ (by decide) rfl
            have y2:=f 2 _ (by decide) rfl
            have y3:=f 3 _ (by decide) rfl
            have y4:=f 4 _ (by decide) rfl
            rw[dp] at y0;clear f aD;have K8:=ix (Hs aX.o);go_wp2_with fail
            refine IK.o.mono ?_;rintro _ w7 ⟨aK,cK,rfl,hK⟩;have S7:=ix (S4.o.keep hK.b);have g:Hid (Q.Gw 3 1 w7 aK cK p.kids.length (Q.vi p.kids)):=hK.r
            have aM:Hid (∀y,aK=some y->y.block≠a/\ax≠y.block):=λy hy=>by
             have h1:=zO hK.n hy;have h2:=S4.o.i.lt rfl;have h3:=S4.o.t.lt rfl;dsimp only at h2 h3;exact⟨by omega,by omega⟩
            clear hK IK y0 y1 y2 y3 y4 c3 S4 U aX;go_wp2_with fail
            go_loopw [8,12] (λvt vi A=>∃(j:Nat)(Z:Option Addr)(aa:Nat)(l I2:List Int),j<=p.kids.length/\vi=.int .i64 (j:Int)/\vt=.slice Z l.length aa/\Stq w A a s N Z aa l I2 ((z:Int)::T)/\(∀y∈l,y∈G)/\l.length=m+j/\Q.Gw 3 1 A aK cK p.kids.length (Q.vi p.kids)/\(∀x y,Z=some x->aK=some y->x.block≠y.block)) (λ_ vi _=>p.kids.length-(intOf vi).toNat)
            case atStart=>exact⟨0,some ⟨ax,0,none⟩,B,S',I,an _,rfl,by rw[HM.o],S7.o,aW.o,HM.o,g.o,λx y d hy=>by cases d;exact(aM.o y hy).2⟩
            case round=>
             clear S7 g;obtain⟨j,Z,aa,l,I2,hj,rfl,rfl,X,c,au,a0,a2⟩:=hrel;have E:=ix X;have G8:=ix c;have L8:=ix au;have g:=ix a0;have AP:=ix a2;have bU:=K8.o;clear X c au a0 a2;by_cases aB:j<p.kids.length
             . have bR:(j:Int)<(p.kids.length:Int):=by omega
               have bP:(0:Int)<=(j:Int):=by omega
               obtain⟨gk,rfl⟩:=g.o.addr (by omega)
               have kc:=g.o.cell (show(Q.vi p.kids)[j]?=some (.int .i64 (p.kids.getD j 0)) by simp[Q.vi,aB])
               have aR:=KK.o (p.kids.getD j 0) (by simp[aB])
               have VG:=ix aR;have bA:=aj.o _ (by obtain⟨p2,bw,_⟩:=aH.o _ aR;rw[bw];rfl)
               obtain⟨v,hv⟩:∃v,p.kids.getD j 0=v:=⟨_,rfl⟩;rw[hv] at kc bA VG;obtain⟨y,rfl⟩:∃y:Nat,v=(y:Int):=⟨v.toNat,by omega⟩
               clear hv aR;have b8:(0:Int)<=(y:Int):=by omega
               have b9:(y:Int)<(N:Int)+1:=by omega
               obtain⟨i0,f0⟩:=E.o.iAt (k:=y) (by omega)
               obtain⟨iv,ao⟩:∃v,I2.getD y 0=v:=⟨_,rfl⟩;rw[ao] at i0;clear ao;go_upto_region 26 with fail
               obtain⟨sv,ba⟩:∃v,wrap64 (iv+1)=v:=⟨_,rfl⟩;simp only[ba];clear ba;have S9:=ix (E.o.setI y sv);have bs:But (λk=>k=a) wr (wr.setCell ⟨a,y,none⟩ (.int .i64 sv)):=(But.refl (λk=>k=a) wr).setCell (p:=⟨a,y,none⟩) (λ_=>rfl) _
               have K9:=ix (g.o.but bs (λx d e=>(aM.o x d).1 e))
               have bB:=(bs.cell (p:=⟨gk,j,none⟩) (block_lt_of_cell kc) (λe=>(aM.o _ rfl).1 e)).trans kc
               clear E g i0 f0 kc bs;generalize wr.setCell ⟨a,y,none⟩ (.int .i64 sv)=w9 at *;generalize I2.set y sv=I3 at *;have R:=ix (al w9 (.cells #[.int .i64 (y:Int)] 3));have Y5:=ix (ag w9 (.cells #[.int .i64 (y:Int)] 3));have G5:=ix (S9.o.keep R.o);have bI:l.length<=700000:=by have:=L8.o;have:=K8.o;omega
               have bv:l.length+1<=maxLen:=by unfold maxLen;omega
               go_wp2_with (at_builtin;refine jq underlying22 li rfl (by decide) rfl _ _ rfl Z l.length aa (Q.vi l) rfl G5.o.t ⟨w9.heap.size,0,none⟩ 1 [Value.int .i64 (y:Int)] rfl rfl (lF Y5.o) (λu hu=>by rw[aZ.1 hu];rfl) bv (by omega) ?_)
               intro g5 c5 w5 C aP hB;have I5:=ix (G5.o.push (x:=(y:Int)) C aP hB);have K5:=ix ((K9.o.keep R.o).but hB (λx d ⟨q,L,e⟩=>AP.o q x L d e))
               have bh:Hid (∀x q,(some ⟨g5,0,none⟩:Option Addr)=some x->(some ⟨gk,0,none⟩:Option Addr)=some q->x.block≠q.block):=λx q d L=>by
                cases d;rcases aP _ rfl with⟨u,hu,e⟩|e
                . have:=AP.o u q hu L;rw[<-e];exact this
                . have h1:=(K9.o.keep R.o).lt L;have e:(w9.alloc (.cells #[.int .i64 (y:Int)] 3)).heap.size<=g5:=e;show g5≠q.block;omega
               clear C aP hB R Y5 G5 bB;go_wp2_with fail
               go_roundw
               case rel=>exact⟨j+1,some ⟨g5,0,none⟩,c5,l++[(y:Int)],I3,by omega,by first|(go_num;done)|exact bf (Value.int IntKind.i64) (by omega),by simp,I5.o,λu hu=>by
                rcases bO.1 hu with hu|hu
                . exact G8.o u hu
                . rw[aZ.1 hu];exact VG.o,by rw[af,L8.o];rfl,K5.o,bh.o⟩
               case measure=>(simp[intOf];omega)
             . obtain rfl:j=p.kids.length:=by omega
               have ch:¬(p.kids.length:Int)<(p.kids.length:Int):=by omega
               have FR:Hid (StL w G a s N (1120000+l.length-16*(T.length+1)) (.slice Z l.length aa) wr):=⟨Z,aa,l,I2,(z:Int)::T,rfl,E.o,G8.o,e6.2 ⟨bC.o,ND.o⟩,λu hu=>by
                rcases bQ.1 hu with rfl|hu
                . exact XG.o
                . exact GG.o u hu,by rw[a7];have:=L8.o;have:=K8.o;have:=SL.o;omega,by rw[a7];have:=L8.o;have:=ac.o;omega⟩
               go_wp2_with fail
               go_roundw
               case rel=>exact⟨_,FR.o⟩
               case measure=>
                refine ET (P:=λn=>StL w G a s N n (.slice Z l.length aa) wr) (m:=1120000+l.length-16*(T.length+1)) _ _ FR.o EX.o ?_
                intro k hk;have:=az.o k hk;have:=NN.o;have:=L8.o;have:=K8.o;have:=ac.o;omega
end Go.Proofs.YteaogidofpfmmaaGreat
