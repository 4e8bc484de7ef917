import Derived.Test.YtbdkogimlbnlmaaGreatWqB6
import Derived.Shelf.SlSortCmp.WholeK
import Derived.Shelf.SlSortCmp.NoneTotal
set_option linter.unusedVariables false
set_option linter.unusedSimpArgs false
set_option maxHeartbeats 8000000
set_option maxRecDepth 10000
namespace Go.Proofs.YtbdkogimlbnlmaaGreat.Q
open Go.Shelf
def x7:Go.Shelf.Ren:=⟨fun|6=>186|14=>202|15=>203|20=>207|21=>208|22=>209|23=>210|24=>211|25=>212|26=>213|27=>214|28=>215|29=>216|46=>218|47=>219|48=>220|49=>221|50=>222|57=>223|n=>n,fun|0=>0|3=>3|4=>4|5=>5|9=>9|22=>169|24=>171|25=>205|39=>216|45=>219|46=>220|50=>184|53=>226|55=>192|66=>229|70=>233|76=>235|77=>199|n=>n,fun|n=>n⟩
theorem Bi:Go.Proofs.SlLaysF0.n6 Tryz.prog x7:={
 mixed:=by kernel_rfl,
 f6:=⟨Tryz.f186.name,by decide,Tryz.func186.trans (aY some (by kernel_rfl))⟩,
 f14:=⟨Tryz.f202.name,by decide,Tryz.func202.trans (aY some (by kernel_rfl))⟩,
 f15:=Tryz.func203.trans (aY some (by kernel_rfl)),
 f20:=⟨Tryz.f207.name,by decide,Tryz.func207.trans (aY some (by kernel_rfl))⟩,
 f21:=⟨Tryz.f208.name,by decide,Tryz.func208.trans (aY some (by kernel_rfl))⟩,
 f22:=⟨Tryz.f209.name,by decide,Tryz.func209.trans (aY some (by kernel_rfl))⟩,
 f23:=⟨Tryz.f210.name,by decide,Tryz.func210.trans (aY some (by kernel_rfl))⟩,
 f24:=⟨Tryz.f211.name,by decide,Tryz.func211.trans (aY some (by kernel_rfl))⟩,
 f25:=⟨Tryz.f212.name,by decide,Tryz.func212.trans (aY some (by kernel_rfl))⟩,
 f26:=⟨Tryz.f213.name,by decide,Tryz.func213.trans (aY some (by kernel_rfl))⟩,
 f27:=⟨Tryz.f214.name,by decide,Tryz.func214.trans (aY some (by kernel_rfl))⟩,
 f28:=Tryz.func215.trans (aY some (by kernel_rfl)),
 f29:=Tryz.func216.trans (aY some (by kernel_rfl)),
 f46:=⟨Tryz.f218.name,by decide,Tryz.func218.trans (aY some (by kernel_rfl))⟩,
 f47:=Tryz.func219.trans (aY some (by kernel_rfl)),
 f48:=Tryz.func220.trans (aY some (by kernel_rfl)),
 f49:=⟨Tryz.f221.name,by decide,Tryz.func221.trans (aY some (by kernel_rfl))⟩,
 f50:=⟨Tryz.f222.name,by decide,Tryz.func222.trans (aY some (by kernel_rfl))⟩,
 f57:=⟨Tryz.f223.name,by decide,Tryz.func223.trans (aY some (by kernel_rfl))⟩,
 t0:=Tryz.underlying0,
 a0:=Tryz.isAgg0,
 z0:=Tryz.sizeOf0,
 v0:=Tryz.zeroValue0,
 t3:=Tryz.underlying3,
 a3:=Tryz.isAgg3,
 z3:=Tryz.sizeOf3,
 v3:=Tryz.zeroValue3,
 t4:=Tryz.underlying4,
 a4:=Tryz.isAgg4,
 z4:=Tryz.sizeOf4,
 v4:=Tryz.zeroValue4,
 t5:=Tryz.underlying5,
 a5:=Tryz.isAgg5,
 z5:=Tryz.sizeOf5,
 v5:=Tryz.zeroValue5,
 t9:=Tryz.underlying9,
 a9:=Tryz.isAgg9,
 z9:=Tryz.sizeOf9,
 v9:=Tryz.zeroValue9,
 t22:=Tryz.underlying169,
 a22:=Tryz.isAgg169,
 z22:=Tryz.sizeOf169,
 v22:=Tryz.zeroValue169,
 t25:=Tryz.underlying205,
 a25:=Tryz.isAgg205,
 z25:=Tryz.sizeOf205,
 v25:=Tryz.zeroValue205,
 t39:=Tryz.underlying216,
 a39:=Tryz.isAgg216,
 z39:=Tryz.sizeOf216,
 v39:=Tryz.zeroValue216,
 t45:=Tryz.underlying219,
 a45:=Tryz.isAgg219,
 z45:=Tryz.sizeOf219,
 v45:=Tryz.zeroValue219,
 t46:=Tryz.underlying220,
 a46:=Tryz.isAgg220,
 z46:=Tryz.sizeOf220,
 v46:=Tryz.zeroValue220,
 t50:=Tryz.underlying184,
 a50:=Tryz.isAgg184,
 z50:=Tryz.sizeOf184,
 v50:=Tryz.zeroValue184,
 t53:=Tryz.underlying226,
 a53:=Tryz.isAgg226,
 z53:=Tryz.sizeOf226,
 v53:=Tryz.zeroValue226,
 t55:=Tryz.underlying192,
 a55:=Tryz.isAgg192,
 z55:=Tryz.sizeOf192,
 v55:=Tryz.zeroValue192,
 t66:=Tryz.underlying229,
 a66:=Tryz.isAgg229,
 z66:=Tryz.sizeOf229,
 v66:=Tryz.zeroValue229,
 t70:=Tryz.underlying233,
 a70:=Tryz.isAgg233,
 z70:=Tryz.sizeOf233,
 v70:=Tryz.zeroValue233,
 t76:=Tryz.underlying235,
 a76:=Tryz.isAgg235,
 z76:=Tryz.sizeOf235,
 v76:=Tryz.zeroValue235,
 t77:=Tryz.underlying199,
 a77:=Tryz.isAgg199,
 z77:=Tryz.sizeOf199,
 v77:=Tryz.zeroValue199}
end Go.Proofs.YtbdkogimlbnlmaaGreat.Q
namespace Go.Proofs.YtbdkogimlbnlmaaGreat.Q
open Go.RowKit
variable {r:Int}{L:List Rn}{cap g i k n s:Nat}{col:Nat->Nat}{D:Pd}{P:Po}{w0 wr:World}
def pR(x y:Int):Int:=if x<y then -1 else if y<x then 1 else 0
theorem qE(w:World)(x:Int):Calls Tryz.prog 204 #[.int .i64 x] w λe w'=>e=.returned (.bool false)/\w'=w:=by
 go_enter Tryz.func204,Tryz.ntmps204;go_wp2;go_ret;exact⟨by simp,rfl⟩
theorem zo(w:World)(x y:Int):Calls Tryz.prog 188 #[.int .i64 x,.int .i64 y] w λe w'=>e=.returned (.int .i64 (pR x y))/\w'=w:=by
 have N1:=gZ λW=>qE W x
 have N2:=gZ λW=>qE W y
 unfold pR;by_cases h1:x<y
 . rw[if_pos h1];go_enter Tryz.func188,Tryz.ntmps188;go_wp2_with fail
   refine(N1.o _).mono ?_;rintro e w1 ⟨rfl,rfl⟩;go_wp2_with fail
   refine(N2.o _).mono ?_;rintro e w1 ⟨rfl,rfl⟩;go_wp2;go_ret;exact⟨rfl,rfl⟩
 . rw[if_neg h1];by_cases h2:y<x
   . rw[if_pos h2];go_enter Tryz.func188,Tryz.ntmps188;go_wp2_with fail
     refine(N1.o _).mono ?_;rintro e w1 ⟨rfl,rfl⟩;go_wp2_with fail
     refine(N2.o _).mono ?_;rintro e w1 ⟨rfl,rfl⟩;go_wp2;go_ret;exact⟨rfl,rfl⟩
   . rw[if_neg h2];go_enter Tryz.func188,Tryz.ntmps188;go_wp2_with fail
     refine(N1.o _).mono ?_;rintro e w1 ⟨rfl,rfl⟩;go_wp2_with fail
     refine(N2.o _).mono ?_;rintro e w1 ⟨rfl,rfl⟩;go_wp2;go_ret;exact⟨rfl,rfl⟩
theorem uj(W:World)(r s:Rn):
 Calls Tryz.prog 187 #[.agg (rcs r).toList.toArray,.agg (rcs s).toList.toArray] W λe w'=>e=.returned (.int .i64 (pR r.1 s.1))/\∃q os',w'=Sort.grow (W.drewN q) os':=by
 have C:=gZ λw1=>zo w1 r.1 s.1
 unfold rcs;generalize pR r.1 s.1=z at *;go_enter Tryz.func187,Tryz.ntmps187;go_wp2_with fail
 refine(C.o _).mono ?_;rintro e w1 ⟨rfl,hw⟩;obtain rfl:=hw.symm;go_wp2;go_ret;exact⟨rfl,0,_,by rw[Sort.alloc_eq_grow,Sort.alloc_eq_grow,Sort.grow_grow];rfl⟩
def jA(x:Rn):List Value:=(rcs x).toList
def cfS(x y:Rn):Int:=pR x.1 y.1
theorem pH(x y:Int):pR x y<0↔x<y:=by
 unfold pR;split
 . omega
 . split<;>omega
theorem swoS:Sort.SWO (ltOf cfS):={
 irrefl:=λx=>(by unfold ltOf cfS;rw[di,pH];omega),
 trans:=λx y z h1 h2=>(by
  unfold ltOf cfS at *;rw[decide_eq_true_iff,pH] at *;omega),
 ntrans:=λx y z h1 h2=>(by
  unfold ltOf cfS at *;rw[di,pH] at *;omega)}
theorem sE{w:World}(d:Array Rn)(os:Array Obj):But (λk=>k=g) w (sortWorldK jA 2 w g 0 n d os):=by
 refine⟨rfl,rfl,rfl,?_,λk hk hn=>?_⟩
 . exact SWK.le ⟨n,os,rfl⟩
 . have hk':k<(Sort.putRowK jA 2 (Sort.ahead w n) g 0 d).heap.size:=by
    have:(Sort.putRowK jA 2 (Sort.ahead w n) g 0 d).heap.size=w.heap.size:=by simp[Sort.putRowK,Sort.putRow,Sort.mapBlock,Sort.ahead]
    omega
   show((Sort.putRowK jA 2 (Sort.ahead w n) g 0 d).heap++os)[k]?=_;rw[Array.getElem?_append_left hk'];show((Sort.ahead w n).heap.modify g _)[k]?=_;rw[e8,if_neg (λe=>hn e.symm)]
   rfl
theorem tG(L:List Rn)(i j:Nat)(hi:i<L.length)(hj:j<2):(rc L)[i*2+j]?=(jA (L.getD i Rn.zero))[j]?:=by
 obtain⟨h1,h2⟩:=t8 L i hi;match j,hj with
 |0,_=>exact h1
 |1,_=>exact h2
theorem sA{w:World}(hQ:Vw w (some ⟨g,0,none⟩) cap L)(d:Array Rn)(os:Array Obj)(hs:d.size=L.length):Vw (sortWorldK jA 2 w g 0 n d os) (some ⟨g,0,none⟩) cap d.toList:=by
 rcases hQ.cases with⟨h0,_⟩|⟨g',Y,h0,hg,h1,h2,h3⟩
 . cases h0
 . simp only[aE,Addr.mk.injEq,dT] at h0;subst h0;have hgl:=hg.lt;have hsz:(Sort.putRowK jA 2 (Sort.ahead w n) g 0 d).heap.size=w.heap.size:=by simp[Sort.putRowK,Sort.putRow,Sort.mapBlock,Sort.ahead]
   have hb:(sortWorldK jA 2 w g 0 n d os).heap[g]?=some (.cells (Sort.putCells id 0 (Sort.flatK jA 2 d) (rc L++Y).toArray) 171 (0,0)):=by
    show((Sort.putRowK jA 2 (Sort.ahead w n) g 0 d).heap++os)[g]?=_;rw[Array.getElem?_append_left (by omega)]
    show((Sort.ahead w n).heap.modify g _)[g]?=_;rw[e8,if_pos rfl];show Option.map _ w.heap[g]?=_;rw[show w.heap[g]?=_ from hg]
    rfl
   have hl:d.toList.length=L.length:=by simp[hs]
   refine Vw.mk (Y:=Y) ?_ (by omega) h2 (by omega)
   unfold iU;rw[hb];congr 2
   apply Array.ext_getElem?;intro i;unfold Sort.putCells;rw[Array.getElem?_mapIdx];simp only[eH];by_cases hi:i<L.length*2
   . have hd:i/2<d.size:=by omega
     have hR:=tG d.toList (i/2) (i%2) (by omega) (fj _ (by decide))
     rw[show i/2*2+i%2=i by omega] at hR
     have e1:d.toList.getD (i/2) Rn.zero=d[i/2]'hd:=by simp[hd]
     rw[e1] at hR;rw[bm (show i<(rc L).length by rw[g9];exact hi),bm (show i<(rc d.toList).length by rw[g9,hl];exact hi),hR,aS (show i<(rc L).length by rw[g9];exact hi),fW,if_pos ⟨aF _,by simp[hs];omega⟩,Nat.sub_zero]
     rw[Sort.get_flatK _ _ _ _ (by rw[hs];exact hi),gU d (i/2) hd]
     have hm:i%2<(jA d[i/2]).length:=by
      show i%2<2;exact fj _ (by decide)
     rw[gU (jA d[i/2]) (i%2) hm];show some (id _)=(jA d[i/2])[i%2]?;rw[aS hm];rfl
   . rw[bi (show(rc L).length<=i by rw[g9];omega),bi (show(rc d.toList).length<=i by rw[g9,hl];omega),g9,g9,hl]
     cases hy:Y[i-L.length*2]? with
     |none=>rfl
     |some v=>
      rw[fW,if_neg (λh=>hi (by have:=h.2;simp[hs] at this;omega))]
theorem Vw.holds{w:World}(hQ:Vw w (some ⟨g,0,none⟩) cap L):Sort.HoldsK jA 2 w g 0 L.toArray:=by
 rcases hQ.cases with⟨h0,_⟩|⟨g',Y,h0,hg,h1,h2,h3⟩
 . cases h0
 . simp only[aE,Addr.mk.injEq,dT] at h0;subst h0;intro j hj;rw[Sort.size_flatK,cU] at hj;refine⟨?_,bq _ _ _ _ _ hg⟩;have hc:=hg.cs (P:=[]) (X:=rc L) (Y:=Y) (by simp)
   have hR:=tG L (j/2) (j%2) (by omega) (fj _ (by decide))
   rw[show j/2*2+j%2=j by omega] at hR
   have hdl:j/2<L.length:=by omega
   have hm:j%2<(jA (L.getD (j/2) Rn.zero)).length:=by
    show j%2<2;exact fj _ (by decide)
   have h5:=hc j ((jA (L.getD (j/2) Rn.zero))[j%2]) (by rw[hR];exact aS hm)
   rw[bg] at h5;have e1:L.getD (j/2) Rn.zero=L[j/2]:=by simp[hdl]
   rw[h5,Sort.get_flatK _ _ _ _ (by rw[cU];exact hj),gU L.toArray (j/2) (by simpa using hdl)]
   rw[gU (jA L.toArray[j/2]) (j%2) (by show j%2<2;exact fj _ (by decide))]
   simp only[e1,List.getElem_toArray];rfl
theorem Aj(w:World)(g cap:Nat)(L:List Rn)(hQ:Vw w (some ⟨g,0,none⟩) cap L)(hlen:L.length<4611686018427387904):
 Calls Tryz.prog 186 #[.slice (some ⟨g,0,none⟩) L.length cap,.func (.func 187) #[] #[]] w λe w'=>e=.returned (.tuple #[])/\∃L',L'.Perm L/\Vw w' (some ⟨g,0,none⟩) cap L'/\But (λk=>k=g) w w':=by
 have eg:∀args w,(callFunc 187 args).run Tryz.prog w=.ok (.enter 187 args) w:=enters_of Tryz.func187 (by kernel_rfl) rfl
 have hcmp:CmpLays Tryz.prog 187 #[] jA 2 cfS g 0 L.toArray.size w:=λm os dk _ x y=>uj _ x y
 have hcon:=AnyQ.slices_SortFunc Bi 2 Tryz.isAgg171 Tryz.sizeOf171 jA (λ_=>rfl) (λx v hv=>uZ x v hv) cfS swoS 187 #[] g 0 cap L.toArray w eg hcmp hQ.holds (hQ.lt rfl) (by simpa using hlen)
 rw[cU] at hcon;refine Calls.mono (show Calls Tryz.prog 186 _ _ _ from hcon) λe w' ⟨he,d',n,os,hp,hsrt,hw⟩=>⟨he,d'.toList,?_,?_,?_⟩
 . have h1:=hp.2.2;have hs':d'.size=L.toArray.size:=hp.1;rw[show L.length=L.toArray.size by simp,Array.extract_size,<-hs',Array.extract_size] at h1
   simpa using h1
 . rw[hw];exact sA hQ d' os (by have h:d'.size=L.toArray.size:=hp.1;simpa using h)
 . rw[hw];exact sE d' os
theorem yK(w:World)(a:Option Addr)(cap:Nat):Calls Tryz.prog 186 #[.slice a 0 cap,.func (.func 187) #[] #[]] w λe w'=>e=.returned (.tuple #[])/\w'=w:=
 AnyF.slices_SortFunc_none Bi a cap _ w
theorem xU(w:World)(a:Option Addr)(c:Nat)(L:List Rn)(hV:Vs w a L)(hl:L.length<=14000000000000)(hn:a=none->c=0/\L=[]):
 Calls Tryz.prog 185 #[.slice a L.length c] w λe w'=>∃a' c',e=.returned (.slice a' L.length c')/\Vw w' a' c' L/\New w none a'/\Below w.heap.size w w'/\(L≠[]->a'≠none):=by
 have he:=λ(x:Option Addr)(n k:Nat)(w:World)=>Lib.run_eql_slice_nil (P:=Tryz.prog) w 169 171 x n k 0 0 Tryz.underlying169
 cases a with
 |none=>
  obtain⟨rfl,rfl⟩:=hn rfl;rw[bg];go_enter Tryz.func185,Tryz.ntmps185;go_wp2;go_ret;exact⟨none,0,rfl,Vw.nil _,New.none _ _,Below.refl _ _⟩
 |some x=>
  have ha:=al w (.cells #[] 171);have h0:Vw (w.alloc (.cells #[] 171)) (some ⟨w.heap.size,0,none⟩) 0 []:=Vw.mk (Y:=[]) (az w _) (ai _) (aF _) rfl;by_cases hL:L=[]
  . subst hL;rw[bg];obtain⟨w1,hrun,r1,b1⟩:=tf (w.alloc (.cells #[] 171)) 169 w.heap.size 0 0 [] [] [] (some x) 0 c rfl (az w _) rfl (.inl rfl) (ai _) (by simp) (ai _)
    have GG:=gZ (show ∃a' c',Ending.returned (.slice (some ⟨w.heap.size,0,none⟩) 0 0)=.returned (.slice a' 0 c')/\Vw w1 a' c' []/\New w none a'/\Below w.heap.size w w1/\(([]:List Rn)≠[]->a'≠none) from
     ⟨_,0,rfl,Vw.mk (Y:=[]) r1 (ai _) (aF _) rfl,λz hz=>.inr (by cases hz;exact ai _),((But.ofBelow (S:=λ_=>False) ha).trans b1 (λk hk e=>by omega)).below (λ_ _ h=>h),λh=>(h rfl).elim⟩)
    clear r1 b1 h0 ha hn;go_enter Tryz.func185,Tryz.ntmps185;go_wp2_with (at_builtin;refine Lib.wpList_append_run _ rfl _ _ _ _ rfl _ _ rfl rfl _ _ hrun ?_)
    go_ret;exact GG.o
  . obtain⟨g,c',w1,hrun,q1,q2,q3⟩:=kW (w.alloc (.cells #[] 171)) 169 (some ⟨w.heap.size,0,none⟩) 0 0 [] rfl h0 (some x) L.length c L rfl (hV.keep ha) hL (by simp;omega)
    rw[bG] at hrun;rw[cF] at q1
    have GG:=gZ (show ∃a' c'',Ending.returned (.slice (some ⟨g,0,none⟩) L.length c')=.returned (.slice a' L.length c'')/\Vw w1 a' c'' L/\New w none a'/\Below w.heap.size w w1/\(L≠[]->a'≠none) from
     ⟨_,c',rfl,q1,λz hz=>by
       rcases q2 z hz with⟨y,hy,e⟩|h
       . cases hy;exact .inr (gR e)
       . exact .inr (by rw[size_alloc] at h;omega),((But.ofBelow (S:=λ_=>False) ha).grown q3 (λk hk h=>by
          obtain⟨y,hy,e⟩:=map_some hk;cases hy;rw[<-e] at h;exact absurd h (dZ _))).below (λ_ _ h=>h),λ_=>by simp⟩)
    clear q1 q2 q3 h0 ha hn hV;generalize L.length=n at *;go_enter Tryz.func185,Tryz.ntmps185;go_wp2_with (at_builtin;refine Lib.wpList_append_run _ rfl _ _ _ _ rfl _ _ rfl rfl _ _ hrun ?_)
    go_ret;exact GG.o
theorem Bc{M:List Rn}(h:L.Perm M)(z:Int):has L z=has M z:=by
 rw[fa,has_iff,has_iff];constructor
 . rintro⟨r,hr,h1⟩;exact⟨r,h.subset hr,h1⟩
 . rintro⟨r,hr,h1⟩;exact⟨r,h.symm.subset hr,h1⟩
theorem zt(L:List Rn)(r:Rn)(z:Int):has (L++[r]) z=(has L z||(decide (r.1<=z)&&decide (z<=r.2))):=by
 rw[iH,jz,j7,eV]
structure Nw(w w':World)(b:Nat)(a:Option Addr)(cap:Nat)(R:List Rn):Prop where
 st:St w' b a cap R
 b:w.heap.size<=b
 a:∀x,a=some x->w.heap.size<=x.block
 w:Below w.heap.size w w'
theorem yL(w:World)(a:Option Addr)(c:Nat)(L:List Rn)(hV:Vs w a L)(hl:L.length<=8796093022200)(hn:a=none->c=0/\L=[])(hb:∀r∈L,Nm r.1/\Nm r.2):
 Calls Tryz.prog 172 #[.slice a L.length c] w λe w'=>∃b' a' cap' R,e=.returned (.pointer (some ⟨b',0,none⟩))/\Nw w w' b' a' cap' R/\(∀z,has R z=has L z)/\R.length<=L.length:=by
 have C1:=gZ (xU w a c L hV (by omega) hn)
 have C2:=gZ λ(W:World)(g cap:Nat)(hQ:Vw W (some ⟨g,0,none⟩) cap L)=>Aj W g cap L hQ (by omega)
 have C3:=gZ λ(W:World)(a:Option Addr)(cap:Nat)=>yK W a cap
 obtain⟨n,hN⟩:∃n:Nat,n=L.length:=⟨_,rfl⟩;have HN:=gZ hN;rw[<-hN] at C1 C2 hl ⊢;clear hV hn hN;go_enter Tryz.func172,Tryz.ntmps172;go_wp2_with fail
 refine C1.o.mono ?_;rintro e w1 ⟨a1,c1,rfl,q1,q2,q3,q4⟩
 /- behind the sort -/
 have S:Calls Tryz.prog 186 #[.slice a1 n c1,.func (.func 187) #[] #[]] w1 λe w2=>e=.returned (.tuple #[])/\∃P,P.Perm L/\Vw w2 a1 c1 P/\Below w.heap.size w w2:=by
  by_cases h0:L=[]
  . have hn0:n=0:=by rw[HN.o,h0];rfl
    rw[hn0];refine(C3.o w1 a1 c1).mono λe w2 ⟨he,hw⟩=>⟨he,[],by rw[h0],by rw[hw,<-h0];exact q1,by rw[hw];exact q3⟩
  . obtain⟨g,hg⟩:∃g,a1=some ⟨g,0,none⟩:=by
     rcases q1.cases with⟨h1,_⟩|⟨g,_,h1,_⟩
     . exact absurd h1 (q4 h0)
     . exact⟨g,h1⟩
    subst hg;refine(C2.o w1 g c1 q1).mono λe w2 ⟨he,P,p1,p2,p3⟩=>⟨he,P,p1,p2,?_⟩
    have hge:w.heap.size<=g:=by
     rcases q2 _ rfl with⟨y,hy,_⟩|h
     . cases hy
     . exact h
    exact((But.ofBelow (S:=λ_=>False) q3).trans p3 (λk hk e=>by omega)).below (λ_ _ h=>h)
 have S':=gZ S;have Q2:=gZ q2;clear S q1 q2 q3 q4;go_wp2_with fail
 refine S'.o.mono ?_;rintro e w2 ⟨rfl,P,p1,p2,p3⟩;have hP:=gZ p1;have lP:P.length=n:=by rw[HN.o];exact p1.length_eq
 have vP:=gZ p2.vs;have aP:=gZ λx (hx:a1=some x)=>p2.lt hx
 clear p1 p2;go_wp2_with fail
 obtain⟨W,hW⟩:∃W,w2.alloc (.cells #[.slice none 0 0] 173)=W:=⟨_,rfl⟩;have hWn:=az w2 (.cells #[.slice none 0 0] 173);have bW:=al w2 (.cells #[.slice none 0 0] 173);have sW:=size_alloc w2 (.cells #[.slice none 0 0] 173);rw[hW] at hWn bW sW ⊢;have sw2:=p3.size;have St0:St W w2.heap.size none 0 []:=⟨hWn,Vw.nil _,Can.nil,by simp,by simp⟩
 go_loopw [15] (λi wx=>∃k:Nat,k<=n/\i=.int .i64 k/\∃a' cap' R,St wx w2.heap.size a' cap' R/\(∀z,has R z=has (P.take k) z)/\R.length<=k/\(∀x,a'=some x->W.heap.size<=x.block)/\But (λq=>q=w2.heap.size\/W.heap.size<=q) W wx) (λi _=>n-(intOf i).toNat)
 case atStart=>exact⟨0,aF _,rfl,none,0,[],St0,by simp,ai _,by simp,But.refl _ _⟩
 case round=>
  obtain⟨k,hk,rfl,a',cap',R,hS,hh,hRk,ha',hB⟩:=hrel;have szx:=hB.size;by_cases hlt:k<n
  . have hkP:k<P.length:=by omega
    have vx:Vs wr a1 P:=(vP.o.keep bW).but hB (λx hx h=>by have:=aP.o x hx;rcases h with h|h<;>omega)
    obtain⟨bb,o,rfl,d1,d2⟩:=vx.at hkP;obtain⟨r1,r2⟩:=hb _ (hP.o.subset (jY hkP));have tn:=jm P Rn.zero hkP;generalize P.getD k Rn.zero=r at *;have axx:=al wr (.cells #[.int .i64 r.1,.int .i64 r.2] 171);have A:=gZ (qQ (wr.alloc (.cells #[.int .i64 r.1,.int .i64 r.2] 171)) w2.heap.size a' cap' R r.1 r.2 (hS.keep axx) r1 r2 (by omega))
    have TN:=gZ tn;have HS:=gZ hS;have HH:=gZ hh;have HB:=gZ hB;have HA:=gZ ha';clear tn hS hh hB ha' r1 r2;go_wp2_with fail
    refine A.o.mono ?_;rintro e w5 ⟨rfl,a5,c5,R5,s1,s2,s3,s4,s5⟩
    have G:=gZ (show ∃a' cap' R,St w5 w2.heap.size a' cap' R/\(∀z,has R z=has (P.take (k+1)) z)/\R.length<=k+1/\(∀x,a'=some x->W.heap.size<=x.block)/\But (λq=>q=w2.heap.size\/W.heap.size<=q) W w5 from
     ⟨a5,c5,R5,s1,λz=>by rw[s2,HH.o,TN.o,zt],by omega,λx hx=>by
       rcases s4 x hx with⟨y,hy,e⟩|h
       . rw[<-e];exact HA.o y hy
       . rw[size_alloc] at h;omega,(HB.o.andBelow axx).trans s5 (λq hq h=>by
         rcases h with h|⟨y,hy,e⟩
         . exact .inl h
         . exact .inr (by rw[<-e];exact HA.o y hy))⟩)
    clear s1 s2 s3 s4 s5;go_wp2;go_roundw
    case rel=>exact⟨k+1,by omega,by simp,G.o⟩
    case measure=>simp[intOf];omega
  . obtain rfl:k=n:=by omega
    go_wp2;go_ret;refine⟨_,a',cap',R,rfl,⟨hS,sw2,λx hx=>by have:=ha' x hx;omega,?_⟩,λz=>by rw[hh,<-lP,cM];exact Bc hP.o z,hRk⟩
    exact((But.ofBelow (S:=λ_=>False) (bt p3 bW)).trans hB (λq hq h=>by rcases h with h|h<;>omega)).below (λ_ _ h=>h)
theorem sM(w:World):Calls Tryz.prog 154 #[.slice none 0 0] w λe w'=>∃b' a' cap' R,e=.returned (.pointer (some ⟨b',0,none⟩))/\Nw w w' b' a' cap' R/\(∀z,has R z=false)/\R.length<=0:=by
 have hmk:=uk 0 0 (ai _) (by omega) w
 rw[show((0:Nat):Int)=0 from rfl] at hmk
 have ha:=al w (.cells (madeCells (rcs Rn.zero) (0*2)) 171);have s0:=size_alloc w (.cells (madeCells (rcs Rn.zero) (0*2)) 171);generalize w.alloc (.cells (madeCells (rcs Rn.zero) (0*2)) 171)=W0 at *;have C:=gZ (yL W0 (some ⟨w.heap.size,0,none⟩) 0 [] (.inl rfl) (by simp) (by simp) (by simp))
 rw[bg] at C;have S0:=gZ s0;clear s0;go_enter Tryz.func154,Tryz.ntmps154;go_wp2;go_loopw [3,11] (λs i wx=>s=.slice (some ⟨w.heap.size,0,none⟩) 0 0/\i=.int .i64 0/\wx=W0) (λ_ _ _=>0)
 case atStart=>exact⟨rfl,rfl,rfl⟩
 case round=>
  obtain⟨rfl,rfl,rfl⟩:=hrel;go_wp2_with fail
  with_reducible refine C.o.mono ?_
  rintro e w1 ⟨b',a',cap',R,rfl,q1,q2,q3⟩;go_wp2;go_ret;have s0:=S0.o;exact⟨b',a',cap',R,rfl,⟨q1.st,by have:=q1.b;omega,λx hx=>by have:=q1.a x hx;omega,bt ha q1.w⟩,λz=>q2 z,q3⟩
def Po.start(r:Int)(C:List Int):Po:=⟨r,C.map λc=>(c,decide (0<c)),[],0⟩
def Bn(g:Nat):Pd:=⟨g,λ_=>0,λ_=>none,λ_=>0,λ_=>[],none,0,[]⟩
def inQ(D:Pd)(s t:Nat):Value:=if t<s then .pointer (some ⟨D.s t,0,none⟩) else .pointer none
def boxZ(r:Int)(n:Nat)(D:Pd)(s:Nat):Array Value:=#[.int .i64 r,.slice (some ⟨D.g,0,none⟩) n n,inQ D s 0,inQ D s 1,inQ D s 2,inQ D s 3,inQ D s 4,.slice none 0 0,.int .i64 0]
structure Pz(w0 w:World)(b:Nat)(r:Int)(n:Nat)(D:Pd)(s:Nat)(col:Nat->Nat):Prop where
 box:w.heap[b]?=some (.cells (boxZ r n D s) 131 (0,0))
 pgs:w.heap[D.g]?=some (.cells (pgc (List.replicate n Pg.zero)).toArray 133 (0,0))
 set:∀t,t<s->St w (D.s t) (D.a t) (D.c t) (D.L t)
 emp:∀t,t<s->∀z,has (D.L t) z=false
 na:D.aa=none/\D.ac=0/\D.B=[]
 cb:col b=1
 cg:col D.g=2
 cs:∀t,t<s->col (D.s t)=3+t
 ca:∀t,t<s->∀x,D.a t=some x->col x.block=3+t
 lt:∀k,col k≠0->k<w.heap.size/\w0.heap.size<=k
 bl:Below w0.heap.size w0 w
theorem DY:(Tryz.prog.info? 133).map (λi=>(i.zero,i.size,i.bytes))=some (some (.agg #[.int .i64 0,.bool false]),2,16):=by kernel_rfl
theorem zd(n:Nat)(hc:n<=65536)(w:World):(Instr.makeSlice 126 (.int .i64 (n:Int)) (.int .i64 (n:Int))).run Tryz.prog w=.ok (.slice (some ⟨w.heap.size,0,none⟩) n n) (w.alloc (.cells (madeCells #[.int .i64 0,.bool false] (n*2)) 133)):=by
 obtain⟨i0,hi,hz0,hz1,hz2⟩:=cZ DY;have hr:=run_make (P:=Tryz.prog) w 126 133 i0 (.agg #[.int .i64 0,.bool false]) Tryz.underlying126 hi hz0 .i64 .i64 n n (by omega) (by omega) (by rw[hz2];omega) (by omega)
 simp only[cR,hz1] at hr;exact hr
theorem AF(n:Nat):madeCells #[Value.int .i64 0,Value.bool false] (n*2)=(pgc (List.replicate n Pg.zero)).toArray:=by
 unfold madeCells;apply Array.ext
 . simp[mK]
 . intro i h1 h2;have hi:i/2<n:=by simp at h1;omega
   have hg:=mh (List.replicate n Pg.zero) (i/2) (by rw[be];exact hi)
   have e:(List.replicate n Pg.zero).getD (i/2) Pg.zero=Pg.zero:=by simp[aq,hi]
   rw[e] at hg;have h2':i<(pgc (List.replicate n Pg.zero)).length:=by simpa using h2
   rcases Nat.mod_two_eq_zero_or_one i with m|m
   . have e2:i=i/2*2:=by omega
     have:=hg.1;rw[<-e2,aS h2'] at this;simp only[aE] at this;simp[m];exact this.symm
   . have e2:i=i/2*2+1:=by omega
     have:=hg.2;rw[<-e2,aS h2'] at this;simp only[aE] at this;simp[m];exact this.symm
theorem Pz.next{w W w':World}{b:Nat}(h:Pz w0 w b r n D s col)(hs:s<5)(hW:Below w.heap.size w W){b':Nat}{a':Option Addr}{c':Nat}{R:List Rn}(hN:Nw W w' b' a' c' R)(hR:∀z,has R z=false):
 Pz w0 (w'.setCell ⟨b,2+s,none⟩ (.pointer (some ⟨b',0,none⟩))) b r n {D with s:=upd D.s s b',a:=upd D.a s a',c:=upd D.c s c',L:=upd D.L s R} (s+1) (recol col w w' (3+s)):=by
 have bw:Below w.heap.size w w':=bt hW hN.w;have old:∀{k:Nat},col k≠0->recol col w w' (3+s) k=col k:=λhk=>jc (h.lt _ hk).1
 have lb:=(h.lt b (by rw[h.cb];decide))
 have bS:But (λk=>k=b) w (w'.setCell ⟨b,2+s,none⟩ (.pointer (some ⟨b',0,none⟩))):=(But.ofBelow (S:=λk=>k=b) bw).setCell (p:=⟨b,2+s,none⟩) (λ_=>rfl) _
 have bS':But (λk=>k=b) w' (w'.setCell ⟨b,2+s,none⟩ (.pointer (some ⟨b',0,none⟩))):=(But.refl (λk=>k=b) _).setCell (p:=⟨b,2+s,none⟩) (λ_=>rfl) _
 have hsz:=hW.size;have nb:∀k,w.heap.size<=k->k≠b:=λk hk e=>by omega
 have hb':w'.heap[b]?=_:=(bw.block b lb.1).trans h.box;refine⟨?_,bS.same h.pgs (λe=>by have:=h.cg;rw[e,h.cb] at this;cases this),λt ht=>?_,λt ht z=>?_,h.na,(old (by rw[h.cb];decide)).trans h.cb,(old (by rw[h.cg];decide)).trans h.cg,λt ht=>?_,λt ht x hx=>?_,λk hk=>?_,?_⟩
 . rw[aR _ _ _ _ _ _ hb'];rcases lt5 hs with rfl|rfl|rfl|rfl|rfl<;>rfl
 . show St _ (upd D.s s b' t) (upd D.a s a' t) (upd D.c s c' t) (upd D.L s R t);by_cases e:t=s
   . subst e;rw[iF,iF,iF,iF];exact hN.st.but bS' (nb _ (aU hsz hN.b)) (λx hx=>nb _ (aU hsz (hN.a x hx)))
   . rw[iM _ _ e,iM _ _ e,iM _ _ e,iM _ _ e];have ht':t<s:=by omega
     exact(h.set t ht').but bS (λe2=>by have:=h.cs t ht';rw[e2,h.cb] at this;omega) (λx hx e2=>by have:=h.ca t ht' x hx;rw[e2,h.cb] at this;omega)
 . show has (upd D.L s R t) z=false;by_cases e:t=s
   . subst e;rw[iF];exact hR z
   . rw[iM _ _ e];exact h.emp t (by omega) z
 . show recol col w w' (3+s) (upd D.s s b' t)=3+t;by_cases e:t=s
   . subst e;rw[iF];exact j9 (aU hsz hN.b) hN.st.lt
   . rw[iM _ _ e,old (by rw[h.cs t (by omega)];omega)];exact h.cs t (by omega)
 . have hx:upd D.a s a' t=some x:=hx;by_cases e:t=s
   . subst e;rw[iF] at hx;exact j9 (aU hsz (hN.a x hx)) (hN.st.row.lt hx)
   . rw[iM _ _ e] at hx;rw[old (by rw[h.ca t (by omega) x hx];omega)];exact h.ca t (by omega) x hx
 . by_cases e:k<w.heap.size
   . rw[jc e] at hk;exact⟨aZ e bS.size,(h.lt k hk).2⟩
   . exact⟨aZ (mu bw.size hk) bS'.size,by have:=h.bl.size;omega⟩
 . exact((But.ofBelow (S:=λ_=>False) (bt h.bl bw)).setCell (p:=⟨b,2+s,none⟩) (λe=>by have e:b<w0.heap.size:=e;omega) _).below (λ_ _ h=>h)
theorem Pz.done{w:World}{b:Nat}(h:Pz w0 w b r n D 5 col):Pq w b ⟨r,List.replicate n Pg.zero,[],0⟩ D col:=by
 obtain⟨n1,n2,n3⟩:=h.na;refine⟨?_,h.pgs,h.set,?_,by rw[n3];rfl,λq hq=>(by rw[n3] at hq;cases hq),h.cb,h.cg,h.cs,h.ca,λx hx=>(by rw[n1] at hx;cases hx),λt ht=>(by rw[n3] at ht;cases ht),λk hk=>(h.lt k hk).1⟩
 . rw[h.box];show some (Obj.cells _ _ _)=some (Obj.cells (jP _ _) _ _);unfold jP boxZ inQ;simp[n1,n2]
 . rw[n1,n2,n3];exact Gw.nil _ _ _
def jv(C:List Int):List Pg:=C.map λc=>(c,decide (0<c))
theorem jD(C:List Int):(jv C).length=C.length:=by simp[jv]
theorem sd{C:List Int}(h:i<C.length):jv (C.take (i+1))=jv (C.take i)++[(C.getD i 0,decide (0<C.getD i 0))]:=by
 unfold jv;rw[jm C 0 h,bH];rfl
structure Pf(w wr:World)(b:Nat)(r:Int)(C:List Int)(i:Nat)(D:Pd)(col:Nat->Nat):Prop where
 q:Pq wr b ⟨r,jv (C.take i)++List.replicate (C.length-i) Pg.zero,[],0⟩ D col
 m:∀s,s<5->∀z,has (D.L s) z=inS (jv (C.take i)) s z
 bl:Below w.heap.size w wr
 nw:∀k,col k≠0->w.heap.size<=k
theorem Pf.len{w:World}{b:Nat}{C:List Int}(h:Pf w wr b r C i D col)(hi:i<=C.length):(jv (C.take i)++List.replicate (C.length-i) Pg.zero).length=C.length:=by
 rw[ae,jD,bh,be];omega
theorem Pf.few{w:World}{b:Nat}{C:List Int}(h:Pf w wr b r C i D col)(hC:C.length<=65536)(hs:s<5):(D.L s).length<=65536:=by
 refine vC (h.q.set s hs).can λq hq=>?_
 have hle:=(h.q.set s hs).can.1 q hq;have h1:=(jt.1 ((h.m s hs q.1).symm.trans ((has_iff _ _).2 ⟨q,hq,em _,hle⟩))).1;have h2:=(jt.1 ((h.m s hs q.2).symm.trans ((has_iff _ _).2 ⟨q,hq,hle,em _⟩))).2.1;rw[jD,bh] at h2;omega
theorem Bb(P:List Pg)(x:Pg)(s:Nat)(z:Int):inS (P++[x]) s z=(inS P s z||(decide (z=((P.length+1:Nat):Int))&&decide (stt x=s))):=by
 by_cases hz:z=((P.length+1:Nat):Int)
 . rw[ay hz,fC]
   have e1:inS P s z=false:=by
    unfold inS;rw[au (show ¬z<=(P.length:Int) by omega)];simp
   rw[e1,Bool.false_or,hz,pX (by omega) (by simp)]
   congr 1
   rw[Nat.add_sub_cancel,aq,bi (ai _),dq];rfl
 . rw[au hz,eb,eV];unfold inS;rw[ae,List.length_singleton];by_cases h1:1<=z
   . by_cases h2:z<=(P.length:Int)
     . rw[ay h2,ay (show z<=((P.length+1:Nat):Int) by omega)]
       rw[aq,bm (by omega),<-aq]
     . rw[au h2,au (show ¬z<=((P.length+1:Nat):Int) by omega)]
       simp
   . rw[au h1];simp
theorem Aw{C:List Int}(h:i<C.length)(x:Pg):(jv (C.take i)++List.replicate (C.length-i) Pg.zero).set i x=jv (C.take i)++x::List.replicate (C.length-(i+1)) Pg.zero:=by
 have hl:(jv (C.take i)).length=i:=by rw[jD,bh];omega
 rw[dU _ _ (by omega),hl,dq]
 obtain⟨m,hm⟩:∃m,C.length-i=m+1:=⟨C.length-i-1,by omega⟩
 rw[hm,List.replicate_succ,eJ,show C.length-(i+1)=m by omega]
theorem wm(w:World)(r:Int)(a:Option Addr)(cap:Nat)(C:List Int)(hC:Ir w a C)(h1:1<=C.length)(h2:C.length<=65536)(hr:2<=r/\r<65536)(hc:∀c∈C,0<=c/\c<=r):
 Calls Tryz.prog 123 #[.int .i64 r,.slice a C.length cap] w λe w'=>∃b col,e=.returned (.pointer (some ⟨b,0,none⟩))/\Pl w' b (Po.start r C) col/\Below w.heap.size w w'/\∀k,col k≠0->w.heap.size<=k:=by
 have hmk:=zd C.length h2 w;rw[AF] at hmk;have HC:=gZ hC;have HH:=gZ hc;have HR:=gZ hr;clear hC hc hr;obtain⟨n,hn⟩:∃n,C.length=n:=⟨_,rfl⟩;have HN:=gZ hn;rw[hn] at hmk h1 h2 ⊢;clear hn;obtain⟨W1,hW1⟩:∃W1,(w.alloc (.cells (pgc (List.replicate n Pg.zero)).toArray 133)).alloc (.cells #[.int .i64 r,.slice (some ⟨w.heap.size,0,none⟩) n n,.pointer none,.pointer none,.pointer none,.pointer none,.pointer none,.slice none 0 0,.int .i64 0] 131)=W1:=⟨_,rfl⟩
 have Z0:=gZ (show Pz w W1 (w.heap.size+1) r n (Bn w.heap.size) 0 (λk=>if k=w.heap.size+1 then 1 else if k=w.heap.size then 2 else 0) by
  have sz:W1.heap.size=w.heap.size+1+1:=by rw[<-hW1,size_alloc,size_alloc]
  refine⟨?_,?_,λt ht=>by omega,λt ht=>by omega,⟨rfl,rfl,rfl⟩,by simp,by simp[Bn],λt ht=>by omega,λt ht=>by omega,λk hk=>?_,?_⟩
  . rw[<-hW1];have c:=az (w.alloc (.cells (pgc (List.replicate n Pg.zero)).toArray 133)) (.cells #[.int .i64 r,.slice (some ⟨w.heap.size,0,none⟩) n n,.pointer none,.pointer none,.pointer none,.pointer none,.pointer none,.slice none 0 0,.int .i64 0] 131);rwa [size_alloc] at c
  . rw[<-hW1];have c:=az w (.cells (pgc (List.replicate n Pg.zero)).toArray 133);exact((al _ _).block w.heap.size (af.1 c).1).trans c
  . rw[sz];split at hk
    . omega
    . split at hk
      . omega
      . exact absurd rfl hk
  . rw[<-hW1];exact bt (al _ _) (al _ _))
 have HW1:=gZ hW1;clear hW1;go_enter Tryz.func123,Tryz.ntmps123;go_wp2_with fail
 rw[HW1.o];clear hmk HW1;go_loopw [16] (λi wr=>∃(s:Nat)(D:Pd)(col:Nat->Nat),s<=5/\i=.int .i64 (s:Int)/\Pz w wr (w.heap.size+1) r n D s col) (λi _=>5-(intOf i).toNat)
 case atStart=>exact⟨0,_,_,by omega,rfl,Z0.o⟩
 case round=>
  obtain⟨s,D,col,hs,rfl,hz⟩:=hrel;have HZ:=gZ hz;clear hz Z0;by_cases hlt:s<5
  . have cb:=ax _ _ (2+s) _ _ _ HZ.o.box
    have cS:wr.cell? ⟨w.heap.size+1,2+s,none⟩=some (.pointer none):=by
     rw[cb];rcases lt5 hlt with rfl|rfl|rfl|rfl|rfl<;>rfl
    have fS:wr.frozen? ⟨w.heap.size+1,2+s,none⟩=false:=by simp[World.frozen?,HZ.o.box]
    have hi5:(s:Int)<5:=by omega
    clear cb;go_wp2_with fail
    go_region_with (go_at_call 154;refine(sM _).mono ?_;rintro _ w3 ⟨b',a',c',R,rfl,hN,hR,-⟩;have c3:=(hN.w.cell (p:=⟨w.heap.size+1,2+s,none⟩) (block_lt_of_cell cS)).trans cS;have f3:=(hN.w.frozen (p:=⟨w.heap.size+1,2+s,none⟩) (block_lt_of_cell cS)).trans fS;have HZ2:=gZ (HZ.o.next hlt (drw wr) hN hR);clear hN hR)
    all_goals
     clear c3 f3;go_wp2;go_roundw
    all_goals first
     |exact⟨s+1,_,_,by omega,by go_num,HZ2.o⟩
     |(simp[intOf];omega)
  . have h5:(s:Int)=5:=by omega
    have HZ:Hid (Pz w wr (w.heap.size+1) r n D 5 col):=gZ (by have z:=HZ.o;rw[show s=5 by omega] at z;exact z)
    rw[h5];clear h5 hs hlt
    have F0:=gZ (show Pf w wr (w.heap.size+1) r C 0 D col from⟨by
     rw[fK,Nat.sub_zero,HN.o];exact HZ.o.done,λt ht z=>by
     rw[HZ.o.emp t ht z,fK];unfold inS;rw[show(jv []).length=0 from rfl]
     by_cases hz:1<=z
     . rw[au (show ¬z<=((0:Nat):Int) by omega)];simp
     . rw[au hz];simp,HZ.o.bl,λk hk=>(HZ.o.lt k hk).2⟩)
    generalize w.heap.size+1=b at *;clear HZ;go_wp2_with fail
    go_loopw [28] (λi wr=>∃(k:Nat)(D:Pd)(col:Nat->Nat),k<=n/\i=.int .i64 (k:Int)/\Pf w wr b r C k D col) (λi _=>n-(intOf i).toNat)
    case atStart=>exact⟨0,_,_,by omega,rfl,F0.o⟩
    case round=>
     clear F0;obtain⟨i,D,col,hi,rfl,hf⟩:=hrel;have HF:=gZ hf;clear hf;by_cases hlt:i<n
     . have hil:i<C.length:=by rw[HN.o];exact hlt
       obtain⟨b1,o1,rfl,cA⟩:=(HC.o.keep HF.o.bl).at hil;have hcm:=HH.o (C.getD i 0) (by simp[hil])
       obtain⟨c,hc⟩:∃c,C.getD i 0=c:=⟨_,rfl⟩;have EC:=gZ hc;rw[hc] at cA hcm;clear hc;have aw:=al wr (.cells #[.int .i64 c,.bool (decide (0<c))] 133);have X1:=iq wr c (decide (0<c));have q1:=HF.o.q.keep aw;have hlen:=HF.o.len (by rw[HN.o];exact hi)
       have c1:=q1.c1;rw[show(⟨r,jv (C.take i)++List.replicate (C.length-i) Pg.zero,[],0⟩:Po).pg.length=n from hlen.trans HN.o] at c1
       have d12:=q1.pgAt (i:=i) (by show i<(jv (C.take i)++List.replicate (C.length-i) Pg.zero).length;rw[hlen];exact hil)
       obtain⟨d1,d2⟩:=d12;generalize ((⟨r,jv (C.take i)++List.replicate (C.length-i) Pg.zero,[],0⟩:Po).pg.getD i Pg.zero)=xo at d1 d2;have g1:=q1.pgf (i*2);have g2:=q1.pgf (i*2+1);obtain⟨x0,x1⟩:=X1;obtain⟨W1,hW1⟩:∃W1,wr.alloc (.cells #[.int .i64 c,.bool (decide (0<c))] 133)=W1:=⟨_,rfl⟩;rw[hW1] at c1 d1 d2 g1 g2 x0 x1 aw q1;have c1':W1.drew.cell? ⟨b,1,none⟩=_:=c1;have d3:W1.drew.cell? ⟨D.g,i*2,none⟩=_:=d1;have d4:W1.drew.cell? ⟨D.g,i*2+1,none⟩=_:=d2;have g3:W1.drew.frozen? ⟨D.g,i*2,none⟩=false:=g1;have g4:W1.drew.frozen? ⟨D.g,i*2+1,none⟩=false:=g2;have x0':W1.drew.cell? ⟨wr.heap.size,0,none⟩=_:=x0;have x1':W1.drew.cell? ⟨wr.heap.size,1,none⟩=_:=x1;have hiI:(i:Int)<(n:Int):=by omega
       have hh:=ui q1.pgs i (c,decide (0<c));have hbu:But (λk=>k=D.g) W1 ((W1.setCell ⟨D.g,i*2,none⟩ (.int .i64 c)).setCell ⟨D.g,i*2+1,none⟩ (.bool (decide (0<c)))).drew:=(((But.refl (λk=>k=D.g) W1).setCell (p:=⟨D.g,i*2,none⟩) (λ_=>rfl) _).setCell (p:=⟨D.g,i*2+1,none⟩) (λ_=>rfl) _).drew
       have Q2:=gZ (q1.page (i+1) (c,decide (0<c)) hh hbu);have gx:wr.heap.size≠D.g:=λe=>by have:=HF.o.q.lt D.g (by rw[HF.o.q.cg];decide);omega
       have X2:=gZ (show((W1.setCell ⟨D.g,i*2,none⟩ (.int .i64 c)).setCell ⟨D.g,i*2+1,none⟩ (.bool (decide (0<c)))).drew.cell? ⟨wr.heap.size,0,none⟩=some (.int .i64 c)/\((W1.setCell ⟨D.g,i*2,none⟩ (.int .i64 c)).setCell ⟨D.g,i*2+1,none⟩ (.bool (decide (0<c)))).drew.cell? ⟨wr.heap.size,1,none⟩=some (.bool (decide (0<c))) from
        ⟨(hbu.cell (p:=⟨wr.heap.size,0,none⟩) (block_lt_of_cell x0) gx).trans x0,(hbu.cell (p:=⟨wr.heap.size,1,none⟩) (block_lt_of_cell x1) gx).trans x1⟩)
       have BW:=gZ (show Below w.heap.size w ((W1.setCell ⟨D.g,i*2,none⟩ (.int .i64 c)).setCell ⟨D.g,i*2+1,none⟩ (.bool (decide (0<c)))).drew from((But.ofBelow (S:=λ_=>False) (bt HF.o.bl aw)).trans hbu (λk hk e=>by have:=HF.o.nw D.g (by rw[HF.o.q.cg];decide);rw[e] at hk;omega)).below (λ_ _ h=>h))
       have HW1:=gZ hW1;clear hW1 hh hbu q1 aw;go_wp2_with fail
       rw[HW1.o];go_region
       all_goals
        generalize ((W1.setCell ⟨D.g,i*2,none⟩ (.int .i64 c)).setCell ⟨D.g,i*2+1,none⟩ (.bool (decide (0<c)))).drew=W2 at *;clear c1 c1' d1 d2 d3 d4 g1 g2 g3 g4 x0 x1 x0' x1' HW1;have ST:=gZ λ(W:World)=>qO W (c,decide (0<c))
        obtain⟨t,ht⟩:∃t,stt (c,decide (0<c))=t:=⟨_,rfl⟩;have t1:=mo (c,decide (0<c));rw[ht] at ST t1;have HT:=gZ ht;clear ht;obtain⟨y0,y1⟩:=X2.o;have z0:W2.drew.cell? ⟨wr.heap.size,0,none⟩=_:=y0;have z1:W2.drew.cell? ⟨wr.heap.size,1,none⟩=_:=y1;have s1:IntKind.i64.wrap ((i:Int)+1)=(i:Int)+1:=im (by omega) (by omega)
        have s2:wrap64 ((i:Int)+1)=(i:Int)+1:=by unfold wrap64;omega
        have AD:=gZ λ(W3:World)(hb:Below W2.heap.size W2 W3)=>qQ W3 (D.s t) (D.a t) (D.c t) (D.L t) ((i:Int)+1) ((i:Int)+1) ((Q2.o.keep hb).set t (by omega)) (by unfold Nm;omega) (by unfold Nm;omega) (by have:=HF.o.few (by rw[HN.o];exact h2) (s:=t) (by omega);omega)
        have FIN:=gZ (show ∀(W3 w4:World)(a4:Option Addr)(k4:Nat)(L4:List Rn),Below W2.heap.size W2 W3->St w4 (D.s t) a4 k4 L4->(∀z,has L4 z=(has (D.L t) z||(decide ((i:Int)+1<=z)&&decide (z<=(i:Int)+1))))->New W3 (D.a t) a4->But (λk=>k=D.s t\/InA (D.a t) k) W3 w4->∃D' col',Pf w w4 b r C (i+1) D' col' from λW3 w4 a4 k4 L4 hb hS hH hN hB=>by
         have q3:=(Q2.o.keep hb).oneSet (s:=t) (by omega) hS hN hB
         refine⟨{D with a:=upd D.a t a4,c:=upd D.c t k4,L:=upd D.L t L4},recol col W3 w4 (3+t),⟨?_,λs hs z=>?_,?_,λk hk=>?_⟩⟩
         . have e:(⟨r,jv (C.take i)++List.replicate (C.length-i) Pg.zero,[],0⟩:Po).put (i+1) (c,decide (0<c))=⟨r,jv (C.take (i+1))++List.replicate (C.length-(i+1)) Pg.zero,[],0⟩:=by
            unfold Po.put;simp only[Nat.add_sub_cancel];rw[Aw hil,sd hil,EC.o,aM];rfl
           rw[e] at q3;exact q3
         . show has (upd D.L t L4 s) z=inS (jv (C.take (i+1))) s z;rw[sd hil,EC.o,Bb,jD,bh,cY (by omega),HT.o]
           have ez:(decide ((i:Int)+1<=z)&&decide (z<=(i:Int)+1))=decide (z=((i+1:Nat):Int)):=by
            by_cases hz:z=((i+1:Nat):Int)
            . rw[ay hz,ay (by omega),ay (by omega)];rfl
            . rw[au hz];by_cases h3:(i:Int)+1<=z
              . rw[au (show ¬z<=(i:Int)+1 by omega),fZ]
              . rw[au h3,eb]
           by_cases hst:s=t
           . subst hst;rw[iF,hH,ez,HF.o.m s hs];simp
           . rw[iM _ _ hst,HF.o.m s hs,au (show ¬t=s from λe=>hst e.symm)];simp
         . refine((But.ofBelow (S:=λ_=>False) (bt BW.o hb)).trans hB (λk hk e=>?_)).below (λ_ _ h=>h)
           rcases e with rfl|⟨y,hy,rfl⟩
           . have:=HF.o.nw _ (show col (D.s t)≠0 by rw[HF.o.q.cs t (by omega)];omega);omega
           . have:=HF.o.nw _ (show col y.block≠0 by rw[HF.o.q.ca t (by omega) y hy];omega);omega
         . have sw:=(bt BW.o hb).size;by_cases e:k<W3.heap.size
           . rw[jc e] at hk;exact HF.o.nw k hk
           . omega)
        have HB:=gZ (drw W2);go_wp2_with fail
        go_region_with (first
         |(go_at_call 112;refine(ST.o _).mono ?_;rintro _ w3 ⟨rfl,hb3⟩;have HB:=gZ (bt HB.o hb3);have ct:=(Q2.o.keep HB.o).cin (s:=t) (by omega);clear hb3)
         |(go_at_call 155;refine(AD.o _ HB.o).mono ?_;rintro _ w4 ⟨rfl,a4,k4,L4,hS4,hH4,-,hN4,hB4⟩;have FF:=gZ (FIN.o _ _ a4 k4 L4 HB.o hS4 hH4 hN4 hB4);clear hS4 hH4 hN4 hB4))
       all_goals
        clear ct y0 y1 z0 z1;go_wp2;go_roundw
       all_goals first
        |(obtain⟨D',col',ff⟩:=FF.o;exact⟨i+1,D',col',by omega,by go_num,ff⟩)
        |(simp[intOf];omega)
     . obtain rfl:i=n:=by omega
       go_wp2;go_ret;have q:=HF.o.q;rw[<-HN.o,cM,dq,List.replicate_zero,bZ] at q;have m:=HF.o.m;rw[<-HN.o,cM] at m;refine⟨b,col,rfl,⟨D,q,⟨?_,?_,HR.o.1,HR.o.2,?_,λa ha=>by cases ha⟩,m⟩,HF.o.bl,HF.o.nw⟩
       . show 1<=(jv C).length;rw[jD,HN.o];exact h1
       . show(jv C).length<=_;rw[jD,HN.o];exact h2
       . intro x hx;obtain⟨c,hc,rfl⟩:=bC.1 hx;exact HH.o c hc
theorem oz(n:Nat):madeCells #[Value.int .i64 0] n=(vi (List.replicate n 0)).toArray:=by
 unfold madeCells vi;apply Array.ext
 . simp
 . intro i h1 h2;simp[Nat.mod_one]
theorem Cy(w:World)(n:Nat):Ir (w.alloc (.cells (vi (List.replicate n 0)).toArray 3)) (some ⟨w.heap.size,0,none⟩) (List.replicate n 0):=
 .inr ⟨w.heap.size,0,rfl,λi hi=>by
   rw[bG,ax _ _ _ _ _ _ (az w _)];rw[eH];exact ot _ i hi⟩
def zl(w w':World)(b:Nat)(P:Po):Prop:=∃col,Pl w' b P col/\Below w.heap.size w w'/\∀k,col k≠0->w.heap.size<=k
theorem ES(w:World)(n r:Int)(h:jF n r=false):Calls Tryz.prog 71 #[.int .i64 n,.int .i64 r] w λe w'=>e=.returned (.tuple #[.pointer none,.int .i64 1])/\w'=w:=by
 have C:=gZ (tK w n r);rw[h] at C;clear h;go_enter Tryz.func71,Tryz.ntmps71;go_wp2_with fail
 refine C.o.mono ?_;rintro _ wq ⟨rfl,hwq⟩;obtain rfl:=hwq.symm;go_wp2;go_ret2
 exact⟨rfl,rfl⟩
theorem mD{n:Int}:jF n r=true↔(1<=n/\n<=65536)/\2<=r/\r<65536:=by unfold jF;simp[and_assoc]
theorem B9(w:World)(n r:Int)(h:jF n r=true):Calls Tryz.prog 71 #[.int .i64 n,.int .i64 r] w λe w'=>∃b,e=.returned (.tuple #[.pointer (some ⟨b,0,none⟩),.int .i64 0])/\zl w w' b (Po.start r (List.replicate n.toNat 0)):=by
 have C:=gZ (tK w n r);rw[h] at C;obtain⟨⟨h1,h2⟩,h3⟩:=mD.1 h;obtain⟨m,rfl⟩:∃m:Nat,n=(m:Int):=⟨n.toNat,by omega⟩
 have hmk:=sS m (by omega) w
 rw[oz] at hmk;have aw:=al w (.cells (vi (List.replicate m 0)).toArray 3);have F:=gZ (wm (w.alloc (.cells (vi (List.replicate m 0)).toArray 3)) r (some ⟨w.heap.size,0,none⟩) m (List.replicate m 0) (Cy w m) (by rw[be];omega) (by rw[be];omega) h3 (λc hc=>by rw[(List.mem_replicate.1 hc).2];omega))
 rw[be] at F;rw[cR];have AW:=gZ aw;clear h aw h1 h2 h3;go_enter Tryz.func71,Tryz.ntmps71;go_wp2_with fail
 refine C.o.mono ?_;rintro _ wq ⟨rfl,hwq⟩;obtain rfl:=hwq.symm;go_wp2_with fail
 refine F.o.mono ?_;rintro _ w1 ⟨b,col,rfl,hP,hB,hN⟩;have HM:=gZ (show zl w w1 b (Po.start r (List.replicate m 0)) from⟨col,hP,bt AW.o hB,λk hk=>by have:=hN k hk;have:=AW.o.size;omega⟩)
 clear hP hB hN;go_wp2;go_ret2
 exact⟨b,rfl,HM.o⟩
def Po.counts(P:Po):List Int:=P.pg.map Prod.fst
def Po.pages(P:Po)(z:Int):List Int:=if 1<=z/\z<=4 then ix P.pg z.toNat else []
theorem Po.pages_len(h:P.Ok)(z:Int):(P.pages z).length<=65536:=by
 unfold Po.pages;split
 . exact aU (oU _ _) h.l2
 . simp
theorem yl(w:World)(b:Nat)(P:Po)(col:Nat->Nat)(h:Pl w b P col)(z:Int):Calls Tryz.prog 49 #[.pointer (some ⟨b,0,none⟩),.int .i64 z] w λe w'=>e=.returned (.int .i64 (((P.pages z).length:Nat):Int))/\Below w.heap.size w w':=by
 obtain⟨D,h⟩:=h;have C:=gZ (o9 w z);unfold Po.pages;by_cases h1:1<=z/\z<=4
 . rw[if_pos h1];rw[ay h1.1,ay h1.2] at C;obtain⟨s,rfl⟩:∃s:Nat,z=(s:Int):=⟨z.toNat,by omega⟩
   rw[cR];have ci:=h.q.cin (s:=s) (by omega)
   have np:=kR (h.q.set s (by omega)).can (h.mem s (by omega))
   have LE:=gZ (Ce w (D.s s) (D.a s) (D.c s) (D.L s) (h.q.set s (by omega)))
   have hl:=oU P.pg s;have:=h.ok.l2;rw[<-tH,np,cY (by unfold mxi;omega)] at LE
   clear h np hl this;generalize (ix P.pg s).length=m at *;simp only[Bool.and_self] at C;go_enter Tryz.func49,Tryz.ntmps49;go_wp2_with fail
   refine C.o.mono ?_;rintro _ wq ⟨rfl,hwq⟩;obtain rfl:=hwq.symm;go_wp2_with fail
   refine LE.o.mono ?_;rintro _ w1 ⟨rfl,hb⟩;have HB:=gZ hb;clear hb;go_wp2;go_ret;exact⟨rfl,HB.o⟩
 . rw[if_neg h1]
   have e:(decide (1<=z)&&decide (z<=4))=false:=by
    by_cases a:1<=z
    . rw[au (show ¬z<=4 by omega)];simp
    . rw[au a];simp
   rw[e] at C;clear h h1 e;go_enter Tryz.func49,Tryz.ntmps49;go_wp2_with fail
   refine C.o.mono ?_;rintro _ wq ⟨rfl,hwq⟩;obtain rfl:=hwq.symm;go_wp2;go_ret;exact⟨rfl,Below.refl _ _⟩
theorem BO:(Tryz.prog.info? 191).map (λi=>(i.zero,i.size,i.bytes))=some (some (.agg #[.nilFunc]),1,8):=by kernel_rfl
theorem Cb(w:World)(ty:TypeId)(a:Option Addr)(n cap:Nat)(B:List (Nat×Nat×Nat))(hR:Gw 191 1 w a cap n (B.map clo))(ad:Addr)(c:Nat)(t:Nat×Nat×Nat)(hc:w.cell? ad=some (clo t))(hlen:n+1<=17592186044416):
 ∃g cap' w',(Builtin.append_ #[129,129] ty #[.slice a n cap,.slice (some ad) 1 c]).run Tryz.prog w=.ok (.slice (some ⟨g,0,none⟩) (n+1) cap') w'/\
  Gw 191 1 w' (some ⟨g,0,none⟩) cap' (n+1) ((B++[t]).map clo)/\New w a (some ⟨g,0,none⟩)/\But (InA a) w w':=by
 obtain⟨i0,hi,hz0,hz1,hz2⟩:=cZ BO;have hb:(n+1)*8<=140737488355328:=by omega
 obtain⟨g,cap',w',hr,h1,h2,h3,h4⟩:=dz (P:=Tryz.prog) w 129 ty 0 191 i0 (.agg #[.nilFunc]) 1 8 Tryz.underlying129 hi hz0 hz1 hz2 rfl (by decide) (.slice a n cap) n (B.map clo) hR ad 1 c [clo t] rfl
  (by intro j u hj
      match j,hj with
      |0,hj=>simp at hj;subst hj;simpa[Addr.add] using hc) (by intro u hu;simp at hu;subst hu;rfl) (by decide) (by unfold maxLen;omega) hb (aF _) w.heap.size rfl
 rw[jG] at h2 h3;refine⟨g,cap',w',hr,by rw[bH];exact h1,?_,But.inA h2⟩
 intro y hy;simp only[aE] at hy;subst hy;rcases h3 with h3|h3
 . obtain⟨z,hz,e⟩:=map_some h3;exact .inl ⟨z,hz,e⟩
 . exact .inr (by show _<=g;omega)
theorem zQ{w:World}{ops:Array Oper}{o:Oper}{a:Act}{K:Act->World->Prop}{Q:Exit->Act->World->Prop}{E:Prop}(hgd:o.guard=none)(s x:Operand)
 (ho:o.op=.call {callee:=.builtin .append,args:=#[s,x],argTypes:=#[129,129]}) (ao:Option Addr) (n cap:Nat) (B:List (Nat×Nat×Nat)) (hs:a.eval s=.slice ao n cap) (hR:Gw 191 1 w ao cap n (B.map clo))
 (ad:Addr) (c:Nat) (t:Nat×Nat×Nat) (hx:a.eval x=.slice (some ad) 1 c) (hc:w.cell? ad=some (clo t)) (hlen:n+1<=17592186044416)
 (h:∀g cap' w',Gw 191 1 w' (some ⟨g,0,none⟩) cap' (n+1) ((B++[t]).map clo)->New w ao (some ⟨g,0,none⟩)->But (InA ao) w w'->K (a.put o.dst (.slice (some ⟨g,0,none⟩) (n+1) cap')) w'):
 if Region.wanted o (yielded ops a.tmps)=true then Oper.wp Tryz.prog o a w K Q else E:=by
 have hw:Region.wanted o (yielded ops a.tmps)=true:=by simp[Region.wanted,hgd]
 rw[if_pos hw];obtain⟨g,cap',w',hr,h1,h2,h3⟩:=Cb w o.type ao n cap B hR ad c t hc hlen;unfold Oper.wp execOp;simp only[ho,resolve,invoke,builtin,dl,dm,bN,cu,bz,cQ,hs,hx,hr];exact h g cap' w' h1 h2 h3
theorem pA{α β:Type}(A:List α)(B:List β)(a:α)(b:β)(h:A.length=B.length):(A++[a]).zip (B++[b])=A.zip B++[(a,b)]:=by
 rw[List.zip_append h];rfl
abbrev tin(t:Nat×Nat×Nat)(k:Nat):Prop:=k=t.1\/k=t.2.1\/k=t.2.2
def oM(col:Nat->Nat)(t:Nat×Nat×Nat)(k:Nat):Nat:=if tin t k then 9 else col k
theorem pS{t:Nat×Nat×Nat}(h:tin t k):oM col t k=9:=if_pos h
theorem lG{t:Nat×Nat×Nat}(h:¬tin t k):oM col t k=col k:=if_neg h
theorem Pq.grow{w W w5:World}{b:Nat}{P:Po}{D:Pd}{col:Nat->Nat}(h:Pq w b P D col)(hW:Below w.heap.size w W){g cap':Nat}{t:Nat×Nat×Nat}{x:Nat×Pg}
 (hR:Gw 191 1 w5 (some ⟨g,0,none⟩) cap' (P.ac.length+1) ((D.B++[t]).map clo)) (hN:New W D.aa (some ⟨g,0,none⟩)) (hB:But (InA D.aa) W w5) (ht:Cl w b t x) (hc:∀k,tin t k->col k=0):
 Pq (w5.setCell ⟨b,7,none⟩ (.slice (some ⟨g,0,none⟩) (P.ac.length+1) cap')) b {P with ac:=P.ac++[x]} {D with aa:=some ⟨g,0,none⟩,ac:=cap',B:=D.B++[t]} (oM (recol col w w5 8) t)/\
  But (λk=>col k≠0) w (w5.setCell ⟨b,7,none⟩ (.slice (some ⟨g,0,none⟩) (P.ac.length+1) cap'))/\(∀k,k<w.heap.size->¬tin t k->oM (recol col w w5 8) t k=col k):=by
 have bw5:But (λk=>k=b\/InA D.aa k) w (w5.setCell ⟨b,7,none⟩ (.slice (some ⟨g,0,none⟩) (P.ac.length+1) cap')):=((But.ofBelow hW).trans hB (λk _ hk=>.inr hk)).setCell (p:=⟨b,7,none⟩) (λ_=>.inl rfl) _
 have ne:∀{k:Nat},col k≠1->col k≠8->¬(k=b\/InA D.aa k):=λh1 h8 e=>by
  rcases e with rfl|⟨y,hy,rfl⟩
  . exact h1 h.cb
  . exact h8 (h.cc y hy)
 have tl:∀k,tin t k->k<w.heap.size:=λk hk=>by
  rcases hk with rfl|rfl|rfl
  . exact block_lt_of_cell ht.p
  . exact block_lt_of_cell ht.n
  . exact block_lt_of_cell ht.c
 have nt:∀{k:Nat},col k≠0->¬tin t k:=λh1 h2=>h1 (hc _ h2)
 have old:∀{k:Nat},col k≠0->oM (recol col w w5 8) t k=col k:=λhk=>(lG (nt hk)).trans (jc (h.lt _ hk))
 have hb5:w5.heap[b]?=some (.cells (jP P D) 131 (0,0)):=((But.ofBelow (S:=InA D.aa) hW).trans hB (λ_ _ h=>h)).same h.box (λ⟨y,hy,e⟩=>by have:=h.cc y hy;rw[e,h.cb] at this;cases this)
 have gb:g≠b:=λe=>by
  have:=hN ⟨g,0,none⟩ rfl;rcases this with⟨y,hy,e2⟩|h2
  . have h8:=h.cc y hy;rw[e2] at h8;have:col g=8:=h8;rw[e,h.cb] at this;cases this
  . have h2:W.heap.size<=g:=h2;have:=h.lb;have:=hW.size;omega
 have sb:But (λk=>k=b) w5 (w5.setCell ⟨b,7,none⟩ (.slice (some ⟨g,0,none⟩) (P.ac.length+1) cap')):=(But.refl (λk=>k=b) w5).setCell (p:=⟨b,7,none⟩) (λ_=>rfl) _
 refine⟨⟨?_,bw5.same h.pgs (ne (by rw[h.cg];decide) (by rw[h.cg];decide)),λs hs=>(h.set s hs).but bw5 (ne (by rw[h.cs s hs];omega) (by rw[h.cs s hs];omega)) (λy hy=>ne (by rw[h.ca s hs y hy];omega) (by rw[h.ca s hs y hy];omega)),?_,?_,?_,(old (by rw[h.cb];decide)).trans h.cb,(old (by rw[h.cg];decide)).trans h.cg,λs hs=>(old (by rw[h.cs s hs];omega)).trans (h.cs s hs),λs hs y hy=>(old (by rw[h.ca s hs y hy];omega)).trans (h.ca s hs y hy),?_,?_,?_⟩,?_,?_⟩
 . rw[aR _ _ _ _ _ _ hb5];show some (Obj.cells _ _ _)=some (Obj.cells (jP _ _) _ _);unfold jP;simp
 . rw[ae];exact hR.but sb (λy hy e=>by cases hy;exact gb e)
 . rw[ae,ae,h.acl];rfl
 . intro q hq;rw[pA _ _ _ _ h.acl] at hq;rcases bj.1 hq with hq|hq
   . obtain⟨c1,c2,c3⟩:=h.cB _ (jX hq).1;exact(h.acb q hq).but bw5 (ne (by rw[c1];decide) (by rw[c1];decide)) (ne (by rw[c2];decide) (by rw[c2];decide)) (ne (by rw[c3];decide) (by rw[c3];decide))
   . obtain rfl:=aQ.1 hq;have z1:=hc t.1 (.inl rfl);have z2:=hc t.2.1 (.inr (.inl rfl));have z3:=hc t.2.2 (.inr (.inr rfl));exact ht.but bw5 (ne (by rw[z1];decide) (by rw[z1];decide)) (ne (by rw[z2];decide) (by rw[z2];decide)) (ne (by rw[z3];decide) (by rw[z3];decide))
 . rintro y hy;simp only[aE] at hy;subst hy;show oM (recol col w w5 8) t g=8;rcases hN ⟨g,0,none⟩ rfl with⟨y,hy,e2⟩|h2
   . have h8:col g=8:=by rw[<-(show y.block=g from e2)];exact h.cc y hy
     exact(old (by rw[h8];decide)).trans h8
   . have h2:W.heap.size<=g:=h2;have s1:=hW.size;have hg:g<w5.heap.size:=hR.lt rfl;rw[lG (λhk=>by have:=tl _ hk;omega)]
     exact j9 (by omega) hg
 . intro u hu;rcases bj.1 hu with hu|hu
   . obtain⟨c1,c2,c3⟩:=h.cB u hu;exact⟨(old (by rw[c1];decide)).trans c1,(old (by rw[c2];decide)).trans c2,(old (by rw[c3];decide)).trans c3⟩
   . obtain rfl:=aQ.1 hu;exact⟨pS (.inl rfl),pS (.inr (.inl rfl)),pS (.inr (.inr rfl))⟩
 . intro k hk;have s1:=bw5.size;by_cases e:tin t k
   . exact aZ (tl k e) s1
   . rw[lG e] at hk;have s2:w.heap.size<=w5.heap.size:=aU hW.size hB.size;exact aZ (mu s2 hk) sb.size
 . exact bw5.mono λk _ hk=>by
    rcases hk with rfl|⟨y,hy,rfl⟩
    . rw[h.cb];decide
    . rw[h.cc y hy];decide
 . intro k hk hn;rw[lG hn];exact jc hk
theorem rt(w:World)(b:Nat)(P:Po)(col:Nat->Nat)(h:Pl w b P col)(n:Nat)(h1:1<=n)(h2:n<=P.pg.length)(c:Int)(hc:0<=c/\c<=P.rf)(hm:P.ac.length+1<=17592186044416):
 Calls Tryz.prog 147 #[.pointer (some ⟨b,0,none⟩),.int .i64 ((n:Nat):Int),.int .i64 c] w λe w'=>e=.returned (.tuple #[])/\∃col',Pl w' b (P.act n c) col'/\Fr w col w' col':=by
 obtain⟨D,h⟩:=h;obtain⟨i,rfl⟩:∃i:Nat,n=i+1:=⟨n-1,by omega⟩
 have hi:i<P.pg.length:=by omega
 have hl2:=h.ok.l2;obtain⟨W1,hW1⟩:∃W1,(w.alloc (.cells #[.pointer (some ⟨b,0,none⟩)] 80)).alloc (.cells #[.int .i64 ((i:Int)+1)] 3)=W1:=⟨_,rfl⟩;have b1:Below w.heap.size w W1:=by rw[<-hW1];exact bt (al _ _) (al _ _)
 have sz1:W1.heap.size=w.heap.size+1+1:=by rw[<-hW1,size_alloc,size_alloc]
 have p1:W1.cell? ⟨w.heap.size,0,none⟩=some (.pointer (some ⟨b,0,none⟩)):=by
  rw[<-hW1];exact((al _ _).cell (p:=⟨w.heap.size,0,none⟩) (by rw[size_alloc];show w.heap.size<_;omega)).trans (iC w _ _)
 have n1:W1.cell? ⟨w.heap.size+1,0,none⟩=some (.int .i64 ((i:Int)+1)):=by
  rw[<-hW1];have:=iC (w.alloc (.cells #[.pointer (some ⟨b,0,none⟩)] 80)) (.int .i64 ((i:Int)+1)) 3;rwa [size_alloc] at this
 have q1:=h.q.keep b1;have c1:=q1.c1;obtain⟨d1,d2⟩:=q1.pgAt hi;have s1:IntKind.i64.wrap (i:Int)=(i:Int):=im (by omega) (by omega)
 have s2:wrap64 (i:Int)=(i:Int):=by unfold wrap64;omega
 have hiI:(i:Int)<(P.pg.length:Int):=by omega
 have HM:=gZ h;have HC:=gZ hc;have HP2:=gZ hl2;have B1:=gZ b1;have c1':W1.drew.cell? ⟨b,1,none⟩=_:=c1;have d1':W1.drew.cell? ⟨D.g,i*2,none⟩=_:=d1;have d2':W1.drew.cell? ⟨D.g,i*2+1,none⟩=_:=d2;have p1':W1.drew.cell? ⟨w.heap.size,0,none⟩=_:=p1;have n1':W1.drew.cell? ⟨w.heap.size+1,0,none⟩=_:=n1;have aW:=al W1 (.cells #[.int .i64 0,.bool false] 133);have qA:=q1.keep aW;have e1:=qA.c1;obtain⟨e2,e3⟩:=qA.pgAt hi;have e4:(W1.alloc (.cells #[.int .i64 0,.bool false] 133)).cell? ⟨w.heap.size,0,none⟩=_:=(aW.cell (p:=⟨w.heap.size,0,none⟩) (block_lt_of_cell p1)).trans p1;have e5:(W1.alloc (.cells #[.int .i64 0,.bool false] 133)).cell? ⟨w.heap.size+1,0,none⟩=_:=(aW.cell (p:=⟨w.heap.size+1,0,none⟩) (block_lt_of_cell n1)).trans n1;have e1':(W1.alloc (.cells #[.int .i64 0,.bool false] 133)).drew.cell? ⟨b,1,none⟩=_:=e1;have e2':(W1.alloc (.cells #[.int .i64 0,.bool false] 133)).drew.cell? ⟨D.g,i*2,none⟩=_:=e2;have e3':(W1.alloc (.cells #[.int .i64 0,.bool false] 133)).drew.cell? ⟨D.g,i*2+1,none⟩=_:=e3;have e4':(W1.alloc (.cells #[.int .i64 0,.bool false] 133)).drew.cell? ⟨w.heap.size,0,none⟩=_:=e4;have e5':(W1.alloc (.cells #[.int .i64 0,.bool false] 133)).drew.cell? ⟨w.heap.size+1,0,none⟩=_:=e5;obtain⟨x,hx⟩:∃x,P.pg.getD i Pg.zero=x:=⟨_,rfl⟩;have HXX:=gZ hx;rw[hx] at d1 d2 d1' d2' e2 e3 e2' e3';obtain⟨x0,x1⟩:=x;simp only at d1 d2 d1' d2' e2 e3 e2' e3';clear h hc hl2 b1 q1 hx qA aW;have HW1:=gZ hW1;clear hW1;go_enter Tryz.func147,Tryz.ntmps147;go_wp2;rw[HW1.o];go_region
 clear e1 e2 e3 e4 e5 e1' e2' e3' e4' e5' c1 c1' d1 d2 d1' d2' p1' n1';have X3:=iq W1 x0 x1;have a3:=al W1 (.cells #[.int .i64 x0,.bool x1] 133);have b3:Below W1.heap.size W1 (W1.alloc (.cells #[.int .i64 x0,.bool x1] 133)).drew:=bt a3 (drw _);have X3':=rQ X3 (drw _);rw[sz1] at X3';obtain⟨W3,hW3⟩:∃W3,(W1.alloc (.cells #[.int .i64 x0,.bool x1] 133)).drew=W3:=⟨_,rfl⟩;rw[hW3] at X3' b3 ⊢;have cl3:Cl W3 b (w.heap.size,w.heap.size+1,w.heap.size+1+1) (i+1,(x0,x1)):=⟨(b3.cell (p:=⟨w.heap.size,0,none⟩) (block_lt_of_cell p1)).trans p1,by rw[show(((i+1,(x0,x1)):Nat×Pg).1:Int)=(i:Int)+1 by simp];exact(b3.cell (p:=⟨w.heap.size+1,0,none⟩) (block_lt_of_cell n1)).trans n1,X3'.1,X3'.2⟩
 have k0:=X3'.1;have k1:=X3'.2;have k2:=(b3.cell (p:=⟨w.heap.size,0,none⟩) (block_lt_of_cell p1)).trans p1;have k3:=(b3.cell (p:=⟨w.heap.size+1,0,none⟩) (block_lt_of_cell n1)).trans n1;have B3:=gZ (bt B1.o b3);have M3:Pm W3 b P col D:=⟨HM.o.q.keep B3.o,HM.o.ok,HM.o.mem⟩;have SET:=gZ (vp W3 b P D col M3 (i+1) h1 h2 (c,x1) HC.o);rw[show(((i+1:Nat)):Int)=(i:Int)+1 by omega] at SET
 have CL3:=gZ cl3;clear cl3 X3 a3 b3 X3' hW3 M3 p1 n1 HW1;go_wp2_with fail
 refine SET.o.mono ?_;rintro _ w4 ⟨rfl,col4,⟨D4,h4⟩,f4⟩
 have tz:∀k,tin (w.heap.size,w.heap.size+1,w.heap.size+1+1) k->col k=0/\w.heap.size<=k/\k<W3.heap.size:=λk hk=>by
  have s3:=block_lt_of_cell k0;have s3:w.heap.size+1+1<W3.heap.size:=s3
  have g:w.heap.size<=k/\k<W3.heap.size:=by
   rcases hk with rfl|rfl|rfl
   . exact⟨ai _,by show w.heap.size<_;omega⟩
   . exact⟨by show _<=w.heap.size+1;omega,by show w.heap.size+1<_;omega⟩
   . exact⟨by show _<=w.heap.size+1+1;omega,s3⟩
  refine⟨?_,g⟩;by_cases hz:col k=0
  . exact hz
  . have:=HM.o.q.lt k hz;omega
 have tz4:∀k,tin (w.heap.size,w.heap.size+1,w.heap.size+1+1) k->col4 k=0:=λk hk=>(f4.c k (tz k hk).2.2).trans (tz k hk).1
 have cl4:=CL3.o.but f4.b (λh=>h (tz _ (.inl rfl)).1) (λh=>h (tz _ (.inr (.inl rfl))).1) (λh=>h (tz _ (.inr (.inr rfl))).1)
 have CL4:=gZ cl4;have H4:=gZ h4;have F4:=gZ f4;have TZ:=gZ tz;have TZ4:=gZ tz4;have m0:=cl4.p;clear cl4 tz tz4 k0 k1 k2 k3 CL3 SET;simp only at m0;have c7:=h4.q.c7;have f7:=h4.q.free 7;obtain⟨t,ht⟩:∃t,(w.heap.size,w.heap.size+1,w.heap.size+1+1)=t:=⟨_,rfl⟩;have aw:=al w4 (.cells #[.func (.func 167) #[] #[.pointer (some ⟨w.heap.size,0,none⟩),.pointer (some ⟨w.heap.size+1,0,none⟩),.pointer (some ⟨w.heap.size+1+1,0,none⟩)]] 191);have nw:=iC w4 (.func (.func 167) #[] #[.pointer (some ⟨w.heap.size,0,none⟩),.pointer (some ⟨w.heap.size+1,0,none⟩),.pointer (some ⟨w.heap.size+1+1,0,none⟩)]) 191;obtain⟨W5,hW5⟩:∃W5,W5=w4.alloc (.cells #[.func (.func 167) #[] #[.pointer (some ⟨w.heap.size,0,none⟩),.pointer (some ⟨w.heap.size+1,0,none⟩),.pointer (some ⟨w.heap.size+1+1,0,none⟩)]] 191):=⟨_,rfl⟩;rw[<-hW5] at aw nw;have B5:=gZ (bt aw (drw _));have q5:=h4.q.keep B5.o;have G5:=gZ q5.acr;have m5:W5.drew.cell? ⟨w.heap.size,0,none⟩=some (.pointer (some ⟨b,0,none⟩)):=(B5.o.cell (p:=⟨w.heap.size,0,none⟩) (block_lt_of_cell m0)).trans m0;have m5':W5.cell? ⟨w.heap.size,0,none⟩=some (.pointer (some ⟨b,0,none⟩)):=m5;have c75:=q5.c7;have c75':W5.cell? ⟨b,7,none⟩=_:=c75;have f75:=q5.free 7;have m0':w4.drew.cell? ⟨w.heap.size,0,none⟩=some (.pointer (some ⟨b,0,none⟩)):=m0;have c7':w4.drew.cell? ⟨b,7,none⟩=_:=c7;have NW:=gZ (show W5.drew.cell? ⟨w4.heap.size,0,none⟩=some (clo t) by rw[<-ht];exact nw)
 have eP:P.act (i+1) c={P.put (i+1) (c,x1) with ac:=(P.put (i+1) (c,x1)).ac++[(i+1,(x0,x1))]}:=by
  unfold Po.act Po.put Po.at;rw[show i+1-1=i from rfl,HXX.o]
 have FIN:=gZ (show ∀(g cap':Nat)(w5:World),Gw 191 1 w5 (some ⟨g,0,none⟩) cap' (P.ac.length+1) ((D4.B++[t]).map clo)->New W5.drew D4.aa (some ⟨g,0,none⟩)->But (InA D4.aa) W5.drew w5->
  ∃col',Pl (w5.setCell ⟨b,7,none⟩ (.slice (some ⟨g,0,none⟩) (P.ac.length+1) cap')) b (P.act (i+1) c) col'/\Fr w col (w5.setCell ⟨b,7,none⟩ (.slice (some ⟨g,0,none⟩) (P.ac.length+1) cap')) col' from λg cap' w5 hR hN hB=>by
  obtain⟨g1,g2,g3⟩:=h4.q.grow (W:=W5.drew) (w5:=w5) B5.o hR hN hB (by rw[<-ht];exact CL4.o) (by rw[<-ht];exact TZ4.o)
  have ok:=HM.o.ok.act h1 h2 HC.o;rw[eP] at ok ⊢;have b3:=B3.o.size;refine⟨_,⟨_,g1,ok,h4.mem⟩,⟨((But.ofBelow (S:=λk=>col k≠0) B3.o).trans f4.b (λ_ _ h=>h)).trans g2 (λk hk h=>by rw[f4.c k (by omega)] at h;exact h),λk hk=>?_⟩⟩
  have s4:=f4.b.size;rw[g3 k (by omega) (λhk2=>by rw[<-ht] at hk2;have:=(TZ.o k hk2).2.1;omega)]
  exact f4.c k (by omega))
 have CB:=gZ h4.q.cb;have CC:=gZ h4.q.cc;have LB:=gZ h4.q.lb;clear h4 f4 aw nw q5;subst hW5;rw[show(P.put (i+1) (c,x1)).ac.length=P.ac.length from rfl] at*
 clear eP;generalize hac:P.ac.length=nn at *;clear hac;go_wp2_with fail
 go_region_law
  (refine zQ rfl _ _ rfl D4.aa nn D4.ac D4.B (by first|(simp[Act.eval];done)|simp[Act.eval,Act.put]) G5.o ⟨w4.heap.size,0,none⟩ 1 t (by first|(simp[Act.eval];done)|simp[Act.eval,Act.put]) NW.o hm ?_
   intro g cap' w5 hR hN hB;have cS:w5.cell? ⟨b,7,none⟩=_:=(hB.cell (p:=⟨b,7,none⟩) (block_lt_of_cell c75) (λ⟨y,hy,e⟩=>by have:=CC.o y hy;rw[e] at this;have e2:col4 b=8:=this;rw[CB.o] at e2;cases e2)).trans c75
   have fS:w5.frozen? ⟨b,7,none⟩=false:=(hB.frozen (p:=⟨b,7,none⟩) (block_lt_of_cell c75) (λ⟨y,hy,e⟩=>by have:=CC.o y hy;rw[e] at this;have e2:col4 b=8:=this;rw[CB.o] at e2;cases e2)).trans f75
   have mS:w5.cell? ⟨w.heap.size,0,none⟩=_:=(hB.cell (p:=⟨w.heap.size,0,none⟩) (block_lt_of_cell m5) (λ⟨y,hy,e⟩=>by have:=CC.o y hy;rw[e] at this;have e2:col4 w.heap.size=8:=this;rw[TZ4.o _ (.inl rfl)] at e2;cases e2)).trans m5
   have FF:=gZ (FIN.o g cap' w5 hR hN hB);clear hR hN hB)
 all_goals
  go_end0
  exact⟨rfl,FF.o⟩
def Po.alloc(P:Po):(Int×Int)×Po:=match ix P.pg 1 with
 | []=>((0,12),P)
 |n::_=>((n,0),P.act n.toNat 1)
def Po.inc(P:Po)(z:Int):Int×Po:=if P.count z=0 then (15,P) else if P.count z=P.rf then (13,P) else (0,P.act z.toNat (P.count z+1))
def Po.dec(P:Po)(z:Int):(Int×Int)×Po:=if P.count z=0 then ((0,15),P) else ((P.count z-1,0),P.act z.toNat (P.count z-1))
theorem Po.count_has{z:Int}(h:P.count z≠0):1<=z/\z<=P.pg.length:=by
 unfold Po.count at h;split at h
 . exact Po.has_iff.1 (by assumption)
 . exact absurd rfl h
theorem Po.Ok.count(h:P.Ok)(z:Int):0<=P.count z/\P.count z<=P.rf:=by
 unfold Po.count;split
 . rename_i hz;have:=Po.has_iff.1 hz;exact h.cs _ (jK (by omega))
 . have:=h.r1;omega
theorem yR(w:World)(b:Nat)(P:Po)(col:Nat->Nat)(h:Pl w b P col)(hm:P.ac.length+1<=17592186044416):
 Calls Tryz.prog 130 #[.pointer (some ⟨b,0,none⟩)] w λe w'=>e=.returned (.tuple #[.int .i64 P.alloc.1.1,.int .i64 P.alloc.1.2])/\∃col',Pl w' b P.alloc.2 col'/\Fr w col w' col':=by
 have HP:=gZ h;obtain⟨D,h⟩:=h;have c1:=h.q.cin (s:=1) (by decide)
 have LO:=gZ (wQ w (D.s 1) (D.a 1) (D.c 1) (D.L 1) (h.q.set 1 (by decide)))
 have np:=kR (h.q.set 1 (by decide)).can (h.mem 1 (by decide))
 have hle:=(h.q.set 1 (by decide)).can.1
 change w.cell? ⟨b,3,none⟩=_ at c1;by_cases h0:D.L 1=[]
 . have e:P.alloc=((0,12),P):=by
    unfold Po.alloc;rw[<-np,h0];rfl
   rw[e];rw[h0] at LO;simp only[List.isEmpty_nil,Bool.not_true] at LO;clear h np hle h0 e;go_enter Tryz.func130,Tryz.ntmps130;go_wp2_with fail
   refine LO.o.mono ?_;rintro _ _ ⟨rfl,rfl⟩;go_wp2;go_ret2
   exact⟨rfl,col,HP.o,Fr.refl _ _⟩
 . have nl:=zN hle h0
   have e:P.alloc=((low (D.L 1),0),P.act (low (D.L 1)).toNat 1):=by
    unfold Po.alloc;rw[<-np,nl]
   have hin:=jt.1 ((iX P.pg 1 (low (D.L 1))).1 (by rw[<-np,nl];simp))
   have hne:(D.L 1).isEmpty=false:=by cases hL:D.L 1 with
    |nil=>exact absurd hL h0
    |cons=>rfl
   rw[e];rw[hne] at LO;obtain⟨h1,h2,h3⟩:=hin;obtain⟨n,hn⟩:∃n:Nat,low (D.L 1)=(n:Int):=⟨(low (D.L 1)).toNat,by omega⟩
   rw[hn] at h1 h2 LO ⊢;have AC:=gZ (rt w b P col HP.o n (by omega) (by omega) 1 ⟨by decide,by have:=h.ok.r1;omega⟩ hm)
   rw[cR];simp only[Bool.not_false] at LO;clear h np hle h0 e nl hne hn h1 h2 h3;go_enter Tryz.func130,Tryz.ntmps130;go_wp2_with fail
   refine LO.o.mono ?_;rintro _ _ ⟨rfl,rfl⟩;go_wp2_with fail
   refine AC.o.mono ?_;rintro _ w1 ⟨rfl,hc⟩;have HC:=gZ hc;clear hc;go_wp2;go_ret2
   exact⟨rfl,HC.o⟩
theorem u7(w:World)(b:Nat)(P:Po)(col:Nat->Nat)(h:Pl w b P col)(z:Int)(hm:P.ac.length+1<=17592186044416):
 Calls Tryz.prog 108 #[.pointer (some ⟨b,0,none⟩),.int .i64 z] w λe w'=>e=.returned (.int .i64 (P.inc z).1)/\∃col',Pl w' b (P.inc z).2 col'/\Fr w col w' col':=by
 have HP:=gZ h;obtain⟨D,h⟩:=h;have CO:=gZ (oB w b P D col h.q h.ok.l2 z);have c0:=h.q.c0;have hk:=h.ok.count z;have r2:=h.ok.r2;unfold Po.inc;by_cases h0:P.count z=0
 . rw[if_pos h0];rw[h0] at CO;clear h h0 hk r2;go_enter Tryz.func108,Tryz.ntmps108;go_wp2_with fail
   refine CO.o.mono ?_;rintro _ _ ⟨rfl,rfl⟩;go_wp2;go_ret;exact⟨rfl,col,HP.o,Fr.refl _ _⟩
 . rw[if_neg h0];have q0:(P.count z==0)=false:=by simp[h0]
   by_cases h1:P.count z=P.rf
   . rw[if_pos h1];have q1:(P.rf==P.rf)=true:=by simp
     rw[h1] at CO q0;generalize P.rf=r at *;clear h h0 h1 hk r2;go_enter Tryz.func108,Tryz.ntmps108;go_wp2_with fail
     refine CO.o.mono ?_;rintro _ _ ⟨rfl,rfl⟩;go_wp2;go_ret;exact⟨rfl,col,HP.o,Fr.refl _ _⟩
   . rw[if_neg h1];have q1:(P.count z==P.rf)=false:=by simp[h1]
     obtain⟨z1,z2⟩:=Po.count_has h0;obtain⟨n,rfl⟩:∃n:Nat,z=(n:Int):=⟨z.toNat,by omega⟩
     have AC:=gZ (rt w b P col HP.o n (by omega) (by omega) (P.count n+1) ⟨by omega,by omega⟩ hm)
     rw[cR];have s1:IntKind.i64.wrap (P.count n+1)=P.count n+1:=im (by omega) (by omega)
     have s2:wrap64 (P.count n+1)=P.count n+1:=by unfold wrap64;omega
     clear h h0 h1 hk r2 z1 z2 hm;show Calls _ _ _ _ λe w'=>e=.returned (.int .i64 0)/\∃col',Pl w' b (P.act n (P.count n+1)) col'/\Fr w col w' col'
     generalize P.count (n:Int)=k at *;go_enter Tryz.func108,Tryz.ntmps108;go_wp2_with fail
     refine CO.o.mono ?_;rintro _ _ ⟨rfl,rfl⟩;go_wp2_with fail
     refine AC.o.mono ?_;rintro _ w1 ⟨rfl,hc⟩;have HC:=gZ hc;clear hc;go_wp2;go_ret;exact⟨rfl,HC.o⟩
theorem BE(w:World)(b:Nat)(P:Po)(col:Nat->Nat)(h:Pl w b P col)(z:Int)(hm:P.ac.length+1<=17592186044416):
 Calls Tryz.prog 165 #[.pointer (some ⟨b,0,none⟩),.int .i64 z] w λe w'=>e=.returned (.tuple #[.int .i64 (P.dec z).1.1,.int .i64 (P.dec z).1.2])/\∃col',Pl w' b (P.dec z).2 col'/\Fr w col w' col':=by
 have HP:=gZ h;obtain⟨D,h⟩:=h;have CO:=gZ (oB w b P D col h.q h.ok.l2 z);have hk:=h.ok.count z;have r2:=h.ok.r2;unfold Po.dec;by_cases h0:P.count z=0
 . rw[if_pos h0];rw[h0] at CO;clear h h0 hk r2;go_enter Tryz.func165,Tryz.ntmps165;go_wp2_with fail
   refine CO.o.mono ?_;rintro _ _ ⟨rfl,rfl⟩;go_wp2;go_ret2
   exact⟨rfl,col,HP.o,Fr.refl _ _⟩
 . rw[if_neg h0];have q0:(P.count z==0)=false:=by simp[h0]
   obtain⟨z1,z2⟩:=Po.count_has h0;obtain⟨n,rfl⟩:∃n:Nat,z=(n:Int):=⟨z.toNat,by omega⟩
   have AC:=gZ (rt w b P col HP.o n (by omega) (by omega) (P.count n-1) ⟨by omega,by omega⟩ hm)
   rw[cR];have s1:IntKind.i64.wrap (P.count n-1)=P.count n-1:=im (by omega) (by omega)
   have s2:wrap64 (P.count n-1)=P.count n-1:=by unfold wrap64;omega
   clear h h0 hk r2 z1 z2 hm;show Calls _ _ _ _ λe w'=>e=.returned (.tuple #[.int .i64 (P.count n-1),.int .i64 0])/\∃col',Pl w' b (P.act n (P.count n-1)) col'/\Fr w col w' col'
   generalize P.count (n:Int)=k at *;go_enter Tryz.func165,Tryz.ntmps165;go_wp2_with fail
   refine CO.o.mono ?_;rintro _ _ ⟨rfl,rfl⟩;go_wp2_with fail
   refine AC.o.mono ?_;rintro _ w1 ⟨rfl,hc⟩;have HC:=gZ hc;clear hc;go_wp2;go_ret2
   exact⟨rfl,HC.o⟩
theorem zm(w:World)(b:Nat)(P:Po)(D:Pd)(col:Nat->Nat)(h:Pm w b P col D)(t:Nat×Nat×Nat)(x:Nat×Pg)(hcl:Cl w b t x)(hx:(1<=x.1/\x.1<=P.pg.length)/\0<=x.2.1/\x.2.1<=P.rf):
 Calls Tryz.prog 167 #[.pointer (some ⟨t.1,0,none⟩),.pointer (some ⟨t.2.1,0,none⟩),.pointer (some ⟨t.2.2,0,none⟩)] w λe w'=>e=.returned (.tuple #[])/\∃col',Pl w' b (P.put x.1 x.2) col'/\Fr w col w' col':=by
 have ST:=gZ (vp w b P D col h x.1 hx.1.1 hx.1.2 x.2 hx.2);obtain⟨p,n,c,l⟩:=hcl;obtain⟨t1,t2,t3⟩:=t;obtain⟨k,y0,y1⟩:=x;simp only at *;clear h hx;go_enter Tryz.func167,Tryz.ntmps167;go_wp2_with fail
 refine ST.o.mono ?_;rintro _ w1 ⟨rfl,hc⟩;have HC:=gZ hc;clear hc;go_wp2;go_end0
 exact⟨rfl,HC.o⟩
theorem Pq.drop{w:World}{b:Nat}(h:Pq w b P D col){A:List (Nat×Pg)}{x:Nat×Pg}(e:P.ac=A++[x]):
 ∃g,D.aa=some ⟨g,0,none⟩/\(∃v,w.cell? ⟨g,A.length,none⟩=some v)/\w.frozen? ⟨g,A.length,none⟩=false/\g≠b/\A.length<D.ac/\D.ac<=maxLen/\
  Pq ((w.setCell ⟨g,A.length,none⟩ .nilFunc).setCell ⟨b,7,none⟩ (.slice (some ⟨g,0,none⟩) A.length D.ac)) b {P with ac:=A} {D with B:=D.B.dropLast} col/\
  But (λk=>col k≠0) w ((w.setCell ⟨g,A.length,none⟩ .nilFunc).setCell ⟨b,7,none⟩ (.slice (some ⟨g,0,none⟩) A.length D.ac)):=by
 have hl:P.ac.length=A.length+1:=by rw[e,ae];rfl
 have hr:=h.acr;rw[hl] at hr;rcases hr.cases with⟨_,_,h0,_⟩|⟨g,cur,ha,hg,h1,h2,h3,h4⟩
 . omega
 have c8:col g=8:=h.cc ⟨g,0,none⟩ ha;have gb:g≠b:=λe=>by rw[e,h.cb] at c8;cases c8
 have hlt:A.length<cur.size:=by omega
 obtain⟨B',u,hB⟩:∃B' u,D.B=B'++[u]:=by
  rcases gG D.B with h0|⟨B',u,h0⟩
  . have:=h.acl;rw[h0,hl] at this;simp at this
  . exact⟨B',u,by rw[h0,gH]⟩
 have hBl:B'.length=A.length:=by have:=h.acl;rw[hB,hl,ae] at this;simpa using this
 have bw:But (λk=>k=g\/k=b) w ((w.setCell ⟨g,A.length,none⟩ .nilFunc).setCell ⟨b,7,none⟩ (.slice (some ⟨g,0,none⟩) A.length D.ac)):=((But.refl (λk=>k=g\/k=b) w).setCell (p:=⟨g,A.length,none⟩) (λ_=>.inl rfl) _).setCell (p:=⟨b,7,none⟩) (λ_=>.inr rfl) _
 have ne:∀{k:Nat},col k≠8->col k≠1->¬(k=g\/k=b):=λn8 n1 e=>by
  rcases e with rfl|rfl
  . exact n8 c8
  . exact n1 h.cb
 have hbg:(w.setCell ⟨g,A.length,none⟩ .nilFunc).heap[b]?=some (.cells (jP P D) 131 (0,0)):=(Below.heap_setCell _ _ _ _ (λe=>gb e.symm)).trans h.box
 refine⟨g,ha,⟨cur[A.length],?_⟩,by simp[World.frozen?,hg],gb,by omega,h2,⟨?_,bw.same h.pgs (ne (by rw[h.cg];decide) (by rw[h.cg];decide)),λs hs=>(h.set s hs).but bw (ne (by rw[h.cs s hs];omega) (by rw[h.cs s hs];omega)) (λy hy=>ne (by rw[h.ca s hs y hy];omega) (by rw[h.ca s hs y hy];omega)),?_,?_,?_,h.cb,h.cg,h.cs,h.ca,h.cc,λt ht=>h.cB t (by rw[hB,fP] at ht;rw[hB];exact fQ _ ht),λk hk=>aZ (h.lt k hk) bw.size⟩,bw.mono λk _ hk=>?_⟩
 . rw[ax _ _ _ _ _ _ hg];exact Array.getElem?_eq_getElem hlt
 . rw[aR _ _ _ _ _ _ hbg];show some (Obj.cells _ _ _)=some (Obj.cells (jP _ _) _ _);unfold jP;rw[<-ha];simp
 . show Gw 191 1 _ D.aa D.ac A.length (D.B.dropLast.map clo);rw[ha];have hg2:=aR w g A.length cur 191 .nilFunc hg;have hg3:((w.setCell ⟨g,A.length,none⟩ .nilFunc).setCell ⟨b,7,none⟩ (.slice (some ⟨g,0,none⟩) A.length D.ac)).heap[g]?=_:=(Below.heap_setCell _ _ _ _ gb).trans hg2;refine Gw.mk (by rw[hB];simp[hBl]) hg3 (by omega) h2 (by simpa using h3) ?_
   rw[dQ,dM,fB]
   have:(cur.toList.take A.length)=D.B.dropLast.map clo:=by
    rw[hB,fP];rw[hB,bH,dM] at h4;have:=aY (List.take A.length) h4;rw[eZ,cY (by omega),dE (by rw[a7,hBl];exact ai _),<-hBl,<-a7 (f:=clo),cM] at this
    rw[<-hBl,<-a7 (f:=clo)];exact this
   rw[this];exact List.set_eq_of_length_le (by rw[hB];simp[hBl])
 . rw[hB,fP];exact hBl
 . intro q hq
   have hq':q∈D.B.zip P.ac:=by
    rw[hB,fP] at hq;rw[hB,e,pA _ _ _ _ hBl];exact fQ _ hq
   obtain⟨c1,c2,c3⟩:=h.cB _ (jX hq').1;exact(h.acb q hq').but bw (ne (by rw[c1];decide) (by rw[c1];decide)) (ne (by rw[c2];decide) (by rw[c2];decide)) (ne (by rw[c3];decide) (by rw[c3];decide))
 . rcases hk with rfl|rfl
   . rw[c8];decide
   . rw[h.cb];decide
theorem Pq.last{w:World}{b:Nat}(h:Pq w b P D col){A:List (Nat×Pg)}{x:Nat×Pg}(e:P.ac=A++[x]):
 ∃g t,D.aa=some ⟨g,0,none⟩/\w.cell? ⟨g,A.length,none⟩=some (clo t)/\Cl w b t x:=by
 have hl:P.ac.length=A.length+1:=by rw[e,ae];rfl
 have hr:=h.acr;rw[hl] at hr
 obtain⟨B',u,hB⟩:∃B' u,D.B=B'++[u]:=by
  rcases gG D.B with h0|⟨B',u,h0⟩
  . have:=h.acl;rw[h0,hl] at this;simp at this
  . exact⟨B',u,by rw[h0,gH]⟩
 have hBl:B'.length=A.length:=by have:=h.acl;rw[hB,hl,ae] at this;simpa using this
 obtain⟨g,ha⟩:=hr.addr (by omega)
 rw[ha] at hr;refine⟨g,u,ha,hr.cell ?_,h.acb (u,x) ?_⟩
 . rw[hB,bH,<-hBl,<-a7 (f:=clo),bi (ai _),dq];rfl
 . rw[hB,e,pA _ _ _ _ hBl];simp
def Po.canUndo(P:Po)(m:Int):Bool:=decide ((P.fl:Int)<=m)&&decide (m<=(P.mark:Int))
def Po.undo(P:Po)(m:Int):Po:=if P.canUndo m then Po.back ((P.mark:Int)-m).toNat P else P
def kV(b:Nat)(w:World):Nat:=match w.cell? ⟨b,7,none⟩ with
 |some (.slice _ n _)=>n
 |_=>0
theorem Pl.acts{w:World}{b:Nat}(h:Pl w b P col):kV b w=P.ac.length:=by
 obtain⟨D,h⟩:=h;unfold kV;rw[h.q.c7]
theorem AX(w:World)(b:Nat)(P:Po)(col:Nat->Nat)(h:Pl w b P col)(m:Int)(hm:P.mark<=9223372036854775807):
 Calls Tryz.prog 164 #[.pointer (some ⟨b,0,none⟩),.int .i64 m] w λe w'=>e=.returned (.bool (P.canUndo m))/\∃col',Pl w' b (P.undo m) col'/\Fr w col w' col':=by
 have HP:=gZ h;have c8:w.cell? ⟨b,8,none⟩=some (.int .i64 ((P.fl:Nat):Int)):=by obtain⟨D,h⟩:=h;exact h.q.c8
 have MK:=gZ (show ∀(W:World)(P':Po)(c':Nat->Nat),Pl W b P' c'->P'.mark<=9223372036854775807->Calls Tryz.prog 142 #[.pointer (some ⟨b,0,none⟩)] W λe w'=>e=.returned (.int .i64 ((P'.mark:Nat):Int))/\Below W.heap.size W w' from λW P' c' h hm=>by
  obtain⟨D,h⟩:=h;exact py W b P' D c' h.q hm)
 have HM:=gZ hm;clear h;unfold Po.undo Po.canUndo;by_cases h1:(P.fl:Int)<=m
 . have d1:decide ((P.fl:Int)<=m)=true:=ay h1;have d1':decide (m<(P.fl:Int))=false:=au (by omega)
   by_cases h2:m<=(P.mark:Int)
   . have d2:decide (m<=(P.mark:Int))=true:=ay h2;have d2':decide ((P.mark:Int)<m)=false:=au (by omega)
     rw[d1,d2];simp only[Bool.and_self,if_true];obtain⟨M,rfl⟩:∃M:Nat,m=(M:Int):=⟨m.toNat,by omega⟩
     obtain⟨J,hJ⟩:∃J:Nat,J=((P.mark:Int)-(M:Int)).toNat:=⟨_,rfl⟩;rw[<-hJ];have HJ:=gZ (show P.mark=M+J by omega)
     have hfl:P.fl<=M:=by omega
     have M1:=gZ (MK.o w P col HP.o HM.o);have n1:decide (M<P.fl)=false:=au (by omega)
     have n2:decide (P.mark<M)=false:=au (by have:=HJ.o;omega)
     clear hJ hm h2 d1 d2;have HFL:=gZ hfl;go_enter Tryz.func164,Tryz.ntmps164;go_wp2_with fail
     refine M1.o.mono ?_;rintro _ w1 ⟨rfl,hb⟩;have B1:=gZ hb;clear hb M1 c8;go_wp2_with fail
     clear h1 d1' d2' n1 n2 hfl;go_loopw [5] (λ_ wr=>∃j P' col',Pl wr b P' col'/\Fr w col wr col'/\Po.back j P'=Po.back J P/\P'.mark=M+j/\P'.fl=P.fl/\M+j<=9223372036854775807) (λ_ wr=>kV b wr)
     case atStart=>exact⟨J,P,col,HP.o.keep B1.o,Fr.keep B1.o,rfl,HJ.o,rfl,by have:=HJ.o;have:=HM.o;omega⟩
     case round=>
      obtain⟨j,P',col',hPl,hFr,hbk,hmk,hfl,hjb⟩:=hrel;have M2:=gZ (MK.o wr P' col' hPl (by rw[hmk];exact hjb))
      have HPl:=gZ hPl;have HFr:=gZ hFr;have HBK:=gZ hbk;have HMK:=gZ hmk;have HFL2:=gZ hfl;rw[hmk] at M2;clear hPl hFr hbk hmk hfl;go_wp2_with fail
      refine M2.o.mono ?_;rintro _ w2 ⟨rfl,hb⟩;have B2:=gZ hb;clear hb M2;by_cases hj:j=0
      . subst hj;have n3:decide ((M:Int)<((M+0:Nat):Int))=false:=au (by omega)
        go_wp2;go_ret;exact⟨rfl,col',by rw[<-HBK.o];exact HPl.o.keep B2.o,HFr.o.below B2.o⟩
      . have n3:decide ((M:Int)<((M+j:Nat):Int))=true:=ay (by omega)
        obtain⟨A,x,hA⟩:∃A x,P'.ac=A++[x]:=by
         rcases gG P'.ac with h0|⟨A,x,h0⟩
         . have:=HMK.o;unfold Po.mark at this;rw[h0,HFL2.o,bg] at this;have:=HFL.o;omega
         . exact⟨A,x,by rw[h0,gH]⟩
        have hal:P'.ac.length=A.length+1:=by rw[hA,ae];rfl
        have HA:=gZ hA;have hP2:=HPl.o.keep B2.o;have L2:=gZ hP2.acts;obtain⟨D2,h2⟩:=hP2;obtain⟨g,t,ha,hcl,hC⟩:=h2.q.last hA;have AC:=gZ (zm w2 b P' D2 col' h2 t x hC (h2.ok.acs x (by rw[hA];simp)))
        have c7:=h2.q.c7;rw[hal,ha] at c7;have hcap:=h2.q.acr.capLe;rw[hal] at hcap;have OK2:=gZ h2.ok;clear h2 hC hal ha hA;unfold clo at hcl;obtain⟨n,hn⟩:∃n,A.length=n:=⟨_,rfl⟩;have HN:=gZ hn;rw[hn] at c7 hcap hcl;clear hn;have s1:IntKind.i64.wrap (n:Int)=(n:Int):=im (by omega) (by unfold maxLen at hcap;omega)
        have s2:wrap64 (n:Int)=(n:Int):=by unfold wrap64;unfold maxLen at hcap;omega
        go_wp2_with fail
        refine AC.o.mono ?_;rintro _ w4 ⟨rfl,col4,⟨D4,h4⟩,f4⟩;obtain⟨g4,ha4,⟨v4,hv4⟩,hf4,gb4,hl4,hm4,hq4,hb4⟩:=h4.q.drop (A:=A) (x:=x) HA.o;have c74:=h4.q.c7;rw[ha4,show(P'.put x.1 x.2).ac.length=A.length+1 by show P'.ac.length=_;rw[HA.o,ae];rfl] at c74
        have f74:=h4.q.free 7
        have X:=gZ (show ∃j' P'' col'',Pl ((w4.setCell ⟨g4,A.length,none⟩ .nilFunc).setCell ⟨b,7,none⟩ (.slice (some ⟨g4,0,none⟩) A.length D4.ac)) b P'' col''/\Fr w col ((w4.setCell ⟨g4,A.length,none⟩ .nilFunc).setCell ⟨b,7,none⟩ (.slice (some ⟨g4,0,none⟩) A.length D4.ac)) col''/\Po.back j' P''=Po.back J P/\P''.mark=M+j'/\P''.fl=P.fl/\M+j'<=9223372036854775807 by
         obtain⟨xn,xp⟩:=x;have ok:=OK2.o.drop HA.o;refine⟨j-1,⟨P'.rf,P'.pg.set (xn-1) xp,A,P'.fl⟩,col4,⟨_,hq4,ok,h4.mem⟩,(HFr.o.below B2.o).trans (f4.trans ⟨hb4,λ_ _=>rfl⟩),?_,?_,HFL2.o,by omega⟩
         . rw[<-HBK.o];obtain⟨j',rfl⟩:∃j',j=j'+1:=⟨j-1,by omega⟩
           exact(Po.back_succ HA.o j').symm
         . have:=HMK.o;unfold Po.mark at this ⊢;rw[HA.o,ae] at this;simp only[bf,bg] at this ⊢;omega)
        have Y:=gZ (show kV b ((w4.setCell ⟨g4,A.length,none⟩ .nilFunc).setCell ⟨b,7,none⟩ (.slice (some ⟨g4,0,none⟩) A.length D4.ac))<kV b wr by
         rw[HPl.o.acts,HA.o];unfold kV;rw[hq4.c7];show A.length<(A++[x]).length;rw[ae];exact ft _)
        have c75:(w4.setCell ⟨g4,A.length,none⟩ .nilFunc).cell? ⟨b,7,none⟩=_:=(World.cell?_of_block (w:=w4) (a:=⟨b,7,none⟩) (Below.heap_setCell _ _ _ _ (λe=>gb4 e.symm))).trans c74
        have f75:(w4.setCell ⟨g4,A.length,none⟩ .nilFunc).frozen? ⟨b,7,none⟩=_:=(World.frozen?_of_block (w:=w4) (a:=⟨b,7,none⟩) (Below.heap_setCell _ _ _ _ (λe=>gb4 e.symm))).trans f74
        rw[HN.o] at hv4 hf4 c74 c75 f75 hl4 X Y;clear h4 f4 hq4 hb4 ha4 c7 hcl hcap AC;have rs:(store ⟨g4,n,none⟩ .nilFunc).run Tryz.prog w4=.ok () (w4.setCell ⟨g4,n,none⟩ .nilFunc):=by rw[run_store _ _ _ _ _ rfl];simp[hv4,hf4]
        go_wp2;go_roundw
        case rel=>exact X.o
        case measure=>exact Y.o
   . have d2:decide (m<=(P.mark:Int))=false:=au h2;have d2':decide ((P.mark:Int)<m)=true:=ay (by omega)
     rw[d1,d2];have M1:=gZ (MK.o w P col HP.o HM.o);simp only[fZ];show Calls _ _ _ _ λe w'=>e=.returned (.bool false)/\∃col',Pl w' b P col'/\Fr w col w' col'
     generalize P.mark=mk at *;clear hm h2 d1 d2;go_enter Tryz.func164,Tryz.ntmps164;go_wp2_with fail
     refine M1.o.mono ?_;rintro _ w1 ⟨rfl,hb⟩;have B1:=gZ hb;clear hb M1 c8;go_wp2;go_ret;exact⟨rfl,col,HP.o.keep B1.o,Fr.keep B1.o⟩
 . have d1:decide ((P.fl:Int)<=m)=false:=au h1;have d1':decide (m<(P.fl:Int))=true:=ay (by omega)
   rw[d1];simp only[eb];show Calls _ _ _ _ λe w'=>e=.returned (.bool false)/\∃col',Pl w' b P col'/\Fr w col w' col'
   clear hm d1;go_enter Tryz.func164,Tryz.ntmps164;go_wp2;go_ret;exact⟨rfl,col,HP.o,Fr.refl _ _⟩
theorem mT(w:World)(b:Nat)(P:Po)(col:Nat->Nat)(h:Pl w b P col)(z:Int):Calls Tryz.prog 47 #[.pointer (some ⟨b,0,none⟩),.int .i64 z] w λe w'=>e=.returned (.int .i64 ((P.state z:Nat):Int))/\Below w.heap.size w w':=by
 obtain⟨D,h⟩:=h;exact rU w b P D col h.q h.ok.l2 z
theorem kZ(w:World)(b:Nat)(P:Po)(col:Nat->Nat)(h:Pl w b P col)(z:Int):Calls Tryz.prog 32 #[.pointer (some ⟨b,0,none⟩),.int .i64 z] w λe w'=>e=.returned (.int .i64 (P.count z))/\w'=w:=by
 obtain⟨D,h⟩:=h;exact oB w b P D col h.q h.ok.l2 z
theorem Dg(w:World)(b:Nat)(P:Po)(col:Nat->Nat)(h:Pl w b P col)(hm:P.mark<=9223372036854775807):Calls Tryz.prog 142 #[.pointer (some ⟨b,0,none⟩)] w λe w'=>e=.returned (.int .i64 ((P.mark:Nat):Int))/\Below w.heap.size w w':=by
 obtain⟨D,h⟩:=h;exact py w b P D col h.q hm
theorem D9(w:World)(b:Nat)(P:Po)(col:Nat->Nat)(h:Pl w b P col):Calls Tryz.prog 59 #[.pointer (some ⟨b,0,none⟩)] w λe w'=>e=.returned (.int .i64 ((P.pg.length:Nat):Int))/\w'=w:=by
 obtain⟨D,h⟩:=h;exact zb w b P D col h.q
theorem Cc(w:World)(b:Nat)(P:Po)(col:Nat->Nat)(h:Pl w b P col):Calls Tryz.prog 60 #[.pointer (some ⟨b,0,none⟩)] w λe w'=>e=.returned (.int .i64 P.rf)/\w'=w:=by
 obtain⟨D,h⟩:=h;exact x9 w b P D col h.q
end Go.Proofs.YtbdkogimlbnlmaaGreat.Q
