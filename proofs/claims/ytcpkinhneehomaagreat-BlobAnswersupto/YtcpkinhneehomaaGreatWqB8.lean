import Derived.Test.YtcpkinhneehomaaGreatWqB7
import Derived.Shelf.SlSortCmp.WholeK
import Derived.Shelf.SlSortCmp.NoneTotal
set_option linter.unusedVariables false
set_option linter.unusedSimpArgs false
set_option maxHeartbeats 8000000
set_option maxRecDepth 10000
namespace Go.Proofs.YtcpkinhneehomaaGreat.Q
open Go.Shelf
def laysS_ren:Go.Shelf.Ren:=⟨fun|6=>186|14=>202|15=>203|20=>207|21=>208|22=>209|23=>210|24=>211|25=>212|26=>213|27=>214|28=>215|29=>216|46=>218|47=>219|48=>220|49=>221|50=>222|57=>223|n=>n,fun|0=>0|3=>3|4=>4|5=>5|9=>9|22=>169|24=>171|25=>205|39=>216|45=>219|46=>220|50=>184|53=>226|55=>192|66=>229|70=>233|76=>235|77=>199|n=>n,fun|n=>n⟩
theorem laysS:Go.Proofs.SlLaysF0.n6 Tryz.prog laysS_ren:={
 mixed:=by kernel_rfl,
 f6:=⟨Tryz.f186.name,by decide,Tryz.func186.trans (congrArg some (by kernel_rfl))⟩,
 f14:=⟨Tryz.f202.name,by decide,Tryz.func202.trans (congrArg some (by kernel_rfl))⟩,
 f15:=Tryz.func203.trans (congrArg some (by kernel_rfl)),
 f20:=⟨Tryz.f207.name,by decide,Tryz.func207.trans (congrArg some (by kernel_rfl))⟩,
 f21:=⟨Tryz.f208.name,by decide,Tryz.func208.trans (congrArg some (by kernel_rfl))⟩,
 f22:=⟨Tryz.f209.name,by decide,Tryz.func209.trans (congrArg some (by kernel_rfl))⟩,
 f23:=⟨Tryz.f210.name,by decide,Tryz.func210.trans (congrArg some (by kernel_rfl))⟩,
 f24:=⟨Tryz.f211.name,by decide,Tryz.func211.trans (congrArg some (by kernel_rfl))⟩,
 f25:=⟨Tryz.f212.name,by decide,Tryz.func212.trans (congrArg some (by kernel_rfl))⟩,
 f26:=⟨Tryz.f213.name,by decide,Tryz.func213.trans (congrArg some (by kernel_rfl))⟩,
 f27:=⟨Tryz.f214.name,by decide,Tryz.func214.trans (congrArg some (by kernel_rfl))⟩,
 f28:=Tryz.func215.trans (congrArg some (by kernel_rfl)),
 f29:=Tryz.func216.trans (congrArg some (by kernel_rfl)),
 f46:=⟨Tryz.f218.name,by decide,Tryz.func218.trans (congrArg some (by kernel_rfl))⟩,
 f47:=Tryz.func219.trans (congrArg some (by kernel_rfl)),
 f48:=Tryz.func220.trans (congrArg some (by kernel_rfl)),
 f49:=⟨Tryz.f221.name,by decide,Tryz.func221.trans (congrArg some (by kernel_rfl))⟩,
 f50:=⟨Tryz.f222.name,by decide,Tryz.func222.trans (congrArg some (by kernel_rfl))⟩,
 f57:=⟨Tryz.f223.name,by decide,Tryz.func223.trans (congrArg some (by kernel_rfl))⟩,
 t0:=Tryz.underlying0,
 a0:=Tryz.isAgg0,
 z0:=Tryz.sizeOf0,
 v0:=Tryz.zeroValue0,
 t3:=Tryz.underlying3,
 a3:=Tryz.isAgg3,
 z3:=Tryz.sizeOf3,
 v3:=Tryz.zeroValue3,
 t4:=Tryz.underlying4,
 a4:=Tryz.isAgg4,
 z4:=Tryz.sizeOf4,
 v4:=Tryz.zeroValue4,
 t5:=Tryz.underlying5,
 a5:=Tryz.isAgg5,
 z5:=Tryz.sizeOf5,
 v5:=Tryz.zeroValue5,
 t9:=Tryz.underlying9,
 a9:=Tryz.isAgg9,
 z9:=Tryz.sizeOf9,
 v9:=Tryz.zeroValue9,
 t22:=Tryz.underlying169,
 a22:=Tryz.isAgg169,
 z22:=Tryz.sizeOf169,
 v22:=Tryz.zeroValue169,
 t25:=Tryz.underlying205,
 a25:=Tryz.isAgg205,
 z25:=Tryz.sizeOf205,
 v25:=Tryz.zeroValue205,
 t39:=Tryz.underlying216,
 a39:=Tryz.isAgg216,
 z39:=Tryz.sizeOf216,
 v39:=Tryz.zeroValue216,
 t45:=Tryz.underlying219,
 a45:=Tryz.isAgg219,
 z45:=Tryz.sizeOf219,
 v45:=Tryz.zeroValue219,
 t46:=Tryz.underlying220,
 a46:=Tryz.isAgg220,
 z46:=Tryz.sizeOf220,
 v46:=Tryz.zeroValue220,
 t50:=Tryz.underlying184,
 a50:=Tryz.isAgg184,
 z50:=Tryz.sizeOf184,
 v50:=Tryz.zeroValue184,
 t53:=Tryz.underlying226,
 a53:=Tryz.isAgg226,
 z53:=Tryz.sizeOf226,
 v53:=Tryz.zeroValue226,
 t55:=Tryz.underlying192,
 a55:=Tryz.isAgg192,
 z55:=Tryz.sizeOf192,
 v55:=Tryz.zeroValue192,
 t66:=Tryz.underlying229,
 a66:=Tryz.isAgg229,
 z66:=Tryz.sizeOf229,
 v66:=Tryz.zeroValue229,
 t70:=Tryz.underlying233,
 a70:=Tryz.isAgg233,
 z70:=Tryz.sizeOf233,
 v70:=Tryz.zeroValue233,
 t76:=Tryz.underlying235,
 a76:=Tryz.isAgg235,
 z76:=Tryz.sizeOf235,
 v76:=Tryz.zeroValue235,
 t77:=Tryz.underlying199,
 a77:=Tryz.isAgg199,
 z77:=Tryz.sizeOf199,
 v77:=Tryz.zeroValue199}
end Go.Proofs.YtcpkinhneehomaaGreat.Q
namespace Go.Proofs.YtcpkinhneehomaaGreat.Q
open Go.RowKit
variable {r:Int}{L:List Rn}{cap g i k n s:Nat}{col:Nat->Nat}{D:Pd}{P:Po}{w0 wr:World}
def cmpI(x y:Int):Int:=if x<y then -1 else if y<x then 1 else 0
theorem isNaNT_any(w:World)(x:Int):Calls Tryz.prog 204 #[.int .i64 x] w fun e w'=>e=.returned (.bool false)/\w'=w:=by
 go_enter Tryz.func204,Tryz.ntmps204;go_wp2;go_ret;exact⟨by simp,rfl⟩
theorem cmpT_any(w:World)(x y:Int):Calls Tryz.prog 188 #[.int .i64 x,.int .i64 y] w fun e w'=>e=.returned (.int .i64 (cmpI x y))/\w'=w:=by
 have N1:=hide fun W=>isNaNT_any W x
 have N2:=hide fun W=>isNaNT_any W y
 unfold cmpI;by_cases h1:x<y
 · rw[if_pos h1];go_enter Tryz.func188,Tryz.ntmps188;go_wp2_with fail
   refine(N1.out _).mono ?_;rintro e w1 ⟨rfl,rfl⟩;go_wp2_with fail
   refine(N2.out _).mono ?_;rintro e w1 ⟨rfl,rfl⟩;go_wp2;go_ret;exact⟨rfl,rfl⟩
 · rw[if_neg h1];by_cases h2:y<x
   · rw[if_pos h2];go_enter Tryz.func188,Tryz.ntmps188;go_wp2_with fail
     refine(N1.out _).mono ?_;rintro e w1 ⟨rfl,rfl⟩;go_wp2_with fail
     refine(N2.out _).mono ?_;rintro e w1 ⟨rfl,rfl⟩;go_wp2;go_ret;exact⟨rfl,rfl⟩
   · rw[if_neg h2];go_enter Tryz.func188,Tryz.ntmps188;go_wp2_with fail
     refine(N1.out _).mono ?_;rintro e w1 ⟨rfl,rfl⟩;go_wp2_with fail
     refine(N2.out _).mono ?_;rintro e w1 ⟨rfl,rfl⟩;go_wp2;go_ret;exact⟨rfl,rfl⟩
theorem closure5_any(W:World)(r s:Rn):
 Calls Tryz.prog 187 #[.agg (rcs r).toList.toArray,.agg (rcs s).toList.toArray] W fun e w'=>e=.returned (.int .i64 (cmpI r.1 s.1))/\∃q os',w'=Sort.grow (W.drewN q) os':=by
 have C:=hide fun w1=>cmpT_any w1 r.1 s.1
 unfold rcs;generalize cmpI r.1 s.1=z at *;go_enter Tryz.func187,Tryz.ntmps187;go_wp2_with fail
 refine(C.out _).mono ?_;rintro e w1 ⟨rfl,hw⟩;obtain rfl:=hw.symm;go_wp2;go_ret;exact⟨rfl,0,_,by rw[Sort.alloc_eq_grow,Sort.alloc_eq_grow,Sort.grow_grow];rfl⟩
def encS(x:Rn):List Value:=(rcs x).toList
def cfS(x y:Rn):Int:=cmpI x.1 y.1
theorem cmpI_neg(x y:Int):cmpI x y<0↔x<y:=by
 unfold cmpI;split
 · omega
 · split<;>omega
theorem swoS:Sort.SWO (ltOf cfS):={
 irrefl:=fun x=>(by unfold ltOf cfS;rw[decide_eq_false_iff_not,cmpI_neg];omega),
 trans:=fun x y z h1 h2=>(by
  unfold ltOf cfS at *;rw[decide_eq_true_iff,cmpI_neg] at *;omega),
 ntrans:=fun x y z h1 h2=>(by
  unfold ltOf cfS at *;rw[decide_eq_false_iff_not,cmpI_neg] at *;omega)}
theorem sortWorld_but{w:World}(d:Array Rn)(os:Array Obj):But (fun k=>k=g) w (sortWorldK encS 2 w g 0 n d os):=by
 refine⟨rfl,rfl,rfl,?_,fun k hk hn=>?_⟩
 · exact SWK.le ⟨n,os,rfl⟩
 · have hk':k<(Sort.putRowK encS 2 (Sort.ahead w n) g 0 d).heap.size:=by
    have:(Sort.putRowK encS 2 (Sort.ahead w n) g 0 d).heap.size=w.heap.size:=by simp[Sort.putRowK,Sort.putRow,Sort.mapBlock,Sort.ahead]
    omega
   show((Sort.putRowK encS 2 (Sort.ahead w n) g 0 d).heap++os)[k]?=_;rw[Array.getElem?_append_left hk'];show((Sort.ahead w n).heap.modify g _)[k]?=_;rw[Array.getElem?_modify,if_neg (fun e=>hn e.symm)]
   rfl
theorem rc_getAt(L:List Rn)(i j:Nat)(hi:i<L.length)(hj:j<2):(rc L)[i*2+j]?=(encS (L.getD i Rn.zero))[j]?:=by
 obtain⟨h1,h2⟩:=rc_get L i hi;match j,hj with
 |0,_=>exact h1
 |1,_=>exact h2
theorem sortWorld_row{w:World}(hQ:Vw w (some ⟨g,0,none⟩) cap L)(d:Array Rn)(os:Array Obj)(hs:d.size=L.length):Vw (sortWorldK encS 2 w g 0 n d os) (some ⟨g,0,none⟩) cap d.toList:=by
 rcases hQ.cases with⟨h0,_⟩|⟨g',Y,h0,hg,h1,h2,h3⟩
 · cases h0
 · simp only[Option.some.injEq,Addr.mk.injEq,and_true] at h0;subst h0;have hgl:=hg.lt;have hsz:(Sort.putRowK encS 2 (Sort.ahead w n) g 0 d).heap.size=w.heap.size:=by simp[Sort.putRowK,Sort.putRow,Sort.mapBlock,Sort.ahead]
   have hb:(sortWorldK encS 2 w g 0 n d os).heap[g]?=some (.cells (Sort.putCells id 0 (Sort.flatK encS 2 d) (rc L++Y).toArray) 171 (0,0)):=by
    show((Sort.putRowK encS 2 (Sort.ahead w n) g 0 d).heap++os)[g]?=_;rw[Array.getElem?_append_left (by omega)]
    show((Sort.ahead w n).heap.modify g _)[g]?=_;rw[Array.getElem?_modify,if_pos rfl];show Option.map _ w.heap[g]?=_;rw[show w.heap[g]?=_ from hg]
    rfl
   have hl:d.toList.length=L.length:=by simp[hs]
   refine Vw.mk (Y:=Y) ?_ (by omega) h2 (by omega)
   unfold Rowb;rw[hb];congr 2
   apply Array.ext_getElem?;intro i;unfold Sort.putCells;rw[Array.getElem?_mapIdx];simp only[List.getElem?_toArray];by_cases hi:i<L.length*2
   · have hd:i/2<d.size:=by omega
     have hR:=rc_getAt d.toList (i/2) (i%2) (by omega) (Nat.mod_lt _ (by decide))
     rw[show i/2*2+i%2=i by omega] at hR
     have e1:d.toList.getD (i/2) Rn.zero=d[i/2]'hd:=by simp[hd]
     rw[e1] at hR;rw[List.getElem?_append_left (show i<(rc L).length by rw[rc_length];exact hi),List.getElem?_append_left (show i<(rc d.toList).length by rw[rc_length,hl];exact hi),hR,List.getElem?_eq_getElem (show i<(rc L).length by rw[rc_length];exact hi),Option.map_some,if_pos ⟨Nat.zero_le _,by simp[hs];omega⟩,Nat.sub_zero]
     rw[Sort.get_flatK _ _ _ _ (by rw[hs];exact hi),getElem!_pos d (i/2) hd]
     have hm:i%2<(encS d[i/2]).length:=by
      show i%2<2;exact Nat.mod_lt _ (by decide)
     rw[getElem!_pos (encS d[i/2]) (i%2) hm];show some (id _)=(encS d[i/2])[i%2]?;rw[List.getElem?_eq_getElem hm];rfl
   · rw[List.getElem?_append_right (show(rc L).length<=i by rw[rc_length];omega),List.getElem?_append_right (show(rc d.toList).length<=i by rw[rc_length,hl];omega),rc_length,rc_length,hl]
     cases hy:Y[i-L.length*2]? with
     |none=>rfl
     |some v=>
      rw[Option.map_some,if_neg (fun h=>hi (by have:=h.2;simp[hs] at this;omega))]
theorem Vw.holds{w:World}(hQ:Vw w (some ⟨g,0,none⟩) cap L):Sort.HoldsK encS 2 w g 0 L.toArray:=by
 rcases hQ.cases with⟨h0,_⟩|⟨g',Y,h0,hg,h1,h2,h3⟩
 · cases h0
 · simp only[Option.some.injEq,Addr.mk.injEq,and_true] at h0;subst h0;intro j hj;rw[Sort.size_flatK,List.size_toArray] at hj;refine⟨?_,frozen_of_row _ _ _ _ _ hg⟩;have hc:=hg.cs (P:=[]) (X:=rc L) (Y:=Y) (by simp)
   have hR:=rc_getAt L (j/2) (j%2) (by omega) (Nat.mod_lt _ (by decide))
   rw[show j/2*2+j%2=j by omega] at hR
   have hdl:j/2<L.length:=by omega
   have hm:j%2<(encS (L.getD (j/2) Rn.zero)).length:=by
    show j%2<2;exact Nat.mod_lt _ (by decide)
   have h5:=hc j ((encS (L.getD (j/2) Rn.zero))[j%2]) (by rw[hR];exact List.getElem?_eq_getElem hm)
   rw[List.length_nil] at h5;have e1:L.getD (j/2) Rn.zero=L[j/2]:=by simp[hdl]
   rw[h5,Sort.get_flatK _ _ _ _ (by rw[List.size_toArray];exact hj),getElem!_pos L.toArray (j/2) (by simpa using hdl)]
   rw[getElem!_pos (encS L.toArray[j/2]) (j%2) (by show j%2<2;exact Nat.mod_lt _ (by decide))]
   simp only[e1,List.getElem_toArray];rfl
theorem Sort_any(w:World)(g cap:Nat)(L:List Rn)(hQ:Vw w (some ⟨g,0,none⟩) cap L)(hlen:L.length<4611686018427387904):
 Calls Tryz.prog 186 #[.slice (some ⟨g,0,none⟩) L.length cap,.func (.func 187) #[] #[]] w fun e w'=>e=.returned (.tuple #[])/\∃L',L'.Perm L/\Vw w' (some ⟨g,0,none⟩) cap L'/\But (fun k=>k=g) w w':=by
 have eg:∀args w,(callFunc 187 args).run Tryz.prog w=.ok (.enter 187 args) w:=enters_of Tryz.func187 (by kernel_rfl) rfl
 have hcmp:CmpLays Tryz.prog 187 #[] encS 2 cfS g 0 L.toArray.size w:=fun m os dk _ x y=>closure5_any _ x y
 have hcon:=AnyQ.slices_SortFunc laysS 2 Tryz.isAgg171 Tryz.sizeOf171 encS (fun _=>rfl) (fun x v hv=>rcs_one x v hv) cfS swoS 187 #[] g 0 cap L.toArray w eg hcmp hQ.holds (hQ.lt rfl) (by simpa using hlen)
 rw[List.size_toArray] at hcon;refine Calls.mono (show Calls Tryz.prog 186 _ _ _ from hcon) fun e w' ⟨he,d',n,os,hp,hsrt,hw⟩=>⟨he,d'.toList,?_,?_,?_⟩
 · have h1:=hp.2.2;have hs':d'.size=L.toArray.size:=hp.1;rw[show L.length=L.toArray.size by simp,Array.extract_size,<-hs',Array.extract_size] at h1
   simpa using h1
 · rw[hw];exact sortWorld_row hQ d' os (by have h:d'.size=L.toArray.size:=hp.1;simpa using h)
 · rw[hw];exact sortWorld_but d' os
theorem Sort_none(w:World)(a:Option Addr)(cap:Nat):Calls Tryz.prog 186 #[.slice a 0 cap,.func (.func 187) #[] #[]] w fun e w'=>e=.returned (.tuple #[])/\w'=w:=
 AnyF.slices_SortFunc_none laysS a cap _ w
theorem Clone_any(w:World)(a:Option Addr)(c:Nat)(L:List Rn)(hV:Vs w a L)(hl:L.length<=14000000000000)(hn:a=none->c=0/\L=[]):
 Calls Tryz.prog 185 #[.slice a L.length c] w fun e w'=>∃a' c',e=.returned (.slice a' L.length c')/\Vw w' a' c' L/\New w none a'/\Below w.heap.size w w'/\(L≠[]->a'≠none):=by
 have he:=fun(x:Option Addr)(n k:Nat)(w:World)=>Lib.run_eql_slice_nil (P:=Tryz.prog) w 169 171 x n k 0 0 Tryz.underlying169
 cases a with
 |none=>
  obtain⟨rfl,rfl⟩:=hn rfl;rw[List.length_nil];go_enter Tryz.func185,Tryz.ntmps185;go_wp2;go_ret;exact⟨none,0,rfl,Vw.nil _,New.none _ _,Below.refl _ _⟩
 |some x=>
  have ha:=al w (.cells #[] 171);have h0:Vw (w.alloc (.cells #[] 171)) (some ⟨w.heap.size,0,none⟩) 0 []:=Vw.mk (Y:=[]) (World.alloc_heap_new w _) (Nat.le_refl _) (Nat.zero_le _) rfl;by_cases hL:L=[]
  · subst hL;rw[List.length_nil];obtain⟨w1,hrun,r1,b1⟩:=run_apIn (w.alloc (.cells #[] 171)) 169 w.heap.size 0 0 [] [] [] (some x) 0 c rfl (World.alloc_heap_new w _) rfl (.inl rfl) (Nat.le_refl _) (by simp) (Nat.le_refl _)
    have GG:=hide (show ∃a' c',Ending.returned (.slice (some ⟨w.heap.size,0,none⟩) 0 0)=.returned (.slice a' 0 c')/\Vw w1 a' c' []/\New w none a'/\Below w.heap.size w w1/\(([]:List Rn)≠[]->a'≠none) from
     ⟨_,0,rfl,Vw.mk (Y:=[]) r1 (Nat.le_refl _) (Nat.zero_le _) rfl,fun z hz=>.inr (by cases hz;exact Nat.le_refl _),((But.ofBelow (S:=fun _=>False) ha).trans b1 (fun k hk e=>by omega)).below (fun _ _ h=>h),fun h=>(h rfl).elim⟩)
    clear r1 b1 h0 ha hn;go_enter Tryz.func185,Tryz.ntmps185;go_wp2_with (at_builtin;refine Lib.wpList_append_run _ rfl _ _ _ _ rfl _ _ rfl rfl _ _ hrun ?_)
    go_ret;exact GG.out
  · obtain⟨g,c',w1,hrun,q1,q2,q3⟩:=run_apR (w.alloc (.cells #[] 171)) 169 (some ⟨w.heap.size,0,none⟩) 0 0 [] rfl h0 (some x) L.length c L rfl (hV.keep ha) hL (by simp;omega)
    rw[Nat.zero_add] at hrun;rw[List.nil_append] at q1
    have GG:=hide (show ∃a' c'',Ending.returned (.slice (some ⟨g,0,none⟩) L.length c')=.returned (.slice a' L.length c'')/\Vw w1 a' c'' L/\New w none a'/\Below w.heap.size w w1/\(L≠[]->a'≠none) from
     ⟨_,c',rfl,q1,fun z hz=>by
       rcases q2 z hz with⟨y,hy,e⟩|h
       · cases hy;exact .inr (Nat.le_of_eq e)
       · exact .inr (by rw[size_alloc] at h;omega),((But.ofBelow (S:=fun _=>False) ha).grown q3 (fun k hk h=>by
          obtain⟨y,hy,e⟩:=map_some hk;cases hy;rw[<-e] at h;exact absurd h (Nat.lt_irrefl _))).below (fun _ _ h=>h),fun _=>by simp⟩)
    clear q1 q2 q3 h0 ha hn hV;generalize L.length=n at *;go_enter Tryz.func185,Tryz.ntmps185;go_wp2_with (at_builtin;refine Lib.wpList_append_run _ rfl _ _ _ _ rfl _ _ rfl rfl _ _ hrun ?_)
    go_ret;exact GG.out
theorem has_perm{M:List Rn}(h:L.Perm M)(z:Int):has L z=has M z:=by
 rw[Bool.eq_iff_iff,has_iff,has_iff];constructor
 · rintro⟨r,hr,h1⟩;exact⟨r,h.subset hr,h1⟩
 · rintro⟨r,hr,h1⟩;exact⟨r,h.symm.subset hr,h1⟩
theorem has_snoc(L:List Rn)(r:Rn)(z:Int):has (L++[r]) z=(has L z||(decide (r.1<=z)&&decide (z<=r.2))):=by
 rw[has_append,has_cons,has_nil,Bool.or_false]
structure Nw(w w':World)(b:Nat)(a:Option Addr)(cap:Nat)(R:List Rn):Prop where
 st:St w' b a cap R
 b:w.heap.size<=b
 a:∀x,a=some x->w.heap.size<=x.block
 w:Below w.heap.size w w'
theorem Of_any(w:World)(a:Option Addr)(c:Nat)(L:List Rn)(hV:Vs w a L)(hl:L.length<=8796093022200)(hn:a=none->c=0/\L=[])(hb:∀r∈L,Nm r.1/\Nm r.2):
 Calls Tryz.prog 172 #[.slice a L.length c] w fun e w'=>∃b' a' cap' R,e=.returned (.pointer (some ⟨b',0,none⟩))/\Nw w w' b' a' cap' R/\(∀z,has R z=has L z)/\R.length<=L.length:=by
 have C1:=hide (Clone_any w a c L hV (by omega) hn)
 have C2:=hide fun(W:World)(g cap:Nat)(hQ:Vw W (some ⟨g,0,none⟩) cap L)=>Sort_any W g cap L hQ (by omega)
 have C3:=hide fun(W:World)(a:Option Addr)(cap:Nat)=>Sort_none W a cap
 obtain⟨n,hN⟩:∃n:Nat,n=L.length:=⟨_,rfl⟩;have HN:=hide hN;rw[<-hN] at C1 C2 hl ⊢;clear hV hn hN;go_enter Tryz.func172,Tryz.ntmps172;go_wp2_with fail
 refine C1.out.mono ?_;rintro e w1 ⟨a1,c1,rfl,q1,q2,q3,q4⟩
 /- behind the sort -/
 have S:Calls Tryz.prog 186 #[.slice a1 n c1,.func (.func 187) #[] #[]] w1 fun e w2=>e=.returned (.tuple #[])/\∃P,P.Perm L/\Vw w2 a1 c1 P/\Below w.heap.size w w2:=by
  by_cases h0:L=[]
  · have hn0:n=0:=by rw[HN.out,h0];rfl
    rw[hn0];refine(C3.out w1 a1 c1).mono fun e w2 ⟨he,hw⟩=>⟨he,[],by rw[h0],by rw[hw,<-h0];exact q1,by rw[hw];exact q3⟩
  · obtain⟨g,hg⟩:∃g,a1=some ⟨g,0,none⟩:=by
     rcases q1.cases with⟨h1,_⟩|⟨g,_,h1,_⟩
     · exact absurd h1 (q4 h0)
     · exact⟨g,h1⟩
    subst hg;refine(C2.out w1 g c1 q1).mono fun e w2 ⟨he,P,p1,p2,p3⟩=>⟨he,P,p1,p2,?_⟩
    have hge:w.heap.size<=g:=by
     rcases q2 _ rfl with⟨y,hy,_⟩|h
     · cases hy
     · exact h
    exact((But.ofBelow (S:=fun _=>False) q3).trans p3 (fun k hk e=>by omega)).below (fun _ _ h=>h)
 have S':=hide S;have Q2:=hide q2;clear S q1 q2 q3 q4;go_wp2_with fail
 refine S'.out.mono ?_;rintro e w2 ⟨rfl,P,p1,p2,p3⟩;have hP:=hide p1;have lP:P.length=n:=by rw[HN.out];exact p1.length_eq
 have vP:=hide p2.vs;have aP:=hide fun x (hx:a1=some x)=>p2.lt hx
 clear p1 p2;go_wp2_with fail
 obtain⟨W,hW⟩:∃W,w2.alloc (.cells #[.slice none 0 0] 173)=W:=⟨_,rfl⟩;have hWn:=World.alloc_heap_new w2 (.cells #[.slice none 0 0] 173);have bW:=al w2 (.cells #[.slice none 0 0] 173);have sW:=size_alloc w2 (.cells #[.slice none 0 0] 173);rw[hW] at hWn bW sW ⊢;have sw2:=p3.size;have St0:St W w2.heap.size none 0 []:=⟨hWn,Vw.nil _,Can.nil,by simp,by simp⟩
 go_loopw [15] (fun i wx=>∃k:Nat,k<=n/\i=.int .i64 k/\∃a' cap' R,St wx w2.heap.size a' cap' R/\(∀z,has R z=has (P.take k) z)/\R.length<=k/\(∀x,a'=some x->W.heap.size<=x.block)/\But (fun q=>q=w2.heap.size\/W.heap.size<=q) W wx) (fun i _=>n-(intOf i).toNat)
 case atStart=>exact⟨0,Nat.zero_le _,rfl,none,0,[],St0,by simp,Nat.le_refl _,by simp,But.refl _ _⟩
 case round=>
  obtain⟨k,hk,rfl,a',cap',R,hS,hh,hRk,ha',hB⟩:=hrel;have szx:=hB.size;by_cases hlt:k<n
  · have hkP:k<P.length:=by omega
    have vx:Vs wr a1 P:=(vP.out.keep bW).but hB (fun x hx h=>by have:=aP.out x hx;rcases h with h|h<;>omega)
    obtain⟨bb,o,rfl,d1,d2⟩:=vx.at hkP;obtain⟨r1,r2⟩:=hb _ (hP.out.subset (getD_mem hkP));have tn:=take_next P Rn.zero hkP;generalize P.getD k Rn.zero=r at *;have axx:=al wr (.cells #[.int .i64 r.1,.int .i64 r.2] 171);have A:=hide (Add_any (wr.alloc (.cells #[.int .i64 r.1,.int .i64 r.2] 171)) w2.heap.size a' cap' R r.1 r.2 (hS.keep axx) r1 r2 (by omega))
    have TN:=hide tn;have HS:=hide hS;have HH:=hide hh;have HB:=hide hB;have HA:=hide ha';clear tn hS hh hB ha' r1 r2;go_wp2_with fail
    refine A.out.mono ?_;rintro e w5 ⟨rfl,a5,c5,R5,s1,s2,s3,s4,s5⟩
    have G:=hide (show ∃a' cap' R,St w5 w2.heap.size a' cap' R/\(∀z,has R z=has (P.take (k+1)) z)/\R.length<=k+1/\(∀x,a'=some x->W.heap.size<=x.block)/\But (fun q=>q=w2.heap.size\/W.heap.size<=q) W w5 from
     ⟨a5,c5,R5,s1,fun z=>by rw[s2,HH.out,TN.out,has_snoc],by omega,fun x hx=>by
       rcases s4 x hx with⟨y,hy,e⟩|h
       · rw[<-e];exact HA.out y hy
       · rw[size_alloc] at h;omega,(HB.out.andBelow axx).trans s5 (fun q hq h=>by
         rcases h with h|⟨y,hy,e⟩
         · exact .inl h
         · exact .inr (by rw[<-e];exact HA.out y hy))⟩)
    clear s1 s2 s3 s4 s5;go_wp2;go_roundw
    case rel=>exact⟨k+1,by omega,by simp,G.out⟩
    case measure=>simp[intOf];omega
  · obtain rfl:k=n:=by omega
    go_wp2;go_ret;refine⟨_,a',cap',R,rfl,⟨hS,sw2,fun x hx=>by have:=ha' x hx;omega,?_⟩,fun z=>by rw[hh,<-lP,List.take_length];exact has_perm hP.out z,hRk⟩
    exact((But.ofBelow (S:=fun _=>False) (bt p3 bW)).trans hB (fun q hq h=>by rcases h with h|h<;>omega)).below (fun _ _ h=>h)
theorem New_none(w:World):Calls Tryz.prog 154 #[.slice none 0 0] w fun e w'=>∃b' a' cap' R,e=.returned (.pointer (some ⟨b',0,none⟩))/\Nw w w' b' a' cap' R/\(∀z,has R z=false)/\R.length<=0:=by
 have hmk:=make_run 0 0 (Nat.le_refl _) (by omega) w
 rw[show((0:Nat):Int)=0 from rfl] at hmk
 have ha:=al w (.cells (madeCells (rcs Rn.zero) (0*2)) 171);have s0:=size_alloc w (.cells (madeCells (rcs Rn.zero) (0*2)) 171);generalize w.alloc (.cells (madeCells (rcs Rn.zero) (0*2)) 171)=W0 at *;have C:=hide (Of_any W0 (some ⟨w.heap.size,0,none⟩) 0 [] (.inl rfl) (by simp) (by simp) (by simp))
 rw[List.length_nil] at C;have S0:=hide s0;clear s0;go_enter Tryz.func154,Tryz.ntmps154;go_wp2;go_loopw [3,11] (fun s i wx=>s=.slice (some ⟨w.heap.size,0,none⟩) 0 0/\i=.int .i64 0/\wx=W0) (fun _ _ _=>0)
 case atStart=>exact⟨rfl,rfl,rfl⟩
 case round=>
  obtain⟨rfl,rfl,rfl⟩:=hrel;go_wp2_with fail
  with_reducible refine C.out.mono ?_
  rintro e w1 ⟨b',a',cap',R,rfl,q1,q2,q3⟩;go_wp2;go_ret;have s0:=S0.out;exact⟨b',a',cap',R,rfl,⟨q1.st,by have:=q1.b;omega,fun x hx=>by have:=q1.a x hx;omega,bt ha q1.w⟩,fun z=>q2 z,q3⟩
def Po.start(r:Int)(C:List Int):Po:=⟨r,C.map fun c=>(c,decide (0<c)),[],0⟩
def nilPd(g:Nat):Pd:=⟨g,fun _=>0,fun _=>none,fun _=>0,fun _=>[],none,0,[]⟩
def inQ(D:Pd)(s t:Nat):Value:=if t<s then .pointer (some ⟨D.s t,0,none⟩) else .pointer none
def boxZ(r:Int)(n:Nat)(D:Pd)(s:Nat):Array Value:=#[.int .i64 r,.slice (some ⟨D.g,0,none⟩) n n,inQ D s 0,inQ D s 1,inQ D s 2,inQ D s 3,inQ D s 4,.slice none 0 0,.int .i64 0]
structure Pz(w0 w:World)(b:Nat)(r:Int)(n:Nat)(D:Pd)(s:Nat)(col:Nat->Nat):Prop where
 box:w.heap[b]?=some (.cells (boxZ r n D s) 131 (0,0))
 pgs:w.heap[D.g]?=some (.cells (pgc (List.replicate n Pg.zero)).toArray 133 (0,0))
 set:∀t,t<s->St w (D.s t) (D.a t) (D.c t) (D.L t)
 emp:∀t,t<s->∀z,has (D.L t) z=false
 na:D.aa=none/\D.ac=0/\D.B=[]
 cb:col b=1
 cg:col D.g=2
 cs:∀t,t<s->col (D.s t)=3+t
 ca:∀t,t<s->∀x,D.a t=some x->col x.block=3+t
 lt:∀k,col k≠0->k<w.heap.size/\w0.heap.size<=k
 bl:Below w0.heap.size w0 w
theorem infoPg:(Tryz.prog.info? 133).map (fun i=>(i.zero,i.size,i.bytes))=some (some (.agg #[.int .i64 0,.bool false]),2,16):=by kernel_rfl
theorem make_pgs(n:Nat)(hc:n<=65536)(w:World):(Instr.makeSlice 126 (.int .i64 (n:Int)) (.int .i64 (n:Int))).run Tryz.prog w=.ok (.slice (some ⟨w.heap.size,0,none⟩) n n) (w.alloc (.cells (madeCells #[.int .i64 0,.bool false] (n*2)) 133)):=by
 obtain⟨i0,hi,hz0,hz1,hz2⟩:=info_parts infoPg;have hr:=run_make (P:=Tryz.prog) w 126 133 i0 (.agg #[.int .i64 0,.bool false]) Tryz.underlying126 hi hz0 .i64 .i64 n n (by omega) (by omega) (by rw[hz2];omega) (by omega)
 simp only[Int.toNat_natCast,hz1] at hr;exact hr
theorem made_pgs(n:Nat):madeCells #[Value.int .i64 0,Value.bool false] (n*2)=(pgc (List.replicate n Pg.zero)).toArray:=by
 unfold madeCells;apply Array.ext
 · simp[pgc_length]
 · intro i h1 h2;have hi:i/2<n:=by simp at h1;omega
   have hg:=pgc_get (List.replicate n Pg.zero) (i/2) (by rw[List.length_replicate];exact hi)
   have e:(List.replicate n Pg.zero).getD (i/2) Pg.zero=Pg.zero:=by simp[List.getD_eq_getElem?_getD,hi]
   rw[e] at hg;have h2':i<(pgc (List.replicate n Pg.zero)).length:=by simpa using h2
   rcases Nat.mod_two_eq_zero_or_one i with m|m
   · have e2:i=i/2*2:=by omega
     have:=hg.1;rw[<-e2,List.getElem?_eq_getElem h2'] at this;simp only[Option.some.injEq] at this;simp[m];exact this.symm
   · have e2:i=i/2*2+1:=by omega
     have:=hg.2;rw[<-e2,List.getElem?_eq_getElem h2'] at this;simp only[Option.some.injEq] at this;simp[m];exact this.symm
theorem Pz.next{w W w':World}{b:Nat}(h:Pz w0 w b r n D s col)(hs:s<5)(hW:Below w.heap.size w W){b':Nat}{a':Option Addr}{c':Nat}{R:List Rn}(hN:Nw W w' b' a' c' R)(hR:∀z,has R z=false):
 Pz w0 (w'.setCell ⟨b,2+s,none⟩ (.pointer (some ⟨b',0,none⟩))) b r n {D with s:=upd D.s s b',a:=upd D.a s a',c:=upd D.c s c',L:=upd D.L s R} (s+1) (recol col w w' (3+s)):=by
 have bw:Below w.heap.size w w':=bt hW hN.w;have old:∀{k:Nat},col k≠0->recol col w w' (3+s) k=col k:=fun hk=>recol_old (h.lt _ hk).1
 have lb:=(h.lt b (by rw[h.cb];decide))
 have bS:But (fun k=>k=b) w (w'.setCell ⟨b,2+s,none⟩ (.pointer (some ⟨b',0,none⟩))):=(But.ofBelow (S:=fun k=>k=b) bw).setCell (p:=⟨b,2+s,none⟩) (fun _=>rfl) _
 have bS':But (fun k=>k=b) w' (w'.setCell ⟨b,2+s,none⟩ (.pointer (some ⟨b',0,none⟩))):=(But.refl (fun k=>k=b) _).setCell (p:=⟨b,2+s,none⟩) (fun _=>rfl) _
 have hsz:=hW.size;have nb:∀k,w.heap.size<=k->k≠b:=fun k hk e=>by omega
 have hb':w'.heap[b]?=_:=(bw.block b lb.1).trans h.box;refine⟨?_,bS.same h.pgs (fun e=>by have:=h.cg;rw[e,h.cb] at this;cases this),fun t ht=>?_,fun t ht z=>?_,h.na,(old (by rw[h.cb];decide)).trans h.cb,(old (by rw[h.cg];decide)).trans h.cg,fun t ht=>?_,fun t ht x hx=>?_,fun k hk=>?_,?_⟩
 · rw[heap_setCell_same _ _ _ _ _ _ hb'];rcases lt5 hs with rfl|rfl|rfl|rfl|rfl<;>rfl
 · show St _ (upd D.s s b' t) (upd D.a s a' t) (upd D.c s c' t) (upd D.L s R t);by_cases e:t=s
   · subst e;rw[upd_same,upd_same,upd_same,upd_same];exact hN.st.but bS' (nb _ (Nat.le_trans hsz hN.b)) (fun x hx=>nb _ (Nat.le_trans hsz (hN.a x hx)))
   · rw[upd_ne _ _ e,upd_ne _ _ e,upd_ne _ _ e,upd_ne _ _ e];have ht':t<s:=by omega
     exact(h.set t ht').but bS (fun e2=>by have:=h.cs t ht';rw[e2,h.cb] at this;omega) (fun x hx e2=>by have:=h.ca t ht' x hx;rw[e2,h.cb] at this;omega)
 · show has (upd D.L s R t) z=false;by_cases e:t=s
   · subst e;rw[upd_same];exact hR z
   · rw[upd_ne _ _ e];exact h.emp t (by omega) z
 · show recol col w w' (3+s) (upd D.s s b' t)=3+t;by_cases e:t=s
   · subst e;rw[upd_same];exact recol_new (Nat.le_trans hsz hN.b) hN.st.lt
   · rw[upd_ne _ _ e,old (by rw[h.cs t (by omega)];omega)];exact h.cs t (by omega)
 · have hx:upd D.a s a' t=some x:=hx;by_cases e:t=s
   · subst e;rw[upd_same] at hx;exact recol_new (Nat.le_trans hsz (hN.a x hx)) (hN.st.row.lt hx)
   · rw[upd_ne _ _ e] at hx;rw[old (by rw[h.ca t (by omega) x hx];omega)];exact h.ca t (by omega) x hx
 · by_cases e:k<w.heap.size
   · rw[recol_old e] at hk;exact⟨Nat.lt_of_lt_of_le e bS.size,(h.lt k hk).2⟩
   · exact⟨Nat.lt_of_lt_of_le (recol_lt bw.size hk) bS'.size,by have:=h.bl.size;omega⟩
 · exact((But.ofBelow (S:=fun _=>False) (bt h.bl bw)).setCell (p:=⟨b,2+s,none⟩) (fun e=>by have e:b<w0.heap.size:=e;omega) _).below (fun _ _ h=>h)
theorem Pz.done{w:World}{b:Nat}(h:Pz w0 w b r n D 5 col):Pq w b ⟨r,List.replicate n Pg.zero,[],0⟩ D col:=by
 obtain⟨n1,n2,n3⟩:=h.na;refine⟨?_,h.pgs,h.set,?_,by rw[n3];rfl,fun q hq=>(by rw[n3] at hq;cases hq),h.cb,h.cg,h.cs,h.ca,fun x hx=>(by rw[n1] at hx;cases hx),fun t ht=>(by rw[n3] at ht;cases ht),fun k hk=>(h.lt k hk).1⟩
 · rw[h.box];show some (Obj.cells _ _ _)=some (Obj.cells (boxC _ _) _ _);unfold boxC boxZ inQ;simp[n1,n2]
 · rw[n1,n2,n3];exact Gw.nil _ _ _
def pgOf(C:List Int):List Pg:=C.map fun c=>(c,decide (0<c))
theorem pgOf_length(C:List Int):(pgOf C).length=C.length:=by simp[pgOf]
theorem pgOf_snoc{C:List Int}(h:i<C.length):pgOf (C.take (i+1))=pgOf (C.take i)++[(C.getD i 0,decide (0<C.getD i 0))]:=by
 unfold pgOf;rw[take_next C 0 h,List.map_append];rfl
structure Pf(w wr:World)(b:Nat)(r:Int)(C:List Int)(i:Nat)(D:Pd)(col:Nat->Nat):Prop where
 q:Pq wr b ⟨r,pgOf (C.take i)++List.replicate (C.length-i) Pg.zero,[],0⟩ D col
 m:∀s,s<5->∀z,has (D.L s) z=inS (pgOf (C.take i)) s z
 bl:Below w.heap.size w wr
 nw:∀k,col k≠0->w.heap.size<=k
theorem Pf.len{w:World}{b:Nat}{C:List Int}(h:Pf w wr b r C i D col)(hi:i<=C.length):(pgOf (C.take i)++List.replicate (C.length-i) Pg.zero).length=C.length:=by
 rw[List.length_append,pgOf_length,List.length_take,List.length_replicate];omega
theorem Pf.few{w:World}{b:Nat}{C:List Int}(h:Pf w wr b r C i D col)(hC:C.length<=65536)(hs:s<5):(D.L s).length<=65536:=by
 refine can_few (h.q.set s hs).can fun q hq=>?_
 have hle:=(h.q.set s hs).can.1 q hq;have h1:=(inS_iff.1 ((h.m s hs q.1).symm.trans ((has_iff _ _).2 ⟨q,hq,Int.le_refl _,hle⟩))).1;have h2:=(inS_iff.1 ((h.m s hs q.2).symm.trans ((has_iff _ _).2 ⟨q,hq,hle,Int.le_refl _⟩))).2.1;rw[pgOf_length,List.length_take] at h2;omega
theorem inS_snoc(P:List Pg)(x:Pg)(s:Nat)(z:Int):inS (P++[x]) s z=(inS P s z||(decide (z=((P.length+1:Nat):Int))&&decide (stt x=s))):=by
 by_cases hz:z=((P.length+1:Nat):Int)
 · rw[decide_eq_true hz,Bool.true_and]
   have e1:inS P s z=false:=by
    unfold inS;rw[decide_eq_false (show ¬z<=(P.length:Int) by omega)];simp
   rw[e1,Bool.false_or,hz,inS_at (by omega) (by simp)]
   congr 1
   rw[Nat.add_sub_cancel,List.getD_eq_getElem?_getD,List.getElem?_append_right (Nat.le_refl _),Nat.sub_self];rfl
 · rw[decide_eq_false hz,Bool.false_and,Bool.or_false];unfold inS;rw[List.length_append,List.length_singleton];by_cases h1:1<=z
   · by_cases h2:z<=(P.length:Int)
     · rw[decide_eq_true h2,decide_eq_true (show z<=((P.length+1:Nat):Int) by omega)]
       rw[List.getD_eq_getElem?_getD,List.getElem?_append_left (by omega),<-List.getD_eq_getElem?_getD]
     · rw[decide_eq_false h2,decide_eq_false (show ¬z<=((P.length+1:Nat):Int) by omega)]
       simp
   · rw[decide_eq_false h1];simp
theorem set_fill{C:List Int}(h:i<C.length)(x:Pg):(pgOf (C.take i)++List.replicate (C.length-i) Pg.zero).set i x=pgOf (C.take i)++x::List.replicate (C.length-(i+1)) Pg.zero:=by
 have hl:(pgOf (C.take i)).length=i:=by rw[pgOf_length,List.length_take];omega
 rw[List.set_append_right _ _ (by omega),hl,Nat.sub_self]
 obtain⟨m,hm⟩:∃m,C.length-i=m+1:=⟨C.length-i-1,by omega⟩
 rw[hm,List.replicate_succ,List.set_cons_zero,show C.length-(i+1)=m by omega]
theorem filled_any(w:World)(r:Int)(a:Option Addr)(cap:Nat)(C:List Int)(hC:Ir w a C)(h1:1<=C.length)(h2:C.length<=65536)(hr:2<=r/\r<65536)(hc:∀c∈C,0<=c/\c<=r):
 Calls Tryz.prog 123 #[.int .i64 r,.slice a C.length cap] w fun e w'=>∃b col,e=.returned (.pointer (some ⟨b,0,none⟩))/\Pl w' b (Po.start r C) col/\Below w.heap.size w w'/\∀k,col k≠0->w.heap.size<=k:=by
 have hmk:=make_pgs C.length h2 w;rw[made_pgs] at hmk;have HC:=hide hC;have HH:=hide hc;have HR:=hide hr;clear hC hc hr;obtain⟨n,hn⟩:∃n,C.length=n:=⟨_,rfl⟩;have HN:=hide hn;rw[hn] at hmk h1 h2 ⊢;clear hn;obtain⟨W1,hW1⟩:∃W1,(w.alloc (.cells (pgc (List.replicate n Pg.zero)).toArray 133)).alloc (.cells #[.int .i64 r,.slice (some ⟨w.heap.size,0,none⟩) n n,.pointer none,.pointer none,.pointer none,.pointer none,.pointer none,.slice none 0 0,.int .i64 0] 131)=W1:=⟨_,rfl⟩
 have Z0:=hide (show Pz w W1 (w.heap.size+1) r n (nilPd w.heap.size) 0 (fun k=>if k=w.heap.size+1 then 1 else if k=w.heap.size then 2 else 0) by
  have sz:W1.heap.size=w.heap.size+1+1:=by rw[<-hW1,size_alloc,size_alloc]
  refine⟨?_,?_,fun t ht=>by omega,fun t ht=>by omega,⟨rfl,rfl,rfl⟩,by simp,by simp[nilPd],fun t ht=>by omega,fun t ht=>by omega,fun k hk=>?_,?_⟩
  · rw[<-hW1];have c:=World.alloc_heap_new (w.alloc (.cells (pgc (List.replicate n Pg.zero)).toArray 133)) (.cells #[.int .i64 r,.slice (some ⟨w.heap.size,0,none⟩) n n,.pointer none,.pointer none,.pointer none,.pointer none,.pointer none,.slice none 0 0,.int .i64 0] 131);rwa [size_alloc] at c
  · rw[<-hW1];have c:=World.alloc_heap_new w (.cells (pgc (List.replicate n Pg.zero)).toArray 133);exact((al _ _).block w.heap.size (Array.getElem?_eq_some_iff.1 c).1).trans c
  · rw[sz];split at hk
    · omega
    · split at hk
      · omega
      · exact absurd rfl hk
  · rw[<-hW1];exact bt (al _ _) (al _ _))
 have HW1:=hide hW1;clear hW1;go_enter Tryz.func123,Tryz.ntmps123;go_wp2_with fail
 rw[HW1.out];clear hmk HW1;go_loopw [16] (fun i wr=>∃(s:Nat)(D:Pd)(col:Nat->Nat),s<=5/\i=.int .i64 (s:Int)/\Pz w wr (w.heap.size+1) r n D s col) (fun i _=>5-(intOf i).toNat)
 case atStart=>exact⟨0,_,_,by omega,rfl,Z0.out⟩
 case round=>
  obtain⟨s,D,col,hs,rfl,hz⟩:=hrel;have HZ:=hide hz;clear hz Z0;by_cases hlt:s<5
  · have cb:=cell_of_row _ _ (2+s) _ _ _ HZ.out.box
    have cS:wr.cell? ⟨w.heap.size+1,2+s,none⟩=some (.pointer none):=by
     rw[cb];rcases lt5 hlt with rfl|rfl|rfl|rfl|rfl<;>rfl
    have fS:wr.frozen? ⟨w.heap.size+1,2+s,none⟩=false:=by simp[World.frozen?,HZ.out.box]
    have hi5:(s:Int)<5:=by omega
    clear cb;go_wp2_with fail
    go_region_with (go_at_call 154;refine(New_none _).mono ?_;rintro _ w3 ⟨b',a',c',R,rfl,hN,hR,-⟩;have c3:=(hN.w.cell (p:=⟨w.heap.size+1,2+s,none⟩) (block_lt_of_cell cS)).trans cS;have f3:=(hN.w.frozen (p:=⟨w.heap.size+1,2+s,none⟩) (block_lt_of_cell cS)).trans fS;have HZ2:=hide (HZ.out.next hlt (drw wr) hN hR);clear hN hR)
    all_goals
     clear c3 f3;go_wp2;go_roundw
    all_goals first
     |exact⟨s+1,_,_,by omega,by go_num,HZ2.out⟩
     |(simp[intOf];omega)
  · have h5:(s:Int)=5:=by omega
    have HZ:Hid (Pz w wr (w.heap.size+1) r n D 5 col):=hide (by have z:=HZ.out;rw[show s=5 by omega] at z;exact z)
    rw[h5];clear h5 hs hlt
    have F0:=hide (show Pf w wr (w.heap.size+1) r C 0 D col from⟨by
     rw[List.take_zero,Nat.sub_zero,HN.out];exact HZ.out.done,fun t ht z=>by
     rw[HZ.out.emp t ht z,List.take_zero];unfold inS;rw[show(pgOf []).length=0 from rfl]
     by_cases hz:1<=z
     · rw[decide_eq_false (show ¬z<=((0:Nat):Int) by omega)];simp
     · rw[decide_eq_false hz];simp,HZ.out.bl,fun k hk=>(HZ.out.lt k hk).2⟩)
    generalize w.heap.size+1=b at *;clear HZ;go_wp2_with fail
    go_loopw [28] (fun i wr=>∃(k:Nat)(D:Pd)(col:Nat->Nat),k<=n/\i=.int .i64 (k:Int)/\Pf w wr b r C k D col) (fun i _=>n-(intOf i).toNat)
    case atStart=>exact⟨0,_,_,by omega,rfl,F0.out⟩
    case round=>
     clear F0;obtain⟨i,D,col,hi,rfl,hf⟩:=hrel;have HF:=hide hf;clear hf;by_cases hlt:i<n
     · have hil:i<C.length:=by rw[HN.out];exact hlt
       obtain⟨b1,o1,rfl,cA⟩:=(HC.out.keep HF.out.bl).at hil;have hcm:=HH.out (C.getD i 0) (by simp[hil])
       obtain⟨c,hc⟩:∃c,C.getD i 0=c:=⟨_,rfl⟩;have EC:=hide hc;rw[hc] at cA hcm;clear hc;have aw:=al wr (.cells #[.int .i64 c,.bool (decide (0<c))] 133);have X1:=two_cells wr c (decide (0<c));have q1:=HF.out.q.keep aw;have hlen:=HF.out.len (by rw[HN.out];exact hi)
       have c1:=q1.c1;rw[show(⟨r,pgOf (C.take i)++List.replicate (C.length-i) Pg.zero,[],0⟩:Po).pg.length=n from hlen.trans HN.out] at c1
       have d12:=q1.pgAt (i:=i) (by show i<(pgOf (C.take i)++List.replicate (C.length-i) Pg.zero).length;rw[hlen];exact hil)
       obtain⟨d1,d2⟩:=d12;generalize ((⟨r,pgOf (C.take i)++List.replicate (C.length-i) Pg.zero,[],0⟩:Po).pg.getD i Pg.zero)=xo at d1 d2;have g1:=q1.pgf (i*2);have g2:=q1.pgf (i*2+1);obtain⟨x0,x1⟩:=X1;obtain⟨W1,hW1⟩:∃W1,wr.alloc (.cells #[.int .i64 c,.bool (decide (0<c))] 133)=W1:=⟨_,rfl⟩;rw[hW1] at c1 d1 d2 g1 g2 x0 x1 aw q1;have c1':W1.drew.cell? ⟨b,1,none⟩=_:=c1;have d3:W1.drew.cell? ⟨D.g,i*2,none⟩=_:=d1;have d4:W1.drew.cell? ⟨D.g,i*2+1,none⟩=_:=d2;have g3:W1.drew.frozen? ⟨D.g,i*2,none⟩=false:=g1;have g4:W1.drew.frozen? ⟨D.g,i*2+1,none⟩=false:=g2;have x0':W1.drew.cell? ⟨wr.heap.size,0,none⟩=_:=x0;have x1':W1.drew.cell? ⟨wr.heap.size,1,none⟩=_:=x1;have hiI:(i:Int)<(n:Int):=by omega
       have hh:=set_page q1.pgs i (c,decide (0<c));have hbu:But (fun k=>k=D.g) W1 ((W1.setCell ⟨D.g,i*2,none⟩ (.int .i64 c)).setCell ⟨D.g,i*2+1,none⟩ (.bool (decide (0<c)))).drew:=(((But.refl (fun k=>k=D.g) W1).setCell (p:=⟨D.g,i*2,none⟩) (fun _=>rfl) _).setCell (p:=⟨D.g,i*2+1,none⟩) (fun _=>rfl) _).drew
       have Q2:=hide (q1.page (i+1) (c,decide (0<c)) hh hbu);have gx:wr.heap.size≠D.g:=fun e=>by have:=HF.out.q.lt D.g (by rw[HF.out.q.cg];decide);omega
       have X2:=hide (show((W1.setCell ⟨D.g,i*2,none⟩ (.int .i64 c)).setCell ⟨D.g,i*2+1,none⟩ (.bool (decide (0<c)))).drew.cell? ⟨wr.heap.size,0,none⟩=some (.int .i64 c)/\((W1.setCell ⟨D.g,i*2,none⟩ (.int .i64 c)).setCell ⟨D.g,i*2+1,none⟩ (.bool (decide (0<c)))).drew.cell? ⟨wr.heap.size,1,none⟩=some (.bool (decide (0<c))) from
        ⟨(hbu.cell (p:=⟨wr.heap.size,0,none⟩) (block_lt_of_cell x0) gx).trans x0,(hbu.cell (p:=⟨wr.heap.size,1,none⟩) (block_lt_of_cell x1) gx).trans x1⟩)
       have BW:=hide (show Below w.heap.size w ((W1.setCell ⟨D.g,i*2,none⟩ (.int .i64 c)).setCell ⟨D.g,i*2+1,none⟩ (.bool (decide (0<c)))).drew from((But.ofBelow (S:=fun _=>False) (bt HF.out.bl aw)).trans hbu (fun k hk e=>by have:=HF.out.nw D.g (by rw[HF.out.q.cg];decide);rw[e] at hk;omega)).below (fun _ _ h=>h))
       have HW1:=hide hW1;clear hW1 hh hbu q1 aw;go_wp2_with fail
       rw[HW1.out];go_region
       all_goals
        generalize ((W1.setCell ⟨D.g,i*2,none⟩ (.int .i64 c)).setCell ⟨D.g,i*2+1,none⟩ (.bool (decide (0<c)))).drew=W2 at *;clear c1 c1' d1 d2 d3 d4 g1 g2 g3 g4 x0 x1 x0' x1' HW1;have ST:=hide fun(W:World)=>stt_any W (c,decide (0<c))
        obtain⟨t,ht⟩:∃t,stt (c,decide (0<c))=t:=⟨_,rfl⟩;have t1:=stt_pos (c,decide (0<c));rw[ht] at ST t1;have HT:=hide ht;clear ht;obtain⟨y0,y1⟩:=X2.out;have z0:W2.drew.cell? ⟨wr.heap.size,0,none⟩=_:=y0;have z1:W2.drew.cell? ⟨wr.heap.size,1,none⟩=_:=y1;have s1:IntKind.i64.wrap ((i:Int)+1)=(i:Int)+1:=wrapI (by omega) (by omega)
        have s2:wrap64 ((i:Int)+1)=(i:Int)+1:=by unfold wrap64;omega
        have AD:=hide fun(W3:World)(hb:Below W2.heap.size W2 W3)=>Add_any W3 (D.s t) (D.a t) (D.c t) (D.L t) ((i:Int)+1) ((i:Int)+1) ((Q2.out.keep hb).set t (by omega)) (by unfold Nm;omega) (by unfold Nm;omega) (by have:=HF.out.few (by rw[HN.out];exact h2) (s:=t) (by omega);omega)
        have FIN:=hide (show ∀(W3 w4:World)(a4:Option Addr)(k4:Nat)(L4:List Rn),Below W2.heap.size W2 W3->St w4 (D.s t) a4 k4 L4->(∀z,has L4 z=(has (D.L t) z||(decide ((i:Int)+1<=z)&&decide (z<=(i:Int)+1))))->New W3 (D.a t) a4->But (fun k=>k=D.s t\/InA (D.a t) k) W3 w4->∃D' col',Pf w w4 b r C (i+1) D' col' from fun W3 w4 a4 k4 L4 hb hS hH hN hB=>by
         have q3:=(Q2.out.keep hb).oneSet (s:=t) (by omega) hS hN hB
         refine⟨{D with a:=upd D.a t a4,c:=upd D.c t k4,L:=upd D.L t L4},recol col W3 w4 (3+t),⟨?_,fun s hs z=>?_,?_,fun k hk=>?_⟩⟩
         · have e:(⟨r,pgOf (C.take i)++List.replicate (C.length-i) Pg.zero,[],0⟩:Po).put (i+1) (c,decide (0<c))=⟨r,pgOf (C.take (i+1))++List.replicate (C.length-(i+1)) Pg.zero,[],0⟩:=by
            unfold Po.put;simp only[Nat.add_sub_cancel];rw[set_fill hil,pgOf_snoc hil,EC.out,List.append_assoc];rfl
           rw[e] at q3;exact q3
         · show has (upd D.L t L4 s) z=inS (pgOf (C.take (i+1))) s z;rw[pgOf_snoc hil,EC.out,inS_snoc,pgOf_length,List.length_take,Nat.min_eq_left (by omega),HT.out]
           have ez:(decide ((i:Int)+1<=z)&&decide (z<=(i:Int)+1))=decide (z=((i+1:Nat):Int)):=by
            by_cases hz:z=((i+1:Nat):Int)
            · rw[decide_eq_true hz,decide_eq_true (by omega),decide_eq_true (by omega)];rfl
            · rw[decide_eq_false hz];by_cases h3:(i:Int)+1<=z
              · rw[decide_eq_false (show ¬z<=(i:Int)+1 by omega),Bool.and_false]
              · rw[decide_eq_false h3,Bool.false_and]
           by_cases hst:s=t
           · subst hst;rw[upd_same,hH,ez,HF.out.m s hs];simp
           · rw[upd_ne _ _ hst,HF.out.m s hs,decide_eq_false (show ¬t=s from fun e=>hst e.symm)];simp
         · refine((But.ofBelow (S:=fun _=>False) (bt BW.out hb)).trans hB (fun k hk e=>?_)).below (fun _ _ h=>h)
           rcases e with rfl|⟨y,hy,rfl⟩
           · have:=HF.out.nw _ (show col (D.s t)≠0 by rw[HF.out.q.cs t (by omega)];omega);omega
           · have:=HF.out.nw _ (show col y.block≠0 by rw[HF.out.q.ca t (by omega) y hy];omega);omega
         · have sw:=(bt BW.out hb).size;by_cases e:k<W3.heap.size
           · rw[recol_old e] at hk;exact HF.out.nw k hk
           · omega)
        have HB:=hide (drw W2);go_wp2_with fail
        go_region_with (first
         |(go_at_call 112;refine(ST.out _).mono ?_;rintro _ w3 ⟨rfl,hb3⟩;have HB:=hide (bt HB.out hb3);have ct:=(Q2.out.keep HB.out).cin (s:=t) (by omega);clear hb3)
         |(go_at_call 155;refine(AD.out _ HB.out).mono ?_;rintro _ w4 ⟨rfl,a4,k4,L4,hS4,hH4,-,hN4,hB4⟩;have FF:=hide (FIN.out _ _ a4 k4 L4 HB.out hS4 hH4 hN4 hB4);clear hS4 hH4 hN4 hB4))
       all_goals
        clear ct y0 y1 z0 z1;go_wp2;go_roundw
       all_goals first
        |(obtain⟨D',col',ff⟩:=FF.out;exact⟨i+1,D',col',by omega,by go_num,ff⟩)
        |(simp[intOf];omega)
     · obtain rfl:i=n:=by omega
       go_wp2;go_ret;have q:=HF.out.q;rw[<-HN.out,List.take_length,Nat.sub_self,List.replicate_zero,List.append_nil] at q;have m:=HF.out.m;rw[<-HN.out,List.take_length] at m;refine⟨b,col,rfl,⟨D,q,⟨?_,?_,HR.out.1,HR.out.2,?_,fun a ha=>by cases ha⟩,m⟩,HF.out.bl,HF.out.nw⟩
       · show 1<=(pgOf C).length;rw[pgOf_length,HN.out];exact h1
       · show(pgOf C).length<=_;rw[pgOf_length,HN.out];exact h2
       · intro x hx;obtain⟨c,hc,rfl⟩:=List.mem_map.1 hx;exact HH.out c hc
theorem made_ints(n:Nat):madeCells #[Value.int .i64 0] n=(vi (List.replicate n 0)).toArray:=by
 unfold madeCells vi;apply Array.ext
 · simp
 · intro i h1 h2;simp[Nat.mod_one]
theorem made_ir(w:World)(n:Nat):Ir (w.alloc (.cells (vi (List.replicate n 0)).toArray 3)) (some ⟨w.heap.size,0,none⟩) (List.replicate n 0):=
 .inr ⟨w.heap.size,0,rfl,fun i hi=>by
   rw[Nat.zero_add,cell_of_row _ _ _ _ _ _ (World.alloc_heap_new w _)];rw[List.getElem?_toArray];exact vi_get _ i hi⟩
def Made(w w':World)(b:Nat)(P:Po):Prop:=∃col,Pl w' b P col/\Below w.heap.size w w'/\∀k,col k≠0->w.heap.size<=k
theorem New_no(w:World)(n r:Int)(h:fits n r=false):Calls Tryz.prog 71 #[.int .i64 n,.int .i64 r] w fun e w'=>e=.returned (.tuple #[.pointer none,.int .i64 1])/\w'=w:=by
 have C:=hide (fits_any w n r);rw[h] at C;clear h;go_enter Tryz.func71,Tryz.ntmps71;go_wp2_with fail
 refine C.out.mono ?_;rintro _ wq ⟨rfl,hwq⟩;obtain rfl:=hwq.symm;go_wp2;go_ret2
 exact⟨rfl,rfl⟩
theorem fits_iff{n:Int}:fits n r=true↔(1<=n/\n<=65536)/\2<=r/\r<65536:=by unfold fits;simp[and_assoc]
theorem New_yes(w:World)(n r:Int)(h:fits n r=true):Calls Tryz.prog 71 #[.int .i64 n,.int .i64 r] w fun e w'=>∃b,e=.returned (.tuple #[.pointer (some ⟨b,0,none⟩),.int .i64 0])/\Made w w' b (Po.start r (List.replicate n.toNat 0)):=by
 have C:=hide (fits_any w n r);rw[h] at C;obtain⟨⟨h1,h2⟩,h3⟩:=fits_iff.1 h;obtain⟨m,rfl⟩:∃m:Nat,n=(m:Int):=⟨n.toNat,by omega⟩
 have hmk:=make_int m (by omega) w
 rw[made_ints] at hmk;have aw:=al w (.cells (vi (List.replicate m 0)).toArray 3);have F:=hide (filled_any (w.alloc (.cells (vi (List.replicate m 0)).toArray 3)) r (some ⟨w.heap.size,0,none⟩) m (List.replicate m 0) (made_ir w m) (by rw[List.length_replicate];omega) (by rw[List.length_replicate];omega) h3 (fun c hc=>by rw[(List.mem_replicate.1 hc).2];omega))
 rw[List.length_replicate] at F;rw[Int.toNat_natCast];have AW:=hide aw;clear h aw h1 h2 h3;go_enter Tryz.func71,Tryz.ntmps71;go_wp2_with fail
 refine C.out.mono ?_;rintro _ wq ⟨rfl,hwq⟩;obtain rfl:=hwq.symm;go_wp2_with fail
 refine F.out.mono ?_;rintro _ w1 ⟨b,col,rfl,hP,hB,hN⟩;have HM:=hide (show Made w w1 b (Po.start r (List.replicate m 0)) from⟨col,hP,bt AW.out hB,fun k hk=>by have:=hN k hk;have:=AW.out.size;omega⟩)
 clear hP hB hN;go_wp2;go_ret2
 exact⟨b,rfl,HM.out⟩
def badC(r:Int)(C:List Int):Bool:=C.any fun c=>decide (c<0)||decide (r<c)
theorem Load_no(w:World)(r:Int)(a:Option Addr)(n cap:Nat)(h:fits n r=false):Calls Tryz.prog 65 #[.int .i64 r,.slice a n cap] w fun e w'=>e=.returned (.tuple #[.pointer none,.int .i64 1])/\w'=w:=by
 have C:=hide (fits_any w n r);rw[h] at C;clear h;go_enter Tryz.func65,Tryz.ntmps65;go_wp2_with fail
 refine C.out.mono ?_;rintro _ wq ⟨rfl,hwq⟩;obtain rfl:=hwq.symm;go_wp2;go_ret2
 exact⟨rfl,rfl⟩
theorem badC_iff{C:List Int}:badC r C=false↔∀c∈C,0<=c/\c<=r:=by
 unfold badC;rw[List.any_eq_false];constructor
 · intro h c hc;have:=h c hc;simp only[Bool.or_eq_true,decide_eq_true_eq] at this;omega
 · intro h c hc;have:=h c hc;simp only[Bool.or_eq_true,decide_eq_true_eq];omega
theorem bad_at{C:List Int}(h:i<C.length)(hb:C.getD i 0<0\/r<C.getD i 0):badC r C=true:=by
 unfold badC;rw[List.any_eq_true];refine⟨C.getD i 0,by simp[h],?_⟩
 simp only[Bool.or_eq_true,decide_eq_true_eq];exact hb
theorem Load_any(w:World)(r:Int)(a:Option Addr)(n cap:Nat)(C:List Int)(hC:Ir w a C)(hn:n=C.length)(h:fits n r=true):Calls Tryz.prog 65 #[.int .i64 r,.slice a n cap] w fun e w'=>
 (badC r C=true/\e=.returned (.tuple #[.pointer none,.int .i64 13])/\w'=w)\/(badC r C=false/\∃b,e=.returned (.tuple #[.pointer (some ⟨b,0,none⟩),.int .i64 0])/\Made w w' b (Po.start r C)):=by
 have CF:=hide (fits_any w n r);rw[h] at CF;obtain⟨⟨h1,h2⟩,h3⟩:=fits_iff.1 h;have HN:=hide hn;have HC:=hide hC;have HR:=hide h3;clear h hn hC h3;go_enter Tryz.func65,Tryz.ntmps65;go_wp2_with fail
 refine CF.out.mono ?_;rintro _ wq ⟨rfl,hwq⟩;obtain rfl:=hwq.symm;go_wp2_with fail
 go_loopw [15] (fun i wr=>∃k:Nat,k<=n/\i=.int .i64 (k:Int)/\(∀c∈C.take k,0<=c/\c<=r)/\wr=w) (fun i _=>n-(intOf i).toNat)
 case atStart=>exact⟨0,Nat.zero_le _,rfl,by simp,rfl⟩
 case round=>
  obtain⟨i,hi,rfl,hg,hwr⟩:=hrel;obtain rfl:=hwr.symm;have HG:=hide hg;clear hg;by_cases hlt:i<n
  · have hil:i<C.length:=by rw[<-HN.out];exact hlt
    obtain⟨b1,o1,rfl,cA⟩:=HC.out.at hil;have BA:=hide (bad_at (r:=r) hil);have SN:=hide (take_next C 0 hil);obtain⟨c,hc⟩:∃c,C.getD i 0=c:=⟨_,rfl⟩;rw[hc] at cA BA SN;have hiI:(i:Int)<(n:Int):=by omega
    clear hc;by_cases h0:c<0
    · have d0:decide (c<0)=true:=decide_eq_true h0;go_wp2;go_ret2
      exact .inl ⟨BA.out (.inl h0),rfl,rfl⟩
    · have d0:decide (c<0)=false:=decide_eq_false h0;by_cases hr:r<c
      · have d1:decide (r<c)=true:=decide_eq_true hr;go_wp2;go_ret2
        exact .inl ⟨BA.out (.inr hr),rfl,rfl⟩
      · have d1:decide (r<c)=false:=decide_eq_false hr;go_wp2;go_roundw
        case rel=>exact⟨i+1,by omega,by go_num,fun x hx=>by
         rw[SN.out] at hx;rcases List.mem_append.1 hx with hx|hx
         · exact HG.out x hx
         · obtain rfl:=List.mem_singleton.1 hx;omega,by trivial⟩
        case measure=>simp[intOf];omega
  · obtain rfl:i=n:=by omega
    have hall:∀c∈C,0<=c/\c<=r:=by have t:=HG.out;rwa [HN.out,List.take_length] at t
    have F:=hide (filled_any w r a cap C HC.out (by rw[<-HN.out];omega) (by rw[<-HN.out];omega) HR.out hall)
    rw[<-HN.out] at F;have HB:=hide (badC_iff.2 hall);clear hall;go_wp2_with fail
    refine F.out.mono ?_;rintro _ w1 ⟨b,col,rfl,hP,hB,hN⟩;have HM:=hide (show Made w w1 b (Po.start r C) from⟨col,hP,hB,hN⟩)
    clear hP hB hN;go_wp2;go_ret2
    exact .inr ⟨HB.out,b,rfl,HM.out⟩
def Po.counts(P:Po):List Int:=P.pg.map Prod.fst
def Po.pages(P:Po)(z:Int):List Int:=if 1<=z/\z<=4 then pagesOf P.pg z.toNat else []
theorem Tally_any(w:World)(b:Nat)(P:Po)(col:Nat->Nat)(h:Pl w b P col)(z:Int):Calls Tryz.prog 49 #[.pointer (some ⟨b,0,none⟩),.int .i64 z] w fun e w'=>e=.returned (.int .i64 (((P.pages z).length:Nat):Int))/\Below w.heap.size w w':=by
 obtain⟨D,h⟩:=h;have C:=hide (isState_any w z);unfold Po.pages;by_cases h1:1<=z/\z<=4
 · rw[if_pos h1];rw[decide_eq_true h1.1,decide_eq_true h1.2] at C;obtain⟨s,rfl⟩:∃s:Nat,z=(s:Int):=⟨z.toNat,by omega⟩
   rw[Int.toNat_natCast];have ci:=h.q.cin (s:=s) (by omega)
   have np:=nums_pages (h.q.set s (by omega)).can (h.mem s (by omega))
   have LE:=hide (Len_any w (D.s s) (D.a s) (D.c s) (D.L s) (h.q.set s (by omega)))
   have hl:=pagesOf_len P.pg s;have:=h.ok.l2;rw[<-nums_len,np,Nat.min_eq_left (by unfold mxi;omega)] at LE
   clear h np hl this;generalize (pagesOf P.pg s).length=m at *;simp only[Bool.and_self] at C;go_enter Tryz.func49,Tryz.ntmps49;go_wp2_with fail
   refine C.out.mono ?_;rintro _ wq ⟨rfl,hwq⟩;obtain rfl:=hwq.symm;go_wp2_with fail
   refine LE.out.mono ?_;rintro _ w1 ⟨rfl,hb⟩;have HB:=hide hb;clear hb;go_wp2;go_ret;exact⟨rfl,HB.out⟩
 · rw[if_neg h1]
   have e:(decide (1<=z)&&decide (z<=4))=false:=by
    by_cases a:1<=z
    · rw[decide_eq_false (show ¬z<=4 by omega)];simp
    · rw[decide_eq_false a];simp
   rw[e] at C;clear h h1 e;go_enter Tryz.func49,Tryz.ntmps49;go_wp2_with fail
   refine C.out.mono ?_;rintro _ wq ⟨rfl,hwq⟩;obtain rfl:=hwq.symm;go_wp2;go_ret;exact⟨rfl,Below.refl _ _⟩
theorem infoAct:(Tryz.prog.info? 191).map (fun i=>(i.zero,i.size,i.bytes))=some (some (.agg #[.nilFunc]),1,8):=by kernel_rfl
theorem run_apA(w:World)(ty:TypeId)(a:Option Addr)(n cap:Nat)(B:List (Nat×Nat×Nat))(hR:Gw 191 1 w a cap n (B.map clo))(ad:Addr)(c:Nat)(t:Nat×Nat×Nat)(hc:w.cell? ad=some (clo t))(hlen:n+1<=17592186044416):
 ∃g cap' w',(Builtin.append_ #[129,129] ty #[.slice a n cap,.slice (some ad) 1 c]).run Tryz.prog w=.ok (.slice (some ⟨g,0,none⟩) (n+1) cap') w'/\
  Gw 191 1 w' (some ⟨g,0,none⟩) cap' (n+1) ((B++[t]).map clo)/\New w a (some ⟨g,0,none⟩)/\But (InA a) w w':=by
 obtain⟨i0,hi,hz0,hz1,hz2⟩:=info_parts infoAct;have hb:(n+1)*8<=140737488355328:=by omega
 obtain⟨g,cap',w',hr,h1,h2,h3,h4⟩:=run_append_lies (P:=Tryz.prog) w 129 ty 0 191 i0 (.agg #[.nilFunc]) 1 8 Tryz.underlying129 hi hz0 hz1 hz2 rfl (by decide) (.slice a n cap) n (B.map clo) hR ad 1 c [clo t] rfl
  (by intro j u hj
      match j,hj with
      |0,hj=>simp at hj;subst hj;simpa[Addr.add] using hc) (by intro u hu;simp at hu;subst hu;rfl) (by decide) (by unfold maxLen;omega) hb (Nat.zero_le _) w.heap.size rfl
 rw[ob_eq] at h2 h3;refine⟨g,cap',w',hr,by rw[List.map_append];exact h1,?_,But.inA h2⟩
 intro y hy;simp only[Option.some.injEq] at hy;subst hy;rcases h3 with h3|h3
 · obtain⟨z,hz,e⟩:=map_some h3;exact .inl ⟨z,hz,e⟩
 · exact .inr (by show _<=g;omega)
theorem step_apA{w:World}{ops:Array Oper}{o:Oper}{a:Act}{K:Act->World->Prop}{Q:Exit->Act->World->Prop}{E:Prop}(hgd:o.guard=none)(s x:Operand)
 (ho:o.op=.call {callee:=.builtin .append,args:=#[s,x],argTypes:=#[129,129]}) (ao:Option Addr) (n cap:Nat) (B:List (Nat×Nat×Nat)) (hs:a.eval s=.slice ao n cap) (hR:Gw 191 1 w ao cap n (B.map clo))
 (ad:Addr) (c:Nat) (t:Nat×Nat×Nat) (hx:a.eval x=.slice (some ad) 1 c) (hc:w.cell? ad=some (clo t)) (hlen:n+1<=17592186044416)
 (h:∀g cap' w',Gw 191 1 w' (some ⟨g,0,none⟩) cap' (n+1) ((B++[t]).map clo)->New w ao (some ⟨g,0,none⟩)->But (InA ao) w w'->K (a.put o.dst (.slice (some ⟨g,0,none⟩) (n+1) cap')) w'):
 if Region.wanted o (yielded ops a.tmps)=true then Oper.wp Tryz.prog o a w K Q else E:=by
 have hw:Region.wanted o (yielded ops a.tmps)=true:=by simp[Region.wanted,hgd]
 rw[if_pos hw];obtain⟨g,cap',w',hr,h1,h2,h3⟩:=run_apA w o.type ao n cap B hR ad c t hc hlen;unfold Oper.wp execOp;simp only[ho,resolve,invoke,builtin,Sem.run_bind,Sem.run_pure,Result.andThen_ok,List.map_toArray,List.map_cons,List.map_nil,hs,hx,hr];exact h g cap' w' h1 h2 h3
theorem zip_snoc{α β:Type}(A:List α)(B:List β)(a:α)(b:β)(h:A.length=B.length):(A++[a]).zip (B++[b])=A.zip B++[(a,b)]:=by
 rw[List.zip_append h];rfl
abbrev tin(t:Nat×Nat×Nat)(k:Nat):Prop:=k=t.1\/k=t.2.1\/k=t.2.2
def tint9(col:Nat->Nat)(t:Nat×Nat×Nat)(k:Nat):Nat:=if tin t k then 9 else col k
theorem tint9_in{t:Nat×Nat×Nat}(h:tin t k):tint9 col t k=9:=if_pos h
theorem tint9_out{t:Nat×Nat×Nat}(h:¬tin t k):tint9 col t k=col k:=if_neg h
theorem Pq.grow{w W w5:World}{b:Nat}{P:Po}{D:Pd}{col:Nat->Nat}(h:Pq w b P D col)(hW:Below w.heap.size w W){g cap':Nat}{t:Nat×Nat×Nat}{x:Nat×Pg}
 (hR:Gw 191 1 w5 (some ⟨g,0,none⟩) cap' (P.ac.length+1) ((D.B++[t]).map clo)) (hN:New W D.aa (some ⟨g,0,none⟩)) (hB:But (InA D.aa) W w5) (ht:Cl w b t x) (hc:∀k,tin t k->col k=0):
 Pq (w5.setCell ⟨b,7,none⟩ (.slice (some ⟨g,0,none⟩) (P.ac.length+1) cap')) b {P with ac:=P.ac++[x]} {D with aa:=some ⟨g,0,none⟩,ac:=cap',B:=D.B++[t]} (tint9 (recol col w w5 8) t)/\
  But (fun k=>col k≠0) w (w5.setCell ⟨b,7,none⟩ (.slice (some ⟨g,0,none⟩) (P.ac.length+1) cap'))/\(∀k,k<w.heap.size->¬tin t k->tint9 (recol col w w5 8) t k=col k):=by
 have bw5:But (fun k=>k=b\/InA D.aa k) w (w5.setCell ⟨b,7,none⟩ (.slice (some ⟨g,0,none⟩) (P.ac.length+1) cap')):=((But.ofBelow hW).trans hB (fun k _ hk=>.inr hk)).setCell (p:=⟨b,7,none⟩) (fun _=>.inl rfl) _
 have ne:∀{k:Nat},col k≠1->col k≠8->¬(k=b\/InA D.aa k):=fun h1 h8 e=>by
  rcases e with rfl|⟨y,hy,rfl⟩
  · exact h1 h.cb
  · exact h8 (h.cc y hy)
 have tl:∀k,tin t k->k<w.heap.size:=fun k hk=>by
  rcases hk with rfl|rfl|rfl
  · exact block_lt_of_cell ht.p
  · exact block_lt_of_cell ht.n
  · exact block_lt_of_cell ht.c
 have nt:∀{k:Nat},col k≠0->¬tin t k:=fun h1 h2=>h1 (hc _ h2)
 have old:∀{k:Nat},col k≠0->tint9 (recol col w w5 8) t k=col k:=fun hk=>(tint9_out (nt hk)).trans (recol_old (h.lt _ hk))
 have hb5:w5.heap[b]?=some (.cells (boxC P D) 131 (0,0)):=((But.ofBelow (S:=InA D.aa) hW).trans hB (fun _ _ h=>h)).same h.box (fun⟨y,hy,e⟩=>by have:=h.cc y hy;rw[e,h.cb] at this;cases this)
 have gb:g≠b:=fun e=>by
  have:=hN ⟨g,0,none⟩ rfl;rcases this with⟨y,hy,e2⟩|h2
  · have h8:=h.cc y hy;rw[e2] at h8;have:col g=8:=h8;rw[e,h.cb] at this;cases this
  · have h2:W.heap.size<=g:=h2;have:=h.lb;have:=hW.size;omega
 have sb:But (fun k=>k=b) w5 (w5.setCell ⟨b,7,none⟩ (.slice (some ⟨g,0,none⟩) (P.ac.length+1) cap')):=(But.refl (fun k=>k=b) w5).setCell (p:=⟨b,7,none⟩) (fun _=>rfl) _
 refine⟨⟨?_,bw5.same h.pgs (ne (by rw[h.cg];decide) (by rw[h.cg];decide)),fun s hs=>(h.set s hs).but bw5 (ne (by rw[h.cs s hs];omega) (by rw[h.cs s hs];omega)) (fun y hy=>ne (by rw[h.ca s hs y hy];omega) (by rw[h.ca s hs y hy];omega)),?_,?_,?_,(old (by rw[h.cb];decide)).trans h.cb,(old (by rw[h.cg];decide)).trans h.cg,fun s hs=>(old (by rw[h.cs s hs];omega)).trans (h.cs s hs),fun s hs y hy=>(old (by rw[h.ca s hs y hy];omega)).trans (h.ca s hs y hy),?_,?_,?_⟩,?_,?_⟩
 · rw[heap_setCell_same _ _ _ _ _ _ hb5];show some (Obj.cells _ _ _)=some (Obj.cells (boxC _ _) _ _);unfold boxC;simp
 · rw[List.length_append];exact hR.but sb (fun y hy e=>by cases hy;exact gb e)
 · rw[List.length_append,List.length_append,h.acl];rfl
 · intro q hq;rw[zip_snoc _ _ _ _ h.acl] at hq;rcases List.mem_append.1 hq with hq|hq
   · obtain⟨c1,c2,c3⟩:=h.cB _ (zip_left hq).1;exact(h.acb q hq).but bw5 (ne (by rw[c1];decide) (by rw[c1];decide)) (ne (by rw[c2];decide) (by rw[c2];decide)) (ne (by rw[c3];decide) (by rw[c3];decide))
   · obtain rfl:=List.mem_singleton.1 hq;have z1:=hc t.1 (.inl rfl);have z2:=hc t.2.1 (.inr (.inl rfl));have z3:=hc t.2.2 (.inr (.inr rfl));exact ht.but bw5 (ne (by rw[z1];decide) (by rw[z1];decide)) (ne (by rw[z2];decide) (by rw[z2];decide)) (ne (by rw[z3];decide) (by rw[z3];decide))
 · rintro y hy;simp only[Option.some.injEq] at hy;subst hy;show tint9 (recol col w w5 8) t g=8;rcases hN ⟨g,0,none⟩ rfl with⟨y,hy,e2⟩|h2
   · have h8:col g=8:=by rw[<-(show y.block=g from e2)];exact h.cc y hy
     exact(old (by rw[h8];decide)).trans h8
   · have h2:W.heap.size<=g:=h2;have s1:=hW.size;have hg:g<w5.heap.size:=hR.lt rfl;rw[tint9_out (fun hk=>by have:=tl _ hk;omega)]
     exact recol_new (by omega) hg
 · intro u hu;rcases List.mem_append.1 hu with hu|hu
   · obtain⟨c1,c2,c3⟩:=h.cB u hu;exact⟨(old (by rw[c1];decide)).trans c1,(old (by rw[c2];decide)).trans c2,(old (by rw[c3];decide)).trans c3⟩
   · obtain rfl:=List.mem_singleton.1 hu;exact⟨tint9_in (.inl rfl),tint9_in (.inr (.inl rfl)),tint9_in (.inr (.inr rfl))⟩
 · intro k hk;have s1:=bw5.size;by_cases e:tin t k
   · exact Nat.lt_of_lt_of_le (tl k e) s1
   · rw[tint9_out e] at hk;have s2:w.heap.size<=w5.heap.size:=Nat.le_trans hW.size hB.size;exact Nat.lt_of_lt_of_le (recol_lt s2 hk) sb.size
 · exact bw5.mono fun k _ hk=>by
    rcases hk with rfl|⟨y,hy,rfl⟩
    · rw[h.cb];decide
    · rw[h.cc y hy];decide
 · intro k hk hn;rw[tint9_out hn];exact recol_old hk
theorem act_any(w:World)(b:Nat)(P:Po)(col:Nat->Nat)(h:Pl w b P col)(n:Nat)(h1:1<=n)(h2:n<=P.pg.length)(c:Int)(hc:0<=c/\c<=P.rf)(hm:P.ac.length+1<=17592186044416):
 Calls Tryz.prog 147 #[.pointer (some ⟨b,0,none⟩),.int .i64 ((n:Nat):Int),.int .i64 c] w fun e w'=>e=.returned (.tuple #[])/\∃col',Pl w' b (P.act n c) col'/\Fr w col w' col':=by
 obtain⟨D,h⟩:=h;obtain⟨i,rfl⟩:∃i:Nat,n=i+1:=⟨n-1,by omega⟩
 have hi:i<P.pg.length:=by omega
 have hl2:=h.ok.l2;obtain⟨W1,hW1⟩:∃W1,(w.alloc (.cells #[.pointer (some ⟨b,0,none⟩)] 80)).alloc (.cells #[.int .i64 ((i:Int)+1)] 3)=W1:=⟨_,rfl⟩;have b1:Below w.heap.size w W1:=by rw[<-hW1];exact bt (al _ _) (al _ _)
 have sz1:W1.heap.size=w.heap.size+1+1:=by rw[<-hW1,size_alloc,size_alloc]
 have p1:W1.cell? ⟨w.heap.size,0,none⟩=some (.pointer (some ⟨b,0,none⟩)):=by
  rw[<-hW1];exact((al _ _).cell (p:=⟨w.heap.size,0,none⟩) (by rw[size_alloc];show w.heap.size<_;omega)).trans (cell_alloc_new w _ _)
 have n1:W1.cell? ⟨w.heap.size+1,0,none⟩=some (.int .i64 ((i:Int)+1)):=by
  rw[<-hW1];have:=cell_alloc_new (w.alloc (.cells #[.pointer (some ⟨b,0,none⟩)] 80)) (.int .i64 ((i:Int)+1)) 3;rwa [size_alloc] at this
 have q1:=h.q.keep b1;have c1:=q1.c1;obtain⟨d1,d2⟩:=q1.pgAt hi;have s1:IntKind.i64.wrap (i:Int)=(i:Int):=wrapI (by omega) (by omega)
 have s2:wrap64 (i:Int)=(i:Int):=by unfold wrap64;omega
 have hiI:(i:Int)<(P.pg.length:Int):=by omega
 have HM:=hide h;have HC:=hide hc;have HP2:=hide hl2;have B1:=hide b1;have c1':W1.drew.cell? ⟨b,1,none⟩=_:=c1;have d1':W1.drew.cell? ⟨D.g,i*2,none⟩=_:=d1;have d2':W1.drew.cell? ⟨D.g,i*2+1,none⟩=_:=d2;have p1':W1.drew.cell? ⟨w.heap.size,0,none⟩=_:=p1;have n1':W1.drew.cell? ⟨w.heap.size+1,0,none⟩=_:=n1;have aW:=al W1 (.cells #[.int .i64 0,.bool false] 133);have qA:=q1.keep aW;have e1:=qA.c1;obtain⟨e2,e3⟩:=qA.pgAt hi;have e4:(W1.alloc (.cells #[.int .i64 0,.bool false] 133)).cell? ⟨w.heap.size,0,none⟩=_:=(aW.cell (p:=⟨w.heap.size,0,none⟩) (block_lt_of_cell p1)).trans p1;have e5:(W1.alloc (.cells #[.int .i64 0,.bool false] 133)).cell? ⟨w.heap.size+1,0,none⟩=_:=(aW.cell (p:=⟨w.heap.size+1,0,none⟩) (block_lt_of_cell n1)).trans n1;have e1':(W1.alloc (.cells #[.int .i64 0,.bool false] 133)).drew.cell? ⟨b,1,none⟩=_:=e1;have e2':(W1.alloc (.cells #[.int .i64 0,.bool false] 133)).drew.cell? ⟨D.g,i*2,none⟩=_:=e2;have e3':(W1.alloc (.cells #[.int .i64 0,.bool false] 133)).drew.cell? ⟨D.g,i*2+1,none⟩=_:=e3;have e4':(W1.alloc (.cells #[.int .i64 0,.bool false] 133)).drew.cell? ⟨w.heap.size,0,none⟩=_:=e4;have e5':(W1.alloc (.cells #[.int .i64 0,.bool false] 133)).drew.cell? ⟨w.heap.size+1,0,none⟩=_:=e5;obtain⟨x,hx⟩:∃x,P.pg.getD i Pg.zero=x:=⟨_,rfl⟩;have HXX:=hide hx;rw[hx] at d1 d2 d1' d2' e2 e3 e2' e3';obtain⟨x0,x1⟩:=x;simp only at d1 d2 d1' d2' e2 e3 e2' e3';clear h hc hl2 b1 q1 hx qA aW;have HW1:=hide hW1;clear hW1;go_enter Tryz.func147,Tryz.ntmps147;go_wp2;rw[HW1.out];go_region
 clear e1 e2 e3 e4 e5 e1' e2' e3' e4' e5' c1 c1' d1 d2 d1' d2' p1' n1';have X3:=two_cells W1 x0 x1;have a3:=al W1 (.cells #[.int .i64 x0,.bool x1] 133);have b3:Below W1.heap.size W1 (W1.alloc (.cells #[.int .i64 x0,.bool x1] 133)).drew:=bt a3 (drw _);have X3':=two_keep' X3 (drw _);rw[sz1] at X3';obtain⟨W3,hW3⟩:∃W3,(W1.alloc (.cells #[.int .i64 x0,.bool x1] 133)).drew=W3:=⟨_,rfl⟩;rw[hW3] at X3' b3 ⊢;have cl3:Cl W3 b (w.heap.size,w.heap.size+1,w.heap.size+1+1) (i+1,(x0,x1)):=⟨(b3.cell (p:=⟨w.heap.size,0,none⟩) (block_lt_of_cell p1)).trans p1,by rw[show(((i+1,(x0,x1)):Nat×Pg).1:Int)=(i:Int)+1 by simp];exact(b3.cell (p:=⟨w.heap.size+1,0,none⟩) (block_lt_of_cell n1)).trans n1,X3'.1,X3'.2⟩
 have k0:=X3'.1;have k1:=X3'.2;have k2:=(b3.cell (p:=⟨w.heap.size,0,none⟩) (block_lt_of_cell p1)).trans p1;have k3:=(b3.cell (p:=⟨w.heap.size+1,0,none⟩) (block_lt_of_cell n1)).trans n1;have B3:=hide (bt B1.out b3);have M3:Pm W3 b P col D:=⟨HM.out.q.keep B3.out,HM.out.ok,HM.out.mem⟩;have SET:=hide (set_any W3 b P D col M3 (i+1) h1 h2 (c,x1) HC.out);rw[show(((i+1:Nat)):Int)=(i:Int)+1 by omega] at SET
 have CL3:=hide cl3;clear cl3 X3 a3 b3 X3' hW3 M3 p1 n1 HW1;go_wp2_with fail
 refine SET.out.mono ?_;rintro _ w4 ⟨rfl,col4,⟨D4,h4⟩,f4⟩
 have tz:∀k,tin (w.heap.size,w.heap.size+1,w.heap.size+1+1) k->col k=0/\w.heap.size<=k/\k<W3.heap.size:=fun k hk=>by
  have s3:=block_lt_of_cell k0;have s3:w.heap.size+1+1<W3.heap.size:=s3
  have g:w.heap.size<=k/\k<W3.heap.size:=by
   rcases hk with rfl|rfl|rfl
   · exact⟨Nat.le_refl _,by show w.heap.size<_;omega⟩
   · exact⟨by show _<=w.heap.size+1;omega,by show w.heap.size+1<_;omega⟩
   · exact⟨by show _<=w.heap.size+1+1;omega,s3⟩
  refine⟨?_,g⟩;by_cases hz:col k=0
  · exact hz
  · have:=HM.out.q.lt k hz;omega
 have tz4:∀k,tin (w.heap.size,w.heap.size+1,w.heap.size+1+1) k->col4 k=0:=fun k hk=>(f4.c k (tz k hk).2.2).trans (tz k hk).1
 have cl4:=CL3.out.but f4.b (fun h=>h (tz _ (.inl rfl)).1) (fun h=>h (tz _ (.inr (.inl rfl))).1) (fun h=>h (tz _ (.inr (.inr rfl))).1)
 have CL4:=hide cl4;have H4:=hide h4;have F4:=hide f4;have TZ:=hide tz;have TZ4:=hide tz4;have m0:=cl4.p;clear cl4 tz tz4 k0 k1 k2 k3 CL3 SET;simp only at m0;have c7:=h4.q.c7;have f7:=h4.q.free 7;obtain⟨t,ht⟩:∃t,(w.heap.size,w.heap.size+1,w.heap.size+1+1)=t:=⟨_,rfl⟩;have aw:=al w4 (.cells #[.func (.func 167) #[] #[.pointer (some ⟨w.heap.size,0,none⟩),.pointer (some ⟨w.heap.size+1,0,none⟩),.pointer (some ⟨w.heap.size+1+1,0,none⟩)]] 191);have nw:=cell_alloc_new w4 (.func (.func 167) #[] #[.pointer (some ⟨w.heap.size,0,none⟩),.pointer (some ⟨w.heap.size+1,0,none⟩),.pointer (some ⟨w.heap.size+1+1,0,none⟩)]) 191;obtain⟨W5,hW5⟩:∃W5,W5=w4.alloc (.cells #[.func (.func 167) #[] #[.pointer (some ⟨w.heap.size,0,none⟩),.pointer (some ⟨w.heap.size+1,0,none⟩),.pointer (some ⟨w.heap.size+1+1,0,none⟩)]] 191):=⟨_,rfl⟩;rw[<-hW5] at aw nw;have B5:=hide (bt aw (drw _));have q5:=h4.q.keep B5.out;have G5:=hide q5.acr;have m5:W5.drew.cell? ⟨w.heap.size,0,none⟩=some (.pointer (some ⟨b,0,none⟩)):=(B5.out.cell (p:=⟨w.heap.size,0,none⟩) (block_lt_of_cell m0)).trans m0;have m5':W5.cell? ⟨w.heap.size,0,none⟩=some (.pointer (some ⟨b,0,none⟩)):=m5;have c75:=q5.c7;have c75':W5.cell? ⟨b,7,none⟩=_:=c75;have f75:=q5.free 7;have m0':w4.drew.cell? ⟨w.heap.size,0,none⟩=some (.pointer (some ⟨b,0,none⟩)):=m0;have c7':w4.drew.cell? ⟨b,7,none⟩=_:=c7;have NW:=hide (show W5.drew.cell? ⟨w4.heap.size,0,none⟩=some (clo t) by rw[<-ht];exact nw)
 have eP:P.act (i+1) c={P.put (i+1) (c,x1) with ac:=(P.put (i+1) (c,x1)).ac++[(i+1,(x0,x1))]}:=by
  unfold Po.act Po.put Po.at;rw[show i+1-1=i from rfl,HXX.out]
 have FIN:=hide (show ∀(g cap':Nat)(w5:World),Gw 191 1 w5 (some ⟨g,0,none⟩) cap' (P.ac.length+1) ((D4.B++[t]).map clo)->New W5.drew D4.aa (some ⟨g,0,none⟩)->But (InA D4.aa) W5.drew w5->
  ∃col',Pl (w5.setCell ⟨b,7,none⟩ (.slice (some ⟨g,0,none⟩) (P.ac.length+1) cap')) b (P.act (i+1) c) col'/\Fr w col (w5.setCell ⟨b,7,none⟩ (.slice (some ⟨g,0,none⟩) (P.ac.length+1) cap')) col' from fun g cap' w5 hR hN hB=>by
  obtain⟨g1,g2,g3⟩:=h4.q.grow (W:=W5.drew) (w5:=w5) B5.out hR hN hB (by rw[<-ht];exact CL4.out) (by rw[<-ht];exact TZ4.out)
  have ok:=HM.out.ok.act h1 h2 HC.out;rw[eP] at ok ⊢;have b3:=B3.out.size;refine⟨_,⟨_,g1,ok,h4.mem⟩,⟨((But.ofBelow (S:=fun k=>col k≠0) B3.out).trans f4.b (fun _ _ h=>h)).trans g2 (fun k hk h=>by rw[f4.c k (by omega)] at h;exact h),fun k hk=>?_⟩⟩
  have s4:=f4.b.size;rw[g3 k (by omega) (fun hk2=>by rw[<-ht] at hk2;have:=(TZ.out k hk2).2.1;omega)]
  exact f4.c k (by omega))
 have CB:=hide h4.q.cb;have CC:=hide h4.q.cc;have LB:=hide h4.q.lb;clear h4 f4 aw nw q5;subst hW5;rw[show(P.put (i+1) (c,x1)).ac.length=P.ac.length from rfl] at*
 clear eP;generalize hac:P.ac.length=nn at *;clear hac;go_wp2_with fail
 go_region_law
  (refine step_apA rfl _ _ rfl D4.aa nn D4.ac D4.B (by first|(simp[Act.eval];done)|simp[Act.eval,Act.put]) G5.out ⟨w4.heap.size,0,none⟩ 1 t (by first|(simp[Act.eval];done)|simp[Act.eval,Act.put]) NW.out hm ?_
   intro g cap' w5 hR hN hB;have cS:w5.cell? ⟨b,7,none⟩=_:=(hB.cell (p:=⟨b,7,none⟩) (block_lt_of_cell c75) (fun⟨y,hy,e⟩=>by have:=CC.out y hy;rw[e] at this;have e2:col4 b=8:=this;rw[CB.out] at e2;cases e2)).trans c75
   have fS:w5.frozen? ⟨b,7,none⟩=false:=(hB.frozen (p:=⟨b,7,none⟩) (block_lt_of_cell c75) (fun⟨y,hy,e⟩=>by have:=CC.out y hy;rw[e] at this;have e2:col4 b=8:=this;rw[CB.out] at e2;cases e2)).trans f75
   have mS:w5.cell? ⟨w.heap.size,0,none⟩=_:=(hB.cell (p:=⟨w.heap.size,0,none⟩) (block_lt_of_cell m5) (fun⟨y,hy,e⟩=>by have:=CC.out y hy;rw[e] at this;have e2:col4 w.heap.size=8:=this;rw[TZ4.out _ (.inl rfl)] at e2;cases e2)).trans m5
   have FF:=hide (FIN.out g cap' w5 hR hN hB);clear hR hN hB)
 all_goals
  go_end0
  exact⟨rfl,FF.out⟩
def Po.alloc(P:Po):(Int×Int)×Po:=match pagesOf P.pg 1 with
 | []=>((0,12),P)
 |n::_=>((n,0),P.act n.toNat 1)
def Po.inc(P:Po)(z:Int):Int×Po:=if P.count z=0 then (15,P) else if P.count z=P.rf then (13,P) else (0,P.act z.toNat (P.count z+1))
def Po.dec(P:Po)(z:Int):(Int×Int)×Po:=if P.count z=0 then ((0,15),P) else ((P.count z-1,0),P.act z.toNat (P.count z-1))
theorem Po.count_has{z:Int}(h:P.count z≠0):1<=z/\z<=P.pg.length:=by
 unfold Po.count at h;split at h
 · exact Po.has_iff.1 (by assumption)
 · exact absurd rfl h
theorem Po.Ok.count(h:P.Ok)(z:Int):0<=P.count z/\P.count z<=P.rf:=by
 unfold Po.count;split
 · rename_i hz;have:=Po.has_iff.1 hz;exact h.cs _ (getD_memP (by omega))
 · have:=h.r1;omega
theorem Alloc_any(w:World)(b:Nat)(P:Po)(col:Nat->Nat)(h:Pl w b P col)(hm:P.ac.length+1<=17592186044416):
 Calls Tryz.prog 130 #[.pointer (some ⟨b,0,none⟩)] w fun e w'=>e=.returned (.tuple #[.int .i64 P.alloc.1.1,.int .i64 P.alloc.1.2])/\∃col',Pl w' b P.alloc.2 col'/\Fr w col w' col':=by
 have HP:=hide h;obtain⟨D,h⟩:=h;have c1:=h.q.cin (s:=1) (by decide)
 have LO:=hide (Lowest_any w (D.s 1) (D.a 1) (D.c 1) (D.L 1) (h.q.set 1 (by decide)))
 have np:=nums_pages (h.q.set 1 (by decide)).can (h.mem 1 (by decide))
 have hle:=(h.q.set 1 (by decide)).can.1
 change w.cell? ⟨b,3,none⟩=_ at c1;by_cases h0:D.L 1=[]
 · have e:P.alloc=((0,12),P):=by
    unfold Po.alloc;rw[<-np,h0];rfl
   rw[e];rw[h0] at LO;simp only[List.isEmpty_nil,Bool.not_true] at LO;clear h np hle h0 e;go_enter Tryz.func130,Tryz.ntmps130;go_wp2_with fail
   refine LO.out.mono ?_;rintro _ _ ⟨rfl,rfl⟩;go_wp2;go_ret2
   exact⟨rfl,col,HP.out,Fr.refl _ _⟩
 · have nl:=nums_low hle h0
   have e:P.alloc=((low (D.L 1),0),P.act (low (D.L 1)).toNat 1):=by
    unfold Po.alloc;rw[<-np,nl]
   have hin:=inS_iff.1 ((mem_pagesOf P.pg 1 (low (D.L 1))).1 (by rw[<-np,nl];simp))
   have hne:(D.L 1).isEmpty=false:=by cases hL:D.L 1 with
    |nil=>exact absurd hL h0
    |cons=>rfl
   rw[e];rw[hne] at LO;obtain⟨h1,h2,h3⟩:=hin;obtain⟨n,hn⟩:∃n:Nat,low (D.L 1)=(n:Int):=⟨(low (D.L 1)).toNat,by omega⟩
   rw[hn] at h1 h2 LO ⊢;have AC:=hide (act_any w b P col HP.out n (by omega) (by omega) 1 ⟨by decide,by have:=h.ok.r1;omega⟩ hm)
   rw[Int.toNat_natCast];simp only[Bool.not_false] at LO;clear h np hle h0 e nl hne hn h1 h2 h3;go_enter Tryz.func130,Tryz.ntmps130;go_wp2_with fail
   refine LO.out.mono ?_;rintro _ _ ⟨rfl,rfl⟩;go_wp2_with fail
   refine AC.out.mono ?_;rintro _ w1 ⟨rfl,hc⟩;have HC:=hide hc;clear hc;go_wp2;go_ret2
   exact⟨rfl,HC.out⟩
theorem Inc_any(w:World)(b:Nat)(P:Po)(col:Nat->Nat)(h:Pl w b P col)(z:Int)(hm:P.ac.length+1<=17592186044416):
 Calls Tryz.prog 108 #[.pointer (some ⟨b,0,none⟩),.int .i64 z] w fun e w'=>e=.returned (.int .i64 (P.inc z).1)/\∃col',Pl w' b (P.inc z).2 col'/\Fr w col w' col':=by
 have HP:=hide h;obtain⟨D,h⟩:=h;have CO:=hide (Count_any w b P D col h.q h.ok.l2 z);have c0:=h.q.c0;have hk:=h.ok.count z;have r2:=h.ok.r2;unfold Po.inc;by_cases h0:P.count z=0
 · rw[if_pos h0];rw[h0] at CO;clear h h0 hk r2;go_enter Tryz.func108,Tryz.ntmps108;go_wp2_with fail
   refine CO.out.mono ?_;rintro _ _ ⟨rfl,rfl⟩;go_wp2;go_ret;exact⟨rfl,col,HP.out,Fr.refl _ _⟩
 · rw[if_neg h0];have q0:(P.count z==0)=false:=by simp[h0]
   by_cases h1:P.count z=P.rf
   · rw[if_pos h1];have q1:(P.rf==P.rf)=true:=by simp
     rw[h1] at CO q0;generalize P.rf=r at *;clear h h0 h1 hk r2;go_enter Tryz.func108,Tryz.ntmps108;go_wp2_with fail
     refine CO.out.mono ?_;rintro _ _ ⟨rfl,rfl⟩;go_wp2;go_ret;exact⟨rfl,col,HP.out,Fr.refl _ _⟩
   · rw[if_neg h1];have q1:(P.count z==P.rf)=false:=by simp[h1]
     obtain⟨z1,z2⟩:=Po.count_has h0;obtain⟨n,rfl⟩:∃n:Nat,z=(n:Int):=⟨z.toNat,by omega⟩
     have AC:=hide (act_any w b P col HP.out n (by omega) (by omega) (P.count n+1) ⟨by omega,by omega⟩ hm)
     rw[Int.toNat_natCast];have s1:IntKind.i64.wrap (P.count n+1)=P.count n+1:=wrapI (by omega) (by omega)
     have s2:wrap64 (P.count n+1)=P.count n+1:=by unfold wrap64;omega
     clear h h0 h1 hk r2 z1 z2 hm;show Calls _ _ _ _ fun e w'=>e=.returned (.int .i64 0)/\∃col',Pl w' b (P.act n (P.count n+1)) col'/\Fr w col w' col'
     generalize P.count (n:Int)=k at *;go_enter Tryz.func108,Tryz.ntmps108;go_wp2_with fail
     refine CO.out.mono ?_;rintro _ _ ⟨rfl,rfl⟩;go_wp2_with fail
     refine AC.out.mono ?_;rintro _ w1 ⟨rfl,hc⟩;have HC:=hide hc;clear hc;go_wp2;go_ret;exact⟨rfl,HC.out⟩
theorem Dec_any(w:World)(b:Nat)(P:Po)(col:Nat->Nat)(h:Pl w b P col)(z:Int)(hm:P.ac.length+1<=17592186044416):
 Calls Tryz.prog 165 #[.pointer (some ⟨b,0,none⟩),.int .i64 z] w fun e w'=>e=.returned (.tuple #[.int .i64 (P.dec z).1.1,.int .i64 (P.dec z).1.2])/\∃col',Pl w' b (P.dec z).2 col'/\Fr w col w' col':=by
 have HP:=hide h;obtain⟨D,h⟩:=h;have CO:=hide (Count_any w b P D col h.q h.ok.l2 z);have hk:=h.ok.count z;have r2:=h.ok.r2;unfold Po.dec;by_cases h0:P.count z=0
 · rw[if_pos h0];rw[h0] at CO;clear h h0 hk r2;go_enter Tryz.func165,Tryz.ntmps165;go_wp2_with fail
   refine CO.out.mono ?_;rintro _ _ ⟨rfl,rfl⟩;go_wp2;go_ret2
   exact⟨rfl,col,HP.out,Fr.refl _ _⟩
 · rw[if_neg h0];have q0:(P.count z==0)=false:=by simp[h0]
   obtain⟨z1,z2⟩:=Po.count_has h0;obtain⟨n,rfl⟩:∃n:Nat,z=(n:Int):=⟨z.toNat,by omega⟩
   have AC:=hide (act_any w b P col HP.out n (by omega) (by omega) (P.count n-1) ⟨by omega,by omega⟩ hm)
   rw[Int.toNat_natCast];have s1:IntKind.i64.wrap (P.count n-1)=P.count n-1:=wrapI (by omega) (by omega)
   have s2:wrap64 (P.count n-1)=P.count n-1:=by unfold wrap64;omega
   clear h h0 hk r2 z1 z2 hm;show Calls _ _ _ _ fun e w'=>e=.returned (.tuple #[.int .i64 (P.count n-1),.int .i64 0])/\∃col',Pl w' b (P.act n (P.count n-1)) col'/\Fr w col w' col'
   generalize P.count (n:Int)=k at *;go_enter Tryz.func165,Tryz.ntmps165;go_wp2_with fail
   refine CO.out.mono ?_;rintro _ _ ⟨rfl,rfl⟩;go_wp2_with fail
   refine AC.out.mono ?_;rintro _ w1 ⟨rfl,hc⟩;have HC:=hide hc;clear hc;go_wp2;go_ret2
   exact⟨rfl,HC.out⟩
theorem actC_any(w:World)(b:Nat)(P:Po)(D:Pd)(col:Nat->Nat)(h:Pm w b P col D)(t:Nat×Nat×Nat)(x:Nat×Pg)(hcl:Cl w b t x)(hx:(1<=x.1/\x.1<=P.pg.length)/\0<=x.2.1/\x.2.1<=P.rf):
 Calls Tryz.prog 167 #[.pointer (some ⟨t.1,0,none⟩),.pointer (some ⟨t.2.1,0,none⟩),.pointer (some ⟨t.2.2,0,none⟩)] w fun e w'=>e=.returned (.tuple #[])/\∃col',Pl w' b (P.put x.1 x.2) col'/\Fr w col w' col':=by
 have ST:=hide (set_any w b P D col h x.1 hx.1.1 hx.1.2 x.2 hx.2);obtain⟨p,n,c,l⟩:=hcl;obtain⟨t1,t2,t3⟩:=t;obtain⟨k,y0,y1⟩:=x;simp only at *;clear h hx;go_enter Tryz.func167,Tryz.ntmps167;go_wp2_with fail
 refine ST.out.mono ?_;rintro _ w1 ⟨rfl,hc⟩;have HC:=hide hc;clear hc;go_wp2;go_end0
 exact⟨rfl,HC.out⟩
theorem Pq.drop{w:World}{b:Nat}(h:Pq w b P D col){A:List (Nat×Pg)}{x:Nat×Pg}(e:P.ac=A++[x]):
 ∃g,D.aa=some ⟨g,0,none⟩/\(∃v,w.cell? ⟨g,A.length,none⟩=some v)/\w.frozen? ⟨g,A.length,none⟩=false/\g≠b/\A.length<D.ac/\D.ac<=maxLen/\
  Pq ((w.setCell ⟨g,A.length,none⟩ .nilFunc).setCell ⟨b,7,none⟩ (.slice (some ⟨g,0,none⟩) A.length D.ac)) b {P with ac:=A} {D with B:=D.B.dropLast} col/\
  But (fun k=>col k≠0) w ((w.setCell ⟨g,A.length,none⟩ .nilFunc).setCell ⟨b,7,none⟩ (.slice (some ⟨g,0,none⟩) A.length D.ac)):=by
 have hl:P.ac.length=A.length+1:=by rw[e,List.length_append];rfl
 have hr:=h.acr;rw[hl] at hr;rcases hr.cases with⟨_,_,h0,_⟩|⟨g,cur,ha,hg,h1,h2,h3,h4⟩
 · omega
 have c8:col g=8:=h.cc ⟨g,0,none⟩ ha;have gb:g≠b:=fun e=>by rw[e,h.cb] at c8;cases c8
 have hlt:A.length<cur.size:=by omega
 obtain⟨B',u,hB⟩:∃B' u,D.B=B'++[u]:=by
  rcases List.eq_nil_or_concat D.B with h0|⟨B',u,h0⟩
  · have:=h.acl;rw[h0,hl] at this;simp at this
  · exact⟨B',u,by rw[h0,List.concat_eq_append]⟩
 have hBl:B'.length=A.length:=by have:=h.acl;rw[hB,hl,List.length_append] at this;simpa using this
 have bw:But (fun k=>k=g\/k=b) w ((w.setCell ⟨g,A.length,none⟩ .nilFunc).setCell ⟨b,7,none⟩ (.slice (some ⟨g,0,none⟩) A.length D.ac)):=((But.refl (fun k=>k=g\/k=b) w).setCell (p:=⟨g,A.length,none⟩) (fun _=>.inl rfl) _).setCell (p:=⟨b,7,none⟩) (fun _=>.inr rfl) _
 have ne:∀{k:Nat},col k≠8->col k≠1->¬(k=g\/k=b):=fun n8 n1 e=>by
  rcases e with rfl|rfl
  · exact n8 c8
  · exact n1 h.cb
 have hbg:(w.setCell ⟨g,A.length,none⟩ .nilFunc).heap[b]?=some (.cells (boxC P D) 131 (0,0)):=(Below.heap_setCell _ _ _ _ (fun e=>gb e.symm)).trans h.box
 refine⟨g,ha,⟨cur[A.length],?_⟩,by simp[World.frozen?,hg],gb,by omega,h2,⟨?_,bw.same h.pgs (ne (by rw[h.cg];decide) (by rw[h.cg];decide)),fun s hs=>(h.set s hs).but bw (ne (by rw[h.cs s hs];omega) (by rw[h.cs s hs];omega)) (fun y hy=>ne (by rw[h.ca s hs y hy];omega) (by rw[h.ca s hs y hy];omega)),?_,?_,?_,h.cb,h.cg,h.cs,h.ca,h.cc,fun t ht=>h.cB t (by rw[hB,List.dropLast_concat] at ht;rw[hB];exact List.mem_append_left _ ht),fun k hk=>Nat.lt_of_lt_of_le (h.lt k hk) bw.size⟩,bw.mono fun k _ hk=>?_⟩
 · rw[cell_of_row _ _ _ _ _ _ hg];exact Array.getElem?_eq_getElem hlt
 · rw[heap_setCell_same _ _ _ _ _ _ hbg];show some (Obj.cells _ _ _)=some (Obj.cells (boxC _ _) _ _);unfold boxC;rw[<-ha];simp
 · show Gw 191 1 _ D.aa D.ac A.length (D.B.dropLast.map clo);rw[ha];have hg2:=heap_setCell_same w g A.length cur 191 .nilFunc hg;have hg3:((w.setCell ⟨g,A.length,none⟩ .nilFunc).setCell ⟨b,7,none⟩ (.slice (some ⟨g,0,none⟩) A.length D.ac)).heap[g]?=_:=(Below.heap_setCell _ _ _ _ gb).trans hg2;refine Gw.mk (by rw[hB];simp[hBl]) hg3 (by omega) h2 (by simpa using h3) ?_
   rw[Array.toList_setIfInBounds,Nat.mul_one,List.take_set]
   have:(cur.toList.take A.length)=D.B.dropLast.map clo:=by
    rw[hB,List.dropLast_concat];rw[hB,List.map_append,Nat.mul_one] at h4;have:=congrArg (List.take A.length) h4;rw[List.take_take,Nat.min_eq_left (by omega),List.take_append_of_le_length (by rw[List.length_map,hBl];exact Nat.le_refl _),<-hBl,<-List.length_map (f:=clo),List.take_length] at this
    rw[<-hBl,<-List.length_map (f:=clo)];exact this
   rw[this];exact List.set_eq_of_length_le (by rw[hB];simp[hBl])
 · rw[hB,List.dropLast_concat];exact hBl
 · intro q hq
   have hq':q∈D.B.zip P.ac:=by
    rw[hB,List.dropLast_concat] at hq;rw[hB,e,zip_snoc _ _ _ _ hBl];exact List.mem_append_left _ hq
   obtain⟨c1,c2,c3⟩:=h.cB _ (zip_left hq').1;exact(h.acb q hq').but bw (ne (by rw[c1];decide) (by rw[c1];decide)) (ne (by rw[c2];decide) (by rw[c2];decide)) (ne (by rw[c3];decide) (by rw[c3];decide))
 · rcases hk with rfl|rfl
   · rw[c8];decide
   · rw[h.cb];decide
theorem Pq.last{w:World}{b:Nat}(h:Pq w b P D col){A:List (Nat×Pg)}{x:Nat×Pg}(e:P.ac=A++[x]):
 ∃g t,D.aa=some ⟨g,0,none⟩/\w.cell? ⟨g,A.length,none⟩=some (clo t)/\Cl w b t x:=by
 have hl:P.ac.length=A.length+1:=by rw[e,List.length_append];rfl
 have hr:=h.acr;rw[hl] at hr
 obtain⟨B',u,hB⟩:∃B' u,D.B=B'++[u]:=by
  rcases List.eq_nil_or_concat D.B with h0|⟨B',u,h0⟩
  · have:=h.acl;rw[h0,hl] at this;simp at this
  · exact⟨B',u,by rw[h0,List.concat_eq_append]⟩
 have hBl:B'.length=A.length:=by have:=h.acl;rw[hB,hl,List.length_append] at this;simpa using this
 obtain⟨g,ha⟩:=hr.addr (by omega)
 rw[ha] at hr;refine⟨g,u,ha,hr.cell ?_,h.acb (u,x) ?_⟩
 · rw[hB,List.map_append,<-hBl,<-List.length_map (f:=clo),List.getElem?_append_right (Nat.le_refl _),Nat.sub_self];rfl
 · rw[hB,e,zip_snoc _ _ _ _ hBl];simp
def Po.canUndo(P:Po)(m:Int):Bool:=decide ((P.fl:Int)<=m)&&decide (m<=(P.mark:Int))
def Po.undo(P:Po)(m:Int):Po:=if P.canUndo m then Po.back ((P.mark:Int)-m).toNat P else P
def actsLen(b:Nat)(w:World):Nat:=match w.cell? ⟨b,7,none⟩ with
 |some (.slice _ n _)=>n
 |_=>0
theorem Pl.acts{w:World}{b:Nat}(h:Pl w b P col):actsLen b w=P.ac.length:=by
 obtain⟨D,h⟩:=h;unfold actsLen;rw[h.q.c7]
theorem Undo_any(w:World)(b:Nat)(P:Po)(col:Nat->Nat)(h:Pl w b P col)(m:Int)(hm:P.mark<=9223372036854775807):
 Calls Tryz.prog 164 #[.pointer (some ⟨b,0,none⟩),.int .i64 m] w fun e w'=>e=.returned (.bool (P.canUndo m))/\∃col',Pl w' b (P.undo m) col'/\Fr w col w' col':=by
 have HP:=hide h;have c8:w.cell? ⟨b,8,none⟩=some (.int .i64 ((P.fl:Nat):Int)):=by obtain⟨D,h⟩:=h;exact h.q.c8
 have MK:=hide (show ∀(W:World)(P':Po)(c':Nat->Nat),Pl W b P' c'->P'.mark<=9223372036854775807->Calls Tryz.prog 142 #[.pointer (some ⟨b,0,none⟩)] W fun e w'=>e=.returned (.int .i64 ((P'.mark:Nat):Int))/\Below W.heap.size W w' from fun W P' c' h hm=>by
  obtain⟨D,h⟩:=h;exact Mark_any W b P' D c' h.q hm)
 have HM:=hide hm;clear h;unfold Po.undo Po.canUndo;by_cases h1:(P.fl:Int)<=m
 · have d1:decide ((P.fl:Int)<=m)=true:=decide_eq_true h1;have d1':decide (m<(P.fl:Int))=false:=decide_eq_false (by omega)
   by_cases h2:m<=(P.mark:Int)
   · have d2:decide (m<=(P.mark:Int))=true:=decide_eq_true h2;have d2':decide ((P.mark:Int)<m)=false:=decide_eq_false (by omega)
     rw[d1,d2];simp only[Bool.and_self,if_true];obtain⟨M,rfl⟩:∃M:Nat,m=(M:Int):=⟨m.toNat,by omega⟩
     obtain⟨J,hJ⟩:∃J:Nat,J=((P.mark:Int)-(M:Int)).toNat:=⟨_,rfl⟩;rw[<-hJ];have HJ:=hide (show P.mark=M+J by omega)
     have hfl:P.fl<=M:=by omega
     have M1:=hide (MK.out w P col HP.out HM.out);have n1:decide (M<P.fl)=false:=decide_eq_false (by omega)
     have n2:decide (P.mark<M)=false:=decide_eq_false (by have:=HJ.out;omega)
     clear hJ hm h2 d1 d2;have HFL:=hide hfl;go_enter Tryz.func164,Tryz.ntmps164;go_wp2_with fail
     refine M1.out.mono ?_;rintro _ w1 ⟨rfl,hb⟩;have B1:=hide hb;clear hb M1 c8;go_wp2_with fail
     clear h1 d1' d2' n1 n2 hfl;go_loopw [5] (fun _ wr=>∃j P' col',Pl wr b P' col'/\Fr w col wr col'/\Po.back j P'=Po.back J P/\P'.mark=M+j/\P'.fl=P.fl/\M+j<=9223372036854775807) (fun _ wr=>actsLen b wr)
     case atStart=>exact⟨J,P,col,HP.out.keep B1.out,Fr.keep B1.out,rfl,HJ.out,rfl,by have:=HJ.out;have:=HM.out;omega⟩
     case round=>
      obtain⟨j,P',col',hPl,hFr,hbk,hmk,hfl,hjb⟩:=hrel;have M2:=hide (MK.out wr P' col' hPl (by rw[hmk];exact hjb))
      have HPl:=hide hPl;have HFr:=hide hFr;have HBK:=hide hbk;have HMK:=hide hmk;have HFL2:=hide hfl;rw[hmk] at M2;clear hPl hFr hbk hmk hfl;go_wp2_with fail
      refine M2.out.mono ?_;rintro _ w2 ⟨rfl,hb⟩;have B2:=hide hb;clear hb M2;by_cases hj:j=0
      · subst hj;have n3:decide ((M:Int)<((M+0:Nat):Int))=false:=decide_eq_false (by omega)
        go_wp2;go_ret;exact⟨rfl,col',by rw[<-HBK.out];exact HPl.out.keep B2.out,HFr.out.below B2.out⟩
      · have n3:decide ((M:Int)<((M+j:Nat):Int))=true:=decide_eq_true (by omega)
        obtain⟨A,x,hA⟩:∃A x,P'.ac=A++[x]:=by
         rcases List.eq_nil_or_concat P'.ac with h0|⟨A,x,h0⟩
         · have:=HMK.out;unfold Po.mark at this;rw[h0,HFL2.out,List.length_nil] at this;have:=HFL.out;omega
         · exact⟨A,x,by rw[h0,List.concat_eq_append]⟩
        have hal:P'.ac.length=A.length+1:=by rw[hA,List.length_append];rfl
        have HA:=hide hA;have hP2:=HPl.out.keep B2.out;have L2:=hide hP2.acts;obtain⟨D2,h2⟩:=hP2;obtain⟨g,t,ha,hcl,hC⟩:=h2.q.last hA;have AC:=hide (actC_any w2 b P' D2 col' h2 t x hC (h2.ok.acs x (by rw[hA];simp)))
        have c7:=h2.q.c7;rw[hal,ha] at c7;have hcap:=h2.q.acr.capLe;rw[hal] at hcap;have OK2:=hide h2.ok;clear h2 hC hal ha hA;unfold clo at hcl;obtain⟨n,hn⟩:∃n,A.length=n:=⟨_,rfl⟩;have HN:=hide hn;rw[hn] at c7 hcap hcl;clear hn;have s1:IntKind.i64.wrap (n:Int)=(n:Int):=wrapI (by omega) (by unfold maxLen at hcap;omega)
        have s2:wrap64 (n:Int)=(n:Int):=by unfold wrap64;unfold maxLen at hcap;omega
        go_wp2_with fail
        refine AC.out.mono ?_;rintro _ w4 ⟨rfl,col4,⟨D4,h4⟩,f4⟩;obtain⟨g4,ha4,⟨v4,hv4⟩,hf4,gb4,hl4,hm4,hq4,hb4⟩:=h4.q.drop (A:=A) (x:=x) HA.out;have c74:=h4.q.c7;rw[ha4,show(P'.put x.1 x.2).ac.length=A.length+1 by show P'.ac.length=_;rw[HA.out,List.length_append];rfl] at c74
        have f74:=h4.q.free 7
        have X:=hide (show ∃j' P'' col'',Pl ((w4.setCell ⟨g4,A.length,none⟩ .nilFunc).setCell ⟨b,7,none⟩ (.slice (some ⟨g4,0,none⟩) A.length D4.ac)) b P'' col''/\Fr w col ((w4.setCell ⟨g4,A.length,none⟩ .nilFunc).setCell ⟨b,7,none⟩ (.slice (some ⟨g4,0,none⟩) A.length D4.ac)) col''/\Po.back j' P''=Po.back J P/\P''.mark=M+j'/\P''.fl=P.fl/\M+j'<=9223372036854775807 by
         obtain⟨xn,xp⟩:=x;have ok:=OK2.out.drop HA.out;refine⟨j-1,⟨P'.rf,P'.pg.set (xn-1) xp,A,P'.fl⟩,col4,⟨_,hq4,ok,h4.mem⟩,(HFr.out.below B2.out).trans (f4.trans ⟨hb4,fun _ _=>rfl⟩),?_,?_,HFL2.out,by omega⟩
         · rw[<-HBK.out];obtain⟨j',rfl⟩:∃j',j=j'+1:=⟨j-1,by omega⟩
           exact(Po.back_succ HA.out j').symm
         · have:=HMK.out;unfold Po.mark at this ⊢;rw[HA.out,List.length_append] at this;simp only[List.length_cons,List.length_nil] at this ⊢;omega)
        have Y:=hide (show actsLen b ((w4.setCell ⟨g4,A.length,none⟩ .nilFunc).setCell ⟨b,7,none⟩ (.slice (some ⟨g4,0,none⟩) A.length D4.ac))<actsLen b wr by
         rw[HPl.out.acts,HA.out];unfold actsLen;rw[hq4.c7];show A.length<(A++[x]).length;rw[List.length_append];exact Nat.lt_succ_self _)
        have c75:(w4.setCell ⟨g4,A.length,none⟩ .nilFunc).cell? ⟨b,7,none⟩=_:=(World.cell?_of_block (w:=w4) (a:=⟨b,7,none⟩) (Below.heap_setCell _ _ _ _ (fun e=>gb4 e.symm))).trans c74
        have f75:(w4.setCell ⟨g4,A.length,none⟩ .nilFunc).frozen? ⟨b,7,none⟩=_:=(World.frozen?_of_block (w:=w4) (a:=⟨b,7,none⟩) (Below.heap_setCell _ _ _ _ (fun e=>gb4 e.symm))).trans f74
        rw[HN.out] at hv4 hf4 c74 c75 f75 hl4 X Y;clear h4 f4 hq4 hb4 ha4 c7 hcl hcap AC;have rs:(store ⟨g4,n,none⟩ .nilFunc).run Tryz.prog w4=.ok () (w4.setCell ⟨g4,n,none⟩ .nilFunc):=by rw[run_store _ _ _ _ _ rfl];simp[hv4,hf4]
        go_wp2;go_roundw
        case rel=>exact X.out
        case measure=>exact Y.out
   · have d2:decide (m<=(P.mark:Int))=false:=decide_eq_false h2;have d2':decide ((P.mark:Int)<m)=true:=decide_eq_true (by omega)
     rw[d1,d2];have M1:=hide (MK.out w P col HP.out HM.out);simp only[Bool.and_false];show Calls _ _ _ _ fun e w'=>e=.returned (.bool false)/\∃col',Pl w' b P col'/\Fr w col w' col'
     generalize P.mark=mk at *;clear hm h2 d1 d2;go_enter Tryz.func164,Tryz.ntmps164;go_wp2_with fail
     refine M1.out.mono ?_;rintro _ w1 ⟨rfl,hb⟩;have B1:=hide hb;clear hb M1 c8;go_wp2;go_ret;exact⟨rfl,col,HP.out.keep B1.out,Fr.keep B1.out⟩
 · have d1:decide ((P.fl:Int)<=m)=false:=decide_eq_false h1;have d1':decide (m<(P.fl:Int))=true:=decide_eq_true (by omega)
   rw[d1];simp only[Bool.false_and];show Calls _ _ _ _ fun e w'=>e=.returned (.bool false)/\∃col',Pl w' b P col'/\Fr w col w' col'
   clear hm d1;go_enter Tryz.func164,Tryz.ntmps164;go_wp2;go_ret;exact⟨rfl,col,HP.out,Fr.refl _ _⟩
theorem State_pl(w:World)(b:Nat)(P:Po)(col:Nat->Nat)(h:Pl w b P col)(z:Int):Calls Tryz.prog 47 #[.pointer (some ⟨b,0,none⟩),.int .i64 z] w fun e w'=>e=.returned (.int .i64 ((P.state z:Nat):Int))/\Below w.heap.size w w':=by
 obtain⟨D,h⟩:=h;exact State_any w b P D col h.q h.ok.l2 z
theorem Count_pl(w:World)(b:Nat)(P:Po)(col:Nat->Nat)(h:Pl w b P col)(z:Int):Calls Tryz.prog 32 #[.pointer (some ⟨b,0,none⟩),.int .i64 z] w fun e w'=>e=.returned (.int .i64 (P.count z))/\w'=w:=by
 obtain⟨D,h⟩:=h;exact Count_any w b P D col h.q h.ok.l2 z
theorem Mark_pl(w:World)(b:Nat)(P:Po)(col:Nat->Nat)(h:Pl w b P col)(hm:P.mark<=9223372036854775807):Calls Tryz.prog 142 #[.pointer (some ⟨b,0,none⟩)] w fun e w'=>e=.returned (.int .i64 ((P.mark:Nat):Int))/\Below w.heap.size w w':=by
 obtain⟨D,h⟩:=h;exact Mark_any w b P D col h.q hm
theorem Len_pl(w:World)(b:Nat)(P:Po)(col:Nat->Nat)(h:Pl w b P col):Calls Tryz.prog 59 #[.pointer (some ⟨b,0,none⟩)] w fun e w'=>e=.returned (.int .i64 ((P.pg.length:Nat):Int))/\w'=w:=by
 obtain⟨D,h⟩:=h;exact PLen_any w b P D col h.q
end Go.Proofs.YtcpkinhneehomaaGreat.Q
