import Derived.Test.YtbdkogimlbnlmaaGreatWlB5
import Derived.Shelf.SlSortCmp.WholeK
import Derived.Shelf.SlSortCmp.NoneTotal
set_option linter.all false
set_option maxHeartbeats 8000000
set_option maxRecDepth 10000
namespace Go.Proofs.YtbdkogimlbnlmaaGreat.Q
open Tryz
open Go.Shelf
def zZ:Go.Shelf.Ren:=⟨fun|6=>186|14=>202|15=>203|20=>207|21=>208|22=>209|23=>210|24=>211|25=>212|26=>213|27=>214|28=>215|29=>216|46=>218|47=>219|48=>220|49=>221|50=>222|57=>223|n=>n,fun|0=>0|3=>3|4=>4|5=>5|9=>9|22=>169|24=>171|25=>205|39=>216|45=>219|46=>220|50=>184|53=>226|55=>192|66=>229|70=>233|76=>235|77=>199|n=>n,fun|n=>n⟩
theorem El:Go.Proofs.SlLaysF0.n6 prog zZ:={
 mixed:=by kernel_rfl,
 f6:=⟨f186.name,by decide,func186.trans (a7 some (by kernel_rfl))⟩,
 f14:=⟨f202.name,by decide,func202.trans (a7 some (by kernel_rfl))⟩,
 f15:=func203.trans (a7 some (by kernel_rfl)),
 f20:=⟨f207.name,by decide,func207.trans (a7 some (by kernel_rfl))⟩,
 f21:=⟨f208.name,by decide,func208.trans (a7 some (by kernel_rfl))⟩,
 f22:=⟨f209.name,by decide,func209.trans (a7 some (by kernel_rfl))⟩,
 f23:=⟨f210.name,by decide,func210.trans (a7 some (by kernel_rfl))⟩,
 f24:=⟨f211.name,by decide,func211.trans (a7 some (by kernel_rfl))⟩,
 f25:=⟨f212.name,by decide,func212.trans (a7 some (by kernel_rfl))⟩,
 f26:=⟨f213.name,by decide,func213.trans (a7 some (by kernel_rfl))⟩,
 f27:=⟨f214.name,by decide,func214.trans (a7 some (by kernel_rfl))⟩,
 f28:=func215.trans (a7 some (by kernel_rfl)),
 f29:=func216.trans (a7 some (by kernel_rfl)),
 f46:=⟨f218.name,by decide,func218.trans (a7 some (by kernel_rfl))⟩,
 f47:=func219.trans (a7 some (by kernel_rfl)),
 f48:=func220.trans (a7 some (by kernel_rfl)),
 f49:=⟨f221.name,by decide,func221.trans (a7 some (by kernel_rfl))⟩,
 f50:=⟨f222.name,by decide,func222.trans (a7 some (by kernel_rfl))⟩,
 f57:=⟨f223.name,by decide,func223.trans (a7 some (by kernel_rfl))⟩,
 t0:=underlying0,
 a0:=isAgg0,
 z0:=sizeOf0,
 v0:=zeroValue0,
 t3:=underlying3,
 a3:=isAgg3,
 z3:=sizeOf3,
 v3:=zeroValue3,
 t4:=underlying4,
 a4:=isAgg4,
 z4:=sizeOf4,
 v4:=zeroValue4,
 t5:=underlying5,
 a5:=isAgg5,
 z5:=sizeOf5,
 v5:=zeroValue5,
 t9:=underlying9,
 a9:=isAgg9,
 z9:=sizeOf9,
 v9:=zeroValue9,
 t22:=underlying169,
 a22:=isAgg169,
 z22:=sizeOf169,
 v22:=zeroValue169,
 t25:=underlying205,
 a25:=isAgg205,
 z25:=sizeOf205,
 v25:=zeroValue205,
 t39:=underlying216,
 a39:=isAgg216,
 z39:=sizeOf216,
 v39:=zeroValue216,
 t45:=underlying219,
 a45:=isAgg219,
 z45:=sizeOf219,
 v45:=zeroValue219,
 t46:=underlying220,
 a46:=isAgg220,
 z46:=sizeOf220,
 v46:=zeroValue220,
 t50:=underlying184,
 a50:=isAgg184,
 z50:=sizeOf184,
 v50:=zeroValue184,
 t53:=underlying226,
 a53:=isAgg226,
 z53:=sizeOf226,
 v53:=zeroValue226,
 t55:=underlying192,
 a55:=isAgg192,
 z55:=sizeOf192,
 v55:=zeroValue192,
 t66:=underlying229,
 a66:=isAgg229,
 z66:=sizeOf229,
 v66:=zeroValue229,
 t70:=underlying233,
 a70:=isAgg233,
 z70:=sizeOf233,
 v70:=zeroValue233,
 t76:=underlying235,
 a76:=isAgg235,
 z76:=sizeOf235,
 v76:=zeroValue235,
 t77:=underlying199,
 a77:=isAgg199,
 z77:=sizeOf199,
 v77:=zeroValue199}
end Go.Proofs.YtbdkogimlbnlmaaGreat.Q
namespace Go.Proofs.YtbdkogimlbnlmaaGreat.Q
open Tryz
open Go.RowKit
variable {r:Int}{L:List Rn}{cap g i k n s:Nat}{col:Nat->Nat}{D:Pd}{P:Po}{w0 wr:World}
def rr(x y:Int):Int:=if x<y then -1 else if y<x then 1 else 0
theorem rJ(w:World)(x:Int):Calls prog 204 #[.int .i64 x] w λe b=>e=.returned (.bool false)/\b=w:=by
 go_enter func204,ntmps204;go_wp2;go_ret;exact⟨by simp,rfl⟩
theorem By(w:World)(x y:Int):Calls prog 188 #[.int .i64 x,.int .i64 y] w λe l=>e=.returned (.int .i64 (rr x y))/\l=w:=by
 have d:=iJ λW=>rJ W x
 have f:=iJ λW=>rJ W y
 unfold rr;by_cases h:x<y
 . rw[if_pos h];go_enter func188,ntmps188;go_wp2_with fail
   refine(d.o _).mono ?_;rintro e b ⟨rfl,rfl⟩;go_wp2_with fail
   refine(f.o _).mono ?_;rintro e b ⟨rfl,rfl⟩;go_wp2;go_ret;exact⟨rfl,rfl⟩
 . rw[if_neg h];by_cases j:y<x
   . rw[if_pos j];go_enter func188,ntmps188;go_wp2_with fail
     refine(d.o _).mono ?_;rintro e b ⟨rfl,rfl⟩;go_wp2_with fail
     refine(f.o _).mono ?_;rintro e b ⟨rfl,rfl⟩;go_wp2;go_ret;exact⟨rfl,rfl⟩
   . rw[if_neg j];go_enter func188,ntmps188;go_wp2_with fail
     refine(d.o _).mono ?_;rintro e b ⟨rfl,rfl⟩;go_wp2_with fail
     refine(f.o _).mono ?_;rintro e b ⟨rfl,rfl⟩;go_wp2;go_ret;exact⟨rfl,rfl⟩
theorem uH(W:World)(r s:Rn):
 Calls prog 187 #[.agg (rcs r).toList.toArray,.agg (rcs s).toList.toArray] W λe f=>e=.returned (.int .i64 (rr r.1 s.1))/\∃q h,f=Sort.grow (W.drewN q) h:=by
 have C:=iJ λb=>By b r.1 s.1
 unfold rcs;generalize rr r.1 s.1=z at *;go_enter func187,ntmps187;go_wp2_with fail
 refine(C.o _).mono ?_;rintro e b ⟨rfl,d⟩;obtain rfl:=d.symm;go_wp2;go_ret;exact⟨rfl,0,_,by rw[Sort.alloc_eq_grow,Sort.alloc_eq_grow,Sort.grow_grow];rfl⟩
def kh(x:Rn):List Value:=(rcs x).toList
def cfS(x y:Rn):Int:=rr x.1 y.1
theorem ri(x y:Int):rr x y<0↔x<y:=by
 unfold rr;split
 . omega
 . split<;>omega
theorem swoS:Sort.SWO (ltOf cfS):={
 irrefl:=λx=>(by unfold ltOf cfS;rw[dB,ri];omega),
 trans:=λx y z b d=>(by
  unfold ltOf cfS at *;rw[decide_eq_true_iff,ri] at *;omega),
 ntrans:=λx y z b d=>(by
  unfold ltOf cfS at *;rw[dB,ri] at *;omega)}
theorem uc{w:World}(d:Array Rn)(b:Array Obj):But (λk=>k=g) w (sortWorldK kh 2 w g 0 n d b):=by
 refine⟨rfl,rfl,rfl,?_,λk j f=>?_⟩
 . exact SWK.le ⟨n,b,rfl⟩
 . have h:k<(Sort.putRowK kh 2 (Sort.ahead w n) g 0 d).heap.size:=by
    have:(Sort.putRowK kh 2 (Sort.ahead w n) g 0 d).heap.size=w.heap.size:=by simp[Sort.putRowK,Sort.putRow,Sort.mapBlock,Sort.ahead]
    omega
   show((Sort.putRowK kh 2 (Sort.ahead w n) g 0 d).heap++b)[k]?=_;rw[Array.getElem?_append_left h];show((Sort.ahead w n).heap.modify g _)[k]?=_;rw[fI,if_neg (λe=>f e.symm)]
   rfl
theorem uT(L:List Rn)(i j:Nat)(hi:i<L.length)(e:j<2):(rc L)[i*2+j]?=(kh (L.getD i Rn.zero))[j]?:=by
 obtain⟨b,d⟩:=vB L i hi;match j,e with
 |0,_=>exact b
 |1,_=>exact d
theorem ui{w:World}(q:Vw w (some ⟨g,0,none⟩) cap L)(d:Array Rn)(l:Array Obj)(e:d.size=L.length):Vw (sortWorldK kh 2 w g 0 n d l) (some ⟨g,0,none⟩) cap d.toList:=by
 rcases q.cases with⟨h0,_⟩|⟨g',Y,h0,hg,h1,h2,h3⟩
 . cases h0
 . simp only[aE,Addr.mk.injEq,eH] at h0;subst h0;have t:=hg.lt;have x:(Sort.putRowK kh 2 (Sort.ahead w n) g 0 d).heap.size=w.heap.size:=by simp[Sort.putRowK,Sort.putRow,Sort.mapBlock,Sort.ahead]
   have hb:(sortWorldK kh 2 w g 0 n d l).heap[g]?=some (.cells (Sort.putCells id 0 (Sort.flatK kh 2 d) (rc L++Y).toArray) 171 (0,0)):=by
    show((Sort.putRowK kh 2 (Sort.ahead w n) g 0 d).heap++l)[g]?=_;rw[Array.getElem?_append_left (by omega)]
    show((Sort.ahead w n).heap.modify g _)[g]?=_;rw[fI,if_pos rfl];show Option.map _ w.heap[g]?=_;rw[show w.heap[g]?=_ from hg]
    rfl
   have j:d.toList.length=L.length:=by simp[e]
   refine Vw.mk (Y:=Y) ?_ (by omega) h2 (by omega)
   unfold jD;rw[hb];congr 2
   apply Array.ext_getElem?;intro i;unfold Sort.putCells;rw[Array.getElem?_mapIdx];simp only[fo];by_cases b:i<L.length*2
   . have hd:i/2<d.size:=by omega
     have f:=uT d.toList (i/2) (i%2) (by omega) (fP _ (by decide))
     rw[show i/2*2+i%2=i by omega] at f
     have p:d.toList.getD (i/2) Rn.zero=d[i/2]'hd:=by simp[hd]
     rw[p] at f;rw[br (show i<(rc L).length by rw[iN];exact b),br (show i<(rc d.toList).length by rw[iN,j];exact b),f,aR (show i<(rc L).length by rw[iN];exact b),gZ,if_pos ⟨az _,by simp[e];omega⟩,Nat.sub_zero]
     rw[Sort.get_flatK _ _ _ _ (by rw[e];exact b),iH d (i/2) hd]
     have m:i%2<(kh d[i/2]).length:=by
      show i%2<2;exact fP _ (by decide)
     rw[iH (kh d[i/2]) (i%2) m];show some (id _)=(kh d[i/2])[i%2]?;rw[aR m];rfl
   . rw[bg (show(rc L).length<=i by rw[iN];omega),bg (show(rc d.toList).length<=i by rw[iN,j];omega),iN,iN,j]
     cases hy:Y[i-L.length*2]? with
     |none=>rfl
     |some v=>
      rw[gZ,if_neg (λh=>b (by have:=h.2;simp[e] at this;omega))]
theorem Vw.holds{w:World}(l:Vw w (some ⟨g,0,none⟩) cap L):Sort.HoldsK kh 2 w g 0 L.toArray:=by
 rcases l.cases with⟨h0,_⟩|⟨g',Y,h0,hg,h1,h2,h3⟩
 . cases h0
 . simp only[aE,Addr.mk.injEq,eH] at h0;subst h0;intro j e;rw[Sort.size_flatK,dm] at e;refine⟨?_,bG _ _ _ _ _ hg⟩;have m:=hg.cs (P:=[]) (X:=rc L) (Y:=Y) (by simp)
   have d:=uT L (j/2) (j%2) (by omega) (fP _ (by decide))
   rw[show j/2*2+j%2=j by omega] at d
   have f:j/2<L.length:=by omega
   have p:j%2<(kh (L.getD (j/2) Rn.zero)).length:=by
    show j%2<2;exact fP _ (by decide)
   have b:=m j ((kh (L.getD (j/2) Rn.zero))[j%2]) (by rw[d];exact aR p)
   rw[bj] at b;have h:L.getD (j/2) Rn.zero=L[j/2]:=by simp[f]
   rw[b,Sort.get_flatK _ _ _ _ (by rw[dm];exact e),iH L.toArray (j/2) (by simpa using f)]
   rw[iH (kh L.toArray[j/2]) (j%2) (by show j%2<2;exact fP _ (by decide))]
   simp only[h,List.getElem_toArray];rfl
theorem Ca(w:World)(g cap:Nat)(L:List Rn)(d:Vw w (some ⟨g,0,none⟩) cap L)(J:L.length<4611686018427387904):
 Calls prog 186 #[.slice (some ⟨g,0,none⟩) L.length cap,.func (.func 187) #[] #[]] w λe l=>e=.returned (.tuple #[])/\∃p,p.Perm L/\Vw l (some ⟨g,0,none⟩) cap p/\But (λk=>k=g) w l:=by
 have C:∀A w,(callFunc 187 A).run prog w=.ok (.enter 187 A) w:=enters_of func187 (by kernel_rfl) rfl
 have I:CmpLays prog 187 #[] kh 2 cfS g 0 L.toArray.size w:=λm j K _ x y=>uH _ x y
 have B:=AnyQ.slices_SortFunc El 2 isAgg171 sizeOf171 kh (λ_=>rfl) (λx v G=>x7 x v G) cfS swoS 187 #[] g 0 cap L.toArray w C I d.holds (d.lt rfl) (by simpa using J)
 rw[dm] at B;refine Calls.mono (show Calls prog 186 _ _ _ from B) λe l ⟨E,b,n,j,f,M,t⟩=>⟨E,b.toList,?_,?_,?_⟩
 . have q:=f.2.2;have H:b.size=L.toArray.size:=f.1;rw[show L.length=L.toArray.size by simp,Array.extract_size,<-H,Array.extract_size] at q
   simpa using q
 . rw[t];exact ui d b j (by have h:b.size=L.toArray.size:=f.1;simpa using h)
 . rw[t];exact uc b j
theorem zT(w:World)(a:Option Addr)(cap:Nat):Calls prog 186 #[.slice a 0 cap,.func (.func 187) #[] #[]] w λe b=>e=.returned (.tuple #[])/\b=w:=
 AnyF.slices_SortFunc_none El a cap _ w
theorem An(w:World)(a:Option Addr)(c:Nat)(L:List Rn)(E:Vs w a L)(O:L.length<=14000000000000)(q:a=none->c=0/\L=[]):
 Calls prog 185 #[.slice a L.length c] w λe K=>∃b d,e=.returned (.slice b L.length d)/\Vw K b d L/\New w none b/\Below w.heap.size w K/\(L≠[]->b≠none):=by
 have N:=λ(x:Option Addr)(n k:Nat)(w:World)=>Lib.run_eql_slice_nil (P:=prog) w 169 171 x n k 0 0 underlying169
 cases a with
 |none=>
  obtain⟨rfl,rfl⟩:=q rfl;rw[bj];go_enter func185,ntmps185;go_wp2;go_ret;exact⟨none,0,rfl,Vw.nil _,New.none _ _,Below.refl _ _⟩
 |some x=>
  have f:=al w (.cells #[] 171);have p:Vw (w.alloc (.cells #[] 171)) (some ⟨w.heap.size,0,none⟩) 0 []:=Vw.mk (Y:=[]) (aF w _) (ai _) (az _) rfl;by_cases C:L=[]
  . subst C;rw[bj];obtain⟨j,l,J,B⟩:=uJ (w.alloc (.cells #[] 171)) 169 w.heap.size 0 0 [] [] [] (some x) 0 c rfl (aF w _) rfl (.inl rfl) (ai _) (by simp) (ai _)
    have m:=iJ (show ∃b d,Ending.returned (.slice (some ⟨w.heap.size,0,none⟩) 0 0)=.returned (.slice b 0 d)/\Vw j b d []/\New w none b/\Below w.heap.size w j/\(([]:List Rn)≠[]->b≠none) from
     ⟨_,0,rfl,Vw.mk (Y:=[]) J (ai _) (az _) rfl,λz v=>.inr (by cases v;exact ai _),((But.ofBelow (S:=λ_=>False) f).trans B (λk G e=>by omega)).below (λ_ _ h=>h),λh=>(h rfl).elim⟩)
    clear J B p f q;go_enter func185,ntmps185;go_wp2_with (at_builtin;refine Lib.wpList_append_run _ rfl _ _ _ _ rfl _ _ rfl rfl _ _ l ?_)
    go_ret;exact m.o
  . obtain⟨g,d,j,l,A,H,I⟩:=mw (w.alloc (.cells #[] 171)) 169 (some ⟨w.heap.size,0,none⟩) 0 0 [] rfl p (some x) L.length c L rfl (E.keep f) C (by simp;omega)
    rw[bN] at l;rw[cY] at A
    have m:=iJ (show ∃b M,Ending.returned (.slice (some ⟨g,0,none⟩) L.length d)=.returned (.slice b L.length M)/\Vw j b M L/\New w none b/\Below w.heap.size w j/\(L≠[]->b≠none) from
     ⟨_,d,rfl,A,λz v=>by
       rcases H z v with⟨y,t,e⟩|h
       . cases t;exact .inr (iF e)
       . exact .inr (by rw[size_alloc] at h;omega),((But.ofBelow (S:=λ_=>False) f).grown I (λk G h=>by
          obtain⟨y,t,e⟩:=map_some G;cases t;rw[<-e] at h;exact absurd h (eG _))).below (λ_ _ h=>h),λ_=>by simp⟩)
    clear A H I p f q E;generalize L.length=n at *;go_enter func185,ntmps185;go_wp2_with (at_builtin;refine Lib.wpList_append_run _ rfl _ _ _ _ rfl _ _ rfl rfl _ _ l ?_)
    go_ret;exact m.o
theorem BO{M:List Rn}(h:L.Perm M)(z:Int):has L z=has M z:=by
 rw[fJ,has_iff,has_iff];constructor
 . rintro⟨r,hr,h1⟩;exact⟨r,h.subset hr,h1⟩
 . rintro⟨r,hr,h1⟩;exact⟨r,h.symm.subset hr,h1⟩
theorem Bq(L:List Rn)(r:Rn)(z:Int):has (L++[r]) z=(has L z||(decide (r.1<=z)&&decide (z<=r.2))):=by
 rw[jk,ki,ld,fD]
structure Nw(w w':World)(b:Nat)(a:Option Addr)(cap:Nat)(R:List Rn):Prop where
 st:St w' b a cap R
 b:w.heap.size<=b
 a:∀x,a=some x->w.heap.size<=x.block
 w:Below w.heap.size w w'
theorem zQ(w:World)(a:Option Addr)(c:Nat)(L:List Rn)(hV:Vs w a L)(hl:L.length<=8796093022200)(hn:a=none->c=0/\L=[])(hb:∀r∈L,Nm r.1/\Nm r.2):
 Calls prog 172 #[.slice a L.length c] w λe w'=>∃G d f R,e=.returned (.pointer (some ⟨G,0,none⟩))/\Nw w w' G d f R/\(∀z,has R z=has L z)/\R.length<=L.length:=by
 have X:=iJ (An w a c L hV (by omega) hn)
 have Y:=iJ λ(W:World)(g cap:Nat)(hQ:Vw W (some ⟨g,0,none⟩) cap L)=>Ca W g cap L hQ (by omega)
 have C3:=iJ λ(W:World)(a:Option Addr)(cap:Nat)=>zT W a cap
 obtain⟨n,J⟩:∃n:Nat,n=L.length:=⟨_,rfl⟩;have A:=iJ J;rw[<-J] at X Y hl ⊢;clear hV hn J;go_enter func172,ntmps172;go_wp2_with fail
 refine X.o.mono ?_;rintro e T ⟨l,c1,rfl,H,N,O,q4⟩
 /- behind the sort -/
 have S:Calls prog 186 #[.slice l n c1,.func (.func 187) #[] #[]] T λe b=>e=.returned (.tuple #[])/\∃P,P.Perm L/\Vw b l c1 P/\Below w.heap.size w b:=by
  by_cases B:L=[]
  . have ag:n=0:=by rw[A.o,B];rfl
    rw[ag];refine(C3.o T l c1).mono λe b ⟨K,hw⟩=>⟨K,[],by rw[B],by rw[hw,<-B];exact H,by rw[hw];exact O⟩
  . obtain⟨g,hg⟩:∃g,l=some ⟨g,0,none⟩:=by
     rcases H.cases with⟨h1,_⟩|⟨g,_,h1,_⟩
     . exact absurd h1 (q4 B)
     . exact⟨g,h1⟩
    subst hg;refine(Y.o T g c1 H).mono λe b ⟨K,P,t,v,E⟩=>⟨K,P,t,v,?_⟩
    have aj:w.heap.size<=g:=by
     rcases N _ rfl with⟨y,p,_⟩|h
     . cases p
     . exact h
    exact((But.ofBelow (S:=λ_=>False) O).trans E (λk hk e=>by omega)).below (λ_ _ h=>h)
 have S':=iJ S;have Q2:=iJ N;clear S H N O q4;go_wp2_with fail
 refine S'.o.mono ?_;rintro e b ⟨rfl,P,t,v,E⟩;have hP:=iJ t;have lP:P.length=n:=by rw[A.o];exact t.length_eq
 have vP:=iJ v.vs;have aP:=iJ λx (j:l=some x)=>v.lt j
 clear t v;go_wp2_with fail
 obtain⟨W,hW⟩:∃W,b.alloc (.cells #[.slice none 0 0] 173)=W:=⟨_,rfl⟩;have ab:=aF b (.cells #[.slice none 0 0] 173);have I:=al b (.cells #[.slice none 0 0] 173);have sW:=size_alloc b (.cells #[.slice none 0 0] 173);rw[hW] at ab I sW ⊢;have ah:=E.size;have ae:St W b.heap.size none 0 []:=⟨ab,Vw.nil _,Can.nil,by simp,by simp⟩
 go_loopw [15] (λi wx=>∃k:Nat,k<=n/\i=.int .i64 k/\∃d f R,St wx b.heap.size d f R/\(∀z,has R z=has (P.take k) z)/\R.length<=k/\(∀x,d=some x->W.heap.size<=x.block)/\But (λq=>q=b.heap.size\/W.heap.size<=q) W wx) (λi _=>n-(intOf i).toNat)
 case atStart=>exact⟨0,az _,rfl,none,0,[],ae,by simp,ai _,by simp,But.refl _ _⟩
 case round=>
  obtain⟨k,hk,rfl,d,f,R,C,M,af,U,m⟩:=hrel;have am:=m.size;by_cases ak:k<n
  . have V:k<P.length:=by omega
    have vx:Vs wr l P:=(vP.o.keep I).but m (λx j h=>by have:=aP.o x j;rcases h with h|h<;>omega)
    obtain⟨bb,o,rfl,d1,d2⟩:=vx.at V;obtain⟨r1,r2⟩:=hb _ (hP.o.subset (kS V));have tn:=jO P Rn.zero V;generalize P.getD k Rn.zero=r at *;have aa:=al wr (.cells #[.int .i64 r.1,.int .i64 r.2] 171);have ac:=iJ (sS (wr.alloc (.cells #[.int .i64 r.1,.int .i64 r.2] 171)) b.heap.size d f R r.1 r.2 (C.keep aa) r1 r2 (by omega))
    have TN:=iJ tn;have HS:=iJ C;have HH:=iJ M;have HB:=iJ m;have Z:=iJ U;clear tn C M m U r1 r2;go_wp2_with fail
    refine ac.o.mono ?_;rintro e w5 ⟨rfl,a5,c5,R5,s1,s2,s3,s4,s5⟩
    have ad:=iJ (show ∃d f R,St w5 b.heap.size d f R/\(∀z,has R z=has (P.take (k+1)) z)/\R.length<=k+1/\(∀x,d=some x->W.heap.size<=x.block)/\But (λq=>q=b.heap.size\/W.heap.size<=q) W w5 from
     ⟨a5,c5,R5,s1,λz=>by rw[s2,HH.o,TN.o,Bq],by omega,λx j=>by
       rcases s4 x j with⟨y,p,e⟩|h
       . rw[<-e];exact Z.o y p
       . rw[size_alloc] at h;omega,(HB.o.andBelow aa).trans s5 (λq hq h=>by
         rcases h with h|⟨y,p,e⟩
         . exact .inl h
         . exact .inr (by rw[<-e];exact Z.o y p))⟩)
    clear s1 s2 s3 s4 s5;go_wp2;go_roundw
    case rel=>exact⟨k+1,by omega,by simp,ad.o⟩
    case measure=>simp[intOf];omega
  . obtain rfl:k=n:=by omega
    go_wp2;go_ret;refine⟨_,d,f,R,rfl,⟨C,ah,λx j=>by have:=U x j;omega,?_⟩,λz=>by rw[M,<-lP,cJ];exact BO hP.o z,af⟩
    exact((But.ofBelow (S:=λ_=>False) (bt E I)).trans m (λq hq h=>by rcases h with h|h<;>omega)).below (λ_ _ h=>h)
theorem uM(w:World):Calls prog 154 #[.slice none 0 0] w λe y=>∃b f j R,e=.returned (.pointer (some ⟨b,0,none⟩))/\Nw w y b f j R/\(∀z,has R z=false)/\R.length<=0:=by
 have B:=uz 0 0 (ai _) (by omega) w
 rw[show((0:Nat):Int)=0 from rfl] at B
 have p:=al w (.cells (madeCells (rcs Rn.zero) (0*2)) 171);have h:=size_alloc w (.cells (madeCells (rcs Rn.zero) (0*2)) 171);generalize w.alloc (.cells (madeCells (rcs Rn.zero) (0*2)) 171)=l at *;have C:=iJ (zQ l (some ⟨w.heap.size,0,none⟩) 0 [] (.inl rfl) (by simp) (by simp) (by simp))
 rw[bj] at C;have m:=iJ h;clear h;go_enter func154,ntmps154;go_wp2;go_loopw [3,11] (λs i A=>s=.slice (some ⟨w.heap.size,0,none⟩) 0 0/\i=.int .i64 0/\A=l) (λ_ _ _=>0)
 case atStart=>exact⟨rfl,rfl,rfl⟩
 case round=>
  obtain⟨rfl,rfl,rfl⟩:=hrel;go_wp2_with fail
  with_reducible refine C.o.mono ?_
  rintro e E ⟨b,f,j,R,rfl,d,t,v⟩;go_wp2;go_ret;have h:=m.o;exact⟨b,f,j,R,rfl,⟨d.st,by have:=d.b;omega,λx q=>by have:=d.a x q;omega,bt p d.w⟩,λz=>t z,v⟩
def Po.start(r:Int)(C:List Int):Po:=⟨r,C.map λc=>(c,decide (0<c)),[],0⟩
def Ep(g:Nat):Pd:=⟨g,λ_=>0,λ_=>none,λ_=>0,λ_=>[],none,0,[]⟩
def inQ(D:Pd)(s t:Nat):Value:=if t<s then .pointer (some ⟨D.s t,0,none⟩) else .pointer none
def boxZ(r:Int)(n:Nat)(D:Pd)(s:Nat):Array Value:=#[.int .i64 r,.slice (some ⟨D.g,0,none⟩) n n,inQ D s 0,inQ D s 1,inQ D s 2,inQ D s 3,inQ D s 4,.slice none 0 0,.int .i64 0]
structure Pz(w0 w:World)(b:Nat)(r:Int)(n:Nat)(D:Pd)(s:Nat)(col:Nat->Nat):Prop where
 box:w.heap[b]?=some (.cells (boxZ r n D s) 131 (0,0))
 pgs:w.heap[D.g]?=some (.cells (pgc (List.replicate n Pg.zero)).toArray 133 (0,0))
 set:∀t,t<s->St w (D.s t) (D.a t) (D.c t) (D.L t)
 emp:∀t,t<s->∀z,has (D.L t) z=false
 na:D.aa=none/\D.ac=0/\D.B=[]
 cb:col b=1
 cg:col D.g=2
 cs:∀t,t<s->col (D.s t)=3+t
 ca:∀t,t<s->∀x,D.a t=some x->col x.block=3+t
 lt:∀k,col k≠0->k<w.heap.size/\w0.heap.size<=k
 bl:Below w0.heap.size w0 w
theorem Hi:(prog.info? 133).map (λi=>(i.zero,i.size,i.bytes))=some (some (.agg #[.int .i64 0,.bool false]),2,16):=by kernel_rfl
theorem Cd(n:Nat)(l:n<=65536)(w:World):(Instr.makeSlice 126 (.int .i64 (n:Int)) (.int .i64 (n:Int))).run prog w=.ok (.slice (some ⟨w.heap.size,0,none⟩) n n) (w.alloc (.cells (madeCells #[.int .i64 0,.bool false] (n*2)) 133)):=by
 obtain⟨e,d,f,h,j⟩:=dr Hi;have b:=run_make (P:=prog) w 126 133 e (.agg #[.int .i64 0,.bool false]) underlying126 d f .i64 .i64 n n (by omega) (by omega) (by rw[j];omega) (by omega)
 simp only[di,h] at b;exact b
theorem CG(n:Nat):madeCells #[Value.int .i64 0,Value.bool false] (n*2)=(pgc (List.replicate n Pg.zero)).toArray:=by
 unfold madeCells;apply Array.ext
 . simp[nR]
 . intro i j l;have f:i/2<n:=by simp at j;omega
   have d:=nQ (List.replicate n Pg.zero) (i/2) (by rw[bh];exact f)
   have e:(List.replicate n Pg.zero).getD (i/2) Pg.zero=Pg.zero:=by simp[aq,f]
   rw[e] at d;have h:i<(pgc (List.replicate n Pg.zero)).length:=by simpa using l
   rcases Nat.mod_two_eq_zero_or_one i with m|m
   . have b:i=i/2*2:=by omega
     have:=d.1;rw[<-b,aR h] at this;simp only[aE] at this;simp[m];exact this.symm
   . have b:i=i/2*2+1:=by omega
     have:=d.2;rw[<-b,aR h] at this;simp only[aE] at this;simp[m];exact this.symm
theorem Pz.next{w W f:World}{b:Nat}(h:Pz w0 w b r n D s col)(M:s<5)(I:Below w.heap.size w W){l:Nat}{q:Option Addr}{C:Nat}{R:List Rn}(j:Nw W f l q C R)(K:∀z,has R z=false):
 Pz w0 (f.setCell ⟨b,2+s,none⟩ (.pointer (some ⟨l,0,none⟩))) b r n {D with s:=upd D.s s l,a:=upd D.a s q,c:=upd D.c s C,L:=upd D.L s R} (s+1) (recol col w f (3+s)):=by
 have v:Below w.heap.size w f:=bt I j.w;have A:∀{k:Nat},col k≠0->recol col w f (3+s) k=col k:=λm=>jP (h.lt _ m).1
 have lb:=(h.lt b (by rw[h.cb];decide))
 have B:But (λk=>k=b) w (f.setCell ⟨b,2+s,none⟩ (.pointer (some ⟨l,0,none⟩))):=(But.ofBelow (S:=λk=>k=b) v).setCell (p:=⟨b,2+s,none⟩) (λ_=>rfl) _
 have J:But (λk=>k=b) f (f.setCell ⟨b,2+s,none⟩ (.pointer (some ⟨l,0,none⟩))):=(But.refl (λk=>k=b) _).setCell (p:=⟨b,2+s,none⟩) (λ_=>rfl) _
 have y:=I.size;have nb:∀k,w.heap.size<=k->k≠b:=λk m e=>by omega
 have N:f.heap[b]?=_:=(v.block b lb.1).trans h.box;refine⟨?_,B.same h.pgs (λe=>by have:=h.cg;rw[e,h.cb] at this;cases this),λt G=>?_,λt G z=>?_,h.na,(A (by rw[h.cb];decide)).trans h.cb,(A (by rw[h.cg];decide)).trans h.cg,λt G=>?_,λt G x d=>?_,λk m=>?_,?_⟩
 . rw[aY _ _ _ _ _ _ N];rcases lt5 M with rfl|rfl|rfl|rfl|rfl<;>rfl
 . show St _ (upd D.s s l t) (upd D.a s q t) (upd D.c s C t) (upd D.L s R t);by_cases e:t=s
   . subst e;rw[ji,ji,ji,ji];exact j.st.but J (nb _ (aO y j.b)) (λx d=>nb _ (aO y (j.a x d)))
   . rw[jt _ _ e,jt _ _ e,jt _ _ e,jt _ _ e];have H:t<s:=by omega
     exact(h.set t H).but B (λE=>by have:=h.cs t H;rw[E,h.cb] at this;omega) (λx d E=>by have:=h.ca t H x d;rw[E,h.cb] at this;omega)
 . show has (upd D.L s R t) z=false;by_cases e:t=s
   . subst e;rw[ji];exact K z
   . rw[jt _ _ e];exact h.emp t (by omega) z
 . show recol col w f (3+s) (upd D.s s l t)=3+t;by_cases e:t=s
   . subst e;rw[ji];exact kW (aO y j.b) j.st.lt
   . rw[jt _ _ e,A (by rw[h.cs t (by omega)];omega)];exact h.cs t (by omega)
 . have d:upd D.a s q t=some x:=d;by_cases e:t=s
   . subst e;rw[ji] at d;exact kW (aO y (j.a x d)) (j.st.row.lt d)
   . rw[jt _ _ e] at d;rw[A (by rw[h.ca t (by omega) x d];omega)];exact h.ca t (by omega) x d
 . by_cases e:k<w.heap.size
   . rw[jP e] at m;exact⟨be e B.size,(h.lt k m).2⟩
   . exact⟨be (oY v.size m) J.size,by have:=h.bl.size;omega⟩
 . exact((But.ofBelow (S:=λ_=>False) (bt h.bl v)).setCell (p:=⟨b,2+s,none⟩) (λe=>by have e:b<w0.heap.size:=e;omega) _).below (λ_ _ h=>h)
theorem Pz.done{w:World}{b:Nat}(h:Pz w0 w b r n D 5 col):Pq w b ⟨r,List.replicate n Pg.zero,[],0⟩ D col:=by
 obtain⟨e,m,d⟩:=h.na;refine⟨?_,h.pgs,h.set,?_,by rw[d];rfl,λq f=>(by rw[d] at f;cases f),h.cb,h.cg,h.cs,h.ca,λx l=>(by rw[e] at l;cases l),λt j=>(by rw[d] at j;cases j),λk p=>(h.lt k p).1⟩
 . rw[h.box];show some (Obj.cells _ _ _)=some (Obj.cells (kL _ _) _ _);unfold kL boxZ inQ;simp[e,m]
 . rw[e,m,d];exact Gw.nil _ _ _
def j8(C:List Int):List Pg:=C.map λc=>(c,decide (0<c))
theorem kw(C:List Int):(j8 C).length=C.length:=by simp[j8]
theorem tC{C:List Int}(h:i<C.length):j8 (C.take (i+1))=j8 (C.take i)++[(C.getD i 0,decide (0<C.getD i 0))]:=by
 unfold j8;rw[jO C 0 h,bP];rfl
structure Pf(w wr:World)(b:Nat)(r:Int)(C:List Int)(i:Nat)(D:Pd)(col:Nat->Nat):Prop where
 q:Pq wr b ⟨r,j8 (C.take i)++List.replicate (C.length-i) Pg.zero,[],0⟩ D col
 m:∀s,s<5->∀z,has (D.L s) z=inS (j8 (C.take i)) s z
 bl:Below w.heap.size w wr
 nw:∀k,col k≠0->w.heap.size<=k
theorem Pf.len{w:World}{b:Nat}{C:List Int}(h:Pf w wr b r C i D col)(hi:i<=C.length):(j8 (C.take i)++List.replicate (C.length-i) Pg.zero).length=C.length:=by
 rw[ae,kw,bi,bh];omega
theorem Pf.few{w:World}{b:Nat}{C:List Int}(h:Pf w wr b r C i D col)(m:C.length<=65536)(d:s<5):(D.L s).length<=65536:=by
 refine x8 (h.q.set s d).can λq e=>?_
 have f:=(h.q.set s d).can.1 q e;have l:=(kd.1 ((h.m s d q.1).symm.trans ((has_iff _ _).2 ⟨q,e,fd _,f⟩))).1;have j:=(kd.1 ((h.m s d q.2).symm.trans ((has_iff _ _).2 ⟨q,e,f,fd _⟩))).2.1;rw[kw,bi] at j;omega
theorem Bp(P:List Pg)(x:Pg)(s:Nat)(z:Int):inS (P++[x]) s z=(inS P s z||(decide (z=((P.length+1:Nat):Int))&&decide (stt x=s))):=by
 by_cases b:z=((P.length+1:Nat):Int)
 . rw[ax b,fZ]
   have e:inS P s z=false:=by
    unfold inS;rw[au (show ¬z<=(P.length:Int) by omega)];simp
   rw[e,Bool.false_or,b,rQ (by omega) (by simp)]
   congr 1
   rw[Nat.add_sub_cancel,aq,bg (ai _),df];rfl
 . rw[au b,eU,fD];unfold inS;rw[ae,List.length_singleton];by_cases f:1<=z
   . by_cases d:z<=(P.length:Int)
     . rw[ax d,ax (show z<=((P.length+1:Nat):Int) by omega)]
       rw[aq,br (by omega),<-aq]
     . rw[au d,au (show ¬z<=((P.length+1:Nat):Int) by omega)]
       simp
   . rw[au f];simp
theorem Cz{C:List Int}(h:i<C.length)(x:Pg):(j8 (C.take i)++List.replicate (C.length-i) Pg.zero).set i x=j8 (C.take i)++x::List.replicate (C.length-(i+1)) Pg.zero:=by
 have b:(j8 (C.take i)).length=i:=by rw[kw,bi];omega
 rw[ed _ _ (by omega),b,df]
 obtain⟨m,d⟩:∃m,C.length-i=m+1:=⟨C.length-i-1,by omega⟩
 rw[d,gU,eZ,show C.length-(i+1)=m by omega]
theorem rW(w:World)(r:Int)(a:Option Addr)(cap:Nat)(C:List Int)(hC:Ir w a C)(h1:1<=C.length)(q:C.length<=65536)(hr:2<=r/\r<65536)(G:∀c∈C,0<=c/\c<=r):
 Calls prog 123 #[.int .i64 r,.slice a C.length cap] w λe w'=>∃b col,e=.returned (.pointer (some ⟨b,0,none⟩))/\Pl w' b (Po.start r C) col/\Below w.heap.size w w'/\∀k,col k≠0->w.heap.size<=k:=by
 have ab:=Cd C.length q w;rw[CG] at ab;have HC:=iJ hC;have HH:=iJ G;have HR:=iJ hr;clear hC G hr;obtain⟨n,hn⟩:∃n,C.length=n:=⟨_,rfl⟩;have A:=iJ hn;rw[hn] at ab h1 q ⊢;clear hn;obtain⟨d,v⟩:∃d,(w.alloc (.cells (pgc (List.replicate n Pg.zero)).toArray 133)).alloc (.cells #[.int .i64 r,.slice (some ⟨w.heap.size,0,none⟩) n n,.pointer none,.pointer none,.pointer none,.pointer none,.pointer none,.slice none 0 0,.int .i64 0] 131)=d:=⟨_,rfl⟩
 have Z0:=iJ (show Pz w d (w.heap.size+1) r n (Ep w.heap.size) 0 (λk=>if k=w.heap.size+1 then 1 else if k=w.heap.size then 2 else 0) by
  have sz:d.heap.size=w.heap.size+1+1:=by rw[<-v,size_alloc,size_alloc]
  refine⟨?_,?_,λt E=>by omega,λt E=>by omega,⟨rfl,rfl,rfl⟩,by simp,by simp[Ep],λt E=>by omega,λt E=>by omega,λk j=>?_,?_⟩
  . rw[<-v];have c:=aF (w.alloc (.cells (pgc (List.replicate n Pg.zero)).toArray 133)) (.cells #[.int .i64 r,.slice (some ⟨w.heap.size,0,none⟩) n n,.pointer none,.pointer none,.pointer none,.pointer none,.pointer none,.slice none 0 0,.int .i64 0] 131);rwa [size_alloc] at c
  . rw[<-v];have c:=aF w (.cells (pgc (List.replicate n Pg.zero)).toArray 133);exact((al _ _).block w.heap.size (af.1 c).1).trans c
  . rw[sz];split at j
    . omega
    . split at j
      . omega
      . exact absurd rfl j
  . rw[<-v];exact bt (al _ _) (al _ _))
 have Z:=iJ v;clear v;go_enter func123,ntmps123;go_wp2_with fail
 rw[Z.o];clear ab Z;go_loopw [16] (λi wr=>∃(s:Nat)(D:Pd)(col:Nat->Nat),s<=5/\i=.int .i64 (s:Int)/\Pz w wr (w.heap.size+1) r n D s col) (λi _=>5-(intOf i).toNat)
 case atStart=>exact⟨0,_,_,by omega,rfl,Z0.o⟩
 case round=>
  obtain⟨s,D,col,x,rfl,K⟩:=hrel;have l:=iJ K;clear K Z0;by_cases h:s<5
  . have cb:=ay _ _ (2+s) _ _ _ l.o.box
    have cS:wr.cell? ⟨w.heap.size+1,2+s,none⟩=some (.pointer none):=by
     rw[cb];rcases lt5 h with rfl|rfl|rfl|rfl|rfl<;>rfl
    have fS:wr.frozen? ⟨w.heap.size+1,2+s,none⟩=false:=by simp[World.frozen?,l.o.box]
    have aG:(s:Int)<5:=by omega
    clear cb;go_wp2_with fail
    go_region_with (go_at_call 154;refine(uM _).mono ?_;rintro _ w3 ⟨b',a',c',aD,rfl,N,hR,-⟩;have c3:=(N.w.cell (p:=⟨w.heap.size+1,2+s,none⟩) (block_lt_of_cell cS)).trans cS;have f3:=(N.w.frozen (p:=⟨w.heap.size+1,2+s,none⟩) (block_lt_of_cell cS)).trans fS;have ar:=iJ (l.o.next h (drw wr) N hR);clear N hR)
    all_goals
     clear c3 f3;go_wp2;go_roundw
    all_goals first
     |exact⟨s+1,_,_,by omega,by go_num,ar.o⟩
     |(simp[intOf];omega)
  . have h5:(s:Int)=5:=by omega
    have l:Hid (Pz w wr (w.heap.size+1) r n D 5 col):=iJ (by have z:=l.o;rw[show s=5 by omega] at z;exact z)
    rw[h5];clear h5 x h
    have F0:=iJ (show Pf w wr (w.heap.size+1) r C 0 D col from⟨by
     rw[fR,Nat.sub_zero,A.o];exact l.o.done,λt E z=>by
     rw[l.o.emp t E z,fR];unfold inS;rw[show(j8 []).length=0 from rfl]
     by_cases K:1<=z
     . rw[au (show ¬z<=((0:Nat):Int) by omega)];simp
     . rw[au K];simp,l.o.bl,λk j=>(l.o.lt k j).2⟩)
    generalize w.heap.size+1=b at *;clear l;go_wp2_with fail
    go_loopw [28] (λi wr=>∃(k:Nat)(D:Pd)(col:Nat->Nat),k<=n/\i=.int .i64 (k:Int)/\Pf w wr b r C k D col) (λi _=>n-(intOf i).toNat)
    case atStart=>exact⟨0,_,_,by omega,rfl,F0.o⟩
    case round=>
     clear F0;obtain⟨i,D,col,hi,rfl,hf⟩:=hrel;have f:=iJ hf;clear hf;by_cases h:i<n
     . have T:i<C.length:=by rw[A.o];exact h
       obtain⟨b1,o1,rfl,cA⟩:=(HC.o.keep f.o.bl).at T;have aA:=HH.o (C.getD i 0) (by simp[T])
       obtain⟨c,G⟩:∃c,C.getD i 0=c:=⟨_,rfl⟩;have EC:=iJ G;rw[G] at cA aA;clear G;have R:=al wr (.cells #[.int .i64 c,.bool (decide (0<c))] 133);have X1:=iX wr c (decide (0<c));have H:=f.o.q.keep R;have ao:=f.o.len (by rw[A.o];exact hi)
       have c1:=H.c1;rw[show(⟨r,j8 (C.take i)++List.replicate (C.length-i) Pg.zero,[],0⟩:Po).pg.length=n from ao.trans A.o] at c1
       have az:=H.pgAt (i:=i) (by show i<(j8 (C.take i)++List.replicate (C.length-i) Pg.zero).length;rw[ao];exact T)
       obtain⟨y,m⟩:=az;generalize ((⟨r,j8 (C.take i)++List.replicate (C.length-i) Pg.zero,[],0⟩:Po).pg.getD i Pg.zero)=xo at y m;have g1:=H.pgf (i*2);have g2:=H.pgf (i*2+1);obtain⟨X,Y⟩:=X1;obtain⟨d,v⟩:∃d,wr.alloc (.cells #[.int .i64 c,.bool (decide (0<c))] 133)=d:=⟨_,rfl⟩;rw[v] at c1 y m g1 g2 X Y R H;have av:d.drew.cell? ⟨b,1,none⟩=_:=c1;have d3:d.drew.cell? ⟨D.g,i*2,none⟩=_:=y;have d4:d.drew.cell? ⟨D.g,i*2+1,none⟩=_:=m;have g3:d.drew.frozen? ⟨D.g,i*2,none⟩=false:=g1;have g4:d.drew.frozen? ⟨D.g,i*2+1,none⟩=false:=g2;have aB:d.drew.cell? ⟨wr.heap.size,0,none⟩=_:=X;have aC:d.drew.cell? ⟨wr.heap.size,1,none⟩=_:=Y;have aH:(i:Int)<(n:Int):=by omega
       have hh:=vY H.pgs i (c,decide (0<c));have W:But (λk=>k=D.g) d ((d.setCell ⟨D.g,i*2,none⟩ (.int .i64 c)).setCell ⟨D.g,i*2+1,none⟩ (.bool (decide (0<c)))).drew:=(((But.refl (λk=>k=D.g) d).setCell (p:=⟨D.g,i*2,none⟩) (λ_=>rfl) _).setCell (p:=⟨D.g,i*2+1,none⟩) (λ_=>rfl) _).drew
       have Q2:=iJ (H.page (i+1) (c,decide (0<c)) hh W);have gx:wr.heap.size≠D.g:=λe=>by have:=f.o.q.lt D.g (by rw[f.o.q.cg];decide);omega
       have X2:=iJ (show((d.setCell ⟨D.g,i*2,none⟩ (.int .i64 c)).setCell ⟨D.g,i*2+1,none⟩ (.bool (decide (0<c)))).drew.cell? ⟨wr.heap.size,0,none⟩=some (.int .i64 c)/\((d.setCell ⟨D.g,i*2,none⟩ (.int .i64 c)).setCell ⟨D.g,i*2+1,none⟩ (.bool (decide (0<c)))).drew.cell? ⟨wr.heap.size,1,none⟩=some (.bool (decide (0<c))) from
        ⟨(W.cell (p:=⟨wr.heap.size,0,none⟩) (block_lt_of_cell X) gx).trans X,(W.cell (p:=⟨wr.heap.size,1,none⟩) (block_lt_of_cell Y) gx).trans Y⟩)
       have BW:=iJ (show Below w.heap.size w ((d.setCell ⟨D.g,i*2,none⟩ (.int .i64 c)).setCell ⟨D.g,i*2+1,none⟩ (.bool (decide (0<c)))).drew from((But.ofBelow (S:=λ_=>False) (bt f.o.bl R)).trans W (λk j e=>by have:=f.o.nw D.g (by rw[f.o.q.cg];decide);rw[e] at j;omega)).below (λ_ _ aa=>aa))
       have Z:=iJ v;clear v hh W H R;go_wp2_with fail
       rw[Z.o];go_region
       all_goals
        generalize ((d.setCell ⟨D.g,i*2,none⟩ (.int .i64 c)).setCell ⟨D.g,i*2+1,none⟩ (.bool (decide (0<c)))).drew=J at *;clear c1 av y m d3 d4 g1 g2 g3 g4 X Y aB aC Z;have ST:=iJ λ(ap:World)=>tA ap (c,decide (0<c))
        obtain⟨t,E⟩:∃t,stt (c,decide (0<c))=t:=⟨_,rfl⟩;have t1:=nN (c,decide (0<c));rw[E] at ST t1;have HT:=iJ E;clear E;obtain⟨y0,y1⟩:=X2.o;have z0:J.drew.cell? ⟨wr.heap.size,0,none⟩=_:=y0;have z1:J.drew.cell? ⟨wr.heap.size,1,none⟩=_:=y1;have s1:IntKind.i64.wrap ((i:Int)+1)=(i:Int)+1:=iT (by omega) (by omega)
        have s2:wrap64 ((i:Int)+1)=(i:Int)+1:=by unfold wrap64;omega
        have AD:=iJ λ(B:World)(hb:Below J.heap.size J B)=>sS B (D.s t) (D.a t) (D.c t) (D.L t) ((i:Int)+1) ((i:Int)+1) ((Q2.o.keep hb).set t (by omega)) (by unfold Nm;omega) (by unfold Nm;omega) (by have:=f.o.few (by rw[A.o];exact q) (s:=t) (by omega);omega)
        have aq:=iJ (show ∀(B O:World)(M:Option Addr)(V:Nat)(I:List Rn),Below J.heap.size J B->St O (D.s t) M V I->(∀z,has I z=(has (D.L t) z||(decide ((i:Int)+1<=z)&&decide (z<=(i:Int)+1))))->New B (D.a t) M->But (λk=>k=D.s t\/InA (D.a t) k) B O->∃D' ad,Pf w O b r C (i+1) D' ad from λB O M V I hb hS hH N hB=>by
         have q3:=(Q2.o.keep hb).oneSet (s:=t) (by omega) hS N hB
         refine⟨{D with a:=upd D.a t M,c:=upd D.c t V,L:=upd D.L t I},recol col B O (3+t),⟨?_,λs x z=>?_,?_,λk j=>?_⟩⟩
         . have e:(⟨r,j8 (C.take i)++List.replicate (C.length-i) Pg.zero,[],0⟩:Po).put (i+1) (c,decide (0<c))=⟨r,j8 (C.take (i+1))++List.replicate (C.length-(i+1)) Pg.zero,[],0⟩:=by
            unfold Po.put;simp only[Nat.add_sub_cancel];rw[Cz T,tC T,EC.o,aU];rfl
           rw[e] at q3;exact q3
         . show has (upd D.L t I s) z=inS (j8 (C.take (i+1))) s z;rw[tC T,EC.o,Bp,kw,bi,dq (by omega),HT.o]
           have ez:(decide ((i:Int)+1<=z)&&decide (z<=(i:Int)+1))=decide (z=((i+1:Nat):Int)):=by
            by_cases K:z=((i+1:Nat):Int)
            . rw[ax K,ax (by omega),ax (by omega)];rfl
            . rw[au K];by_cases h3:(i:Int)+1<=z
              . rw[au (show ¬z<=(i:Int)+1 by omega),ia]
              . rw[au h3,eU]
           by_cases ac:s=t
           . subst ac;rw[ji,hH,ez,f.o.m s x];simp
           . rw[jt _ _ ac,f.o.m s x,au (show ¬t=s from λe=>ac e.symm)];simp
         . refine((But.ofBelow (S:=λ_=>False) (bt BW.o hb)).trans hB (λk j e=>?_)).below (λ_ _ aa=>aa)
           rcases e with rfl|⟨ah,hy,rfl⟩
           . have:=f.o.nw _ (show col (D.s t)≠0 by rw[f.o.q.cs t (by omega)];omega);omega
           . have:=f.o.nw _ (show col ah.block≠0 by rw[f.o.q.ca t (by omega) ah hy];omega);omega
         . have sw:=(bt BW.o hb).size;by_cases e:k<B.heap.size
           . rw[jP e] at j;exact f.o.nw k j
           . omega)
        have U:=iJ (drw J);go_wp2_with fail
        go_region_with (first
         |(go_at_call 112;refine(ST.o _).mono ?_;rintro _ w3 ⟨rfl,an⟩;have U:=iJ (bt U.o an);have ct:=(Q2.o.keep U.o).cin (s:=t) (by omega);clear an)
         |(go_at_call 155;refine(AD.o _ U.o).mono ?_;rintro _ O ⟨rfl,M,V,I,am,aj,-,ak,ai⟩;have FF:=iJ (aq.o _ _ M V I U.o am aj ak ai);clear am aj ak ai))
       all_goals
        clear ct y0 y1 z0 z1;go_wp2;go_roundw
       all_goals first
        |(obtain⟨D',ad,ff⟩:=FF.o;exact⟨i+1,D',ad,by omega,by go_num,ff⟩)
        |(simp[intOf];omega)
     . obtain rfl:i=n:=by omega
       go_wp2;go_ret;have ag:=f.o.q;rw[<-A.o,cJ,df,List.replicate_zero,cU] at ag;have ae:=f.o.m;rw[<-A.o,cJ] at ae;refine⟨b,col,rfl,⟨D,ag,⟨?_,?_,HR.o.1,HR.o.2,?_,λa ha=>by cases ha⟩,ae⟩,f.o.bl,f.o.nw⟩
       . show 1<=(j8 C).length;rw[kw,A.o];exact h1
       . show(j8 C).length<=_;rw[kw,A.o];exact q
       . intro aE hx;obtain⟨c,G,rfl⟩:=bH.1 hx;exact HH.o c G
theorem pW(n:Nat):madeCells #[Value.int .i64 0] n=(vi (List.replicate n 0)).toArray:=by
 unfold madeCells vi;apply Array.ext
 . simp
 . intro i b d;simp[Nat.mod_one]
theorem FZ(w:World)(n:Nat):Ir (w.alloc (.cells (vi (List.replicate n 0)).toArray 3)) (some ⟨w.heap.size,0,none⟩) (List.replicate n 0):=
 .inr ⟨w.heap.size,0,rfl,λi b=>by
   rw[bN,ay _ _ _ _ _ _ (aF w _)];rw[fo];exact pD _ i b⟩
def uE(w w':World)(b:Nat)(P:Po):Prop:=∃col,Pl w' b P col/\Below w.heap.size w w'/\∀k,col k≠0->w.heap.size<=k
theorem Hw(w:World)(n r:Int)(h:js n r=false):Calls prog 71 #[.int .i64 n,.int .i64 r] w λe b=>e=.returned (.tuple #[.pointer none,.int .i64 1])/\b=w:=by
 have C:=iJ (oH w n r);rw[h] at C;clear h;go_enter func71,ntmps71;go_wp2_with fail
 refine C.o.mono ?_;rintro _ f ⟨rfl,d⟩;obtain rfl:=d.symm;go_wp2;go_ret2
 exact⟨rfl,rfl⟩
theorem lF{n:Int}:js n r=true↔(1<=n/\n<=65536)/\2<=r/\r<65536:=by unfold js;simp[and_assoc]
theorem E9(w:World)(n r:Int)(h:js n r=true):Calls prog 71 #[.int .i64 n,.int .i64 r] w λe B=>∃b,e=.returned (.tuple #[.pointer (some ⟨b,0,none⟩),.int .i64 0])/\uE w B b (Po.start r (List.replicate n.toNat 0)):=by
 have C:=iJ (oH w n r);rw[h] at C;obtain⟨⟨v,x⟩,j⟩:=lF.1 h;obtain⟨m,rfl⟩:∃m:Nat,n=(m:Int):=⟨n.toNat,by omega⟩
 have G:=rm m (by omega) w
 rw[pW] at G;have f:=al w (.cells (vi (List.replicate m 0)).toArray 3);have F:=iJ (rW (w.alloc (.cells (vi (List.replicate m 0)).toArray 3)) r (some ⟨w.heap.size,0,none⟩) m (List.replicate m 0) (FZ w m) (by rw[bh];omega) (by rw[bh];omega) j (λc y=>by rw[(List.mem_replicate.1 y).2];omega))
 rw[bh] at F;rw[di];have d:=iJ f;clear h f v x j;go_enter func71,ntmps71;go_wp2_with fail
 refine C.o.mono ?_;rintro _ I ⟨rfl,H⟩;obtain rfl:=H.symm;go_wp2_with fail
 refine F.o.mono ?_;rintro _ E ⟨b,col,rfl,q,l,p⟩;have t:=iJ (show uE w E b (Po.start r (List.replicate m 0)) from⟨col,q,bt d.o l,λk A=>by have:=p k A;have:=d.o.size;omega⟩)
 clear q l p;go_wp2;go_ret2
 exact⟨b,rfl,t.o⟩
def jL(r:Int)(C:List Int):Bool:=C.any λc=>decide (c<0)||decide (r<c)
theorem Fv(w:World)(r:Int)(a:Option Addr)(n cap:Nat)(h:js n r=false):Calls prog 65 #[.int .i64 r,.slice a n cap] w λe b=>e=.returned (.tuple #[.pointer none,.int .i64 1])/\b=w:=by
 have C:=iJ (oH w n r);rw[h] at C;clear h;go_enter func65,ntmps65;go_wp2_with fail
 refine C.o.mono ?_;rintro _ f ⟨rfl,d⟩;obtain rfl:=d.symm;go_wp2;go_ret2
 exact⟨rfl,rfl⟩
theorem BI{C:List Int}:jL r C=false↔∀c∈C,0<=c/\c<=r:=by
 unfold jL;rw[gz];constructor
 . intro h c b;have:=h c b;simp only[fw,bE] at this;omega
 . intro h c b;have:=h c b;simp only[fw,bE];omega
theorem Hx{C:List Int}(h:i<C.length)(hb:C.getD i 0<0\/r<C.getD i 0):jL r C=true:=by
 unfold jL;rw[fT];refine⟨C.getD i 0,by simp[h],?_⟩
 simp only[fw,bE];exact hb
theorem DW(w:World)(r:Int)(a:Option Addr)(n cap:Nat)(C:List Int)(G:Ir w a C)(M:n=C.length)(h:js n r=true):Calls prog 65 #[.int .i64 r,.slice a n cap] w λe N=>
 (jL r C=true/\e=.returned (.tuple #[.pointer none,.int .i64 13])/\N=w)\/(jL r C=false/\∃b,e=.returned (.tuple #[.pointer (some ⟨b,0,none⟩),.int .i64 0])/\uE w N b (Po.start r C)):=by
 have q:=iJ (oH w n r);rw[h] at q;obtain⟨⟨h1,h2⟩,B⟩:=lF.1 h;have d:=iJ M;have v:=iJ G;have S:=iJ B;clear h M G B;go_enter func65,ntmps65;go_wp2_with fail
 refine q.o.mono ?_;rintro _ wq ⟨rfl,Y⟩;obtain rfl:=Y.symm;go_wp2_with fail
 go_loopw [15] (λi wr=>∃k:Nat,k<=n/\i=.int .i64 (k:Int)/\(∀c∈C.take k,0<=c/\c<=r)/\wr=w) (λi _=>n-(intOf i).toNat)
 case atStart=>exact⟨0,az _,rfl,by simp,rfl⟩
 case round=>
  obtain⟨i,hi,rfl,K,Z⟩:=hrel;obtain rfl:=Z.symm;have y:=iJ K;clear K;by_cases X:i<n
  . have m:i<C.length:=by rw[<-d.o];exact X
    obtain⟨b1,o1,rfl,T⟩:=v.o.at m;have f:=iJ (Hx (r:=r) m);have A:=iJ (jO C 0 m);obtain⟨c,J⟩:∃c,C.getD i 0=c:=⟨_,rfl⟩;rw[J] at T f A;have aa:(i:Int)<(n:Int):=by omega
    clear J;by_cases j:c<0
    . have U:decide (c<0)=true:=ax j;go_wp2;go_ret2
      exact .inl ⟨f.o (.inl j),rfl,rfl⟩
    . have U:decide (c<0)=false:=au j;by_cases l:r<c
      . have V:decide (r<c)=true:=ax l;go_wp2;go_ret2
        exact .inl ⟨f.o (.inr l),rfl,rfl⟩
      . have V:decide (r<c)=false:=au l;go_wp2;go_roundw
        case rel=>exact⟨i+1,by omega,by go_num,λx hx=>by
         rw[A.o] at hx;rcases bq.1 hx with hx|hx
         . exact y.o x hx
         . obtain rfl:=aQ.1 hx;omega,by trivial⟩
        case measure=>simp[intOf];omega
  . obtain rfl:i=n:=by omega
    have p:∀c∈C,0<=c/\c<=r:=by have t:=y.o;rwa [d.o,cJ] at t
    have F:=iJ (rW w r a cap C v.o (by rw[<-d.o];omega) (by rw[<-d.o];omega) S.o p)
    rw[<-d.o] at F;have O:=iJ (BI.2 p);clear p;go_wp2_with fail
    refine F.o.mono ?_;rintro _ W ⟨b,col,rfl,I,E,H⟩;have R:=iJ (show uE w W b (Po.start r C) from⟨col,I,E,H⟩)
    clear I E H;go_wp2;go_ret2
    exact .inr ⟨O.o,b,rfl,R.o⟩
def Po.counts(P:Po):List Int:=P.pg.map Prod.fst
def Po.pages(P:Po)(z:Int):List Int:=if 1<=z/\z<=4 then iZ P.pg z.toNat else []
theorem Po.pages_len(h:P.Ok)(z:Int):(P.pages z).length<=65536:=by
 unfold Po.pages;split
 . exact aO (qO _ _) h.l2
 . simp
theorem tJ(w:World)(b:Nat)(P:Po)(col:Nat->Nat)(h:Pl w b P col)(z:Int):Calls prog 49 #[.pointer (some ⟨b,0,none⟩),.int .i64 z] w λe t=>e=.returned (.int .i64 (((P.pages z).length:Nat):Int))/\Below w.heap.size w t:=by
 obtain⟨D,h⟩:=h;have C:=iJ (qJ w z);unfold Po.pages;by_cases d:1<=z/\z<=4
 . rw[if_pos d];rw[ax d.1,ax d.2] at C;obtain⟨s,rfl⟩:∃s:Nat,z=(s:Int):=⟨z.toNat,by omega⟩
   rw[di];have x:=h.q.cin (s:=s) (by omega)
   have l:=mo (h.q.set s (by omega)).can (h.mem s (by omega))
   have j:=iJ (Fc w (D.s s) (D.a s) (D.c s) (D.L s) (h.q.set s (by omega)))
   have q:=qO P.pg s;have:=h.ok.l2;rw[<-uI,l,dq (by unfold mxi;omega)] at j
   clear h l q this;generalize (iZ P.pg s).length=m at *;simp only[Bool.and_self] at C;go_enter func49,ntmps49;go_wp2_with fail
   refine C.o.mono ?_;rintro _ v ⟨rfl,f⟩;obtain rfl:=f.symm;go_wp2_with fail
   refine j.o.mono ?_;rintro _ y ⟨rfl,hb⟩;have p:=iJ hb;clear hb;go_wp2;go_ret;exact⟨rfl,p.o⟩
 . rw[if_neg d]
   have e:(decide (1<=z)&&decide (z<=4))=false:=by
    by_cases a:1<=z
    . rw[au (show ¬z<=4 by omega)];simp
    . rw[au a];simp
   rw[e] at C;clear h d e;go_enter func49,ntmps49;go_wp2_with fail
   refine C.o.mono ?_;rintro _ v ⟨rfl,f⟩;obtain rfl:=f.symm;go_wp2;go_ret;exact⟨rfl,Below.refl _ _⟩
theorem EJ:(prog.info? 191).map (λi=>(i.zero,i.size,i.bytes))=some (some (.agg #[.nilFunc]),1,8):=by kernel_rfl
theorem Ew(w:World)(q:TypeId)(a:Option Addr)(n cap:Nat)(B:List (Nat×Nat×Nat))(x:Gw 191 1 w a cap n (B.map clo))(h:Addr)(c:Nat)(t:Nat×Nat×Nat)(A:w.cell? h=some (clo t))(N:n+1<=17592186044416):
 ∃g f b,(Builtin.append_ #[129,129] q #[.slice a n cap,.slice (some h) 1 c]).run prog w=.ok (.slice (some ⟨g,0,none⟩) (n+1) f) b/\
  Gw 191 1 b (some ⟨g,0,none⟩) f (n+1) ((B++[t]).map clo)/\New w a (some ⟨g,0,none⟩)/\But (InA a) w b:=by
 obtain⟨H,C,I,J,K⟩:=dr EJ;have hb:(n+1)*8<=140737488355328:=by omega
 obtain⟨g,f,b,E,v,l,h3,M⟩:=dW (P:=prog) w 129 q 0 191 H (.agg #[.nilFunc]) 1 8 underlying129 C I J K rfl (by decide) (.slice a n cap) n (B.map clo) x h 1 c [clo t] rfl
  (by intro j u d
      match j,d with
      |0,d=>simp at d;subst d;simpa[Addr.add] using A) (by intro u m;simp at m;subst m;rfl) (by decide) (by unfold maxLen;omega) hb (az _) w.heap.size rfl
 rw[kA] at l h3;refine⟨g,f,b,E,by rw[bP];exact v,?_,But.inA l⟩
 intro y p;simp only[aE] at p;subst p;rcases h3 with h3|h3
 . obtain⟨z,G,e⟩:=map_some h3;exact .inl ⟨z,G,e⟩
 . exact .inr (by show _<=g;omega)
theorem Dr{w:World}{j:Array Oper}{o:Oper}{a:Act}{K:Act->World->Prop}{Q:Exit->Act->World->Prop}{E:Prop}(I:o.guard=none)(s x:Operand)
 (y:o.op=.call {callee:=.builtin .append,args:=#[s,x],argTypes:=#[129,129]}) (b:Option Addr) (n cap:Nat) (B:List (Nat×Nat×Nat)) (C:a.eval s=.slice b n cap) (q:Gw 191 1 w b cap n (B.map clo))
 (f:Addr) (c:Nat) (t:Nat×Nat×Nat) (H:a.eval x=.slice (some f) 1 c) (v:w.cell? f=some (clo t)) (J:n+1<=17592186044416)
 (h:∀g e d,Gw 191 1 d (some ⟨g,0,none⟩) e (n+1) ((B++[t]).map clo)->New w b (some ⟨g,0,none⟩)->But (InA b) w d->K (a.put o.dst (.slice (some ⟨g,0,none⟩) (n+1) e)) d):
 if Region.wanted o (yielded j a.tmps)=true then Oper.wp prog o a w K Q else E:=by
 have G:Region.wanted o (yielded j a.tmps)=true:=by simp[Region.wanted,I]
 rw[if_pos G];obtain⟨g,e,d,A,l,m,p⟩:=Ew w o.type b n cap B q f c t v J;unfold Oper.wp execOp;simp only[y,resolve,invoke,builtin,dE,dF,bT,cR,bL,dM,C,H,A];exact h g e d l m p
theorem rH{α β:Type}(A:List α)(B:List β)(a:α)(b:β)(h:A.length=B.length):(A++[a]).zip (B++[b])=A.zip B++[(a,b)]:=by
 rw[List.zip_append h];rfl
abbrev tin(t:Nat×Nat×Nat)(k:Nat):Prop:=k=t.1\/k=t.2.1\/k=t.2.2
def qk(col:Nat->Nat)(t:Nat×Nat×Nat)(k:Nat):Nat:=if tin t k then 9 else col k
theorem qW{t:Nat×Nat×Nat}(h:tin t k):qk col t k=9:=if_pos h
theorem mM{t:Nat×Nat×Nat}(h:¬tin t k):qk col t k=col k:=if_neg h
theorem Pq.grow{w W w5:World}{b:Nat}{P:Po}{D:Pd}{col:Nat->Nat}(h:Pq w b P D col)(C:Below w.heap.size w W){g A:Nat}{t:Nat×Nat×Nat}{x:Nat×Pg}
 (K:Gw 191 1 w5 (some ⟨g,0,none⟩) A (P.ac.length+1) ((D.B++[t]).map clo)) (J:New W D.aa (some ⟨g,0,none⟩)) (I:But (InA D.aa) W w5) (G:Cl w b t x) (E:∀k,tin t k->col k=0):
 Pq (w5.setCell ⟨b,7,none⟩ (.slice (some ⟨g,0,none⟩) (P.ac.length+1) A)) b {P with ac:=P.ac++[x]} {D with aa:=some ⟨g,0,none⟩,ac:=A,B:=D.B++[t]} (qk (recol col w w5 8) t)/\
  But (λk=>col k≠0) w (w5.setCell ⟨b,7,none⟩ (.slice (some ⟨g,0,none⟩) (P.ac.length+1) A))/\(∀k,k<w.heap.size->¬tin t k->qk (recol col w w5 8) t k=col k):=by
 have v:But (λk=>k=b\/InA D.aa k) w (w5.setCell ⟨b,7,none⟩ (.slice (some ⟨g,0,none⟩) (P.ac.length+1) A)):=((But.ofBelow C).trans I (λk _ f=>.inr f)).setCell (p:=⟨b,7,none⟩) (λ_=>.inl rfl) _
 have ne:∀{k:Nat},col k≠1->col k≠8->¬(k=b\/InA D.aa k):=λH m e=>by
  rcases e with rfl|⟨y,d,rfl⟩
  . exact H h.cb
  . exact m (h.cc y d)
 have tl:∀k,tin t k->k<w.heap.size:=λk f=>by
  rcases f with rfl|rfl|rfl
  . exact block_lt_of_cell G.p
  . exact block_lt_of_cell G.n
  . exact block_lt_of_cell G.c
 have Y:∀{k:Nat},col k≠0->¬tin t k:=λH h2=>H (E _ h2)
 have l:∀{k:Nat},col k≠0->qk (recol col w w5 8) t k=col k:=λf=>(mM (Y f)).trans (jP (h.lt _ f))
 have ab:w5.heap[b]?=some (.cells (kL P D) 131 (0,0)):=((But.ofBelow (S:=InA D.aa) C).trans I (λ_ _ h=>h)).same h.box (λ⟨y,d,e⟩=>by have:=h.cc y d;rw[e,h.cb] at this;cases this)
 have U:g≠b:=λe=>by
  have:=J ⟨g,0,none⟩ rfl;rcases this with⟨y,d,e2⟩|h2
  . have m:=h.cc y d;rw[e2] at m;have:col g=8:=m;rw[e,h.cb] at this;cases this
  . have h2:W.heap.size<=g:=h2;have:=h.lb;have:=C.size;omega
 have N:But (λk=>k=b) w5 (w5.setCell ⟨b,7,none⟩ (.slice (some ⟨g,0,none⟩) (P.ac.length+1) A)):=(But.refl (λk=>k=b) w5).setCell (p:=⟨b,7,none⟩) (λ_=>rfl) _
 refine⟨⟨?_,v.same h.pgs (ne (by rw[h.cg];decide) (by rw[h.cg];decide)),λs j=>(h.set s j).but v (ne (by rw[h.cs s j];omega) (by rw[h.cs s j];omega)) (λy d=>ne (by rw[h.ca s j y d];omega) (by rw[h.ca s j y d];omega)),?_,?_,?_,(l (by rw[h.cb];decide)).trans h.cb,(l (by rw[h.cg];decide)).trans h.cg,λs j=>(l (by rw[h.cs s j];omega)).trans (h.cs s j),λs j y d=>(l (by rw[h.ca s j y d];omega)).trans (h.ca s j y d),?_,?_,?_⟩,?_,?_⟩
 . rw[aY _ _ _ _ _ _ ab];show some (Obj.cells _ _ _)=some (Obj.cells (kL _ _) _ _);unfold kL;simp
 . rw[ae];exact K.but N (λy d e=>by cases d;exact U e)
 . rw[ae,ae,h.acl];rfl
 . intro q hq;rw[rH _ _ _ _ h.acl] at hq;rcases bq.1 hq with hq|hq
   . obtain⟨c1,c2,c3⟩:=h.cB _ (kR hq).1;exact(h.acb q hq).but v (ne (by rw[c1];decide) (by rw[c1];decide)) (ne (by rw[c2];decide) (by rw[c2];decide)) (ne (by rw[c3];decide) (by rw[c3];decide))
   . obtain rfl:=aQ.1 hq;have O:=E t.1 (.inl rfl);have R:=E t.2.1 (.inr (.inl rfl));have T:=E t.2.2 (.inr (.inr rfl));exact G.but v (ne (by rw[O];decide) (by rw[O];decide)) (ne (by rw[R];decide) (by rw[R];decide)) (ne (by rw[T];decide) (by rw[T];decide))
 . rintro y d;simp only[aE] at d;subst d;show qk (recol col w w5 8) t g=8;rcases J ⟨g,0,none⟩ rfl with⟨y,d,e2⟩|h2
   . have m:col g=8:=by rw[<-(show y.block=g from e2)];exact h.cc y d
     exact(l (by rw[m];decide)).trans m
   . have h2:W.heap.size<=g:=h2;have M:=C.size;have V:g<w5.heap.size:=K.lt rfl;rw[mM (λf=>by have:=tl _ f;omega)]
     exact kW (by omega) V
 . intro u hu;rcases bq.1 hu with hu|hu
   . obtain⟨c1,c2,c3⟩:=h.cB u hu;exact⟨(l (by rw[c1];decide)).trans c1,(l (by rw[c2];decide)).trans c2,(l (by rw[c3];decide)).trans c3⟩
   . obtain rfl:=aQ.1 hu;exact⟨qW (.inl rfl),qW (.inr (.inl rfl)),qW (.inr (.inr rfl))⟩
 . intro k f;have M:=v.size;by_cases e:tin t k
   . exact be (tl k e) M
   . rw[mM e] at f;have Z:w.heap.size<=w5.heap.size:=aO C.size I.size;exact be (oY Z f) N.size
 . exact v.mono λk _ f=>by
    rcases f with rfl|⟨y,d,rfl⟩
    . rw[h.cb];decide
    . rw[h.cc y d];decide
 . intro k f X;rw[mM X];exact jP f
theorem tf(w:World)(b:Nat)(P:Po)(col:Nat->Nat)(h:Pl w b P col)(n:Nat)(h1:1<=n)(h2:n<=P.pg.length)(c:Int)(hc:0<=c/\c<=P.rf)(hm:P.ac.length+1<=17592186044416):
 Calls prog 147 #[.pointer (some ⟨b,0,none⟩),.int .i64 ((n:Nat):Int),.int .i64 c] w λe w'=>e=.returned (.tuple #[])/\∃col',Pl w' b (P.act n c) col'/\Fr w col w' col':=by
 obtain⟨D,h⟩:=h;obtain⟨i,rfl⟩:∃i:Nat,n=i+1:=⟨n-1,by omega⟩
 have hi:i<P.pg.length:=by omega
 have av:=h.ok.l2;obtain⟨d,N⟩:∃d,(w.alloc (.cells #[.pointer (some ⟨b,0,none⟩)] 80)).alloc (.cells #[.int .i64 ((i:Int)+1)] 3)=d:=⟨_,rfl⟩;have b1:Below w.heap.size w d:=by rw[<-N];exact bt (al _ _) (al _ _)
 have aJ:d.heap.size=w.heap.size+1+1:=by rw[<-N,size_alloc,size_alloc]
 have C:d.cell? ⟨w.heap.size,0,none⟩=some (.pointer (some ⟨b,0,none⟩)):=by
  rw[<-N];exact((al _ _).cell (p:=⟨w.heap.size,0,none⟩) (by rw[size_alloc];show w.heap.size<_;omega)).trans (jd w _ _)
 have B:d.cell? ⟨w.heap.size+1,0,none⟩=some (.int .i64 ((i:Int)+1)):=by
  rw[<-N];have:=jd (w.alloc (.cells #[.pointer (some ⟨b,0,none⟩)] 80)) (.int .i64 ((i:Int)+1)) 3;rwa [size_alloc] at this
 have q1:=h.q.keep b1;have c1:=q1.c1;obtain⟨V,X⟩:=q1.pgAt hi;have s1:IntKind.i64.wrap (i:Int)=(i:Int):=iT (by omega) (by omega)
 have s2:wrap64 (i:Int)=(i:Int):=by unfold wrap64;omega
 have aM:(i:Int)<(P.pg.length:Int):=by omega
 have R:=iJ h;have HC:=iJ hc;have aK:=iJ av;have B1:=iJ b1;have aB:d.drew.cell? ⟨b,1,none⟩=_:=c1;have ag:d.drew.cell? ⟨D.g,i*2,none⟩=_:=V;have ah:d.drew.cell? ⟨D.g,i*2+1,none⟩=_:=X;have aI:d.drew.cell? ⟨w.heap.size,0,none⟩=_:=C;have aH:d.drew.cell? ⟨w.heap.size+1,0,none⟩=_:=B;have U:=al d (.cells #[.int .i64 0,.bool false] 133);have qA:=q1.keep U;have e1:=qA.c1;obtain⟨f,Y⟩:=qA.pgAt hi;have e4:(d.alloc (.cells #[.int .i64 0,.bool false] 133)).cell? ⟨w.heap.size,0,none⟩=_:=(U.cell (p:=⟨w.heap.size,0,none⟩) (block_lt_of_cell C)).trans C;have e5:(d.alloc (.cells #[.int .i64 0,.bool false] 133)).cell? ⟨w.heap.size+1,0,none⟩=_:=(U.cell (p:=⟨w.heap.size+1,0,none⟩) (block_lt_of_cell B)).trans B;have aC:(d.alloc (.cells #[.int .i64 0,.bool false] 133)).drew.cell? ⟨b,1,none⟩=_:=e1;have aj:(d.alloc (.cells #[.int .i64 0,.bool false] 133)).drew.cell? ⟨D.g,i*2,none⟩=_:=f;have ak:(d.alloc (.cells #[.int .i64 0,.bool false] 133)).drew.cell? ⟨D.g,i*2+1,none⟩=_:=Y;have aD:(d.alloc (.cells #[.int .i64 0,.bool false] 133)).drew.cell? ⟨w.heap.size,0,none⟩=_:=e4;have aE:(d.alloc (.cells #[.int .i64 0,.bool false] 133)).drew.cell? ⟨w.heap.size+1,0,none⟩=_:=e5;obtain⟨ad,hx⟩:∃ad,P.pg.getD i Pg.zero=ad:=⟨_,rfl⟩;have aA:=iJ hx;rw[hx] at V X ag ah f Y aj ak;obtain⟨I,j⟩:=ad;simp only at V X ag ah f Y aj ak;clear h hc av b1 q1 hx qA U;have an:=iJ N;clear N;go_enter func147,ntmps147;go_wp2;rw[an.o];go_region
 clear e1 f Y e4 e5 aC aj ak aD aE c1 aB V X ag ah aI aH;have X3:=iX d I j;have a3:=al d (.cells #[.int .i64 I,.bool j] 133);have v:Below d.heap.size d (d.alloc (.cells #[.int .i64 I,.bool j] 133)).drew:=bt a3 (drw _);have J:=tS X3 (drw _);rw[aJ] at J;obtain⟨q,aq⟩:∃q,(d.alloc (.cells #[.int .i64 I,.bool j] 133)).drew=q:=⟨_,rfl⟩;rw[aq] at J v ⊢;have ap:Cl q b (w.heap.size,w.heap.size+1,w.heap.size+1+1) (i+1,(I,j)):=⟨(v.cell (p:=⟨w.heap.size,0,none⟩) (block_lt_of_cell C)).trans C,by rw[show(((i+1,(I,j)):Nat×Pg).1:Int)=(i:Int)+1 by simp];exact(v.cell (p:=⟨w.heap.size+1,0,none⟩) (block_lt_of_cell B)).trans B,J.1,J.2⟩
 have k0:=J.1;have k1:=J.2;have k2:=(v.cell (p:=⟨w.heap.size,0,none⟩) (block_lt_of_cell C)).trans C;have k3:=(v.cell (p:=⟨w.heap.size+1,0,none⟩) (block_lt_of_cell B)).trans B;have B3:=iJ (bt B1.o v);have M3:Pm q b P col D:=⟨R.o.q.keep B3.o,R.o.ok,R.o.mem⟩;have ae:=iJ (xF q b P D col M3 (i+1) h1 h2 (c,j) HC.o);rw[show(((i+1:Nat)):Int)=(i:Int)+1 by omega] at ae
 have am:=iJ ap;clear ap X3 a3 v J aq M3 C B an;go_wp2_with fail
 refine ae.o.mono ?_;rintro _ H ⟨rfl,ab,⟨K,l⟩,A⟩
 have G:∀k,tin (w.heap.size,w.heap.size+1,w.heap.size+1+1) k->col k=0/\w.heap.size<=k/\k<q.heap.size:=λk M=>by
  have s3:=block_lt_of_cell k0;have s3:w.heap.size+1+1<q.heap.size:=s3
  have g:w.heap.size<=k/\k<q.heap.size:=by
   rcases M with rfl|rfl|rfl
   . exact⟨ai _,by show w.heap.size<_;omega⟩
   . exact⟨by show _<=w.heap.size+1;omega,by show w.heap.size+1<_;omega⟩
   . exact⟨by show _<=w.heap.size+1+1;omega,s3⟩
  refine⟨?_,g⟩;by_cases hz:col k=0
  . exact hz
  . have:=R.o.q.lt k hz;omega
 have ax:∀k,tin (w.heap.size,w.heap.size+1,w.heap.size+1+1) k->ab k=0:=λk M=>(A.c k (G k M).2.2).trans (G k M).1
 have af:=am.o.but A.b (λh=>h (G _ (.inl rfl)).1) (λh=>h (G _ (.inr (.inl rfl))).1) (λh=>h (G _ (.inr (.inr rfl))).1)
 have ay:=iJ af;have H4:=iJ l;have F4:=iJ A;have TZ:=iJ G;have ao:=iJ ax;have m0:=af.p;clear af G ax k0 k1 k2 k3 am ae;simp only at m0;have c7:=l.q.c7;have f7:=l.q.free 7;obtain⟨t,ht⟩:∃t,(w.heap.size,w.heap.size+1,w.heap.size+1+1)=t:=⟨_,rfl⟩;have aw:=al H (.cells #[.func (.func 167) #[] #[.pointer (some ⟨w.heap.size,0,none⟩),.pointer (some ⟨w.heap.size+1,0,none⟩),.pointer (some ⟨w.heap.size+1+1,0,none⟩)]] 191);have nw:=jd H (.func (.func 167) #[] #[.pointer (some ⟨w.heap.size,0,none⟩),.pointer (some ⟨w.heap.size+1,0,none⟩),.pointer (some ⟨w.heap.size+1+1,0,none⟩)]) 191;obtain⟨m,ar⟩:∃m,m=H.alloc (.cells #[.func (.func 167) #[] #[.pointer (some ⟨w.heap.size,0,none⟩),.pointer (some ⟨w.heap.size+1,0,none⟩),.pointer (some ⟨w.heap.size+1+1,0,none⟩)]] 191):=⟨_,rfl⟩;rw[<-ar] at aw nw;have B5:=iJ (bt aw (drw _));have q5:=l.q.keep B5.o;have G5:=iJ q5.acr;have m5:m.drew.cell? ⟨w.heap.size,0,none⟩=some (.pointer (some ⟨b,0,none⟩)):=(B5.o.cell (p:=⟨w.heap.size,0,none⟩) (block_lt_of_cell m0)).trans m0;have aO:m.cell? ⟨w.heap.size,0,none⟩=some (.pointer (some ⟨b,0,none⟩)):=m5;have aa:=q5.c7;have aP:m.cell? ⟨b,7,none⟩=_:=aa;have aF:=q5.free 7;have aN:H.drew.cell? ⟨w.heap.size,0,none⟩=some (.pointer (some ⟨b,0,none⟩)):=m0;have aL:H.drew.cell? ⟨b,7,none⟩=_:=c7;have NW:=iJ (show m.drew.cell? ⟨H.heap.size,0,none⟩=some (clo t) by rw[<-ht];exact nw)
 have eP:P.act (i+1) c={P.put (i+1) (c,j) with ac:=(P.put (i+1) (c,j)).ac++[(i+1,(I,j))]}:=by
  unfold Po.act Po.put Po.at;rw[show i+1-1=i from rfl,aA.o]
 have az:=iJ (show ∀(g O:Nat)(w5:World),Gw 191 1 w5 (some ⟨g,0,none⟩) O (P.ac.length+1) ((K.B++[t]).map clo)->New m.drew K.aa (some ⟨g,0,none⟩)->But (InA K.aa) m.drew w5->
  ∃col',Pl (w5.setCell ⟨b,7,none⟩ (.slice (some ⟨g,0,none⟩) (P.ac.length+1) O)) b (P.act (i+1) c) col'/\Fr w col (w5.setCell ⟨b,7,none⟩ (.slice (some ⟨g,0,none⟩) (P.ac.length+1) O)) col' from λg O w5 x Z E=>by
  obtain⟨g1,g2,g3⟩:=l.q.grow (W:=m.drew) (w5:=w5) B5.o x Z E (by rw[<-ht];exact ay.o) (by rw[<-ht];exact ao.o)
  have ok:=R.o.ok.act h1 h2 HC.o;rw[eP] at ok ⊢;have v:=B3.o.size;refine⟨_,⟨_,g1,ok,l.mem⟩,⟨((But.ofBelow (S:=λk=>col k≠0) B3.o).trans A.b (λ_ _ h=>h)).trans g2 (λk M h=>by rw[A.c k (by omega)] at h;exact h),λk M=>?_⟩⟩
  have s4:=A.b.size;rw[g3 k (by omega) (λau=>by rw[<-ht] at au;have:=(TZ.o k au).2.1;omega)]
  exact A.c k (by omega))
 have CB:=iJ l.q.cb;have CC:=iJ l.q.cc;have LB:=iJ l.q.lb;clear l A aw nw q5;subst ar;rw[show(P.put (i+1) (c,j)).ac.length=P.ac.length from rfl] at*
 clear eP;generalize aG:P.ac.length=nn at *;clear aG;go_wp2_with fail
 go_region_law
  (refine Dr rfl _ _ rfl K.aa nn K.ac K.B (by first|(simp[Act.eval];done)|simp[Act.eval,Act.put]) G5.o ⟨H.heap.size,0,none⟩ 1 t (by first|(simp[Act.eval];done)|simp[Act.eval,Act.put]) NW.o hm ?_
   intro g O w5 x Z E;have cS:w5.cell? ⟨b,7,none⟩=_:=(E.cell (p:=⟨b,7,none⟩) (block_lt_of_cell aa) (λ⟨y,T,e⟩=>by have:=CC.o y T;rw[e] at this;have f:ab b=8:=this;rw[CB.o] at f;cases f)).trans aa
   have fS:w5.frozen? ⟨b,7,none⟩=false:=(E.frozen (p:=⟨b,7,none⟩) (block_lt_of_cell aa) (λ⟨y,T,e⟩=>by have:=CC.o y T;rw[e] at this;have f:ab b=8:=this;rw[CB.o] at f;cases f)).trans aF
   have mS:w5.cell? ⟨w.heap.size,0,none⟩=_:=(E.cell (p:=⟨w.heap.size,0,none⟩) (block_lt_of_cell m5) (λ⟨y,T,e⟩=>by have:=CC.o y T;rw[e] at this;have f:ab w.heap.size=8:=this;rw[ao.o _ (.inl rfl)] at f;cases f)).trans m5
   have FF:=iJ (az.o g O w5 x Z E);clear x Z E)
 all_goals
  go_end0
  exact⟨rfl,FF.o⟩
def Po.alloc(P:Po):(Int×Int)×Po:=match iZ P.pg 1 with
 | []=>((0,12),P)
 |n::_=>((n,0),P.act n.toNat 1)
def Po.inc(P:Po)(z:Int):Int×Po:=if P.count z=0 then (15,P) else if P.count z=P.rf then (13,P) else (0,P.act z.toNat (P.count z+1))
def Po.dec(P:Po)(z:Int):(Int×Int)×Po:=if P.count z=0 then ((0,15),P) else ((P.count z-1,0),P.act z.toNat (P.count z-1))
theorem Po.count_has{z:Int}(h:P.count z≠0):1<=z/\z<=P.pg.length:=by
 unfold Po.count at h;split at h
 . exact Po.has_iff.1 (by assumption)
 . exact absurd rfl h
theorem Po.Ok.count(h:P.Ok)(z:Int):0<=P.count z/\P.count z<=P.rf:=by
 unfold Po.count;split
 . rename_i b;have:=Po.has_iff.1 b;exact h.cs _ (kB (by omega))
 . have:=h.r1;omega
theorem AN(w:World)(b:Nat)(P:Po)(col:Nat->Nat)(h:Pl w b P col)(G:P.ac.length+1<=17592186044416):
 Calls prog 130 #[.pointer (some ⟨b,0,none⟩)] w λe y=>e=.returned (.tuple #[.int .i64 P.alloc.1.1,.int .i64 P.alloc.1.2])/\∃col',Pl y b P.alloc.2 col'/\Fr w col y col':=by
 have p:=iJ h;obtain⟨D,h⟩:=h;have c1:=h.q.cin (s:=1) (by decide)
 have d:=iJ (yL w (D.s 1) (D.a 1) (D.c 1) (D.L 1) (h.q.set 1 (by decide)))
 have j:=mo (h.q.set 1 (by decide)).can (h.mem 1 (by decide))
 have m:=(h.q.set 1 (by decide)).can.1
 change w.cell? ⟨b,3,none⟩=_ at c1;by_cases f:D.L 1=[]
 . have e:P.alloc=((0,12),P):=by
    unfold Po.alloc;rw[<-j,f];rfl
   rw[e];rw[f] at d;simp only[List.isEmpty_nil,Bool.not_true] at d;clear h j m f e;go_enter func130,ntmps130;go_wp2_with fail
   refine d.o.mono ?_;rintro _ _ ⟨rfl,rfl⟩;go_wp2;go_ret2
   exact⟨rfl,col,p.o,Fr.refl _ _⟩
 . have l:=CW m f
   have e:P.alloc=((low (D.L 1),0),P.act (low (D.L 1)).toNat 1):=by
    unfold Po.alloc;rw[<-j,l]
   have H:=kd.1 ((jF P.pg 1 (low (D.L 1))).1 (by rw[<-j,l];simp))
   have A:(D.L 1).isEmpty=false:=by cases hL:D.L 1 with
    |nil=>exact absurd hL f
    |cons=>rfl
   rw[e];rw[A] at d;obtain⟨q,t,E⟩:=H;obtain⟨n,x⟩:∃n:Nat,low (D.L 1)=(n:Int):=⟨(low (D.L 1)).toNat,by omega⟩
   rw[x] at q t d ⊢;have B:=iJ (tf w b P col p.o n (by omega) (by omega) 1 ⟨by decide,by have:=h.ok.r1;omega⟩ G)
   rw[di];simp only[Bool.not_false] at d;clear h j m f e l A x q t E;go_enter func130,ntmps130;go_wp2_with fail
   refine d.o.mono ?_;rintro _ _ ⟨rfl,rfl⟩;go_wp2_with fail
   refine B.o.mono ?_;rintro _ I ⟨rfl,v⟩;have C:=iJ v;clear v;go_wp2;go_ret2
   exact⟨rfl,C.o⟩
theorem ye(w:World)(b:Nat)(P:Po)(col:Nat->Nat)(h:Pl w b P col)(z:Int)(v:P.ac.length+1<=17592186044416):
 Calls prog 108 #[.pointer (some ⟨b,0,none⟩),.int .i64 z] w λe l=>e=.returned (.int .i64 (P.inc z).1)/\∃col',Pl l b (P.inc z).2 col'/\Fr w col l col':=by
 have m:=iJ h;obtain⟨D,h⟩:=h;have j:=iJ (qi w b P D col h.q h.ok.l2 z);have c0:=h.q.c0;have p:=h.ok.count z;have q:=h.ok.r2;unfold Po.inc;by_cases d:P.count z=0
 . rw[if_pos d];rw[d] at j;clear h d p q;go_enter func108,ntmps108;go_wp2_with fail
   refine j.o.mono ?_;rintro _ _ ⟨rfl,rfl⟩;go_wp2;go_ret;exact⟨rfl,col,m.o,Fr.refl _ _⟩
 . rw[if_neg d];have A:(P.count z==0)=false:=by simp[d]
   by_cases f:P.count z=P.rf
   . rw[if_pos f];have B:(P.rf==P.rf)=true:=by simp
     rw[f] at j A;generalize P.rf=r at *;clear h d f p q;go_enter func108,ntmps108;go_wp2_with fail
     refine j.o.mono ?_;rintro _ _ ⟨rfl,rfl⟩;go_wp2;go_ret;exact⟨rfl,col,m.o,Fr.refl _ _⟩
   . rw[if_neg f];have B:(P.count z==P.rf)=false:=by simp[f]
     obtain⟨C,E⟩:=Po.count_has d;obtain⟨n,rfl⟩:∃n:Nat,z=(n:Int):=⟨z.toNat,by omega⟩
     have x:=iJ (tf w b P col m.o n (by omega) (by omega) (P.count n+1) ⟨by omega,by omega⟩ v)
     rw[di];have G:IntKind.i64.wrap (P.count n+1)=P.count n+1:=iT (by omega) (by omega)
     have H:wrap64 (P.count n+1)=P.count n+1:=by unfold wrap64;omega
     clear h d f p q C E v;show Calls _ _ _ _ λe l=>e=.returned (.int .i64 0)/\∃col',Pl l b (P.act n (P.count n+1)) col'/\Fr w col l col'
     generalize P.count (n:Int)=k at *;go_enter func108,ntmps108;go_wp2_with fail
     refine j.o.mono ?_;rintro _ _ ⟨rfl,rfl⟩;go_wp2_with fail
     refine x.o.mono ?_;rintro _ I ⟨rfl,t⟩;have y:=iJ t;clear t;go_wp2;go_ret;exact⟨rfl,y.o⟩
theorem FJ(w:World)(b:Nat)(P:Po)(col:Nat->Nat)(h:Pl w b P col)(z:Int)(q:P.ac.length+1<=17592186044416):
 Calls prog 165 #[.pointer (some ⟨b,0,none⟩),.int .i64 z] w λe f=>e=.returned (.tuple #[.int .i64 (P.dec z).1.1,.int .i64 (P.dec z).1.2])/\∃col',Pl f b (P.dec z).2 col'/\Fr w col f col':=by
 have l:=iJ h;obtain⟨D,h⟩:=h;have j:=iJ (qi w b P D col h.q h.ok.l2 z);have p:=h.ok.count z;have t:=h.ok.r2;unfold Po.dec;by_cases d:P.count z=0
 . rw[if_pos d];rw[d] at j;clear h d p t;go_enter func165,ntmps165;go_wp2_with fail
   refine j.o.mono ?_;rintro _ _ ⟨rfl,rfl⟩;go_wp2;go_ret2
   exact⟨rfl,col,l.o,Fr.refl _ _⟩
 . rw[if_neg d];have B:(P.count z==0)=false:=by simp[d]
   obtain⟨y,A⟩:=Po.count_has d;obtain⟨n,rfl⟩:∃n:Nat,z=(n:Int):=⟨z.toNat,by omega⟩
   have v:=iJ (tf w b P col l.o n (by omega) (by omega) (P.count n-1) ⟨by omega,by omega⟩ q)
   rw[di];have C:IntKind.i64.wrap (P.count n-1)=P.count n-1:=iT (by omega) (by omega)
   have E:wrap64 (P.count n-1)=P.count n-1:=by unfold wrap64;omega
   clear h d p t y A q;show Calls _ _ _ _ λe f=>e=.returned (.tuple #[.int .i64 (P.count n-1),.int .i64 0])/\∃col',Pl f b (P.act n (P.count n-1)) col'/\Fr w col f col'
   generalize P.count (n:Int)=k at *;go_enter func165,ntmps165;go_wp2_with fail
   refine j.o.mono ?_;rintro _ _ ⟨rfl,rfl⟩;go_wp2_with fail
   refine v.o.mono ?_;rintro _ G ⟨rfl,m⟩;have x:=iJ m;clear m;go_wp2;go_ret2
   exact⟨rfl,x.o⟩
theorem Bt(w:World)(b:Nat)(P:Po)(D:Pd)(col:Nat->Nat)(h:Pm w b P col D)(t:Nat×Nat×Nat)(x:Nat×Pg)(v:Cl w b t x)(d:(1<=x.1/\x.1<=P.pg.length)/\0<=x.2.1/\x.2.1<=P.rf):
 Calls prog 167 #[.pointer (some ⟨t.1,0,none⟩),.pointer (some ⟨t.2.1,0,none⟩),.pointer (some ⟨t.2.2,0,none⟩)] w λe j=>e=.returned (.tuple #[])/\∃col',Pl j b (P.put x.1 x.2) col'/\Fr w col j col':=by
 have q:=iJ (xF w b P D col h x.1 d.1.1 d.1.2 x.2 d.2);obtain⟨p,n,c,l⟩:=v;obtain⟨y,A,B⟩:=t;obtain⟨k,E,G⟩:=x;simp only at *;clear h d;go_enter func167,ntmps167;go_wp2_with fail
 refine q.o.mono ?_;rintro _ C ⟨rfl,f⟩;have m:=iJ f;clear f;go_wp2;go_end0
 exact⟨rfl,m.o⟩
theorem Pq.drop{w:World}{b:Nat}(h:Pq w b P D col){A:List (Nat×Pg)}{x:Nat×Pg}(e:P.ac=A++[x]):
 ∃g,D.aa=some ⟨g,0,none⟩/\(∃v,w.cell? ⟨g,A.length,none⟩=some v)/\w.frozen? ⟨g,A.length,none⟩=false/\g≠b/\A.length<D.ac/\D.ac<=maxLen/\
  Pq ((w.setCell ⟨g,A.length,none⟩ .nilFunc).setCell ⟨b,7,none⟩ (.slice (some ⟨g,0,none⟩) A.length D.ac)) b {P with ac:=A} {D with B:=D.B.dropLast} col/\
  But (λk=>col k≠0) w ((w.setCell ⟨g,A.length,none⟩ .nilFunc).setCell ⟨b,7,none⟩ (.slice (some ⟨g,0,none⟩) A.length D.ac)):=by
 have I:P.ac.length=A.length+1:=by rw[e,ae];rfl
 have K:=h.acr;rw[I] at K;rcases K.cases with⟨_,_,E,_⟩|⟨g,cur,ha,hg,h1,h2,h3,h4⟩
 . omega
 have c8:col g=8:=h.cc ⟨g,0,none⟩ ha;have G:g≠b:=λe=>by rw[e,h.cb] at c8;cases c8
 have W:A.length<cur.size:=by omega
 obtain⟨l,u,d⟩:∃l u,D.B=l++[u]:=by
  rcases iv D.B with E|⟨l,u,E⟩
  . have:=h.acl;rw[E,I] at this;simp at this
  . exact⟨l,u,by rw[E,ix]⟩
 have j:l.length=A.length:=by have:=h.acl;rw[d,I,ae] at this;simpa using this
 have m:But (λk=>k=g\/k=b) w ((w.setCell ⟨g,A.length,none⟩ .nilFunc).setCell ⟨b,7,none⟩ (.slice (some ⟨g,0,none⟩) A.length D.ac)):=((But.refl (λk=>k=g\/k=b) w).setCell (p:=⟨g,A.length,none⟩) (λ_=>.inl rfl) _).setCell (p:=⟨b,7,none⟩) (λ_=>.inr rfl) _
 have ne:∀{k:Nat},col k≠8->col k≠1->¬(k=g\/k=b):=λS R e=>by
  rcases e with rfl|rfl
  . exact S c8
  . exact R h.cb
 have T:(w.setCell ⟨g,A.length,none⟩ .nilFunc).heap[b]?=some (.cells (kL P D) 131 (0,0)):=(Below.heap_setCell _ _ _ _ (λe=>G e.symm)).trans h.box
 refine⟨g,ha,⟨cur[A.length],?_⟩,by simp[World.frozen?,hg],G,by omega,h2,⟨?_,m.same h.pgs (ne (by rw[h.cg];decide) (by rw[h.cg];decide)),λs C=>(h.set s C).but m (ne (by rw[h.cs s C];omega) (by rw[h.cs s C];omega)) (λy N=>ne (by rw[h.ca s C y N];omega) (by rw[h.ca s C y N];omega)),?_,?_,?_,h.cb,h.cg,h.cs,h.ca,h.cc,λt M=>h.cB t (by rw[d,gM] at M;rw[d];exact gN _ M),λk H=>be (h.lt k H) m.size⟩,m.mono λk _ H=>?_⟩
 . rw[ay _ _ _ _ _ _ hg];exact Array.getElem?_eq_getElem W
 . rw[aY _ _ _ _ _ _ T];show some (Obj.cells _ _ _)=some (Obj.cells (kL _ _) _ _);unfold kL;rw[<-ha];simp
 . show Gw 191 1 _ D.aa D.ac A.length (D.B.dropLast.map clo);rw[ha];have U:=aY w g A.length cur 191 .nilFunc hg;have V:((w.setCell ⟨g,A.length,none⟩ .nilFunc).setCell ⟨b,7,none⟩ (.slice (some ⟨g,0,none⟩) A.length D.ac)).heap[g]?=_:=(Below.heap_setCell _ _ _ _ G).trans U;refine Gw.mk (by rw[d];simp[j]) V (by omega) h2 (by simpa using h3) ?_
   rw[ew,ee,fY]
   have:(cur.toList.take A.length)=D.B.dropLast.map clo:=by
    rw[d,gM];rw[d,bP,ee] at h4;have:=a7 (List.take A.length) h4;rw[fG,dq (by omega),d9 (by rw[aZ,j];exact ai _),<-j,<-aZ (f:=clo),cJ] at this
    rw[<-j,<-aZ (f:=clo)];exact this
   rw[this];exact List.set_eq_of_length_le (by rw[d];simp[j])
 . rw[d,gM];exact j
 . intro q J
   have O:q∈D.B.zip P.ac:=by
    rw[d,gM] at J;rw[d,e,rH _ _ _ _ j];exact gN _ J
   obtain⟨c1,c2,c3⟩:=h.cB _ (kR O).1;exact(h.acb q O).but m (ne (by rw[c1];decide) (by rw[c1];decide)) (ne (by rw[c2];decide) (by rw[c2];decide)) (ne (by rw[c3];decide) (by rw[c3];decide))
 . rcases H with rfl|rfl
   . rw[c8];decide
   . rw[h.cb];decide
theorem Pq.last{w:World}{b:Nat}(h:Pq w b P D col){A:List (Nat×Pg)}{x:Nat×Pg}(e:P.ac=A++[x]):
 ∃g t,D.aa=some ⟨g,0,none⟩/\w.cell? ⟨g,A.length,none⟩=some (clo t)/\Cl w b t x:=by
 have p:P.ac.length=A.length+1:=by rw[e,ae];rfl
 have j:=h.acr;rw[p] at j
 obtain⟨d,u,m⟩:∃d u,D.B=d++[u]:=by
  rcases iv D.B with l|⟨d,u,l⟩
  . have:=h.acl;rw[l,p] at this;simp at this
  . exact⟨d,u,by rw[l,ix]⟩
 have v:d.length=A.length:=by have:=h.acl;rw[m,p,ae] at this;simpa using this
 obtain⟨g,q⟩:=j.addr (by omega)
 rw[q] at j;refine⟨g,u,q,j.cell ?_,h.acb (u,x) ?_⟩
 . rw[m,bP,<-v,<-aZ (f:=clo),bg (ai _),df];rfl
 . rw[m,e,rH _ _ _ _ v];simp
def Po.canUndo(P:Po)(m:Int):Bool:=decide ((P.fl:Int)<=m)&&decide (m<=(P.mark:Int))
def Po.undo(P:Po)(m:Int):Po:=if P.canUndo m then Po.back ((P.mark:Int)-m).toNat P else P
def mt(b:Nat)(w:World):Nat:=match w.cell? ⟨b,7,none⟩ with
 |some (.slice _ n _)=>n
 |_=>0
theorem Pl.acts{w:World}{b:Nat}(h:Pl w b P col):mt b w=P.ac.length:=by
 obtain⟨D,h⟩:=h;unfold mt;rw[h.q.c7]
theorem Bu(w:World)(b:Nat)(P:Po)(col:Nat->Nat)(h:Pl w b P col)(m:Int)(C:P.mark<=9223372036854775807):
 Calls prog 164 #[.pointer (some ⟨b,0,none⟩),.int .i64 m] w λe p=>e=.returned (.bool (P.canUndo m))/\∃col',Pl p b (P.undo m) col'/\Fr w col p col':=by
 have G:=iJ h;have c8:w.cell? ⟨b,8,none⟩=some (.int .i64 ((P.fl:Nat):Int)):=by obtain⟨D,h⟩:=h;exact h.q.c8
 have t:=iJ (show ∀(W:World)(d:Po)(c':Nat->Nat),Pl W b d c'->d.mark<=9223372036854775807->Calls prog 142 #[.pointer (some ⟨b,0,none⟩)] W λe p=>e=.returned (.int .i64 ((d.mark:Nat):Int))/\Below W.heap.size W p from λW d c' h C=>by
  obtain⟨D,h⟩:=h;exact qT W b d D c' h.q C)
 have Y:=iJ C;clear h;unfold Po.undo Po.canUndo;by_cases h1:(P.fl:Int)<=m
 . have v:decide ((P.fl:Int)<=m)=true:=ax h1;have an:decide (m<(P.fl:Int))=false:=au (by omega)
   by_cases f:m<=(P.mark:Int)
   . have I:decide (m<=(P.mark:Int))=true:=ax f;have ao:decide ((P.mark:Int)<m)=false:=au (by omega)
     rw[v,I];simp only[Bool.and_self,if_true];obtain⟨M,rfl⟩:∃M:Nat,m=(M:Int):=⟨m.toNat,by omega⟩
     obtain⟨J,hJ⟩:∃J:Nat,J=((P.mark:Int)-(M:Int)).toNat:=⟨_,rfl⟩;rw[<-hJ];have Z:=iJ (show P.mark=M+J by omega)
     have O:P.fl<=M:=by omega
     have H:=iJ (t.o w P col G.o Y.o);have n1:decide (M<P.fl)=false:=au (by omega)
     have n2:decide (P.mark<M)=false:=au (by have:=Z.o;omega)
     clear hJ C f v I;have aE:=iJ O;go_enter func164,ntmps164;go_wp2_with fail
     refine H.o.mono ?_;rintro _ w1 ⟨rfl,hb⟩;have E:=iJ hb;clear hb H c8;go_wp2_with fail
     clear h1 an ao n1 n2 O;go_loopw [5] (λ_ wr=>∃j d col',Pl wr b d col'/\Fr w col wr col'/\Po.back j d=Po.back J P/\d.mark=M+j/\d.fl=P.fl/\M+j<=9223372036854775807) (λ_ wr=>mt b wr)
     case atStart=>exact⟨J,P,col,G.o.keep E.o,Fr.keep E.o,rfl,Z.o,rfl,by have:=Z.o;have:=Y.o;omega⟩
     case round=>
      obtain⟨j,d,col',ad,aq,ay,U,O,aJ⟩:=hrel;have X:=iJ (t.o wr d col' ad (by rw[U];exact aJ))
      have aa:=iJ ad;have al:=iJ aq;have ak:=iJ ay;have am:=iJ U;have aB:=iJ O;rw[U] at X;clear ad aq ay U O;go_wp2_with fail
      refine X.o.mono ?_;rintro _ w2 ⟨rfl,hb⟩;have S:=iJ hb;clear hb X;by_cases hj:j=0
      . subst hj;have n3:decide ((M:Int)<((M+0:Nat):Int))=false:=au (by omega)
        go_wp2;go_ret;exact⟨rfl,col',by rw[<-ak.o];exact aa.o.keep S.o,al.o.below S.o⟩
      . have n3:decide ((M:Int)<((M+j:Nat):Int))=true:=ax (by omega)
        obtain⟨A,x,N⟩:∃A x,d.ac=A++[x]:=by
         rcases iv d.ac with h0|⟨A,x,h0⟩
         . have:=am.o;unfold Po.mark at this;rw[h0,aB.o,bj] at this;have:=aE.o;omega
         . exact⟨A,x,by rw[h0,ix]⟩
        have af:d.ac.length=A.length+1:=by rw[N,ae];rfl
        have B:=iJ N;have ar:=aa.o.keep S.o;have L2:=iJ ar.acts;obtain⟨D2,f⟩:=ar;obtain⟨g,aD,ha,ag,hC⟩:=f.q.last N;have AC:=iJ (Bt w2 b d D2 col' f aD x hC (f.ok.acs x (by rw[N];simp)))
        have c7:=f.q.c7;rw[af,ha] at c7;have R:=f.q.acr.capLe;rw[af] at R;have aF:=iJ f.ok;clear f hC af ha N;unfold clo at ag;obtain⟨n,hn⟩:∃n,A.length=n:=⟨_,rfl⟩;have HN:=iJ hn;rw[hn] at c7 R ag;clear hn;have s1:IntKind.i64.wrap (n:Int)=(n:Int):=iT (by omega) (by unfold maxLen at R;omega)
        have s2:wrap64 (n:Int)=(n:Int):=by unfold wrap64;unfold maxLen at R;omega
        go_wp2_with fail
        refine AC.o.mono ?_;rintro _ q ⟨rfl,aL,⟨V,K⟩,f4⟩;obtain⟨l,av,⟨v4,aA⟩,az,ap,aK,aM,ah,aw⟩:=K.q.drop (A:=A) (x:=x) B.o;have ab:=K.q.c7;rw[av,show(d.put x.1 x.2).ac.length=A.length+1 by show d.ac.length=_;rw[B.o,ae];rfl] at ab
        have aH:=K.q.free 7
        have ai:=iJ (show ∃y T aC,Pl ((q.setCell ⟨l,A.length,none⟩ .nilFunc).setCell ⟨b,7,none⟩ (.slice (some ⟨l,0,none⟩) A.length V.ac)) b T aC/\Fr w col ((q.setCell ⟨l,A.length,none⟩ .nilFunc).setCell ⟨b,7,none⟩ (.slice (some ⟨l,0,none⟩) A.length V.ac)) aC/\Po.back y T=Po.back J P/\T.mark=M+y/\T.fl=P.fl/\M+y<=9223372036854775807 by
         obtain⟨xn,xp⟩:=x;have ok:=aF.o.drop B.o;refine⟨j-1,⟨d.rf,d.pg.set (xn-1) xp,A,d.fl⟩,aL,⟨_,ah,ok,K.mem⟩,(al.o.below S.o).trans (f4.trans ⟨aw,λ_ _=>rfl⟩),?_,?_,aB.o,by omega⟩
         . rw[<-ak.o];obtain⟨y,rfl⟩:∃y,j=y+1:=⟨j-1,by omega⟩
           exact(Po.back_succ B.o y).symm
         . have:=am.o;unfold Po.mark at this ⊢;rw[B.o,ae] at this;simp only[bf,bj] at this ⊢;omega)
        have aj:=iJ (show mt b ((q.setCell ⟨l,A.length,none⟩ .nilFunc).setCell ⟨b,7,none⟩ (.slice (some ⟨l,0,none⟩) A.length V.ac))<mt b wr by
         rw[aa.o.acts,B.o];unfold mt;rw[ah.c7];show A.length<(A++[x]).length;rw[ae];exact fU _)
        have aG:(q.setCell ⟨l,A.length,none⟩ .nilFunc).cell? ⟨b,7,none⟩=_:=(World.cell?_of_block (w:=q) (a:=⟨b,7,none⟩) (Below.heap_setCell _ _ _ _ (λe=>ap e.symm))).trans ab
        have aI:(q.setCell ⟨l,A.length,none⟩ .nilFunc).frozen? ⟨b,7,none⟩=_:=(World.frozen?_of_block (w:=q) (a:=⟨b,7,none⟩) (Below.heap_setCell _ _ _ _ (λe=>ap e.symm))).trans aH
        rw[HN.o] at aA az ab aG aI aK ai aj;clear K f4 ah aw av c7 ag R AC;have rs:(store ⟨l,n,none⟩ .nilFunc).run prog q=.ok () (q.setCell ⟨l,n,none⟩ .nilFunc):=by rw[run_store _ _ _ _ _ rfl];simp[aA,az]
        go_wp2;go_roundw
        case rel=>exact ai.o
        case measure=>exact aj.o
   . have I:decide (m<=(P.mark:Int))=false:=au f;have ao:decide ((P.mark:Int)<m)=true:=ax (by omega)
     rw[v,I];have H:=iJ (t.o w P col G.o Y.o);simp only[ia];show Calls _ _ _ _ λe p=>e=.returned (.bool false)/\∃col',Pl p b P col'/\Fr w col p col'
     generalize P.mark=mk at *;clear C f v I;go_enter func164,ntmps164;go_wp2_with fail
     refine H.o.mono ?_;rintro _ w1 ⟨rfl,hb⟩;have E:=iJ hb;clear hb H c8;go_wp2;go_ret;exact⟨rfl,col,G.o.keep E.o,Fr.keep E.o⟩
 . have v:decide ((P.fl:Int)<=m)=false:=au h1;have an:decide (m<(P.fl:Int))=true:=ax (by omega)
   rw[v];simp only[eU];show Calls _ _ _ _ λe p=>e=.returned (.bool false)/\∃col',Pl p b P col'/\Fr w col p col'
   clear C v;go_enter func164,ntmps164;go_wp2;go_ret;exact⟨rfl,col,G.o,Fr.refl _ _⟩
theorem oM(w:World)(b:Nat)(P:Po)(col:Nat->Nat)(h:Pl w b P col)(z:Int):Calls prog 47 #[.pointer (some ⟨b,0,none⟩),.int .i64 z] w λe d=>e=.returned (.int .i64 ((P.state z:Nat):Int))/\Below w.heap.size w d:=by
 obtain⟨D,h⟩:=h;exact tT w b P D col h.q h.ok.l2 z
theorem mE(w:World)(b:Nat)(P:Po)(col:Nat->Nat)(h:Pl w b P col)(z:Int):Calls prog 32 #[.pointer (some ⟨b,0,none⟩),.int .i64 z] w λe d=>e=.returned (.int .i64 (P.count z))/\d=w:=by
 obtain⟨D,h⟩:=h;exact qi w b P D col h.q h.ok.l2 z
theorem Ez(w:World)(b:Nat)(P:Po)(col:Nat->Nat)(h:Pl w b P col)(d:P.mark<=9223372036854775807):Calls prog 142 #[.pointer (some ⟨b,0,none⟩)] w λe f=>e=.returned (.int .i64 ((P.mark:Nat):Int))/\Below w.heap.size w f:=by
 obtain⟨D,h⟩:=h;exact qT w b P D col h.q d
theorem Gt(w:World)(b:Nat)(P:Po)(col:Nat->Nat)(h:Pl w b P col):Calls prog 59 #[.pointer (some ⟨b,0,none⟩)] w λe d=>e=.returned (.int .i64 ((P.pg.length:Nat):Int))/\d=w:=by
 obtain⟨D,h⟩:=h;exact Cu w b P D col h.q
theorem Eu(w:World)(b:Nat)(P:Po)(col:Nat->Nat)(h:Pl w b P col):Calls prog 60 #[.pointer (some ⟨b,0,none⟩)] w λe d=>e=.returned (.int .i64 P.rf)/\d=w:=by
 obtain⟨D,h⟩:=h;exact Ap w b P D col h.q
end Go.Proofs.YtbdkogimlbnlmaaGreat.Q
