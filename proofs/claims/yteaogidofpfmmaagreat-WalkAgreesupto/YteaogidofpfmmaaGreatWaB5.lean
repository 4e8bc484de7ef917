import Derived.Test.YteaogidofpfmmaaGreatWaB1
import Derived.Test.YteaogidofpfmmaaGreatWaB4
import Derived.Shelf.SlSortCmp.WholeK
import Derived.Shelf.SlSortCmp.NoneTotal
set_option linter.all false
set_option maxHeartbeats 8000000
set_option maxRecDepth 10000
namespace Go.Proofs.YteaogidofpfmmaaGreat.Q
open Tryz
open Go.Shelf
def zT:Go.Shelf.Ren:=⟨fun|6=>176|14=>194|15=>195|20=>208|21=>209|22=>210|23=>211|24=>212|25=>213|26=>214|27=>215|28=>216|29=>217|46=>220|47=>221|48=>222|49=>223|50=>224|57=>226|n=>n,fun|0=>0|3=>3|4=>4|5=>5|9=>9|22=>218|24=>221|25=>250|39=>262|45=>270|46=>271|50=>95|53=>277|55=>258|66=>280|70=>284|76=>287|77=>255|n=>n,fun|n=>n⟩
theorem Ep:Go.Proofs.SlLaysF0.n6 prog zT:={
 mixed:=by kernel_rfl,
 f6:=⟨f176.name,by decide,func176.trans (bf some (by kernel_rfl))⟩,
 f14:=⟨f194.name,by decide,func194.trans (bf some (by kernel_rfl))⟩,
 f15:=func195.trans (bf some (by kernel_rfl)),
 f20:=⟨f208.name,by decide,func208.trans (bf some (by kernel_rfl))⟩,
 f21:=⟨f209.name,by decide,func209.trans (bf some (by kernel_rfl))⟩,
 f22:=⟨f210.name,by decide,func210.trans (bf some (by kernel_rfl))⟩,
 f23:=⟨f211.name,by decide,func211.trans (bf some (by kernel_rfl))⟩,
 f24:=⟨f212.name,by decide,func212.trans (bf some (by kernel_rfl))⟩,
 f25:=⟨f213.name,by decide,func213.trans (bf some (by kernel_rfl))⟩,
 f26:=⟨f214.name,by decide,func214.trans (bf some (by kernel_rfl))⟩,
 f27:=⟨f215.name,by decide,func215.trans (bf some (by kernel_rfl))⟩,
 f28:=func216.trans (bf some (by kernel_rfl)),
 f29:=func217.trans (bf some (by kernel_rfl)),
 f46:=⟨f220.name,by decide,func220.trans (bf some (by kernel_rfl))⟩,
 f47:=func221.trans (bf some (by kernel_rfl)),
 f48:=func222.trans (bf some (by kernel_rfl)),
 f49:=⟨f223.name,by decide,func223.trans (bf some (by kernel_rfl))⟩,
 f50:=⟨f224.name,by decide,func224.trans (bf some (by kernel_rfl))⟩,
 f57:=⟨f226.name,by decide,func226.trans (bf some (by kernel_rfl))⟩,
 t0:=underlying0,
 a0:=isAgg0,
 z0:=sizeOf0,
 v0:=zeroValue0,
 t3:=underlying3,
 a3:=isAgg3,
 z3:=sizeOf3,
 v3:=zeroValue3,
 t4:=underlying4,
 a4:=isAgg4,
 z4:=sizeOf4,
 v4:=zeroValue4,
 t5:=underlying5,
 a5:=isAgg5,
 z5:=sizeOf5,
 v5:=zeroValue5,
 t9:=underlying9,
 a9:=isAgg9,
 z9:=sizeOf9,
 v9:=zeroValue9,
 t22:=underlying218,
 a22:=isAgg218,
 z22:=sizeOf218,
 v22:=zeroValue218,
 t25:=underlying250,
 a25:=isAgg250,
 z25:=sizeOf250,
 v25:=zeroValue250,
 t39:=underlying262,
 a39:=isAgg262,
 z39:=sizeOf262,
 v39:=zeroValue262,
 t45:=underlying270,
 a45:=isAgg270,
 z45:=sizeOf270,
 v45:=zeroValue270,
 t46:=underlying271,
 a46:=isAgg271,
 z46:=sizeOf271,
 v46:=zeroValue271,
 t50:=underlying95,
 a50:=isAgg95,
 z50:=sizeOf95,
 v50:=zeroValue95,
 t53:=underlying277,
 a53:=isAgg277,
 z53:=sizeOf277,
 v53:=zeroValue277,
 t55:=underlying258,
 a55:=isAgg258,
 z55:=sizeOf258,
 v55:=zeroValue258,
 t66:=underlying280,
 a66:=isAgg280,
 z66:=sizeOf280,
 v66:=zeroValue280,
 t70:=underlying284,
 a70:=isAgg284,
 z70:=sizeOf284,
 v70:=zeroValue284,
 t76:=underlying287,
 a76:=isAgg287,
 z76:=sizeOf287,
 v76:=zeroValue287,
 t77:=underlying255,
 a77:=isAgg255,
 z77:=sizeOf255,
 v77:=zeroValue255}
end Go.Proofs.YteaogidofpfmmaaGreat.Q
namespace Go.Proofs.YteaogidofpfmmaaGreat.Q
open Tryz
open Go.RowKit
variable {r:Int}{L:List Rn}{cap g i n s:Nat}{col:Nat->Nat}{D:Pd}{w0 wr:World}
def qA(x y:Int):Int:=if x<y then -1 else if y<x then 1 else 0
theorem qT(w:World)(x:Int):Calls prog 196 #[.int .i64 x] w λe a=>e=.returned (.bool false)/\a=w:=by
 go_enter func196,ntmps196;go_wp2;go_ret;exact⟨by simp,rfl⟩
theorem Cg(w:World)(x y:Int):Calls prog 178 #[.int .i64 x,.int .i64 y] w λe h=>e=.returned (.int .i64 (qA x y))/\h=w:=by
 have b:=ix λW=>qT W x
 have c:=ix λW=>qT W y
 unfold qA;by_cases d:x<y
 . rw[if_pos d];go_enter func178,ntmps178;go_wp2_with fail
   refine(b.o _).mono ?_;rintro e a ⟨rfl,rfl⟩;go_wp2_with fail
   refine(c.o _).mono ?_;rintro e a ⟨rfl,rfl⟩;go_wp2;go_ret;exact⟨rfl,rfl⟩
 . rw[if_neg d];by_cases f:y<x
   . rw[if_pos f];go_enter func178,ntmps178;go_wp2_with fail
     refine(b.o _).mono ?_;rintro e a ⟨rfl,rfl⟩;go_wp2_with fail
     refine(c.o _).mono ?_;rintro e a ⟨rfl,rfl⟩;go_wp2;go_ret;exact⟨rfl,rfl⟩
   . rw[if_neg f];go_enter func178,ntmps178;go_wp2_with fail
     refine(b.o _).mono ?_;rintro e a ⟨rfl,rfl⟩;go_wp2_with fail
     refine(c.o _).mono ?_;rintro e a ⟨rfl,rfl⟩;go_wp2;go_ret;exact⟨rfl,rfl⟩
theorem ut(W:World)(r s:Rn):
 Calls prog 177 #[.agg (rcs r).toList.toArray,.agg (rcs s).toList.toArray] W λe c=>e=.returned (.int .i64 (qA r.1 s.1))/\∃q d,c=Sort.grow (W.drewN q) d:=by
 have C:=ix λa=>Cg a r.1 s.1
 unfold rcs;generalize qA r.1 s.1=z at *;go_enter func177,ntmps177;go_wp2_with fail
 refine(C.o _).mono ?_;rintro e a ⟨rfl,b⟩;obtain rfl:=b.symm;go_wp2;go_ret;exact⟨rfl,0,_,by rw[Sort.alloc_eq_grow,Sort.alloc_eq_grow,Sort.grow_grow];rfl⟩
def ku(x:Rn):List Value:=(rcs x).toList
def cfS(x y:Rn):Int:=qA x.1 y.1
theorem qv(x y:Int):qA x y<0↔x<y:=by
 unfold qA;split
 . omega
 . split<;>omega
theorem swoS:Sort.SWO (ltOf cfS):={
 irrefl:=λx=>(by unfold ltOf cfS;rw[dO,qv];omega),
 trans:=λx y z a b=>(by
  unfold ltOf cfS at *;rw[dI,qv] at *;omega),
 ntrans:=λx y z a b=>(by
  unfold ltOf cfS at *;rw[dO,qv] at *;omega)}
theorem ua{w:World}(d:Array Rn)(a:Array Obj):But (λk=>k=g) w (sortWorldK ku 2 w g 0 n d a):=by
 refine⟨rfl,rfl,rfl,?_,λk hk b=>?_⟩
 . exact SWK.le ⟨n,a,rfl⟩
 . have c:k<(Sort.putRowK ku 2 (Sort.ahead w n) g 0 d).heap.size:=by
    have:(Sort.putRowK ku 2 (Sort.ahead w n) g 0 d).heap.size=w.heap.size:=by simp[Sort.putRowK,Sort.putRow,Sort.mapBlock,Sort.ahead]
    omega
   show((Sort.putRowK ku 2 (Sort.ahead w n) g 0 d).heap++a)[k]?=_;rw[Array.getElem?_append_left c];show((Sort.ahead w n).heap.modify g _)[k]?=_;rw[eW,if_neg (λe=>b e.symm)]
   rfl
theorem uC(L:List Rn)(i j:Nat)(hi:i<L.length)(c:j<2):(rc L)[i*2+j]?=(ku (L.getD i Rn.zero))[j]?:=by
 obtain⟨a,b⟩:=uY L i hi;match j,c with
 |0,_=>exact a
 |1,_=>exact b
theorem ug{w:World}(l:Vw w (some ⟨g,0,none⟩) cap L)(d:Array Rn)(f:Array Obj)(b:d.size=L.length):Vw (sortWorldK ku 2 w g 0 n d f) (some ⟨g,0,none⟩) cap d.toList:=by
 rcases l.cases with⟨h0,_⟩|⟨g',Y,h0,hg,h1,h2,h3⟩
 . cases h0
 . simp only[au,Addr.mk.injEq,d9] at h0;subst h0;have m:=hg.lt;have p:(Sort.putRowK ku 2 (Sort.ahead w n) g 0 d).heap.size=w.heap.size:=by simp[Sort.putRowK,Sort.putRow,Sort.mapBlock,Sort.ahead]
   have hb:(sortWorldK ku 2 w g 0 n d f).heap[g]?=some (.cells (Sort.putCells id 0 (Sort.flatK ku 2 d) (rc L++Y).toArray) 221 (0,0)):=by
    show((Sort.putRowK ku 2 (Sort.ahead w n) g 0 d).heap++f)[g]?=_;rw[Array.getElem?_append_left (by omega)]
    show((Sort.ahead w n).heap.modify g _)[g]?=_;rw[eW,if_pos rfl];show Option.map _ w.heap[g]?=_;rw[show w.heap[g]?=_ from hg]
    rfl
   have e:d.toList.length=L.length:=by simp[b]
   refine Vw.mk (Y:=Y) ?_ (by omega) h2 (by omega)
   unfold jC;rw[hb];congr 2
   apply Array.ext_getElem?;intro i;unfold Sort.putCells;rw[Array.getElem?_mapIdx];simp only[fL];by_cases a:i<L.length*2
   . have hd:i/2<d.size:=by omega
     have c:=uC d.toList (i/2) (i%2) (by omega) (ip _ (by decide))
     rw[show i/2*2+i%2=i by omega] at c
     have k:d.toList.getD (i/2) Rn.zero=d[i/2]'hd:=by simp[hd]
     rw[k] at c;rw[db (show i<(rc L).length by rw[iA];exact a),db (show i<(rc d.toList).length by rw[iA,e];exact a),c,bX (show i<(rc L).length by rw[iA];exact a),eX,if_pos ⟨an _,by simp[b];omega⟩,Nat.sub_zero]
     rw[Sort.get_flatK _ _ _ _ (by rw[b];exact a),iu d (i/2) hd]
     have j:i%2<(ku d[i/2]).length:=by
      show i%2<2;exact ip _ (by decide)
     rw[iu (ku d[i/2]) (i%2) j];show some (id _)=(ku d[i/2])[i%2]?;rw[bX j];rfl
   . rw[bP (show(rc L).length<=i by rw[iA];omega),bP (show(rc d.toList).length<=i by rw[iA,e];omega),iA,iA,e]
     cases hy:Y[i-L.length*2]? with
     |none=>rfl
     |some v=>
      rw[eX,if_neg (λh=>a (by have:=h.2;simp[b] at this;omega))]
theorem Vw.holds{w:World}(f:Vw w (some ⟨g,0,none⟩) cap L):Sort.HoldsK ku 2 w g 0 L.toArray:=by
 rcases f.cases with⟨h0,_⟩|⟨g',Y,h0,hg,h1,h2,h3⟩
 . cases h0
 . simp only[au,Addr.mk.injEq,d9] at h0;subst h0;intro j c;rw[Sort.size_flatK,cR] at c;refine⟨?_,bq _ _ _ _ _ hg⟩;have h:=hg.cs (P:=[]) (X:=rc L) (Y:=Y) (by simp)
   have b:=uC L (j/2) (j%2) (by omega) (ip _ (by decide))
   rw[show j/2*2+j%2=j by omega] at b
   have d:j/2<L.length:=by omega
   have k:j%2<(ku (L.getD (j/2) Rn.zero)).length:=by
    show j%2<2;exact ip _ (by decide)
   have a:=h j ((ku (L.getD (j/2) Rn.zero))[j%2]) (by rw[b];exact bX k)
   rw[bg] at a;have e:L.getD (j/2) Rn.zero=L[j/2]:=by simp[d]
   rw[a,Sort.get_flatK _ _ _ _ (by rw[cR];exact c),iu L.toArray (j/2) (by simpa using d)]
   rw[iu (ku L.toArray[j/2]) (j%2) (by show j%2<2;exact ip _ (by decide))]
   simp only[e,List.getElem_toArray];rfl
theorem CE(w:World)(g cap:Nat)(L:List Rn)(b:Vw w (some ⟨g,0,none⟩) cap L)(G:L.length<4611686018427387904):
 Calls prog 176 #[.slice (some ⟨g,0,none⟩) L.length cap,.func (.func 177) #[] #[]] w λe f=>e=.returned (.tuple #[])/\∃j,j.Perm L/\Vw f (some ⟨g,0,none⟩) cap j/\But (λk=>k=g) w f:=by
 have A:∀q w,(callFunc 177 q).run prog w=.ok (.enter 177 q) w:=enters_of func177 (by kernel_rfl) rfl
 have F:CmpLays prog 177 #[] ku 2 cfS g 0 L.toArray.size w:=λm d H _ x y=>ut _ x y
 have t:=AnyQ.slices_SortFunc Ep 2 isAgg221 sizeOf221 ku (λ_=>rfl) (λx v C=>x9 x v C) cfS swoS 177 #[] g 0 cap L.toArray w A F b.holds (b.lt rfl) (by simpa using G)
 rw[cR] at t;refine Calls.mono (show Calls prog 176 _ _ _ from t) λe f ⟨B,a,n,d,c,I,p⟩=>⟨B,a.toList,?_,?_,?_⟩
 . have l:=c.2.2;have E:a.size=L.toArray.size:=c.1;rw[show L.length=L.toArray.size by simp,Array.extract_size,<-E,Array.extract_size] at l
   simpa using l
 . rw[p];exact ug b a d (by have h:a.size=L.toArray.size:=c.1;simpa using h)
 . rw[p];exact ua a d
theorem zQ(w:World)(a:Option Addr)(cap:Nat):Calls prog 176 #[.slice a 0 cap,.func (.func 177) #[] #[]] w λe b=>e=.returned (.tuple #[])/\b=w:=
 AnyF.slices_SortFunc_none Ep a cap _ w
theorem Ad(w:World)(a:Option Addr)(c:Nat)(L:List Rn)(E:Vs w a L)(M:L.length<=14000000000000)(q:a=none->c=0/\L=[]):
 Calls prog 175 #[.slice a L.length c] w λe I=>∃b d,e=.returned (.slice b L.length d)/\Vw I b d L/\New w none b/\Below w.heap.size w I/\(L≠[]->b≠none):=by
 have K:=λ(x:Option Addr)(n k:Nat)(w:World)=>Lib.run_eql_slice_nil (P:=prog) w 218 221 x n k 0 0 underlying218
 cases a with
 |none=>
  obtain⟨rfl,rfl⟩:=q rfl;rw[bg];go_enter func175,ntmps175;go_wp2;go_ret;exact⟨none,0,rfl,Vw.nil _,New.none _ _,Below.refl _ _⟩
 |some x=>
  have f:=al w (.cells #[] 221);have p:Vw (w.alloc (.cells #[] 221)) (some ⟨w.heap.size,0,none⟩) 0 []:=Vw.mk (Y:=[]) (ag w _) (am _) (an _) rfl;by_cases C:L=[]
  . subst C;rw[bg];obtain⟨j,l,H,B⟩:=uv (w.alloc (.cells #[] 221)) 218 w.heap.size 0 0 [] [] [] (some x) 0 c rfl (ag w _) rfl (.inl rfl) (am _) (by simp) (am _)
    have m:=ix (show ∃b d,Ending.returned (.slice (some ⟨w.heap.size,0,none⟩) 0 0)=.returned (.slice b 0 d)/\Vw j b d []/\New w none b/\Below w.heap.size w j/\(([]:List Rn)≠[]->b≠none) from
     ⟨_,0,rfl,Vw.mk (Y:=[]) H (am _) (an _) rfl,λz v=>.inr (by cases v;exact am _),((But.ofBelow (S:=λ_=>False) f).trans B (λk hk e=>by omega)).below (λ_ _ h=>h),λh=>(h rfl).elim⟩)
    clear H B p f q;go_enter func175,ntmps175;go_wp2_with (at_builtin;refine Lib.wpList_append_run _ rfl _ _ _ _ rfl _ _ rfl rfl _ _ l ?_)
    go_ret;exact m.o
  . obtain⟨g,d,j,l,A,F,G⟩:=sF (w.alloc (.cells #[] 221)) 218 (some ⟨w.heap.size,0,none⟩) 0 0 [] rfl p (some x) L.length c L rfl (E.keep f) C (by simp;omega)
    rw[de] at l;rw[b9] at A
    have m:=ix (show ∃b J,Ending.returned (.slice (some ⟨g,0,none⟩) L.length d)=.returned (.slice b L.length J)/\Vw j b J L/\New w none b/\Below w.heap.size w j/\(L≠[]->b≠none) from
     ⟨_,d,rfl,A,λz v=>by
       rcases F z v with⟨y,t,e⟩|h
       . cases t;exact .inr (Nat.le_of_eq e)
       . exact .inr (by rw[size_alloc] at h;omega),((But.ofBelow (S:=λ_=>False) f).grown G (λk hk h=>by
          obtain⟨y,t,e⟩:=map_some hk;cases t;rw[<-e] at h;exact absurd h (fZ _))).below (λ_ _ h=>h),λ_=>by simp⟩)
    clear A F G p f q E;generalize L.length=n at *;go_enter func175,ntmps175;go_wp2_with (at_builtin;refine Lib.wpList_append_run _ rfl _ _ _ _ rfl _ _ rfl rfl _ _ l ?_)
    go_ret;exact m.o
theorem Ct{M:List Rn}(h:L.Perm M)(z:Int):has L z=has M z:=by
 rw[dW,has_iff,has_iff];constructor
 . rintro⟨r,hr,h1⟩;exact⟨r,h.subset hr,h1⟩
 . rintro⟨r,hr,h1⟩;exact⟨r,h.symm.subset hr,h1⟩
theorem Cc(L:List Rn)(r:Rn)(z:Int):has (L++[r]) z=(has L z||(decide (r.1<=z)&&decide (z<=r.2))):=by
 rw[i8,kx,lG,fy]
structure Nw(w w':World)(b:Nat)(a:Option Addr)(cap:Nat)(R:List Rn):Prop where
 st:St w' b a cap R
 b:w.heap.size<=b
 a:∀x,a=some x->w.heap.size<=x.block
 w:Below w.heap.size w w'
theorem Gl(w:World)(a:Option Addr)(c:Nat)(L:List Rn)(hV:Vs w a L)(hl:L.length<=8796093022200)(hn:a=none->c=0/\L=[])(hb:∀r∈L,Nm r.1/\Nm r.2):
 Calls prog 146 #[.slice a L.length c] w λe w'=>∃A d f R,e=.returned (.pointer (some ⟨A,0,none⟩))/\Nw w w' A d f R/\(∀z,has R z=has L z)/\R.length<=L.length:=by
 have V:=ix (Ad w a c L hV (by omega) hn)
 have X:=ix λ(W:World)(g cap:Nat)(hQ:Vw W (some ⟨g,0,none⟩) cap L)=>CE W g cap L hQ (by omega)
 have C3:=ix λ(W:World)(a:Option Addr)(cap:Nat)=>zQ W a cap
 obtain⟨n,I⟩:∃n:Nat,n=L.length:=⟨_,rfl⟩;have Z:=ix I;rw[<-I] at V X hl ⊢;clear hV hn I;go_enter func146,ntmps146;go_wp2_with fail
 refine V.o.mono ?_;rintro e O ⟨l,c1,rfl,F,M,N,q4⟩
 /- behind the sort -/
 have S:Calls prog 176 #[.slice l n c1,.func (.func 177) #[] #[]] O λe b=>e=.returned (.tuple #[])/\∃P,P.Perm L/\Vw b l c1 P/\Below w.heap.size w b:=by
  by_cases B:L=[]
  . have ah:n=0:=by rw[Z.o,B];rfl
    rw[ah];refine(C3.o O l c1).mono λe b ⟨J,hw⟩=>⟨J,[],by rw[B],by rw[hw,<-B];exact F,by rw[hw];exact N⟩
  . obtain⟨g,hg⟩:∃g,l=some ⟨g,0,none⟩:=by
     rcases F.cases with⟨h1,_⟩|⟨g,_,h1,_⟩
     . exact absurd h1 (q4 B)
     . exact⟨g,h1⟩
    subst hg;refine(X.o O g c1 F).mono λe b ⟨J,P,t,v,E⟩=>⟨J,P,t,v,?_⟩
    have aj:w.heap.size<=g:=by
     rcases M _ rfl with⟨y,p,_⟩|h
     . cases p
     . exact h
    exact((But.ofBelow (S:=λ_=>False) N).trans E (λk hk e=>by omega)).below (λ_ _ h=>h)
 have S':=ix S;have Q2:=ix M;clear S F M N q4;go_wp2_with fail
 refine S'.o.mono ?_;rintro e b ⟨rfl,P,t,v,E⟩;have G:=ix t;have lP:P.length=n:=by rw[Z.o];exact t.length_eq
 have vP:=ix v.vs;have aP:=ix λx (j:l=some x)=>v.lt j
 clear t v;go_wp2_with fail
 obtain⟨W,hW⟩:∃W,b.alloc (.cells #[.slice none 0 0] 228)=W:=⟨_,rfl⟩;have ab:=ag b (.cells #[.slice none 0 0] 228);have H:=al b (.cells #[.slice none 0 0] 228);have sW:=size_alloc b (.cells #[.slice none 0 0] 228);rw[hW] at ab H sW ⊢;have ai:=E.size;have ae:St W b.heap.size none 0 []:=⟨ab,Vw.nil _,Can.nil,by simp,by simp⟩
 go_loopw [15] (λi wx=>∃k:Nat,k<=n/\i=.int .i64 k/\∃d f R,St wx b.heap.size d f R/\(∀z,has R z=has (P.take k) z)/\R.length<=k/\(∀x,d=some x->W.heap.size<=x.block)/\But (λq=>q=b.heap.size\/W.heap.size<=q) W wx) (λi _=>n-(intOf i).toNat)
 case atStart=>exact⟨0,an _,rfl,none,0,[],ae,by simp,am _,by simp,But.refl _ _⟩
 case round=>
  obtain⟨k,hk,rfl,d,f,R,C,K,af,T,m⟩:=hrel;have ao:=m.size;by_cases ak:k<n
  . have U:k<P.length:=by omega
    have vx:Vs wr l P:=(vP.o.keep H).but m (λx j h=>by have:=aP.o x j;rcases h with h|h<;>omega)
    obtain⟨bb,o,rfl,d1,d2⟩:=vx.at U;obtain⟨r1,r2⟩:=hb _ (G.o.subset (oH U));have tn:=lu P Rn.zero U;generalize P.getD k Rn.zero=r at *;have aa:=al wr (.cells #[.int .i64 r.1,.int .i64 r.2] 221);have ac:=ix (xE (wr.alloc (.cells #[.int .i64 r.1,.int .i64 r.2] 221)) b.heap.size d f R r.1 r.2 (C.keep aa) r1 r2 (by omega))
    have TN:=ix tn;have HS:=ix C;have HH:=ix K;have HB:=ix m;have Y:=ix T;clear tn C K m T r1 r2;go_wp2_with fail
    refine ac.o.mono ?_;rintro e w5 ⟨rfl,a5,c5,R5,s1,s2,s3,s4,s5⟩
    have ad:=ix (show ∃d f R,St w5 b.heap.size d f R/\(∀z,has R z=has (P.take (k+1)) z)/\R.length<=k+1/\(∀x,d=some x->W.heap.size<=x.block)/\But (λq=>q=b.heap.size\/W.heap.size<=q) W w5 from
     ⟨a5,c5,R5,s1,λz=>by rw[s2,HH.o,TN.o,Cc],by omega,λx j=>by
       rcases s4 x j with⟨y,p,e⟩|h
       . rw[<-e];exact Y.o y p
       . rw[size_alloc] at h;omega,(HB.o.andBelow aa).trans s5 (λq hq h=>by
         rcases h with h|⟨y,p,e⟩
         . exact .inl h
         . exact .inr (by rw[<-e];exact Y.o y p))⟩)
    clear s1 s2 s3 s4 s5;go_wp2;go_roundw
    case rel=>exact⟨k+1,by omega,by simp,ad.o⟩
    case measure=>simp[intOf];omega
  . obtain rfl:k=n:=by omega
    go_wp2;go_ret;refine⟨_,d,f,R,rfl,⟨C,ai,λx j=>by have:=T x j;omega,?_⟩,λz=>by rw[K,<-lP,du];exact Ct G.o z,af⟩
    exact((But.ofBelow (S:=λ_=>False) (bt E H)).trans m (λq hq h=>by rcases h with h|h<;>omega)).below (λ_ _ h=>h)
theorem Cu(w:World):Calls prog 148 #[.slice none 0 0] w λe q=>∃a c f R,e=.returned (.pointer (some ⟨a,0,none⟩))/\Nw w q a c f R/\(∀z,has R z=false)/\R.length<=0:=by
 have v:=BQ 0 0 (am _) (by omega) w
 rw[show((0:Nat):Int)=0 from rfl] at v
 have k:=al w (.cells (madeCells (rcs Rn.zero) (0*2)) 221);have d:=size_alloc w (.cells (madeCells (rcs Rn.zero) (0*2)) 221);generalize w.alloc (.cells (madeCells (rcs Rn.zero) (0*2)) 221)=h at *;have C:=ix (Gl h (some ⟨w.heap.size,0,none⟩) 0 [] (.inl rfl) (by simp) (by simp) (by simp))
 rw[bg] at C;have j:=ix d;clear d;go_enter func148,ntmps148;go_wp2;go_loopw [3,11] (λs i t=>s=.slice (some ⟨w.heap.size,0,none⟩) 0 0/\i=.int .i64 0/\t=h) (λ_ _ _=>0)
 case atStart=>exact⟨rfl,rfl,rfl⟩
 case round=>
  obtain⟨rfl,rfl,rfl⟩:=hrel;go_wp2_with fail
  with_reducible refine C.o.mono ?_
  rintro e y ⟨a,c,f,R,rfl,b,m,p⟩;go_wp2;go_ret;have d:=j.o;exact⟨a,c,f,R,rfl,⟨b.st,by have:=b.b;omega,λx l=>by have:=b.a x l;omega,bt k b.w⟩,λz=>m z,p⟩
def Po.start(r:Int)(C:List Int):Po:=⟨r,C.map λc=>(c,decide (0<c)),[],0⟩
def Eu(g:Nat):Pd:=⟨g,λ_=>0,λ_=>none,λ_=>0,λ_=>[],none,0,[]⟩
def inQ(D:Pd)(s t:Nat):Value:=if t<s then .pointer (some ⟨D.s t,0,none⟩) else .pointer none
def boxZ(r:Int)(n:Nat)(D:Pd)(s:Nat):Array Value:=#[.int .i64 r,.slice (some ⟨D.g,0,none⟩) n n,inQ D s 0,inQ D s 1,inQ D s 2,inQ D s 3,inQ D s 4,.slice none 0 0,.int .i64 0]
structure Pz(w0 w:World)(b:Nat)(r:Int)(n:Nat)(D:Pd)(s:Nat)(col:Nat->Nat):Prop where
 box:w.heap[b]?=some (.cells (boxZ r n D s) 177 (0,0))
 pgs:w.heap[D.g]?=some (.cells (pgc (List.replicate n Pg.zero)).toArray 179 (0,0))
 set:∀t,t<s->St w (D.s t) (D.a t) (D.c t) (D.L t)
 emp:∀t,t<s->∀z,has (D.L t) z=false
 na:D.aa=none/\D.ac=0/\D.B=[]
 cb:col b=1
 cg:col D.g=2
 cs:∀t,t<s->col (D.s t)=3+t
 ca:∀t,t<s->∀x,D.a t=some x->col x.block=3+t
 lt:∀k,col k≠0->k<w.heap.size/\w0.heap.size<=k
 bl:Below w0.heap.size w0 w
theorem GY:(prog.info? 179).map (λi=>(i.zero,i.size,i.bytes))=some (some (.agg #[.int .i64 0,.bool false]),2,16):=by kernel_rfl
theorem CG(n:Nat)(h:n<=65536)(w:World):(Instr.makeSlice 172 (.int .i64 (n:Int)) (.int .i64 (n:Int))).run prog w=.ok (.slice (some ⟨w.heap.size,0,none⟩) n n) (w.alloc (.cells (madeCells #[.int .i64 0,.bool false] (n*2)) 179)):=by
 obtain⟨c,b,d,e,f⟩:=eo GY;have a:=run_make (P:=prog) w 172 179 c (.agg #[.int .i64 0,.bool false]) underlying172 b d .i64 .i64 n n (by omega) (by omega) (by rw[f];omega) (by omega)
 simp only[e8,e] at a;exact a
theorem Dr(n:Nat):madeCells #[Value.int .i64 0,Value.bool false] (n*2)=(pgc (List.replicate n Pg.zero)).toArray:=by
 unfold madeCells;apply Array.ext
 . simp[qU]
 . intro i f h;have c:i/2<n:=by simp at f;omega
   have b:=s8 (List.replicate n Pg.zero) (i/2) (by rw[dt];exact c)
   have e:(List.replicate n Pg.zero).getD (i/2) Pg.zero=Pg.zero:=by simp[aM,c]
   rw[e] at b;have d:i<(pgc (List.replicate n Pg.zero)).length:=by simpa using h
   rcases Nat.mod_two_eq_zero_or_one i with m|m
   . have a:i=i/2*2:=by omega
     have:=b.1;rw[<-a,bX d] at this;simp only[au] at this;simp[m];exact this.symm
   . have a:i=i/2*2+1:=by omega
     have:=b.2;rw[<-a,bX d] at this;simp only[au] at this;simp[m];exact this.symm
theorem Pz.next{w W f:World}{b:Nat}(h:Pz w0 w b r n D s col)(I:s<5)(F:Below w.heap.size w W){l:Nat}{m:Option Addr}{A:Nat}{R:List Rn}(j:Nw W f l m A R)(H:∀z,has R z=false):
 Pz w0 (f.setCell ⟨b,2+s,none⟩ (.pointer (some ⟨l,0,none⟩))) b r n {D with s:=upd D.s s l,a:=upd D.a s m,c:=upd D.c s A,L:=upd D.L s R} (s+1) (lO col w f (3+s)):=by
 have q:Below w.heap.size w f:=bt F j.w;have old:∀{k:Nat},col k≠0->lO col w f (3+s) k=col k:=λhk=>nh (h.lt _ hk).1
 have lb:=(h.lt b (by rw[h.cb];decide))
 have y:But (λk=>k=b) w (f.setCell ⟨b,2+s,none⟩ (.pointer (some ⟨l,0,none⟩))):=(But.ofBelow (S:=λk=>k=b) q).setCell (p:=⟨b,2+s,none⟩) (λ_=>rfl) _
 have G:But (λk=>k=b) f (f.setCell ⟨b,2+s,none⟩ (.pointer (some ⟨l,0,none⟩))):=(But.refl (λk=>k=b) _).setCell (p:=⟨b,2+s,none⟩) (λ_=>rfl) _
 have v:=F.size;have nb:∀k,w.heap.size<=k->k≠b:=λk hk e=>by omega
 have J:f.heap[b]?=_:=(q.block b lb.1).trans h.box;refine⟨?_,y.same h.pgs (λe=>by have:=h.cg;rw[e,h.cb] at this;cases this),λt C=>?_,λt C z=>?_,h.na,(old (by rw[h.cb];decide)).trans h.cb,(old (by rw[h.cg];decide)).trans h.cg,λt C=>?_,λt C x d=>?_,λk hk=>?_,?_⟩
 . rw[aE _ _ _ _ _ _ J];rcases lt5 I with rfl|rfl|rfl|rfl|rfl<;>rfl
 . show St _ (upd D.s s l t) (upd D.a s m t) (upd D.c s A t) (upd D.L s R t);by_cases e:t=s
   . subst e;rw[jF,jF,jF,jF];exact j.st.but G (nb _ (ay v j.b)) (λx d=>nb _ (ay v (j.a x d)))
   . rw[kE _ _ e,kE _ _ e,kE _ _ e,kE _ _ e];have E:t<s:=by omega
     exact(h.set t E).but y (λB=>by have:=h.cs t E;rw[B,h.cb] at this;omega) (λx d B=>by have:=h.ca t E x d;rw[B,h.cb] at this;omega)
 . show has (upd D.L s R t) z=false;by_cases e:t=s
   . subst e;rw[jF];exact H z
   . rw[kE _ _ e];exact h.emp t (by omega) z
 . show lO col w f (3+s) (upd D.s s l t)=3+t;by_cases e:t=s
   . subst e;rw[jF];exact oW (ay v j.b) j.st.lt
   . rw[kE _ _ e,old (by rw[h.cs t (by omega)];omega)];exact h.cs t (by omega)
 . have d:upd D.a s m t=some x:=d;by_cases e:t=s
   . subst e;rw[jF] at d;exact oW (ay v (j.a x d)) (j.st.row.lt d)
   . rw[kE _ _ e] at d;rw[old (by rw[h.ca t (by omega) x d];omega)];exact h.ca t (by omega) x d
 . by_cases e:k<w.heap.size
   . rw[nh e] at hk;exact⟨a6 e y.size,(h.lt k hk).2⟩
   . exact⟨a6 (wl q.size hk) G.size,by have:=h.bl.size;omega⟩
 . exact((But.ofBelow (S:=λ_=>False) (bt h.bl q)).setCell (p:=⟨b,2+s,none⟩) (λe=>by have e:b<w0.heap.size:=e;omega) _).below (λ_ _ h=>h)
theorem Pz.done{w:World}{b:Nat}(h:Pz w0 w b r n D 5 col):Pq w b ⟨r,List.replicate n Pg.zero,[],0⟩ D col:=by
 obtain⟨c,j,a⟩:=h.na;refine⟨?_,h.pgs,h.set,?_,by rw[a];rfl,λq d=>(by rw[a] at d;cases d),h.cb,h.cg,h.cs,h.ca,λx f=>(by rw[c] at f;cases f),λt e=>(by rw[a] at e;cases e),λk hk=>(h.lt k hk).1⟩
 . rw[h.box];show some (Obj.cells _ _ _)=some (Obj.cells (qN _ _) _ _);unfold qN boxZ inQ;simp[c,j]
 . rw[c,j,a];exact Gw.nil _ _ _
def ke(C:List Int):List Pg:=C.map λc=>(c,decide (0<c))
theorem kH(C:List Int):(ke C).length=C.length:=by simp[ke]
theorem tg{C:List Int}(h:i<C.length):ke (C.take (i+1))=ke (C.take i)++[(C.getD i 0,decide (0<C.getD i 0))]:=by
 unfold ke;rw[lu C 0 h,dy];rfl
structure Pf(w wr:World)(b:Nat)(r:Int)(C:List Int)(i:Nat)(D:Pd)(col:Nat->Nat):Prop where
 q:Pq wr b ⟨r,ke (C.take i)++List.replicate (C.length-i) Pg.zero,[],0⟩ D col
 m:∀s,s<5->∀z,has (D.L s) z=inS (ke (C.take i)) s z
 bl:Below w.heap.size w wr
 nw:∀k,col k≠0->w.heap.size<=k
theorem Pf.len{w:World}{b:Nat}{C:List Int}(h:Pf w wr b r C i D col)(hi:i<=C.length):(ke (C.take i)++List.replicate (C.length-i) Pg.zero).length=C.length:=by
 rw[af,kH,dm,dt];omega
theorem Pf.few{w:World}{b:Nat}{C:List Int}(h:Pf w wr b r C i D col)(j:C.length<=65536)(a:s<5):(D.L s).length<=65536:=by
 refine FQ (h.q.set s a).can λq c=>?_
 have d:=(h.q.set s a).can.1 q c;have f:=(sY.1 ((h.m s a q.1).symm.trans ((has_iff _ _).2 ⟨q,c,fi _,d⟩))).1;have e:=(sY.1 ((h.m s a q.2).symm.trans ((has_iff _ _).2 ⟨q,c,d,fi _⟩))).2.1;rw[kH,dm] at e;omega
theorem Cb(P:List Pg)(x:Pg)(s:Nat)(z:Int):inS (P++[x]) s z=(inS P s z||(decide (z=((P.length+1:Nat):Int))&&decide (stt x=s))):=by
 by_cases a:z=((P.length+1:Nat):Int)
 . rw[ar a,gW]
   have c:inS P s z=false:=by
    unfold inS;rw[ah (show ¬z<=(P.length:Int) by omega)];simp
   rw[c,Bool.false_or,a,Gp (by omega) (by simp)]
   congr 1
   rw[gE,aM,bP (am _),eC];rfl
 . rw[ah a,eQ,fy];unfold inS;rw[af,dR];by_cases d:1<=z
   . by_cases b:z<=(P.length:Int)
     . rw[ar b,ar (show z<=((P.length+1:Nat):Int) by omega)]
       rw[aM,db (by omega),<-aM]
     . rw[ah b,ah (show ¬z<=((P.length+1:Nat):Int) by omega)]
       simp
   . rw[ah d];simp
theorem Do{C:List Int}(h:i<C.length)(x:Pg):(ke (C.take i)++List.replicate (C.length-i) Pg.zero).set i x=ke (C.take i)++x::List.replicate (C.length-(i+1)) Pg.zero:=by
 have a:(ke (C.take i)).length=i:=by rw[kH,dm];omega
 rw[eZ _ _ (by omega),a,eC]
 obtain⟨m,b⟩:∃m,C.length-i=m+1:=⟨C.length-i-1,by omega⟩
 rw[b,List.replicate_succ,gA,show C.length-(i+1)=m by omega]
theorem yR(w:World)(r:Int)(a:Option Addr)(cap:Nat)(C:List Int)(hC:Ir w a C)(h1:1<=C.length)(y:C.length<=65536)(hr:2<=r/\r<65536)(E:∀c∈C,0<=c/\c<=r):
 Calls prog 124 #[.int .i64 r,.slice a C.length cap] w λe w'=>∃b col,e=.returned (.pointer (some ⟨b,0,none⟩))/\Pl w' b (Po.start r C) col/\Below w.heap.size w w'/\∀k,col k≠0->w.heap.size<=k:=by
 have aa:=CG C.length y w;rw[Dr] at aa;have HC:=ix hC;have HH:=ix E;have HR:=ix hr;clear hC E hr;obtain⟨n,hn⟩:∃n,C.length=n:=⟨_,rfl⟩;have v:=ix hn;rw[hn] at aa h1 y ⊢;clear hn;obtain⟨d,l⟩:∃d,(w.alloc (.cells (pgc (List.replicate n Pg.zero)).toArray 179)).alloc (.cells #[.int .i64 r,.slice (some ⟨w.heap.size,0,none⟩) n n,.pointer none,.pointer none,.pointer none,.pointer none,.pointer none,.slice none 0 0,.int .i64 0] 177)=d:=⟨_,rfl⟩
 have Z0:=ix (show Pz w d (w.heap.size+1) r n (Eu w.heap.size) 0 (λk=>if k=w.heap.size+1 then 1 else if k=w.heap.size then 2 else 0) by
  have sz:d.heap.size=w.heap.size+1+1:=by rw[<-l,size_alloc,size_alloc]
  refine⟨?_,?_,λt B=>by omega,λt B=>by omega,⟨rfl,rfl,rfl⟩,by simp,by simp[Eu],λt B=>by omega,λt B=>by omega,λk hk=>?_,?_⟩
  . rw[<-l];have c:=ag (w.alloc (.cells (pgc (List.replicate n Pg.zero)).toArray 179)) (.cells #[.int .i64 r,.slice (some ⟨w.heap.size,0,none⟩) n n,.pointer none,.pointer none,.pointer none,.pointer none,.pointer none,.slice none 0 0,.int .i64 0] 177);rwa [size_alloc] at c
  . rw[<-l];have c:=ag w (.cells (pgc (List.replicate n Pg.zero)).toArray 179);exact((al _ _).block w.heap.size (ae.1 c).1).trans c
  . rw[sz];split at hk
    . omega
    . split at hk
      . omega
      . exact absurd rfl hk
  . rw[<-l];exact bt (al _ _) (al _ _))
 have V:=ix l;clear l;go_enter func124,ntmps124;go_wp2_with fail
 rw[V.o];clear aa V;go_loopw [16] (λi wr=>∃(s:Nat)(D:Pd)(col:Nat->Nat),s<=5/\i=.int .i64 (s:Int)/\Pz w wr (w.heap.size+1) r n D s col) (λi _=>5-(intOf i).toNat)
 case atStart=>exact⟨0,_,_,by omega,rfl,Z0.o⟩
 case round=>
  obtain⟨s,D,col,m,rfl,I⟩:=hrel;have j:=ix I;clear I Z0;by_cases Y:s<5
  . have cb:=ai _ _ (2+s) _ _ _ j.o.box
    have cS:wr.cell? ⟨w.heap.size+1,2+s,none⟩=some (.pointer none):=by
     rw[cb];rcases lt5 Y with rfl|rfl|rfl|rfl|rfl<;>rfl
    have fS:wr.frozen? ⟨w.heap.size+1,2+s,none⟩=false:=by simp[World.frozen?,j.o.box]
    have aF:(s:Int)<5:=by omega
    clear cb;go_wp2_with fail
    go_region_with (go_at_call 148;refine(Cu _).mono ?_;rintro _ w3 ⟨b',a',c',aD,rfl,K,hR,-⟩;have c3:=(K.w.cell (p:=⟨w.heap.size+1,2+s,none⟩) (block_lt_of_cell cS)).trans cS;have f3:=(K.w.frozen (p:=⟨w.heap.size+1,2+s,none⟩) (block_lt_of_cell cS)).trans fS;have ax:=ix (j.o.next Y (drw wr) K hR);clear K hR)
    all_goals
     clear c3 f3;go_wp2;go_roundw
    all_goals first
     |exact⟨s+1,_,_,by omega,by go_num,ax.o⟩
     |(simp[intOf];omega)
  . have h5:(s:Int)=5:=by omega
    have j:Hid (Pz w wr (w.heap.size+1) r n D 5 col):=ix (by have z:=j.o;rw[show s=5 by omega] at z;exact z)
    rw[h5];clear h5 m Y
    have F0:=ix (show Pf w wr (w.heap.size+1) r C 0 D col from⟨by
     rw[fj,Nat.sub_zero,v.o];exact j.o.done,λt B z=>by
     rw[j.o.emp t B z,fj];unfold inS;rw[show(ke []).length=0 from rfl]
     by_cases I:1<=z
     . rw[ah (show ¬z<=((0:Nat):Int) by omega)];simp
     . rw[ah I];simp,j.o.bl,λk hk=>(j.o.lt k hk).2⟩)
    generalize w.heap.size+1=b at *;clear j;go_wp2_with fail
    go_loopw [28] (λi wr=>∃(k:Nat)(D:Pd)(col:Nat->Nat),k<=n/\i=.int .i64 (k:Int)/\Pf w wr b r C k D col) (λi _=>n-(intOf i).toNat)
    case atStart=>exact⟨0,_,_,by omega,rfl,F0.o⟩
    case round=>
     clear F0;obtain⟨i,D,col,hi,rfl,hf⟩:=hrel;have f:=ix hf;clear hf;by_cases Y:i<n
     . have N:i<C.length:=by rw[v.o];exact Y
       obtain⟨b1,o1,rfl,cA⟩:=(HC.o.keep f.o.bl).at N;have aA:=HH.o (C.getD i 0) (by simp[N])
       obtain⟨c,E⟩:∃c,C.getD i 0=c:=⟨_,rfl⟩;have EC:=ix E;rw[E] at cA aA;clear E;have Z:=al wr (.cells #[.int .i64 c,.bool (decide (0<c))] 179);have X1:=zG wr c (decide (0<c));have F:=f.o.q.keep Z;have aq:=f.o.len (by rw[v.o];exact hi)
       have c1:=F.c1;rw[show(⟨r,ke (C.take i)++List.replicate (C.length-i) Pg.zero,[],0⟩:Po).pg.length=n from aq.trans v.o] at c1
       have az:=F.pgAt (i:=i) (by show i<(ke (C.take i)++List.replicate (C.length-i) Pg.zero).length;rw[aq];exact N)
       obtain⟨W,R⟩:=az;generalize ((⟨r,ke (C.take i)++List.replicate (C.length-i) Pg.zero,[],0⟩:Po).pg.getD i Pg.zero)=xo at W R;have g1:=F.pgf (i*2);have g2:=F.pgf (i*2+1);obtain⟨T,U⟩:=X1;obtain⟨d,l⟩:∃d,wr.alloc (.cells #[.int .i64 c,.bool (decide (0<c))] 179)=d:=⟨_,rfl⟩;rw[l] at c1 W R g1 g2 T U Z F;have ay:d.drew.cell? ⟨b,1,none⟩=_:=c1;have d3:d.drew.cell? ⟨D.g,i*2,none⟩=_:=W;have d4:d.drew.cell? ⟨D.g,i*2+1,none⟩=_:=R;have g3:d.drew.frozen? ⟨D.g,i*2,none⟩=false:=g1;have g4:d.drew.frozen? ⟨D.g,i*2+1,none⟩=false:=g2;have aB:d.drew.cell? ⟨wr.heap.size,0,none⟩=_:=T;have aC:d.drew.cell? ⟨wr.heap.size,1,none⟩=_:=U;have aG:(i:Int)<(n:Int):=by omega
       have hh:=DP F.pgs i (c,decide (0<c));have X:But (λk=>k=D.g) d ((d.setCell ⟨D.g,i*2,none⟩ (.int .i64 c)).setCell ⟨D.g,i*2+1,none⟩ (.bool (decide (0<c)))).drew:=(((But.refl (λk=>k=D.g) d).setCell (p:=⟨D.g,i*2,none⟩) (λ_=>rfl) _).setCell (p:=⟨D.g,i*2+1,none⟩) (λ_=>rfl) _).drew
       have x:=ix (F.page (i+1) (c,decide (0<c)) hh X);have gx:wr.heap.size≠D.g:=λe=>by have:=f.o.q.lt D.g (by rw[f.o.q.cg];decide);omega
       have X2:=ix (show((d.setCell ⟨D.g,i*2,none⟩ (.int .i64 c)).setCell ⟨D.g,i*2+1,none⟩ (.bool (decide (0<c)))).drew.cell? ⟨wr.heap.size,0,none⟩=some (.int .i64 c)/\((d.setCell ⟨D.g,i*2,none⟩ (.int .i64 c)).setCell ⟨D.g,i*2+1,none⟩ (.bool (decide (0<c)))).drew.cell? ⟨wr.heap.size,1,none⟩=some (.bool (decide (0<c))) from
        ⟨(X.cell (p:=⟨wr.heap.size,0,none⟩) (block_lt_of_cell T) gx).trans T,(X.cell (p:=⟨wr.heap.size,1,none⟩) (block_lt_of_cell U) gx).trans U⟩)
       have BW:=ix (show Below w.heap.size w ((d.setCell ⟨D.g,i*2,none⟩ (.int .i64 c)).setCell ⟨D.g,i*2+1,none⟩ (.bool (decide (0<c)))).drew from((But.ofBelow (S:=λ_=>False) (bt f.o.bl Z)).trans X (λk hk e=>by have:=f.o.nw D.g (by rw[f.o.q.cg];decide);rw[e] at hk;omega)).below (λ_ _ h=>h))
       have V:=ix l;clear l hh X F Z;go_wp2_with fail
       rw[V.o];go_region
       all_goals
        generalize ((d.setCell ⟨D.g,i*2,none⟩ (.int .i64 c)).setCell ⟨D.g,i*2+1,none⟩ (.bool (decide (0<c)))).drew=H at *;clear c1 ay W R d3 d4 g1 g2 g3 g4 T U aB aC V;have ST:=ix λ(au:World)=>Gc au (c,decide (0<c))
        obtain⟨t,B⟩:∃t,stt (c,decide (0<c))=t:=⟨_,rfl⟩;have t1:=FM (c,decide (0<c));rw[B] at ST t1;have HT:=ix B;clear B;obtain⟨y0,y1⟩:=X2.o;have z0:H.drew.cell? ⟨wr.heap.size,0,none⟩=_:=y0;have z1:H.drew.cell? ⟨wr.heap.size,1,none⟩=_:=y1;have s1:IntKind.i64.wrap ((i:Int)+1)=(i:Int)+1:=iQ (by omega) (by omega)
        have s2:wrap64 ((i:Int)+1)=(i:Int)+1:=by unfold wrap64;omega
        have AD:=ix λ(A:World)(hb:Below H.heap.size H A)=>xE A (D.s t) (D.a t) (D.c t) (D.L t) ((i:Int)+1) ((i:Int)+1) ((x.o.keep hb).set t (by omega)) (by unfold Nm;omega) (by unfold Nm;omega) (by have:=f.o.few (by rw[v.o];exact y) (s:=t) (by omega);omega)
        have av:=ix (show ∀(A M:World)(J:Option Addr)(P:Nat)(G:List Rn),Below H.heap.size H A->St M (D.s t) J P G->(∀z,has G z=(has (D.L t) z||(decide ((i:Int)+1<=z)&&decide (z<=(i:Int)+1))))->New A (D.a t) J->But (λk=>k=D.s t\/InA (D.a t) k) A M->∃q ac,Pf w M b r C (i+1) q ac from λA M J P G hb hS hH K hB=>by
         have q3:=(x.o.keep hb).oneSet (s:=t) (by omega) hS K hB
         refine⟨{D with a:=upd D.a t J,c:=upd D.c t P,L:=upd D.L t G},lO col A M (3+t),⟨?_,λs m z=>?_,?_,λk hk=>?_⟩⟩
         . have e:(⟨r,ke (C.take i)++List.replicate (C.length-i) Pg.zero,[],0⟩:Po).put (i+1) (c,decide (0<c))=⟨r,ke (C.take (i+1))++List.replicate (C.length-(i+1)) Pg.zero,[],0⟩:=by
            unfold Po.put;simp only[gE];rw[Do N,tg N,EC.o,aR];rfl
           rw[e] at q3;exact q3
         . show has (upd D.L t G s) z=inS (ke (C.take (i+1))) s z;rw[tg N,EC.o,Cb,kH,dm,ee (by omega),HT.o]
           have ez:(decide ((i:Int)+1<=z)&&decide (z<=(i:Int)+1))=decide (z=((i+1:Nat):Int)):=by
            by_cases I:z=((i+1:Nat):Int)
            . rw[ar I,ar (by omega),ar (by omega)];rfl
            . rw[ah I];by_cases h3:(i:Int)+1<=z
              . rw[ah (show ¬z<=(i:Int)+1 by omega),Bool.and_false]
              . rw[ah h3,eQ]
           by_cases ab:s=t
           . subst ab;rw[jF,hH,ez,f.o.m s m];simp
           . rw[kE _ _ ab,f.o.m s m,ah (show ¬t=s from λe=>ab e.symm)];simp
         . refine((But.ofBelow (S:=λ_=>False) (bt BW.o hb)).trans hB (λk hk e=>?_)).below (λ_ _ h=>h)
           rcases e with rfl|⟨aj,hy,rfl⟩
           . have:=f.o.nw _ (show col (D.s t)≠0 by rw[f.o.q.cs t (by omega)];omega);omega
           . have:=f.o.nw _ (show col aj.block≠0 by rw[f.o.q.ca t (by omega) aj hy];omega);omega
         . have sw:=(bt BW.o hb).size;by_cases e:k<A.heap.size
           . rw[nh e] at hk;exact f.o.nw k hk
           . omega)
        have O:=ix (drw H);go_wp2_with fail
        go_region_with (first
         |(go_at_call 165;refine(ST.o _).mono ?_;rintro _ w3 ⟨rfl,ap⟩;have O:=ix (bt O.o ap);have ct:=(x.o.keep O.o).cin (s:=t) (by omega);clear ap)
         |(go_at_call 166;refine(AD.o _ O.o).mono ?_;rintro _ M ⟨rfl,J,P,G,ao,am,-,an,ak⟩;have FF:=ix (av.o _ _ J P G O.o ao am an ak);clear ao am an ak))
       all_goals
        clear ct y0 y1 z0 z1;go_wp2;go_roundw
       all_goals first
        |(obtain⟨q,ac,ff⟩:=FF.o;exact⟨i+1,q,ac,by omega,by go_num,ff⟩)
        |(simp[intOf];omega)
     . obtain rfl:i=n:=by omega
       go_wp2;go_ret;have af:=f.o.q;rw[<-v.o,du,eC,List.replicate_zero,dr] at af;have ad:=f.o.m;rw[<-v.o,du] at ad;refine⟨b,col,rfl,⟨D,af,⟨?_,?_,HR.o.1,HR.o.2,?_,λa ha=>by cases ha⟩,ad⟩,f.o.bl,f.o.nw⟩
       . show 1<=(ke C).length;rw[kH,v.o];exact h1
       . show(ke C).length<=_;rw[kH,v.o];exact y
       . intro aE hx;obtain⟨c,E,rfl⟩:=bE.1 hx;exact HH.o c E
def BY(w w':World)(b:Nat)(P:Po):Prop:=∃col,Pl w' b P col/\Below w.heap.size w w'/\∀k,col k≠0->w.heap.size<=k
theorem Cm{n:Int}:fits n r=true↔(1<=n/\n<=65536)/\2<=r/\r<65536:=by unfold fits;simp[and_assoc]
def j8(r:Int)(C:List Int):Bool:=C.any λc=>decide (c<0)||decide (r<c)
theorem Fx(w:World)(r:Int)(a:Option Addr)(n cap:Nat)(h:fits n r=false):Calls prog 75 #[.int .i64 r,.slice a n cap] w λe b=>e=.returned (.tuple #[.pointer none,.int .i64 1])/\b=w:=by
 have C:=ix (vf w n r);rw[h] at C;clear h;go_enter func75,ntmps75;go_wp2_with fail
 refine C.o.mono ?_;rintro _ d ⟨rfl,c⟩;obtain rfl:=c.symm;go_wp2;go_ret2
 exact⟨rfl,rfl⟩
theorem Cn{C:List Int}:j8 r C=false↔∀c∈C,0<=c/\c<=r:=by
 unfold j8;rw[fb];constructor
 . intro h c a;have:=h c a;simp only[eF,cZ] at this;omega
 . intro h c a;have:=h c a;simp only[eF,cZ];omega
theorem Hf{C:List Int}(h:i<C.length)(hb:C.getD i 0<0\/r<C.getD i 0):j8 r C=true:=by
 unfold j8;rw[fT];refine⟨C.getD i 0,by simp[h],?_⟩
 simp only[eF,cZ];exact hb
theorem Ea(w:World)(r:Int)(a:Option Addr)(n cap:Nat)(C:List Int)(G:Ir w a C)(M:n=C.length)(h:fits n r=true):Calls prog 75 #[.int .i64 r,.slice a n cap] w λe N=>
 (j8 r C=true/\e=.returned (.tuple #[.pointer none,.int .i64 13])/\N=w)\/(j8 r C=false/\∃b,e=.returned (.tuple #[.pointer (some ⟨b,0,none⟩),.int .i64 0])/\BY w N b (Po.start r C)):=by
 have q:=ix (vf w n r);rw[h] at q;obtain⟨⟨h1,h2⟩,B⟩:=Cm.1 h;have d:=ix M;have v:=ix G;have R:=ix B;clear h M G B;go_enter func75,ntmps75;go_wp2_with fail
 refine q.o.mono ?_;rintro _ wq ⟨rfl,X⟩;obtain rfl:=X.symm;go_wp2_with fail
 go_loopw [15] (λi wr=>∃k:Nat,k<=n/\i=.int .i64 (k:Int)/\(∀c∈C.take k,0<=c/\c<=r)/\wr=w) (λi _=>n-(intOf i).toNat)
 case atStart=>exact⟨0,an _,rfl,by simp,rfl⟩
 case round=>
  obtain⟨i,hi,rfl,K,Y⟩:=hrel;obtain rfl:=Y.symm;have y:=ix K;clear K;by_cases W:i<n
  . have m:i<C.length:=by rw[<-d.o];exact W
    obtain⟨Z,o1,rfl,S⟩:=v.o.at m;have f:=ix (Hf (r:=r) m);have A:=ix (lu C 0 m);obtain⟨c,J⟩:∃c,C.getD i 0=c:=⟨_,rfl⟩;rw[J] at S f A;have aa:(i:Int)<(n:Int):=by omega
    clear J;by_cases j:c<0
    . have T:decide (c<0)=true:=ar j;go_wp2;go_ret2
      exact .inl ⟨f.o (.inl j),rfl,rfl⟩
    . have T:decide (c<0)=false:=ah j;by_cases l:r<c
      . have U:decide (r<c)=true:=ar l;go_wp2;go_ret2
        exact .inl ⟨f.o (.inr l),rfl,rfl⟩
      . have U:decide (r<c)=false:=ah l;go_wp2;go_roundw
        case rel=>exact⟨i+1,by omega,by go_num,λx hx=>by
         rw[A.o] at hx;rcases bO.1 hx with hx|hx
         . exact y.o x hx
         . obtain rfl:=aZ.1 hx;omega,by trivial⟩
        case measure=>simp[intOf];omega
  . obtain rfl:i=n:=by omega
    have p:∀c∈C,0<=c/\c<=r:=by have t:=y.o;rwa [d.o,du] at t
    have F:=ix (yR w r a cap C v.o (by rw[<-d.o];omega) (by rw[<-d.o];omega) R.o p)
    rw[<-d.o] at F;have O:=ix (Cn.2 p);clear p;go_wp2_with fail
    refine F.o.mono ?_;rintro _ V ⟨b,col,rfl,I,E,H⟩;have P:=ix (show BY w V b (Po.start r C) from⟨col,I,E,H⟩)
    clear I E H;go_wp2;go_ret2
    exact .inr ⟨O.o,b,rfl,P.o⟩
def Po.counts(P:Po):List Int:=P.pg.map Prod.fst
def Po.pages(P:Po)(z:Int):List Int:=if 1<=z/\z<=4 then j7 P.pg z.toNat else []
theorem zL(w:World)(b:Nat)(P:Po)(col:Nat->Nat)(h:Pl w b P col)(z:Int):Calls prog 77 #[.pointer (some ⟨b,0,none⟩),.int .i64 z] w λe p=>e=.returned (.int .i64 (((P.pages z).length:Nat):Int))/\Below w.heap.size w p:=by
 obtain⟨D,h⟩:=h;have C:=ix (wR w z);unfold Po.pages;by_cases c:1<=z/\z<=4
 . rw[if_pos c];rw[ar c.1,ar c.2] at C;obtain⟨s,rfl⟩:∃s:Nat,z=(s:Int):=⟨z.toNat,by omega⟩
   rw[e8];have t:=h.q.cin (s:=s) (by omega)
   have j:=zg (h.q.set s (by omega)).can (h.mem s (by omega))
   have f:=ix (Fn w (D.s s) (D.a s) (D.c s) (D.L s) (h.q.set s (by omega)))
   have l:=xh P.pg s;have:=h.ok.l2;rw[<-uu,j,ee (by unfold mxi;omega)] at f
   clear h j l this;generalize (j7 P.pg s).length=m at *;simp only[Bool.and_self] at C;go_enter func77,ntmps77;go_wp2_with fail
   refine C.o.mono ?_;rintro _ q ⟨rfl,d⟩;obtain rfl:=d.symm;go_wp2_with fail
   refine f.o.mono ?_;rintro _ v ⟨rfl,hb⟩;have k:=ix hb;clear hb;go_wp2;go_ret;exact⟨rfl,k.o⟩
 . rw[if_neg c]
   have e:(decide (1<=z)&&decide (z<=4))=false:=by
    by_cases a:1<=z
    . rw[ah (show ¬z<=4 by omega)];simp
    . rw[ah a];simp
   rw[e] at C;clear h c e;go_enter func77,ntmps77;go_wp2_with fail
   refine C.o.mono ?_;rintro _ q ⟨rfl,d⟩;obtain rfl:=d.symm;go_wp2;go_ret;exact⟨rfl,Below.refl _ _⟩
theorem C8(w:World)(b:Nat)(P:Po)(col:Nat->Nat)(h:Pl w b P col)(z:Int):Calls prog 138 #[.pointer (some ⟨b,0,none⟩),.int .i64 z] w λe a=>e=.returned (.int .i64 (P.count z))/\a=w:=by
 obtain⟨D,h⟩:=h;exact Bv w b P D col h.q h.ok.l2 z
end Go.Proofs.YteaogidofpfmmaaGreat.Q
namespace Go.Proofs.YteaogidofpfmmaaGreat
open Tryz
open Go.RowKit
variable {fl:Nat}{col pc:Nat->Nat}{C S:Nat->Prop}{p:Pv}{P:Q.Po}{w w':World}
def Pz(C:Nat->Prop)(w:World)(p:Pv):Prop:=∀w',But (λk=>¬C k) w w'->Pi w' p
theorem Pz.pi(h:Pz C w p):Pi w p:=h w (But.refl _ _)
theorem Pz.but(h:Pz C w p)(hb:But S w w')(b:∀k,k<w.heap.size->C k->¬S k):Pz C w' p:=λv d=>
 h v ((hb.mono (T:=λk=>¬C k) λk hk c a=>b k hk a c).trans d λ_ _ e=>e)
theorem Pz.keep(h:Pz C w p)(hb:Below w.heap.size w w'):Pz C w' p:=h.but (S:=λ_=>False) (But.ofBelow hb) (λ_ _ _ h=>h)
theorem Pz.mono{a:Nat->Prop}(h:Pz C w p)(b:∀k,k<w.heap.size->C k->a k):Pz a w p:=λv d=>h v (d.mono λk hk c e=>c (b k hk e))
theorem Pz.zero(C:Nat->Prop)(w:World):Pz C w Pv.zero:=λv _=>Pi.zero v
structure Vd where
 pb:Nat
 mb:Nat
 f:Int->Option Pv
 ac:Option Addr
 cc:Nat
 ch:List (Int×Pv)
 aa:Option Addr
 ca:Nat
 al:List (Nat×Nat)
def Hi(fl:Nat)(D:Vd):Array Value:=#[.pointer (some ⟨D.pb,0,none⟩),.map (some D.mb),.slice D.ac D.ch.length D.cc,.slice D.aa D.al.length D.ca,.int .i64 ((fl:Nat):Int)]
def chc(L:List (Int×Pv)):List Value:=(L.map λx=>Value.int .i64 x.1::x.2.cs.toList).flatten
def plc(L:List (Nat×Nat)):List Value:=(L.map λx=>[Value.int .i64 ((x.1:Nat):Int),Value.int .i64 ((x.2:Nat):Int)]).flatten
structure Vq(w:World)(b:Nat)(P:Q.Po)(fl:Nat)(D:Vd)(pc col:Nat->Nat):Prop where
 box:w.heap[b]?=some (.cells (Hi fl D) 117 (0,0))
 mp:Mp w D.mb (λk=>(D.f k).map Pv.vl)
 chr:Q.Gw 195 6 w D.ac D.cc D.ch.length (chc D.ch)
 acr:Q.Gw 126 2 w D.aa D.ca D.al.length (plc D.al)
 pool:Q.Pl w D.pb P pc
 fz:∀k p,D.f k=some p->Pz (λk=>col k=6) w p
 cz:∀x∈D.ch,Pz (λk=>col k=6) w x.2
 cb:col b=1
 cm:col D.mb=2
 cc:∀x,D.ac=some x->col x.block=3
 ca:∀x,D.aa=some x->col x.block=4
 cp:∀k,pc k≠0->col k=5
 lt:∀k,col k≠0->k<w.heap.size
theorem Vq.but{b:Nat}{D:Vd}(h:Vq w b P fl D pc col)(hb:But S w w')(f:∀k,col k≠0->¬S k):Vq w' b P fl D pc col:=by
 have a:∀{k c:Nat},col k=c+1->¬S k:=λe=>f _ (by omega)
 exact⟨hb.same h.box (a (c:=0) h.cb),h.mp.but hb (a (c:=1) h.cm),h.chr.but hb (λx d=>a (c:=2) (h.cc x d)),h.acr.but hb (λx d=>a (c:=3) (h.ca x d)),h.pool.but hb (λk hk=>a (c:=4) (h.cp k hk)),λk p g=>(h.fz k p g).but hb (λk _ e=>a (c:=5) e),λx d=>(h.cz x d).but hb (λk _ e=>a (c:=5) e),h.cb,h.cm,h.cc,h.ca,h.cp,λk hk=>a6 (h.lt k hk) hb.size⟩
theorem Vq.keep{b:Nat}{D:Vd}(h:Vq w b P fl D pc col)(hb:Below w.heap.size w w'):Vq w' b P fl D pc col:=h.but (S:=λ_=>False) (But.ofBelow hb) (λ_ _ h=>h)
theorem Vq.lb{b:Nat}{D:Vd}(h:Vq w b P fl D pc col):b<w.heap.size:=(ae.1 h.box).1
theorem Vq.cells{b:Nat}{D:Vd}(h:Vq w b P fl D pc col):w.cell? ⟨b,0,none⟩=some (.pointer (some ⟨D.pb,0,none⟩))/\w.cell? ⟨b,1,none⟩=some (.map (some D.mb))/\w.cell? ⟨b,2,none⟩=some (.slice D.ac D.ch.length D.cc)/\w.cell? ⟨b,3,none⟩=some (.slice D.aa D.al.length D.ca)/\w.cell? ⟨b,4,none⟩=some (.int .i64 ((fl:Nat):Int)):=by
 rw[ai _ _ _ _ _ _ h.box,ai _ _ _ _ _ _ h.box,ai _ _ _ _ _ _ h.box,ai _ _ _ _ _ _ h.box,ai _ _ _ _ _ _ h.box];exact⟨rfl,rfl,rfl,rfl,rfl⟩
structure Vf(w:World)(col:Nat->Nat)(w':World)(col':Nat->Nat):Prop where
 b:But (λk=>1<=col k/\col k<=5) w w'
 c:∀k,k<w.heap.size->col' k=col k
theorem Vf.trans{d e:World}{c c1 c2:Nat->Nat}(h:Vf w c d c1)(k:Vf d c1 e c2):Vf w c e c2:=
 ⟨h.b.trans k.b (λx a b=>by rw[h.c x a] at b;exact b),λx a=>(k.c x (a6 a h.b.size)).trans (h.c x a)⟩
theorem Vf.keep{c:Nat->Nat}(h:Below w.heap.size w w'):Vf w c w' c:=⟨But.ofBelow h,λ_ _=>rfl⟩
def kM(col:Nat->Nat)(w w':World)(c k:Nat):Nat:=if k<w.heap.size then col k else if k<w'.heap.size then c else 0
theorem th{c k:Nat}(h:k<w.heap.size):kM col w w' c k=col k:=if_pos h
theorem tG{c k:Nat}(h:w.heap.size<=k)(a:k<w'.heap.size):kM col w w' c k=c:=by unfold kM;rw[if_neg (by omega),if_pos a]
theorem DV{c k:Nat}(a:w.heap.size<=w'.heap.size)(h:kM col w w' c k≠0):k<w'.heap.size:=by
 unfold kM at h;split at h
 . omega
 . split at h
   . assumption
   . exact absurd rfl h
theorem wV(w:World)(b:Nat)(P:Q.Po)(fl:Nat)(D:Vd)(pc col:Nat->Nat)(h:Vq w b P fl D pc col)(n:Int):
 Calls prog 93 #[.pointer (some ⟨b,0,none⟩),.int .i64 n] w λe w'=>e=.returned (.bool (decide (0<P.count n)))/\w'=w:=by
 obtain⟨c0,-,-,-,-⟩:=h.cells;have a:=ix (Q.C8 w D.pb P pc h.pool n);clear h;generalize P.count n=c at *;go_enter func93,ntmps93;go_wp2_with fail
 refine a.o.mono ?_;rintro _ f ⟨rfl,d⟩;obtain rfl:=d.symm;go_wp2;go_ret;exact⟨rfl,rfl⟩
theorem Vq.mapped{b:Nat}{D:Vd}(h:Vq w b P fl D pc col){f':Int->Option Pv}(d:Mp w' D.mb (λk=>(f' k).map Pv.vl))(hb:But (λk=>k=D.mb) w w')(i:∀k p,f' k=some p->Pz (λk=>col k=6) w p):Vq w' b P fl {D with f:=f'} pc col:=by
 have ne:∀{k:Nat},col k≠2->¬(k=D.mb):=λc e=>c (by rw[e];exact h.cm)
 exact⟨hb.same h.box (ne (by rw[h.cb];decide)),d,h.chr.but hb (λx a=>ne (by rw[h.cc x a];decide)),h.acr.but hb (λx a=>ne (by rw[h.ca x a];decide)),h.pool.but hb (λk hk=>ne (by rw[h.cp k hk];decide)),λk p g=>(i k p g).but hb (λk _ e=>ne (by omega)),λx a=>(h.cz x a).but hb (λk _ e=>ne (by omega)),h.cb,h.cm,h.cc,h.ca,h.cp,λk hk=>a6 (h.lt k hk) hb.size⟩
theorem sj:prog.underlying 113=some (.map 3 77):=underlying113
theorem wz:prog.underlying 3=some (.int .i64):=underlying3
def ui(D:Vd)(n:Int):Pv:=(D.f n).getD Pv.zero
theorem EH{w:World}{b:Nat}{P:Q.Po}{fl:Nat}{D:Vd}{pc col:Nat->Nat}(h:Vq w b P fl D pc col)(n:Int):Pz (λk=>col k=6) w (ui D n):=by
 unfold ui;cases e:D.f n with
 |none=>exact Pz.zero _ _
 |some p=>exact h.fz n p e
theorem Ey{w:World}{b:Nat}{P:Q.Po}{fl:Nat}{D:Vd}{pc col:Nat->Nat}(h:Vq w b P fl D pc col)(n:Int):(Instr.lookup 113 (.map (some D.mb)) (.int .i64 n) false).run prog w=.ok (ui D n).vl w:=by
 have k:=h.mp.look (P:=prog) sj wz (Pv.zero).vl (zeroValue77 w) n false;rw[k];unfold ui;cases e:D.f n with
 |none=>simp
 |some p=>simp
theorem jk{W:World}{g:Nat}{v0 a b v3 v4:Value}{t:TypeId}(h:W.heap[g]?=some (.cells #[v0,a,b,v3,v4] t (0,0))):W.cell? ⟨g,0,none⟩=some v0/\W.cell? ⟨g,1,none⟩=some a/\W.cell? ⟨g,2,none⟩=some b/\W.cell? ⟨g,3,none⟩=some v3/\W.cell? ⟨g,4,none⟩=some v4:=by
 rw[ai _ _ _ _ _ _ h,ai _ _ _ _ _ _ h,ai _ _ _ _ _ _ h,ai _ _ _ _ _ _ h,ai _ _ _ _ _ _ h];exact⟨rfl,rfl,rfl,rfl,rfl⟩
theorem xf(w:World)(g:Nat)(cs:Array Value):But (λk=>k=g) w (w.setRow g cs):=Q.iD w g cs
end Go.Proofs.YteaogidofpfmmaaGreat
