import Derived.Test.YteaogidofpfmmaaGreatWaB9
set_option linter.all false
set_option maxHeartbeats 8000000
set_option maxRecDepth 8000
namespace Go.Proofs.YteaogidofpfmmaaGreat
open Go.Proofs.Tryz
open Go.RowKit
variable {rd:Int->Option Pg}{a b:List Nat}{S X:Nat->Prop}{v:Value}{w w':World}
def i9(f:FuncId)(v:Value)(rd:Int->Option Pg)(X:Nat->Prop)(w:World):Prop:=∀W,But (λk=>¬X k) w W->∀z:Int,Calls prog f #[v,.int .i64 z] W λx w'=>∃q:Pv,x=.returned (.tuple #[q.vl,.int .i64 (if (rd z).isSome=true then 0 else 15)])/\Pn W w' q/\q.pg=(rd z).getD Pv.zero.pg/\Below W.heap.size W w'
theorem i9.but{f:FuncId}(h:i9 f v rd X w)(hb:But S w w')(c:∀k,S k->¬X k):i9 f v rd X w':=λW d z=>h W ((hb.mono (T:=λk=>¬X k) λk _ e=>c k e).trans d λ_ _ e=>e) z
theorem i9.keep{f:FuncId}(h:i9 f v rd X w)(hb:Below w.heap.size w w'):i9 f v rd X w':=h.but (S:=λ_=>False) (But.ofBelow hb) (λ_ e=>e.elim)
theorem jR{P:Program}{e:Func}{p q:Tmp}{c:TypeId}(h:e.results=#[.cell p c,.tmp q])(tmps:Array Value)(w:World)(g:Nat)(t:TypeId)(cs:Array Value)(fr:Nat×Nat)(d:TypeDesc)
 (j:tmps.getD p undef=.pointer (some ⟨g,0,none⟩)) (i:w.heap[g]?=some (.cells cs t fr))
 (k:P.underlying c=some d) (f:(match d with| .struct _| .array _ _=>true|_=>false)=true) (hi:(P.info? c).map (·.size)=some cs.size):
 (results e tmps).run P w=.ok (.tuple #[.agg cs,tmps.getD q undef]) w:=by
 have l:tmps[p]?.getD undef=.pointer (some ⟨g,0,none⟩):=by simpa using j
 simp[results,h,l,asAddr,fE w g t c cs fr d i k f hi]
theorem tM(w:World)(a:Addr)(rd:Int->Option Pg)(X:Nat->Prop)(j:i9 52 (.pointer (some a)) rd X w):i9 79 (.pointer (some a)) rd X w:=λW l z=>by
 have g:=al W (.cells Pv.zero.cs 77);have d:=ix (ag W (.cells Pv.zero.cs 77));have c:=ix g;have f:=ix (j _ (l.andBelow g) z);clear j l g;generalize (rd z).getD Pv.zero.pg=pg at *;generalize (if (rd z).isSome=true then (0:Int) else 15)=r at*
 simp only[Pv.cs] at d c f;simp only[Pv.zero,bg] at d c f;go_enter func79,ntmps79;go_wp2_with fail
 refine f.o.mono ?_;rintro _ s ⟨q,rfl,i,p,hb⟩;have n:=ix (i.pre c.o.size);have m:=ix (bt c.o hb);have h:=ix ((hb.block W.heap.size (ae.1 d.o).1).trans d.o);clear i hb f;unfold Pv.vl;go_wp2_with (first|(refine bz rfl 77 _ _ rfl W.heap.size _ rfl rfl 77 _ h.o iV rfl (by simp[Value.oneCell',Pv.cs]) ?_)|fail)
 refine az (v:=.tuple #[.agg _,_]) (jR results79 _ _ W.heap.size 77 _ (0,0) _ rfl (bu _ _ _ _ _ _ h.o) underlying77 rfl iV) rfl ?_;exact⟨q,rfl,n.o.row h.o (by decide) (by decide) _,p,((But.ofBelow (S:=λk=>k=W.heap.size) m.o).trans (Q.iD _ _ _) (λ_ _ e=>e)).below (λk hk e=>by omega)⟩
theorem Pn.old{v g i:World}{P:Pv}(h:Pn v g P)(hb:But S g i)(j:∀k,S k->k<v.heap.size):Pn v i P:=by
 have f:∀{a:Option Addr},New v none a->∀x,a=some x->¬S x.block:=λl x m e=>by
  rcases l x m with⟨z,hz,_⟩|h2
  . cases hz
  . have:=j _ e;omega
 exact {h with it:=h.it.but hb (f h.itn),d:=h.d.but hb (f h.dn),fr:=λt c=>⟨(h.fr t c).1.but hb (f (h.fr t c).2.1),(h.fr t c).2⟩}
def gnf(G:List Int):Int->Option Value:=λk=>if k∈G then some (.agg #[]) else none
theorem Fp(G:List Int)(n:Int):∀k,gnf (n::G) k=mc (gnf G) n (.agg #[]) k:=λk=>by
 unfold gnf mc;by_cases h:k=n<;>simp[h]
theorem yh:prog.underlying 141=some (.map 3 232):=by kernel_rfl
theorem vX:prog.underlying 3=some (.int .i64):=by kernel_rfl
def Entd(w w':World)(e:Ending)(rd:Int->Option Pg)(mb:Nat)(G:List Int)(n:Int):Prop:=
 (e=.returned (.tuple #[Pv.zero.vl,.int .i64 15])/\(rd n=none\/n∈G)/\Below w.heap.size w w')\/
 ∃q:Pv,rd n=some q.pg/\n∉G/\e=.returned (.tuple #[q.vl,.int .i64 0])/\Pn w w' q/\But (λk=>k=mb) w w'/\Mp w' mb (gnf (n::G))
theorem vB(w:World)(p:Pv)(d:Int):Calls prog 80 #[p.vl,.int .i64 d] w λe w'=>e=.returned (.bool (lvl p.pg d))/\Below w.heap.size w w':=by
 have f:=ix (al w (.cells p.cs 77));have i:=ag w (.cells p.cs 77);obtain⟨kind,h,k,m,L,j,l,n,next⟩:=p
 unfold Pv.vl lvl Pv.pg;simp only[Pv.cs] at *;by_cases c:kind=3
 . subst c;go_enter func80,ntmps80;go_wp2
   all_goals
    go_ret;exact⟨by simp,f.o⟩
 . go_enter func80,ntmps80;go_wp2
   all_goals
    go_ret
    exact⟨by have hb:(kind != 3)=true:=by simpa using c
             by_cases g:h=d<;>simp[c,g,hb],f.o⟩
theorem Ai{P:Program}{e:Func}{p:Tmp}{c:TypeId}(h:e.results=#[.cell p c])(tmps:Array Value)(w:World)(g:Nat)(t:TypeId)(cs:Array Value)(fr:Nat×Nat)(d:TypeDesc)
 (j:tmps.getD p undef=.pointer (some ⟨g,0,none⟩)) (i:w.heap[g]?=some (.cells cs t fr))
 (k:P.underlying c=some d) (f:(match d with| .struct _| .array _ _=>true|_=>false)=true) (hi:(P.info? c).map (·.size)=some cs.size):
 (results e tmps).run P w=.ok (.agg cs) w:=by
 have l:tmps[p]?.getD undef=.pointer (some ⟨g,0,none⟩):=by simpa using j
 simp[results,h,l,asAddr,fE w g t c cs fr d i k f hi]
theorem rp(w:World)(n h i:Int)(f:1<=h)(g:h<=12):Calls prog 71 #[.agg #[.int .i64 n,.int .i64 h,.int .i64 i]] w λe w'=>e=.returned (.agg #[.int .i64 n,.int .i64 (h-1),.slice none 0 0,.slice none 0 0,.bool true])/\Below w.heap.size w w':=by
 have j:wrap64 (h-1)=h-1:=by unfold wrap64;omega
 have d:=ix (bt (al w (.cells #[.int .i64 n,.int .i64 h,.int .i64 i] 34)) (al (w.alloc (.cells #[.int .i64 n,.int .i64 h,.int .i64 i] 34)) (.cells #[.int .i64 n,.int .i64 (h-1),.slice none 0 0,.slice none 0 0,.bool true] 148)));have c:=ix (ag (w.alloc (.cells #[.int .i64 n,.int .i64 h,.int .i64 i] 34)) (.cells #[.int .i64 n,.int .i64 (h-1),.slice none 0 0,.slice none 0 0,.bool true] 148));rw[size_alloc] at c;go_enter func71,ntmps71;go_wp2;refine az (Ai results71 _ _ (w.heap.size+1) 148 _ (0,0) _ rfl c.o underlying148 rfl EF) rfl ?_;exact⟨rfl,d.o⟩
theorem pk(w:World)(c:Nat)(p:Plv):Calls prog 70 #[.pointer (some ⟨c,0,none⟩),p.vl] w λe w'=>e=.returned (.func (.func 116) #[] #[.pointer (some ⟨w.heap.size,0,none⟩),.pointer (some ⟨w.heap.size+1,0,none⟩)])/\w'=(w.alloc (.cells #[.pointer (some ⟨c,0,none⟩)] 198)).alloc (.cells p.cs 148):=by
 unfold Plv.vl;simp only[Plv.cs];go_enter func70,ntmps70;go_wp2;go_ret;exact⟨rfl,rfl⟩
def pE(b mb:Nat)(wf:Value)(o:Bool):Array Value:=#[.pointer (some ⟨b,0,none⟩),.map (some mb),wf,.int .i64 (if o=true then 0 else 1)]
theorem tx(w:World)(x c b:Nat)(wf:Value)(o:Bool)(rd:Int->Option Pg)(X:Nat->Prop)(G:List Int)(n:Int)(Z:w.heap[x]?=some (.cells (pE b c wf o) 143 (0,0)))(V:Mp w c (gnf G))(Y:i9 52 (.pointer (some ⟨b,0,none⟩)) rd X w):
 Calls prog 117 #[.pointer (some ⟨x,0,none⟩),.int .i64 n] w λe w'=>Entd w w' e rd c G n:=by
 have t:=ix (al w (.cells Pv.zero.cs 77));have E:=ix (ag w (.cells Pv.zero.cs 77));have D:=ix (tM w ⟨b,0,none⟩ rd X Y _ (But.ofBelow t.o) n);obtain⟨F,t1,t2,t3⟩:=jJ (show w.heap[x]?=some (.cells #[.pointer (some ⟨b,0,none⟩),.map (some c),wf,.int .i64 (if o=true then 0 else 1)] 143 (0,0)) from Z)
 have u0:=(t.o.cell (p:=⟨x,0,none⟩) (block_lt_of_cell F)).trans F;have O:=ix t1;have K:=ix V;have ac:=block_lt_of_cell F;clear Z V Y F t1 t2 t3;simp only[Pv.cs] at t E D u0;simp only[Pv.zero,bg] at t E D u0;go_enter func117,ntmps117;go_wp2_with fail
 refine D.o.mono ?_;rintro _ d ⟨af,rfl,W,q,hb⟩;have HP:=ix (W.pre t.o.size);have HB:=ix (bt t.o hb);have aa:=ix ((hb.block w.heap.size (ae.1 E.o).1).trans E.o);have HG:=ix q;clear W hb D q u0;obtain⟨l,m,f,g,j,r,s,i,nq⟩:=af;unfold Pv.vl;simp only[Pv.cs];have I:=ix (al d (.cells #[.int .i64 l,.int .i64 m,.slice f j.length g,.slice r i.length s,.int .i64 nq] 77));have T:=ix (ag d (.cells #[.int .i64 l,.int .i64 m,.slice f j.length g,.slice r i.length s,.int .i64 nq] 77));have J:=ix (bt HB.o I.o);have v1:=(J.o.cell (p:=⟨x,1,none⟩) ac).trans O.o;have L:=(K.o.keep J.o).look (P:=prog) yh vX (.agg #[]) (zeroValue232 (d.alloc (.cells #[.int .i64 l,.int .i64 m,.slice f j.length g,.slice r i.length s,.int .i64 nq] 77))) n true;have N:(gnf G n).getD (.agg #[])=.agg #[]/\(gnf G n).isSome=decide (n∈G):=by unfold gnf;by_cases ad:n∈G<;>simp[ad]
 rw[N.1,N.2,if_pos rfl] at L;have C:=ix (al (d.alloc (.cells #[.int .i64 l,.int .i64 m,.slice f j.length g,.slice r i.length s,.int .i64 nq] 77)) (.cells #[] 232));have y:=ix (bt J.o C.o);have am:=(y.o.cell (p:=⟨x,1,none⟩) ac).trans O.o;have ai:w.heap.size<d.heap.size:=(ae.1 aa.o).1;have U:=ix ((C.o.block d.heap.size (ae.1 T.o).1).trans T.o);have A:=ix ((bt I.o C.o).block w.heap.size ai |>.trans aa.o)
 clear N;by_cases H:n∈G
 . rw[ar H] at L;generalize (if (rd n).isSome=true then (0:Int) else 15)=er
   go_wp2_with (first|(refine bz rfl 77 _ _ rfl w.heap.size _ rfl rfl 77 _ A.o iV rfl (by simp[Value.oneCell']) ?_)|fail)
   refine az (v:=.tuple #[.agg _,_]) (jR results117 _ _ w.heap.size 77 _ (0,0) _ rfl (bu _ _ _ _ _ _ A.o) underlying77 rfl iV) rfl ?_;exact .inl ⟨rfl,.inr H,((But.ofBelow (S:=λk=>k=w.heap.size) y.o).trans (Q.iD _ _ _) (λ_ _ e=>e)).below (λk hk e=>by omega)⟩
 . rw[ah H] at L;cases hrd:(rd n).isSome with
   |false=>
    rw[if_neg (show ¬(false=true) by decide)]
    go_wp2_with (first|(refine bz rfl 77 _ _ rfl w.heap.size _ rfl rfl 77 _ A.o iV rfl (by simp[Value.oneCell']) ?_)|fail)
    refine az (v:=.tuple #[.agg _,_]) (jR results117 _ _ w.heap.size 77 _ (0,0) _ rfl (bu _ _ _ _ _ _ A.o) underlying77 rfl iV) rfl ?_;exact .inl ⟨rfl,.inl (by simpa using hrd),((But.ofBelow (S:=λk=>k=w.heap.size) y.o).trans (Q.iD _ _ _) (λ_ _ e=>e)).below (λk hk e=>by omega)⟩
   |true=>
    rw[if_pos rfl];obtain⟨pg,ab⟩:=Option.isSome_iff_exists.1 hrd;have gq:Pv.pg ⟨l,m,f,g,j,r,s,i,nq⟩=pg:=by rw[HG.o,ab];rfl
    obtain⟨R,ak,h,B,s5⟩:=(K.o.keep y.o).store (P:=prog) yh vX n (.agg #[]);have aj:=K.o.lt;have l2:d.heap.size<((d.alloc (.cells #[.int .i64 l,.int .i64 m,.slice f j.length g,.slice r i.length s,.int .i64 nq] 77)).alloc (.cells #[] 232)).heap.size:=(ae.1 U.o).1;obtain⟨p0,p1,p2,p3,p4⟩:=i6 (B.same U.o (λe=>by have e:d.heap.size=c:=e;omega))
    have M:=ix (B.same A.o (λe=>by have e:w.heap.size=c:=e;omega))
    have M5:=ix (h.congr (Fp G n));have B5:=ix (show But (λk=>k=c) w R from(But.ofBelow (S:=λk=>k=c) y.o).trans B (λ_ _ e=>e))
    have P5:=ix ((HP.o.keep (bt I.o C.o)).old B (λk e=>by have e:k=c:=e;omega))
    clear h B s5 hrd;go_wp2_with (first|(refine bz rfl 77 _ _ rfl w.heap.size _ rfl rfl 77 _ M.o iV rfl (by simp[Value.oneCell']) ?_)|fail)
    refine az (v:=.tuple #[.agg _,_]) (jR results117 _ _ w.heap.size 77 _ (0,0) _ rfl (bu _ _ _ _ _ _ M.o) underlying77 rfl iV) rfl ?_;have rb:=Q.iD R w.heap.size #[.int .i64 l,.int .i64 m,.slice f j.length g,.slice r i.length s,.int .i64 nq];exact .inr ⟨⟨l,m,f,g,j,r,s,i,nq⟩,by rw[gq];exact ab,H,rfl,P5.o.row M.o (by decide) (by decide) _,(B5.o.trans rb (λk hk e=>by have e:k=w.heap.size:=e;omega)),M5.o.but rb (λe=>by have e:c=w.heap.size:=e;omega)⟩
theorem Gu(h:a<b):iy a b= -1:=Fu.2 h
theorem GR(h:b<a):iy a b=1:=Fo.2 h
theorem Gt(c:¬a<b)(d:¬b<a):iy a b=0:=by rw[mf,if_neg c,if_neg d]
theorem Da(c:¬a<b)(d:¬b<a):a=b:=by grind
theorem Am{W:World}{b:Nat}{t:TypeId}{v0 c d v3 v4:Value}(h:W.heap[b]?=some (.cells #[v0,c,d,v3,v4] t (0,0))):W.cell? ⟨b,0,none⟩=some v0/\W.cell? ⟨b,1,none⟩=some c/\W.cell? ⟨b,2,none⟩=some d/\W.cell? ⟨b,3,none⟩=some v3/\W.cell? ⟨b,4,none⟩=some v4:=by
 refine⟨?_,?_,?_,?_,?_⟩<;>(rw[ai _ _ _ _ _ _ h];rfl)
theorem Js.drop{b c:Nat}{L:List Iv}(h:Js w (some ⟨b,c,none⟩) L)(n:Nat):Js w (some ⟨b,c+n*4,none⟩) (L.drop n):=by
 refine⟨λr d=>h.1 r (List.mem_of_mem_drop d),ay (by rw[dv];omega) h.2.1,?_⟩
 rcases h.2.2 with rfl|⟨i,j,e,g⟩
 . exact .inl (by simp)
 . cases e;refine .inr ⟨b,c+n*4,rfl,λr d=>?_⟩
   rw[dv] at d;have:=g (n+r) (by omega)
   have f:(L.drop n).getD r Iv.zero=L.getD (n+r) Iv.zero:=by simp
   rw[f,show c+n*4+r*4=c+(n+r)*4 by omega]
   exact this
theorem Js.nil(w:World)(a:Option Addr):Js w a []:=⟨λ_ h=>(cf h).elim,an _,.inl rfl⟩
theorem mG(w:World)(p:Pv)(J:Option Addr)(ck:Nat)(k:List Nat)(K:Pi w p)(hB:Bs w J k):
 Calls prog 43 #[p.vl,.slice J k.length ck] w λe w'=>e=.returned (.tuple #[.int .i64 ((jy k p.pg.items:Nat):Int),.bool (lN k p.pg.items)])/\Below w.heap.size w w':=by
 obtain⟨kind,H,C,E,L,B,D,G,next⟩:=p
 have Y:=ix K.it;have hL:=K.it.2.1;have BB:=ix hB;have W:=ix λ(j:Nat)(h1:j<=L.length)(h2:∀i,i<j->(L.getD i Iv.zero).key<k)(h3:j=L.length\/¬(L.getD j Iv.zero).key<k)=>xq k (L.map Iv.it) j (by simpa using h1) (λi F=>by rw[js];exact h2 i F) (h3.imp (λe=>by simpa using e) (λe=>by rw[js];exact e))
 unfold Pv.vl Pv.pg;simp only[Pv.cs] at *;have V:=ix (al w (.cells #[.int .i64 kind,.int .i64 H,.slice C L.length E,.slice B G.length D,.int .i64 next] 77))
 have Z:=ix (bj w (.cells #[.int .i64 kind,.int .i64 H,.slice C L.length E,.slice B G.length D,.int .i64 next] 77))
 obtain⟨n,N⟩:∃n,L.length=n:=⟨_,rfl⟩;have t:=ix N;have KL:=ix λ(ad:List Nat->Int->Prop)=>(True.intro)
 rw[N] at hL V Z ⊢;clear K hB N KL;go_enter func43,ntmps43;go_wp2;generalize (w.alloc (.cells #[.int .i64 kind,.int .i64 H,.slice C n E,.slice B G.length D,.int .i64 next] 77))=w1 at*
 go_loopw [12] (λi wr=>∃j:Nat,j<=n/\i=.int .i64 (j:Int)/\(∀i,i<j->(L.getD i Iv.zero).key<k)/\Below w.heap.size w wr/\wr.heap[w.heap.size]?=some (.cells #[.int .i64 kind,.int .i64 H,.slice C n E,.slice B G.length D,.int .i64 next] 77 (0,0))) (λi _=>n-(intOf i).toNat)
 case atStart=>exact⟨0,an _,rfl,λi F=>absurd F (dA _),V.o,Z.o⟩
 case round=>
  obtain⟨j,hj,rfl,M,hb,s⟩:=hrel;have I:=ix M;have B1:=ix hb;have X1:=ix s;by_cases ac:j<n
  . have ae:(j:Int)<(n:Int):=by omega
    have U:j<L.length:=by rw[t.o];exact ac
    obtain⟨bI,af,rfl,hr⟩:=(Y.o.keep hb).at U;obtain⟨O,P,R,T⟩:=jn hr;have x:=ix ((Y.o.1 _ (iH U)).keep hb);have g:=ix (al wr (.cells (L.getD j Iv.zero).cs 89));have c:=ix (kf (wr.alloc (.cells (L.getD j Iv.zero).cs 89)) (L.getD j Iv.zero).aK J (L.getD j Iv.zero).key.length (L.getD j Iv.zero).cK k.length ck _ k (x.o.bk.keep g.o) (BB.o.keep (bt hb g.o)) rfl rfl);have m:Hid ((L.map Iv.it).getD j It.zero=(L.getD j Iv.zero).it):=js L j;have l:=ix (bt hb g.o);have A:=ix (uH s g.o);clear M hb s hr;by_cases f:(L.getD j Iv.zero).key<k
    . have U2:Hid (∀i,i<j+1->(L.getD i Iv.zero).key<k):=λi F=>by
       by_cases e:i=j
       . rw[e];exact f
       . exact I.o i (by omega)
      rw[Gu f] at c;clear f x m;generalize L.getD j Iv.zero=v at *;obtain⟨r,cK,aa,aV,cV,val,child,ab⟩:=v;simp only[Iv.cs] at O P R T g c l A;go_wp2_with (go_at_call 82;refine c.o.mono ?_;rintro _ _ ⟨rfl,rfl⟩)
      go_roundw
      case rel=>exact⟨j+1,by omega,by go_num,U2.o,l.o,A.o⟩
      case measure=>simp[intOf];omega
    . have d:=W.o j (by omega) I.o (.inr f)
      have y:Hid (jy k (L.map Iv.it)=j):=d;by_cases h:k<(L.getD j Iv.zero).key
      . have q:Hid (lN k (L.map Iv.it)=false):=by
         show _=_
         have:¬(L.getD j Iv.zero).it.key=k:=λe=>by
          have e:(L.getD j Iv.zero).key=k:=e;rw[e] at h;exact absurd h (by grind)
         unfold lN;rw[d,m.o,ah this,Bool.and_false]
        rw[GR h] at c;clear f h x m d;generalize L.getD j Iv.zero=v at *;obtain⟨r,cK,aa,aV,cV,val,child,ab⟩:=v;simp only[Iv.cs] at O P R T g c l A;go_wp2_with (go_at_call 82;refine c.o.mono ?_;rintro _ _ ⟨rfl,rfl⟩)
        refine az (dh results43 _ _ _) rfl ?_;exact⟨by rw[y.o,q.o];rfl,l.o⟩
      . have q:Hid (lN k (L.map Iv.it)=true):=by
         show _=_;have e:(L.getD j Iv.zero).it.key=k:=Da f h;unfold lN;rw[d,m.o,e];simp[U]
        rw[Gt f h] at c;clear f h x m d;generalize L.getD j Iv.zero=v at *;obtain⟨r,cK,aa,aV,cV,val,child,ab⟩:=v;simp only[Iv.cs] at O P R T g c l A;go_wp2_with (go_at_call 82;refine c.o.mono ?_;rintro _ _ ⟨rfl,rfl⟩)
        refine az (dh results43 _ _ _) rfl ?_;exact⟨by rw[y.o,q.o];rfl,l.o⟩
  . obtain rfl:j=n:=by omega
    have d:=W.o j (by rw[t.o];exact am _) I.o (.inl t.o.symm)
    have y:Hid (jy k (L.map Iv.it)=j):=d
    have q:Hid (lN k (L.map Iv.it)=false):=by
     show _=_;simp[lN,d,t.o]
    obtain⟨x0,x1,x2,x3,x4⟩:=Am s;clear M hb s d;go_wp2;refine az (dh results43 _ _ _) rfl ?_;exact⟨by rw[y.o,q.o];rfl,B1.o⟩
def Cf(g:Nat):Value:=.func (.func 126) #[] #[.pointer (some ⟨g,0,none⟩)]
theorem DK(w:World)(g:Nat)(d:Option Addr)(h:Nat)(k:List Nat)(x:Iv)(f:w.cell? ⟨g,0,none⟩=some (.slice d k.length h))(i:Bs w d k)(j:Ii w x):
 Calls prog 126 #[x.vl,.pointer (some ⟨g,0,none⟩)] w λe w'=>e=.returned (.bool (decide (0<iy x.key k)))/\Below w.heap.size w w':=by
 have c:=ix (al w (.cells x.cs 89));have t:=(c.o.cell (p:=⟨g,0,none⟩) (block_lt_of_cell f)).trans f;have l:=ix (kf (w.alloc (.cells x.cs 89)) x.aK d x.key.length x.cK k.length h _ k (j.bk.keep c.o) (i.keep c.o) rfl rfl);obtain⟨n,r,m,q,s,val,child,y⟩:=x;unfold Iv.vl;simp only[Iv.cs] at *;clear f i j;generalize iy m k=z at *;go_enter func126,ntmps126;go_wp2_with (go_at_call 82;refine l.o.mono ?_;rintro _ _ ⟨rfl,rfl⟩)
 all_goals
  go_ret;exact⟨by first|rfl|(simp_all;done)|(simp;omega),c.o⟩
theorem zH(w:World)(a:Option Addr)(c:Nat)(L:List Iv)(C:Js w a L)(g:Nat)(A:Option Addr)(N:Nat)(k:List Nat)(D:w.cell? ⟨g,0,none⟩=some (.slice A k.length N))(h:Bs w A k):
 Calls prog 127 #[.slice a L.length c,Cf g] w λy w'=>y=.returned (.int .i64 (if upto k (L.map Iv.it)<L.length then ((upto k (L.map Iv.it):Nat):Int) else -1))/\Below w.heap.size w w':=by
 have J:=ix C;have Y:=C.2.1;have T:=ix λ(l:World)(hb:Below w.heap.size w l)(t:Iv)(Z:Ii l t)=>DK l g A N k t ((hb.cell (p:=⟨g,0,none⟩) (block_lt_of_cell D)).trans D) (h.keep hb) Z
 have H:=ix λ(j:Nat)(U:j<=L.length)(V:∀i,i<j->(L.getD i Iv.zero).key<=k)(W:j=L.length\/¬(L.getD j Iv.zero).key<=k)=>su k (L.map Iv.it) j (by simpa using U) (λi P=>by rw[js];exact V i P) (W.imp (λe=>by simpa using e) (λe=>by rw[js];exact e))
 obtain⟨n,E⟩:∃n,L.length=n:=⟨_,rfl⟩;have r:=ix E;obtain⟨z,F⟩:∃z,(if upto k (L.map Iv.it)<L.length then ((upto k (L.map Iv.it):Nat):Int) else -1)=z:=⟨_,rfl⟩
 have K:=ix F;rw[F];rw[E] at Y ⊢;clear C D h E F;unfold Cf;go_enter func127,ntmps127;go_wp2;go_loopw [8] (λq wx=>∃j:Nat,j<=n/\q=.int .i64 j/\(∀i,i<j->(L.getD i Iv.zero).key<=k)/\Below w.heap.size w wx) (λq _=>n-(intOf q).toNat)
 case atStart=>exact⟨0,an _,rfl,λk hk=>by omega,Below.refl _ _⟩
 case round=>
  obtain⟨j,hj,rfl,O,h⟩:=hrel;have x:=ix O;have d:=ix h;clear O h;by_cases ab:j<n
  . have ac:(j:Int)<(n:Int):=by omega
    have G:j<L.length:=by rw[r.o];exact ab
    obtain⟨M,R,rfl,B⟩:=(J.o.keep d.o).at G;have I:=ix B;have m:=ix (T.o _ d.o (L.getD j Iv.zero) ((J.o.1 _ (iH G)).keep d.o));by_cases f:(L.getD j Iv.zero).key<=k
    . have aa:Hid (∀i,i<j+1->(L.getD i Iv.zero).key<=k):=by
       intro i P;by_cases e:i=j
       . rw[e];exact f
       . exact x.o i (by omega)
      rw[ah (show ¬0<iy (L.getD j Iv.zero).key k from by have:=kS.2 f;omega)] at m
      clear f B;generalize L.getD j Iv.zero=t at *;go_wp2_with (first|(refine wpList_load_mid rfl 89 _ rfl M (R+j*4) (by simp[Act.eval]) t.cs.toList _ I.o underlying89 rfl qJ ?_)|(go_at_call 126;refine m.o.mono ?_;rintro y l ⟨rfl,hb⟩;have d:=ix (bt d.o hb);clear hb))
      go_roundw
      case rel=>exact⟨j+1,by omega,by go_num,aa.o,d.o⟩
      case measure=>simp[intOf];omega
    . have s:Hid (z=(j:Int)):=by
       show _=_;rw[<-K.o,H.o j (by omega) x.o (.inr f),if_pos G]
      rw[ar (show 0<iy (L.getD j Iv.zero).key k from qL.2 (List.not_le.1 f))] at m
      clear f B;generalize L.getD j Iv.zero=t at *;go_wp2_with (first|(refine wpList_load_mid rfl 89 _ rfl M (R+j*4) (by simp[Act.eval]) t.cs.toList _ I.o underlying89 rfl qJ ?_)|(go_at_call 126;refine m.o.mono ?_;rintro y l ⟨rfl,hb⟩;have d:=ix (bt d.o hb);clear hb))
      go_ret;exact⟨by rw[s.o];rfl,d.o⟩
  . obtain rfl:j=n:=by omega
    have s:Hid (z= -1):=by
     show _=_;rw[<-K.o,H.o j (by rw[r.o];exact am _) x.o (.inl r.o.symm),if_neg (by rw[r.o];omega)]
    go_wp2;go_ret;exact⟨by rw[s.o];rfl,d.o⟩
theorem AE(w:World)(p:Pv)(j:Option Addr)(r:Nat)(k:List Nat)(i:Pi w p)(T:Bs w j k):
 Calls prog 81 #[p.vl,.slice j k.length r] w λe w'=>e=.returned (.int .i64 ((jg k p.pg.items:Nat):Int))/\Below w.heap.size w w':=by
 obtain⟨kind,G,B,g,L,A,C,F,next⟩:=p
 have H:=ix i.it;have M:=i.it.2.1;have N:=i.ci;have D:=i.it.2.2;unfold Pv.vl Pv.pg;simp only[Pv.cs] at *;have f:=ix (bt (al w (.cells #[.int .i64 kind,.int .i64 G,.slice B L.length g,.slice A F.length C,.int .i64 next] 77)) (al (w.alloc (.cells #[.int .i64 kind,.int .i64 G,.slice B L.length g,.slice A F.length C,.int .i64 next] 77)) (.cells #[.slice j k.length r] 37)))
 by_cases s:L=[]
 . subst s;clear D i;go_enter func81,ntmps81;go_wp2;go_ret;exact⟨rfl,f.o⟩
 . obtain⟨b,n,rfl⟩:∃b n,B=some ⟨b,n,none⟩:=by
    rcases D with h|⟨b,n,h,_⟩
    . exact absurd h s
    . exact⟨b,n,h⟩
   have R:0<L.length:=bY.2 s;have t:=bj (w.alloc (.cells #[.int .i64 kind,.int .i64 G,.slice (some ⟨b,n,none⟩) L.length g,.slice A F.length C,.int .i64 next] 77)) (.cells #[.slice j k.length r] 37)
   rw[size_alloc] at t;have K:=ai _ (w.heap.size+1) 0 _ _ _ t;have d:=ix λ(a:Option Addr)(c:Nat)(U:Js w a (L.drop 1))=>zH _ a c (L.drop 1) (U.keep f.o) (w.heap.size+1) j r k K (T.keep f.o)
   have y:Hid ((L.drop 1).length=L.length-1):=by show _=_;simp
   rw[y.o] at d;have J:Hid (jg k (L.map Iv.it)=upto k ((L.drop 1).map Iv.it)):=by show _=_;unfold jg;rw[List.map_drop]
   have q:Hid (upto k ((L.drop 1).map Iv.it)<=L.length-1):=by
    show _<=_;have:=pG k ((L.drop 1).map Iv.it);rwa [bM,y.o] at this
   have x:=ix (H.o.drop 1);rw[J.o];generalize upto k ((L.drop 1).map Iv.it)=u at *;clear J y H i D s t K;obtain⟨m,O⟩:∃m,L.length=m+1:=⟨L.length-1,by omega⟩
   rw[O] at f d q N M R ⊢;simp only[gE] at d q;unfold Cf at d
   have I:=ix λ(a:Option Addr)=>(show m=0->Js w a (L.drop 1) from λe=>by
    have:L.drop 1=[]:=dw (by omega)
    rw[this];exact Js.nil _ _)
   clear O;have W:¬((m:Int)+1=0):=by omega
   by_cases E:u<m
   . rw[if_pos E] at d;go_enter func81,ntmps81;go_wp2_with (go_at_call 127;refine(d.o _ _ (by first|exact x.o|(simpa using x.o)|exact I.o _ (by omega))).mono ?_;rintro _ P ⟨rfl,l⟩)
     all_goals
      go_ret;exact⟨rfl,bt f.o l⟩
   . obtain rfl:u=m:=by have:=q.o;omega
     rw[if_neg E] at d;clear E;by_cases V:g=1
     . subst V;obtain rfl:u=0:=by omega
       simp only[de] at f d ⊢;clear N M R W q;go_enter func81,ntmps81;go_wp2_with (go_at_call 127;refine(d.o _ _ (I.o _ rfl)).mono ?_;rintro _ P ⟨rfl,l⟩)
       all_goals
        go_ret;exact⟨rfl,bt f.o l⟩
     . have Y:1<g:=by omega
       have Z:(1:Int)<(g:Int):=by omega
       go_enter func81,ntmps81;go_wp2_with (go_at_call 127;refine(d.o _ _ x.o).mono ?_;rintro _ P ⟨rfl,l⟩)
       all_goals
        go_ret;exact⟨rfl,bt f.o l⟩
end Go.Proofs.YteaogidofpfmmaaGreat
