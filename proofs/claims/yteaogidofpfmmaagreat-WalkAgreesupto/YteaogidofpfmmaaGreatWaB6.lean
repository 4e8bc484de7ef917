import Derived.Test.YteaogidofpfmmaaGreatWaB5
set_option linter.all false
set_option maxHeartbeats 3200000
set_option maxRecDepth 8000
namespace Go.Proofs.YteaogidofpfmmaaGreat
open Tryz
open Go.RowKit
variable {cs:Array Value}{e g kb:Nat}{t:TypeId}{w w' w0:World}
theorem nG(a b:Int):(a==b)=decide (a=b):=by
 by_cases h:a=b
 . subst h;simp
 . simp[h]
theorem jj(w:World)(n:Int):Calls prog 109 #[.int .i64 n] w λe w'=>e=.returned (.bool (kN n))/\w'=w:=by
 unfold kN;by_cases a:1<=n
 . have b:decide (1<=n)=true:=by simpa using a
   go_enter func109,ntmps109;go_wp2;go_ret;exact⟨by simp[a],rfl⟩
 . have b:decide (1<=n)=false:=by simpa using a
   go_enter func109,ntmps109;go_wp2;go_ret;exact⟨by simp,rfl⟩
theorem ss(w:World)(r:Iv):Calls prog 180 #[r.vl] w λe w'=>e=.returned (.bool (decide (r.size<=32)))/\∃o,w'=w.alloc o:=by
 unfold Iv.vl Iv.cs;go_enter func180,ntmps180;go_wp2;go_ret;exact⟨rfl,_,rfl⟩
def Kp(w:World)(kb:Nat)(e:Nat):Prop:=w.heap[kb]?=some (.cells #[.int .i64 (e:Int)] 39 (0,0))
theorem Kp.cell(h:Kp w kb e):w.cell? ⟨kb,0,none⟩=some (.int .i64 (e:Int)):=by rw[ai _ _ _ _ _ _ h];rfl
theorem Kp.frozen(h:Kp w kb e):w.frozen? ⟨kb,0,none⟩=false:=bq w kb 0 _ _ h
theorem Kp.lt(h:Kp w kb e):kb<w.heap.size:=(ae.1 h).1
theorem Kp.set(h:Kp w kb e)(x:Nat):Kp (w.setCell ⟨kb,0,none⟩ (.int .i64 (x:Int))) kb x:=aE w kb 0 _ _ _ h
theorem Kp.keep(h:Kp w kb e)(hb:Below w.heap.size w w'):Kp w' kb e:=(hb.block kb h.lt).trans h
def tel(e:Nat)(wrong:Bool)(x:Nat):Nat:=if wrong=true/\e=0 then x else e
def tv(kb:Nat):Value:=.func (.func 149) #[] #[.pointer (some ⟨kb,0,none⟩)]
def fv(kb:Nat):Value:=.func (.func 150) #[] #[.pointer (some ⟨kb,0,none⟩)]
theorem yK(w:World):Calls prog 106 #[] w λe w'=>e=.returned (.tuple #[tv w.heap.size,fv w.heap.size])/\w'=w.alloc (.cells #[.int .i64 0] 39):=by
 go_enter func106,ntmps106;go_wp2;go_ret2
 exact⟨rfl,rfl⟩
theorem m8(w:World)(kb e:Nat)(h:Kp w kb e):Calls prog 150 #[.pointer (some ⟨kb,0,none⟩)] w λx w'=>x=.returned (.int .i64 (e:Int))/\w'=w:=by
 have c:=h.cell;clear h;go_enter func150,ntmps150;go_wp2;go_ret;exact⟨rfl,rfl⟩
theorem Dv(w:World)(kb e:Nat)(h:Kp w kb e)(b:Bool)(x:Nat):Calls prog 149 #[.bool b,.int .i64 (x:Int),.pointer (some ⟨kb,0,none⟩)] w λy w'=>y=.returned (.tuple #[])/\Kp w' kb (tel e b x)/\But (λk=>k=kb) w w':=by
 have c:=h.cell;have f:=h.frozen;have H:=ix h;clear h;cases b with
 |false=>
  go_enter func149,ntmps149;go_wp2;go_end0
  exact⟨rfl,by simpa[tel] using H.o,But.refl _ _⟩
 |true=>
  by_cases a:e=0
  . subst a;rw[show((0:Nat):Int)=0 from rfl] at c
    go_enter func149,ntmps149;go_wp2;go_end0
    exact⟨rfl,by simpa[tel] using H.o.set x,(But.refl (λk=>k=kb) w).setCell (p:=⟨kb,0,none⟩) (λ_=>rfl) _⟩
  . have d:(((e:Nat):Int)==0)=false:=by simpa using a
    go_enter func149,ntmps149;go_wp2;go_end0
    exact⟨rfl,by simpa[tel,a] using H.o,But.refl _ _⟩
structure Kt(w0:World)(kb:Nat)(w:World)(e:Nat):Prop where
 c:Kp w kb e
 b:Below w0.heap.size w0 w
 l:w0.heap.size<=kb
theorem Kt.keep(h:Kt w0 kb w e)(hb:Below w.heap.size w w'):Kt w0 kb w' e:=⟨h.c.keep hb,bt h.b hb,h.l⟩
theorem Kt.but{a:Nat}(h:Kt w0 kb w e)(hb:But (λk=>k=kb) w w')(b:Kp w' kb a):Kt w0 kb w' a:=
 ⟨b,((But.ofBelow (S:=λ_=>False) h.b).trans hb λx c e=>by have:=h.l;omega).below λ_ _ h=>h,h.l⟩
def Bx(w:World)(t:TypeId)(g:Nat)(cs:Array Value):Prop:=w.heap[g]?=some (.cells cs t (0,0))
theorem Bx.cell(h:Bx w t g cs)(i:Nat){v:Value}(a:cs[i]?=some v):w.cell? ⟨g,i,none⟩=some v:=by rw[ai _ _ _ _ _ _ h];exact a
theorem Bx.lt(h:Bx w t g cs):g<w.heap.size:=(ae.1 h).1
theorem Bx.keep(h:Bx w t g cs)(hb:Below w.heap.size w w'):Bx w' t g cs:=(hb.block g h.lt).trans h
theorem Bx.but{S:Nat->Prop}(h:Bx w t g cs)(hb:But S w w')(a:¬S g):Bx w' t g cs:=(hb.block g h.lt a).trans h
theorem Bx.new(w:World)(t:TypeId)(cs:Array Value):Bx (w.alloc (.cells cs t)) t w.heap.size cs:=bj _ _
theorem Bx.page{p:Pv}(h:Bx w 77 g p.cs):w.cell? ⟨g,0,none⟩=some (.int .i64 p.kind)/\w.cell? ⟨g,1,none⟩=some (.int .i64 p.level)/\w.cell? ⟨g,2,none⟩=some (.slice p.aI p.items.length p.cI)/\w.cell? ⟨g,3,none⟩=some (.slice p.aD p.data.length p.cD)/\w.cell? ⟨g,4,none⟩=some (.int .i64 p.next):=
 ⟨h.cell 0 rfl,h.cell 1 rfl,h.cell 2 rfl,h.cell 3 rfl,h.cell 4 rfl⟩
theorem Bx.item{p:Iv}(h:Bx w 89 g p.cs):w.cell? ⟨g,0,none⟩=some (.slice p.aK p.key.length p.cK)/\w.cell? ⟨g,1,none⟩=some (.slice p.aV p.val.length p.cV)/\w.cell? ⟨g,2,none⟩=some (.int .i64 p.child)/\w.cell? ⟨g,3,none⟩=some (.int .i64 p.size):=
 ⟨h.cell 0 rfl,h.cell 1 rfl,h.cell 2 rfl,h.cell 3 rfl⟩
theorem oQ(w0:World)(w:World)(kb e:Nat)(t:TypeId)(g:Nat)(cs:Array Value)(h:Kt w0 kb w e)(f:Bx w t g cs)(ne:g≠kb)(b:Bool)(c:Int)(x:Nat)(i:c=x):
 Calls prog 149 #[.bool b,.int .i64 c,.pointer (some ⟨kb,0,none⟩)] w λy w'=>y=.returned (.tuple #[])/\Kt w0 kb w' (tel e b x)/\Bx w' t g cs/\But (λk=>k=kb) w w':=by
 subst i;refine(Dv w kb e h.c b x).mono ?_;rintro y w' ⟨rfl,d,a⟩;exact⟨rfl,h.but a d,f.but a ne,a⟩
theorem pO(w:World)(p:Pv)(f:Int):Calls prog 151 #[p.vl,.int .i64 f] w λe w'=>e=.returned (.bool (decide (f<=p.items.length)&&decide (p.items.length<=8)&&decide (p.data.length=0)&&decide (p.next=0)))/\Below w.heap.size w w':=by
 unfold Pv.vl Pv.cs;obtain⟨kind,x,q,s,l,m,r,k,next⟩:=p
 dsimp only;generalize l.length=n;generalize k.length=d;by_cases a:f<=(n:Int)
 . by_cases c:(n:Int)<=8
   . by_cases h:d=0
     . subst h;have b:decide (f<=(n:Int))=true:=by simpa using a
       have i:decide ((n:Int)<=8)=true:=by simpa using c
       have j:decide (n<=8)=true:=by simp;omega
       go_enter func151,ntmps151;go_wp2;go_ret;exact⟨by simp[b,j,nG],al _ _⟩
     . have b:decide (f<=(n:Int))=true:=by simpa using a
       have i:decide ((n:Int)<=8)=true:=by simpa using c
       have v:(((d:Nat):Int)==0)=false:=by simpa using h
       go_enter func151,ntmps151;go_wp2;go_ret;exact⟨by simp[h],al _ _⟩
   . have b:decide (f<=(n:Int))=true:=by simpa using a
     have i:decide ((n:Int)<=8)=false:=by simpa using c
     have j:decide (n<=8)=false:=by simp;omega
     go_enter func151,ntmps151;go_wp2;go_ret;exact⟨by simp,al _ _⟩
 . have b:decide (f<=(n:Int))=false:=by simpa using a
   go_enter func151,ntmps151;go_wp2;go_ret;exact⟨by simp,al _ _⟩
theorem nO(h:Kt w0 kb w e):w.heap.size≠kb:=by have:=h.c.lt;omega
def Pg.formE(p:Pg):Nat:=if p.kindOk=false then 22 else if p.form=false then 5 else 0
theorem ud(w0 w:World)(kb:Nat)(p:Pv)(h:Kt w0 kb w 0):Calls prog 107 #[p.vl,tv kb] w λx w'=>x=.returned (.tuple #[])/\Kt w0 kb w' p.pg.formE:=by
 have v:=nO h;have H:=ix (h.keep (al w (.cells p.cs 77)));have B:=ix (Bx.new w 77 p.cs);have d:=ix λ(a:World)(e:Nat)(hk:Kt w0 kb a e)(k:Bx a 77 w.heap.size p.cs)(A:Bool)(q:Int)(x:Nat)(s:q=x)=>oQ w0 a kb e 77 w.heap.size p.cs hk k v A q x s
 have j:=ix λ(a:World)(f:Int)=>pO a p f
 have c:=ix λ(a:World)(k:Bx a 77 w.heap.size p.cs)=>Bx.page k
 clear h;obtain⟨kind,M,D,F,r,C,E,L,next⟩:=p
 unfold Pv.vl tv;simp only[Pv.cs,Pv.vl] at *;by_cases l:kind=1
 . subst l;go_enter func107,ntmps107;go_wp2_with (first|(go_at_call 149;refine(d.o _ _ H.o B.o _ _ 5 rfl).mono ?_;rintro y a ⟨rfl,hk,hb,_⟩;have H:=ix hk;have B:=ix hb;obtain⟨c0,c1,c2,c3,i⟩:=c.o _ hb;clear hk hb)|(go_at_call 151;refine(j.o _ _).mono ?_;rintro y a ⟨rfl,b⟩;have H:=ix (H.o.keep b);have B:=ix (B.o.keep b);obtain⟨c0,c1,c2,c3,i⟩:=c.o _ B.o;clear b))
   all_goals (go_end0;refine⟨rfl,(bf (Kt w0 kb _) ?_).mp H.o⟩;simp[tel,Pg.formE,Pg.kindOk,Pg.form,Pv.pg];grind)
 . by_cases m:kind=2
   . subst m;go_enter func107,ntmps107;go_wp2_with (first|(go_at_call 149;refine(d.o _ _ H.o B.o _ _ 5 rfl).mono ?_;rintro y a ⟨rfl,hk,hb,_⟩;have H:=ix hk;have B:=ix hb;obtain⟨c0,c1,c2,c3,i⟩:=c.o _ hb;clear hk hb)|(go_at_call 151;refine(j.o _ _).mono ?_;rintro y a ⟨rfl,b⟩;have H:=ix (H.o.keep b);have B:=ix (B.o.keep b);obtain⟨c0,c1,c2,c3,i⟩:=c.o _ B.o;clear b))
     all_goals (go_end0;refine⟨rfl,(bf (Kt w0 kb _) ?_).mp H.o⟩;simp[tel,Pg.formE,Pg.kindOk,Pg.form,Pv.pg];grind)
   . by_cases n:kind=3
     . subst n;go_enter func107,ntmps107;go_wp2_with (first|(go_at_call 149;refine(d.o _ _ H.o B.o _ _ 5 rfl).mono ?_;rintro y a ⟨rfl,hk,hb,_⟩;have H:=ix hk;have B:=ix hb;obtain⟨c0,c1,c2,c3,i⟩:=c.o _ hb;clear hk hb)|(go_at_call 151;refine(j.o _ _).mono ?_;rintro y a ⟨rfl,b⟩;have H:=ix (H.o.keep b);have B:=ix (B.o.keep b);obtain⟨c0,c1,c2,c3,i⟩:=c.o _ B.o;clear b))
       all_goals (go_end0;refine⟨rfl,(bf (Kt w0 kb _) ?_).mp H.o⟩;clear H B d j c;have G:(0<r.length)=¬r=[]:=(by rw[bY]);simp[tel,Pg.formE,Pg.kindOk,Pg.form,Pv.pg];grind)
     . have I:(kind==1)=false:=by simpa using l
       have J:(kind==2)=false:=by simpa using m
       have K:(kind==3)=false:=by simpa using n
       go_enter func107,ntmps107;go_wp2_with (go_at_call 149;refine(d.o _ _ H.o B.o _ _ 22 rfl).mono ?_;rintro y a ⟨rfl,hk,hb,_⟩;have H:=ix hk)
       all_goals (go_end0;refine⟨rfl,(bf (Kt w0 kb _) ?_).mp H.o⟩;simp[tel,Pg.formE,Pg.kindOk,Pg.form,Pv.pg];grind)
def It.leafE(x:It):Nat:=if x.valOk 1=false then 8 else if x.kidOk 1=false then 15 else 0
def els(e x:Nat):Nat:=if e≠0 then e else x
theorem kV(w0 w:World)(kb e:Nat)(p:Iv)(h:Kt w0 kb w e):Calls prog 152 #[p.vl,tv kb] w λx w'=>x=.returned (.tuple #[])/\Kt w0 kb w' (els e p.it.leafE)/\But (λk=>k=kb) w w':=by
 have v:=nO h;have H:=ix (h.keep (al w (.cells p.cs 89)));have B:=ix (Bx.new w 89 p.cs);have U:=ix (But.ofBelow (S:=λk=>k=kb) (al w (.cells p.cs 89)))
 have f:=ix λ(a:World)(e:Nat)(hk:Kt w0 kb a e)(j:Bx a 89 w.heap.size p.cs)(A:Bool)(l:Int)(G:0<=l)=>oQ w0 a kb e 89 w.heap.size p.cs hk j v A l l.toNat (by omega)
 have d:=ix λ(a:World)=>ss a p
 have c:=ix λ(a:World)(j:Bx a 89 w.heap.size p.cs)=>Bx.item j
 clear h;obtain⟨C,E,I,D,F,val,child,r⟩:=p;unfold Iv.vl tv;simp only[Iv.cs,Iv.vl] at *;by_cases m:r<=32
 . have q:decide (r<=32)=true:=by simpa using m
   rw[q] at d;go_enter func152,ntmps152;go_wp2_with (first|(go_at_call 149;refine(f.o _ _ H.o B.o _ _ (by decide)).mono ?_;rintro y a ⟨rfl,hk,hb,i⟩;have U:=ix (U.o.trans i (λ_ _ h=>h));have H:=ix hk;have B:=ix hb;obtain⟨c0,c1,c2,c3⟩:=c.o _ hb;clear hk hb)|(go_at_call 180;refine(d.o _).mono ?_;rintro y a ⟨rfl,b,rfl⟩;have U:=ix (U.o.andBelow (al _ b));have H:=ix (H.o.keep (al _ b));have B:=ix (B.o.keep (al _ b));obtain⟨c0,c1,c2,c3⟩:=c.o _ B.o)|(go_at_call 109;refine(jj _ _).mono ?_;rintro y a ⟨rfl,n⟩;obtain rfl:=n.symm))
   all_goals (go_end0;refine⟨rfl,(bf (Kt w0 kb _) ?_).mp H.o,U.o⟩;clear H B f d c;have s:(0<val.length)=¬val=[]:=(by rw[bY]);simp[tel,els,It.leafE,It.valOk,It.kidOk,Iv.it,m];grind)
 . have q:decide (r<=32)=false:=by simpa using m
   rw[q] at d;go_enter func152,ntmps152;go_wp2_with (first|(go_at_call 149;refine(f.o _ _ H.o B.o _ _ (by decide)).mono ?_;rintro y a ⟨rfl,hk,hb,i⟩;have U:=ix (U.o.trans i (λ_ _ h=>h));have H:=ix hk;have B:=ix hb;obtain⟨c0,c1,c2,c3⟩:=c.o _ hb;clear hk hb)|(go_at_call 180;refine(d.o _).mono ?_;rintro y a ⟨rfl,b,rfl⟩;have U:=ix (U.o.andBelow (al _ b));have H:=ix (H.o.keep (al _ b));have B:=ix (B.o.keep (al _ b));obtain⟨c0,c1,c2,c3⟩:=c.o _ B.o)|(go_at_call 109;refine(jj _ _).mono ?_;rintro y a ⟨rfl,n⟩;obtain rfl:=n.symm))
   all_goals (go_end0;refine⟨rfl,(bf (Kt w0 kb _) ?_).mp H.o,U.o⟩;clear H B f d c;have s:(0<val.length)=¬val=[]:=(by rw[bY]);simp[tel,els,It.leafE,It.valOk,It.kidOk,Iv.it];grind)
theorem dr1(w:World):Below w.heap.size w w.drew:=(Below.refl _ _).drew
theorem uh(w0:World)(w:World)(kb e:Nat)(g b:Nat)(cs d:Array Value)(h:Kt w0 kb w e)(k:Bx w 77 g cs)(l:Bx w 89 b d)(ne:g≠kb)(m:b≠kb)(c:Bool)(a:Int)(n:0<=a):
 Calls prog 149 #[.bool c,.int .i64 a,.pointer (some ⟨kb,0,none⟩)] w λy w'=>y=.returned (.tuple #[])/\Kt w0 kb w' (tel e c a.toNat)/\Bx w' 77 g cs/\Bx w' 89 b d:=by
 refine(oQ w0 w kb e 77 g cs h k ne c a a.toNat (by omega)).mono ?_
 rintro y w' ⟨rfl,f,i,j⟩;exact⟨rfl,f,i,l.but j m⟩
theorem ow(w:World)(cs a:Array Value):Bx ((w.alloc (.cells cs 77)).alloc (.cells a 89)) 89 (w.heap.size+1) a:=by
 have:=Bx.new (w.alloc (.cells cs 77)) 89 a;rwa [size_alloc] at this
def sZ(kind:Int)(i:Nat)(x:It)(prev:List Nat):Nat:=
 if (if kind=2/\i=0 then decide (x.key.length=0) else decide (1<=x.key.length)&&decide (x.key.length<=24))=false then 7
 else if (decide (i=0)||decide (iy prev x.key<0))=false then 11 else if x.valOk kind=false then 8 else if x.kidOk kind=false then 15 else 0
theorem pN(p:Pg)(i:Nat):p.itemE i=sZ p.kind i (p.at i) (p.at (i-1)).key:=by
 unfold Pg.itemE sZ Pg.keyOk Pg.ordOk
 have h:decide (0<iy (p.at i).key (p.at (i-1)).key)=decide (iy (p.at (i-1)).key (p.at i).key<0):=by
  rw[t6 (p.at (i-1)).key (p.at i).key,decide_eq_decide];omega
 rw[h]
theorem fin4(e:Nat)(k o v c:Bool):tel (tel (tel (tel e (!k) 7) (!o) 11) (!v) 8) (!c) 15=els e (if k=false then 7 else if o=false then 11 else if v=false then 8 else if c=false then 15 else 0):=by
 unfold tel els;by_cases a:e=0<;>cases k<;>cases o<;>cases v<;>cases c<;>simp[a]
theorem fin2(e:Nat)(k o v c:Bool):els (tel (tel e (!k) 7) (!o) 11) (if v=false then 8 else if c=false then 15 else 0)=els e (if k=false then 7 else if o=false then 11 else if v=false then 8 else if c=false then 15 else 0):=by
 unfold tel els;by_cases a:e=0<;>cases k<;>cases o<;>cases v<;>cases c<;>simp[a]
theorem xH(e i:Nat)(x:It)(j:List Nat)(a b c d:Bool)(k:a= !(if (2:Int)=2/\i=0 then decide (x.key.length=0) else decide (1<=x.key.length)&&decide (x.key.length<=24)))(hb:b= !(decide (i=0)||decide (iy j x.key<0)))
 (f:c= !(decide (x.val.length=0)&&decide (x.size=0))) (h:d= !kN x.child):tel (tel (tel (tel e a (Int.toNat 7)) b (Int.toNat 11)) c (Int.toNat 8)) d (Int.toNat 15)=els e (sZ 2 i x j):=by
 have l:x.valOk 2=(decide (x.val.length=0)&&decide (x.size=0)):=by unfold It.valOk;rw[if_pos rfl]
 have hk:x.kidOk 2=kN x.child:=by unfold It.kidOk;rw[if_neg (by simp)]
 rw[<-l] at f;rw[<-hk] at h;rw[k,hb,f,h];unfold sZ;exact fin4 _ _ _ _ _
theorem vu(e i:Nat)(x:It)(c:List Nat)(a b:Bool)(d:a= !(decide (1<=x.key.length)&&decide (x.key.length<=24)))(hb:b= !(decide (i=0)||decide (iy c x.key<0))):
 els (tel (tel e a (Int.toNat 7)) b (Int.toNat 11)) x.leafE=els e (sZ 1 i x c):=by
 rw[d,hb];unfold sZ It.leafE;rw[if_neg (show ¬((1:Int)=2/\i=0) by simp)]
 exact fin2 _ _ _ _ _
theorem vZ(w0 w:World)(kb e i:Nat)(p:Pv)(h:Kt w0 kb w e)(d:Pi w0 p)(hi:i<p.items.length)(hk:p.kind=1)(T:i=0):Calls prog 108 #[p.vl,.int .i64 (i:Int),tv kb] w λx w'=>x=.returned (.tuple #[])/\Kt w0 kb w' (els e (p.pg.itemE i)):=by
 have ab:=nO h;have aj:=h.c.lt;have ac:w.heap.size+1≠kb:=by omega
 have G:=Pv.at p i;have I:=Pv.at p (i-1);obtain⟨bI,ak,aa,E⟩:=(d.it.keep (bt h.b (al w (.cells p.cs 77)))).at hi;have L:=ix (d.it.1 _ (iH hi));obtain⟨X,Y,Z,K⟩:=jn E;rw[pN,G,I];clear G I;generalize n:p.items.getD i Iv.zero=x at *;generalize W:p.items.getD (i-1) Iv.zero=y at *;have H:=ix ((h.keep (al w (.cells p.cs 77))).keep (al _ (.cells x.cs 89)));have B:=ix ((Bx.new w 77 p.cs).keep (al _ (.cells x.cs 89)));have D:=ix (ow w p.cs x.cs);have k:=ix λ(a:World)(e:Nat)(hk:Kt w0 kb a e)(c:Bx a 77 w.heap.size p.cs)(U:Bx a 89 (w.heap.size+1) x.cs)(af:Bool)(F:Int)(n:0<=F)=>uh w0 a kb e w.heap.size (w.heap.size+1) p.cs x.cs hk c U ab ac af F n
 have l:=ix λ(a:World)(e:Nat)(hk:Kt w0 kb a e)=>kV w0 a kb e x hk
 have f:=ix λ(a:World)(c:Bx a 77 w.heap.size p.cs)=>Bx.page c
 have j:=ix λ(a:World)(c:Bx a 89 (w.heap.size+1) x.cs)=>Bx.item c
 have M:=ix d.ci;have ah:=ix d.it.2.1;clear h E d n W;obtain⟨kind,an,aI,cI,ae,aD,cD,am,next⟩:=p
 obtain⟨N,P,J,O,R,val,child,ad⟩:=x;unfold Pv.vl tv;simp only[Pv.cs,Iv.cs,Iv.vl,tv] at *;subst aa hk;subst T;have ai:(0:Int)<(ae.length:Int):=by omega
 simp only[eV,dp] at X Y Z K;generalize y.key=yk at *;cases hkd:decide (((J.length:Nat):Int)<1)
 all_goals
  go_enter func108,ntmps108;go_wp2_with (first|(go_at_call 149;refine(k.o _ _ H.o B.o D.o _ _ (by decide)).mono ?_;rintro y a ⟨rfl,hk,hb,b⟩;have H:=ix hk;have B:=ix hb;have D:=ix b;obtain⟨c0,c1,c2,c3,r⟩:=f.o _ hb;obtain⟨s,v,A,C⟩:=j.o _ b;clear hk hb b)|(go_at_call 109;refine(jj _ _).mono ?_;rintro y a ⟨rfl,q⟩;obtain rfl:=q.symm)|(go_at_call 152;refine(l.o _ _ H.o).mono ?_;rintro y a ⟨rfl,hk,_⟩;have H:=ix hk))
  have H:=ix (H.o.keep (dr1 _));have B:=ix (B.o.keep (dr1 _));have D:=ix (D.o.keep (dr1 _));have m:True:=trivial;refine be (S:=λw'=>True) (by kernel_rfl) (by exact m) (λhHeld=>?_)
  refine tkd 0 1 2 3 ?_;refine tu 4 ?_;refine tu 5 ?_;refine tu 6 ?_;refine tu 7 ?_;refine tu 8 ?_;refine tu 9 ?_;refine tu 10 ?_;refine tu 11 ?_;refine tu 12 ?_;refine tu 13 ?_;refine tu 14 ?_;refine tk 15 ?_;refine tw 16 λag V=>?_
  go_simp;refine(k.o _ _ H.o B.o D.o _ _ (by decide)).mono ?_
  rintro y a ⟨rfl,hk,hb,b⟩;have H:=ix hk;have B:=ix hb;have D:=ix b;obtain⟨c0,c1,c2,c3,r⟩:=f.o _ hb;obtain⟨s,v,A,C⟩:=j.o _ b;clear hk hb b;go_wp2_with fail
  refine V.o _ _ (by exact m) (λhHeld=>?_)
  refine td ?_;clear m;go_wp2_with (first|(go_at_call 149;refine(k.o _ _ H.o B.o D.o _ _ (by decide)).mono ?_;rintro y a ⟨rfl,hk,hb,b⟩;have H:=ix hk;have B:=ix hb;have D:=ix b;obtain⟨c0,c1,c2,c3,r⟩:=f.o _ hb;obtain⟨s,v,A,C⟩:=j.o _ b;clear hk hb b)|(go_at_call 109;refine(jj _ _).mono ?_;rintro y a ⟨rfl,q⟩;obtain rfl:=q.symm)|(go_at_call 152;refine(l.o _ _ H.o).mono ?_;rintro y a ⟨rfl,hk,_⟩;have H:=ix hk))
  all_goals ((first|go_end0|refine az (co rfl _ _ _) rfl ?_);refine⟨rfl,(bf (Kt w0 kb _) (vu e 0 (Iv.it ⟨N,P,J,O,R,val,child,ad⟩) yk _ _ ?_ ?_)).mp H.o⟩<;>clear H B D k f j L M l)
  all_goals (simp[Iv.it];try grind)
theorem uE(w0 w:World)(kb e i:Nat)(p:Pv)(h:Kt w0 kb w e)(c:Pi w0 p)(hi:i<p.items.length)(hk:p.kind=1)(h0:i≠0):Calls prog 108 #[p.vl,.int .i64 (i:Int),tv kb] w λx w'=>x=.returned (.tuple #[])/\Kt w0 kb w' (els e (p.pg.itemE i)):=by
 have ag:=nO h;have ar:=h.c.lt;have aj:w.heap.size+1≠kb:=by omega
 have K:=Pv.at p i;have aa:=Pv.at p (i-1);obtain⟨v,I,ab,W⟩:=(c.it.keep (bt h.b (al w (.cells p.cs 77)))).at hi;have ac:i-1<p.items.length:=by omega
 have HJ:=ix (c.it.1 _ (iH ac));have m:=ix λ(a:World)(hb:Below w0.heap.size w0 a)=>(show a.cell? ⟨v,I+(i-1)*4,none⟩=some (.slice (p.items.getD (i-1) Iv.zero).aK (p.items.getD (i-1) Iv.zero).key.length (p.items.getD (i-1) Iv.zero).cK) from by obtain⟨b2,o2,A,r2⟩:=(c.it.keep hb).at ac;rw[ab] at A;simp only[au,Addr.mk.injEq,d9] at A;obtain⟨rfl,rfl⟩:=A;exact(jn r2).1)
 have M:=ix (c.it.1 _ (iH hi));obtain⟨k0,k1,k2,k3⟩:=jn W;rw[pN,K,aa];clear K aa;generalize E:p.items.getD i Iv.zero=x at *;generalize hy:p.items.getD (i-1) Iv.zero=y at *;have L:=ix λ(a:World)(hb:Below w0.heap.size w0 a)=>mV a y.aK x.aK y.key.length y.cK x.key.length x.cK y.key x.key (HJ.o.bk.keep hb) (M.o.bk.keep hb) rfl rfl
 have H:=ix ((h.keep (al w (.cells p.cs 77))).keep (al _ (.cells x.cs 89)));have B:=ix ((Bx.new w 77 p.cs).keep (al _ (.cells x.cs 89)));have D:=ix (ow w p.cs x.cs);have n:=ix λ(a:World)(e:Nat)(hk:Kt w0 kb a e)(l:Bx a 77 w.heap.size p.cs)(hD:Bx a 89 (w.heap.size+1) x.cs)(am:Bool)(Z:Int)(E:0<=Z)=>uh w0 a kb e w.heap.size (w.heap.size+1) p.cs x.cs hk l hD ag aj am Z E
 have r:=ix λ(a:World)(e:Nat)(hk:Kt w0 kb a e)=>kV w0 a kb e x hk
 have d:=ix λ(a:World)(l:Bx a 77 w.heap.size p.cs)=>Bx.page l
 have f:=ix λ(a:World)(l:Bx a 89 (w.heap.size+1) x.cs)=>Bx.item l
 have HL:=ix c.ci;have af:=ix c.it.2.1;clear h W c E hy;obtain⟨kind,aA,aI,cI,J,aD,cD,ax,next⟩:=p
 obtain⟨N,P,q,aV,cV,val,child,ak⟩:=x;unfold Pv.vl tv;simp only[Pv.cs,Iv.cs,Iv.vl,tv] at *;subst ab hk;have ao:(i:Int)<(J.length:Int):=by omega
 have aq:decide ((0:Int)<(i:Int))=true:=by simp;omega
 have an:((i:Int)==0)=false:=by simpa using h0
 have ad:IntKind.i64.wrap ((i:Int)-1)=((i-1:Nat):Int):=by have:=af.o;rw[iQ (by omega) (by omega)];omega
 obtain⟨j,rfl⟩:∃j,i=j+1:=⟨i-1,by omega⟩
 rw[show j+1-1=j by omega] at m ad
 rw[show((j+1:Nat):Int)-1=(j:Int) by omega] at ad
 have ap:(j:Int)<(J.length:Int):=by omega
 obtain⟨ah,ai,F,av,aw,ay,aC,aB⟩:=y;dsimp only at m L ⊢;generalize Y:iy F q=z at *;have s:=ix Y;clear Y;cases hkd:decide (((q.length:Nat):Int)<1)
 all_goals
  go_enter func108,ntmps108;go_wp2_with (first|(go_at_call 149;refine(n.o _ _ H.o B.o D.o _ _ (by decide)).mono ?_;rintro y a ⟨rfl,hk,hb,b⟩;have H:=ix hk;have B:=ix hb;have D:=ix b;obtain⟨c0,c1,c2,c3,O⟩:=d.o _ hb;obtain⟨R,T,U,V⟩:=f.o _ b;clear hk hb b)|(go_at_call 109;refine(jj _ _).mono ?_;rintro y a ⟨rfl,G⟩;obtain rfl:=G.symm)|(go_at_call 152;refine(r.o _ _ H.o).mono ?_;rintro y a ⟨rfl,hk,_⟩;have H:=ix hk))
  have H:=ix (H.o.keep (dr1 _));have B:=ix (B.o.keep (dr1 _));have D:=ix (D.o.keep (dr1 _));have k:=And.intro (d.o _ B.o).2.2.1 (And.intro (f.o _ D.o).1 (m.o _ H.o.b));refine be (S:=λw'=>w'.cell? ⟨w.heap.size,2,none⟩=some (.slice (some ⟨v,I,none⟩) J.length cI)/\w'.cell? ⟨w.heap.size+1,0,none⟩=some (.slice N q.length P)/\w'.cell? ⟨v,I+j*4,none⟩=some (.slice ah F.length ai)) (by kernel_rfl) (by exact k) (λhHeld=>?_)
  refine tkd 0 1 2 3 ?_;refine tkd 4 5 6 7 ?_;refine tkd 8 9 10 11 ?_;refine tk 12 ?_;refine tw 13 λae C=>?_
  go_simp;refine(L.o _ H.o.b).mono ?_;rintro e w9 ⟨rfl,X⟩;obtain rfl:=X.symm;clear X;go_wp2_with fail
  refine C.o _ _ (by exact k) (λhHeld=>?_)
  refine tkb 14 15 ?_;refine tw 16 λae C=>?_
  go_simp;refine(n.o _ _ H.o B.o D.o _ _ (by decide)).mono ?_
  rintro y a ⟨rfl,hk,hb,b⟩;have H:=ix hk;have B:=ix hb;have D:=ix b;obtain⟨c0,c1,c2,c3,O⟩:=d.o _ hb;obtain⟨R,T,U,V⟩:=f.o _ b;clear hk hb b;have k:=And.intro (d.o _ B.o).2.2.1 (And.intro (f.o _ D.o).1 (m.o _ H.o.b));go_wp2_with fail
  refine C.o _ _ (by exact k) (λhHeld=>?_)
  refine td ?_;clear k;go_wp2_with (first|(go_at_call 149;refine(n.o _ _ H.o B.o D.o _ _ (by decide)).mono ?_;rintro y a ⟨rfl,hk,hb,b⟩;have H:=ix hk;have B:=ix hb;have D:=ix b;obtain⟨c0,c1,c2,c3,O⟩:=d.o _ hb;obtain⟨R,T,U,V⟩:=f.o _ b;clear hk hb b)|(go_at_call 109;refine(jj _ _).mono ?_;rintro y a ⟨rfl,G⟩;obtain rfl:=G.symm)|(go_at_call 152;refine(r.o _ _ H.o).mono ?_;rintro y a ⟨rfl,hk,_⟩;have H:=ix hk))
  all_goals ((first|go_end0|refine az (co rfl _ _ _) rfl ?_);refine⟨rfl,(bf (Kt w0 kb _) (vu e (j+1) (Iv.it ⟨N,P,q,aV,cV,val,child,ak⟩) F _ _ ?_ ?_)).mp H.o⟩<;>clear H B D n d f M HL r)
  all_goals (have s:=s.o;simp[Iv.it,s];try grind)
theorem uy(w0 w:World)(kb e i:Nat)(p:Pv)(h:Kt w0 kb w e)(d:Pi w0 p)(hi:i<p.items.length)(hk:p.kind=2)(V:i=0):Calls prog 108 #[p.vl,.int .i64 (i:Int),tv kb] w λx w'=>x=.returned (.tuple #[])/\Kt w0 kb w' (els e (p.pg.itemE i)):=by
 have ac:=nO h;have an:=h.c.lt;have ae:w.heap.size+1≠kb:=by omega
 have J:=Pv.at p i;have L:=Pv.at p (i-1);obtain⟨bI,ap,ab,F⟩:=(d.it.keep (bt h.b (al w (.cells p.cs 77)))).at hi;have N:=ix (d.it.1 _ (iH hi));obtain⟨Z,K,k2,k3⟩:=jn F;rw[pN,J,L];clear J L;generalize n:p.items.getD i Iv.zero=x at *;generalize Y:p.items.getD (i-1) Iv.zero=y at *;have H:=ix ((h.keep (al w (.cells p.cs 77))).keep (al _ (.cells x.cs 89)));have B:=ix ((Bx.new w 77 p.cs).keep (al _ (.cells x.cs 89)));have D:=ix (ow w p.cs x.cs);have k:=ix λ(a:World)(e:Nat)(hk:Kt w0 kb a e)(c:Bx a 77 w.heap.size p.cs)(W:Bx a 89 (w.heap.size+1) x.cs)(ah:Bool)(I:Int)(n:0<=I)=>uh w0 a kb e w.heap.size (w.heap.size+1) p.cs x.cs hk c W ac ae ah I n
 have l:=ix λ(a:World)(e:Nat)(hk:Kt w0 kb a e)=>kV w0 a kb e x hk
 have f:=ix λ(a:World)(c:Bx a 77 w.heap.size p.cs)=>Bx.page c
 have j:=ix λ(a:World)(c:Bx a 89 (w.heap.size+1) x.cs)=>Bx.item c
 have O:=ix d.ci;have aj:=ix d.it.2.1;clear h F d n Y;obtain⟨kind,ar,aI,cI,ag,aD,cD,aq,next⟩:=p
 obtain⟨P,T,r,R,U,val,child,af⟩:=x;unfold Pv.vl tv;simp only[Pv.cs,Iv.cs,Iv.vl,tv] at *;subst ab hk;subst V;have ak:(0:Int)<(ag.length:Int):=by omega
 simp only[eV,dp] at Z K k2 k3;generalize y.key=yk at *;clear l;generalize M:val.length=G at *;have aa:=ix M;clear M;by_cases ad:G=0
 all_goals
  first
  |subst ad
  |have ao:decide ((0:Int)<(G:Int))=true:=by simp;omega
  go_enter func108,ntmps108;go_wp2_with (first|(go_at_call 149;refine(k.o _ _ H.o B.o D.o _ _ (by decide)).mono ?_;rintro y a ⟨rfl,hk,hb,b⟩;have H:=ix hk;have B:=ix hb;have D:=ix b;obtain⟨c0,c1,c2,c3,s⟩:=f.o _ hb;obtain⟨v,A,C,E⟩:=j.o _ b;clear hk hb b)|(go_at_call 109;refine(jj _ _).mono ?_;rintro y a ⟨rfl,q⟩;obtain rfl:=q.symm)|(go_at_call 152;refine(l.o _ _ H.o).mono ?_;rintro y a ⟨rfl,hk,_⟩;have H:=ix hk))
  have H:=ix (H.o.keep (dr1 _));have B:=ix (B.o.keep (dr1 _));have D:=ix (D.o.keep (dr1 _));have m:True:=trivial;refine be (S:=λw'=>True) (by kernel_rfl) (by exact m) (λhHeld=>?_)
  refine tkd 0 1 2 3 ?_;refine tu 4 ?_;refine tu 5 ?_;refine tu 6 ?_;refine tu 7 ?_;refine tu 8 ?_;refine tu 9 ?_;refine tu 10 ?_;refine tu 11 ?_;refine tu 12 ?_;refine tu 13 ?_;refine tu 14 ?_;refine tk 15 ?_;refine tw 16 λai X=>?_
  go_simp;refine(k.o _ _ H.o B.o D.o _ _ (by decide)).mono ?_
  rintro y a ⟨rfl,hk,hb,b⟩;have H:=ix hk;have B:=ix hb;have D:=ix b;obtain⟨c0,c1,c2,c3,s⟩:=f.o _ hb;obtain⟨v,A,C,E⟩:=j.o _ b;clear hk hb b;go_wp2_with fail
  refine X.o _ _ (by exact m) (λhHeld=>?_)
  refine td ?_;clear m;go_wp2_with (first|(go_at_call 149;refine(k.o _ _ H.o B.o D.o _ _ (by decide)).mono ?_;rintro y a ⟨rfl,hk,hb,b⟩;have H:=ix hk;have B:=ix hb;have D:=ix b;obtain⟨c0,c1,c2,c3,s⟩:=f.o _ hb;obtain⟨v,A,C,E⟩:=j.o _ b;clear hk hb b)|(go_at_call 109;refine(jj _ _).mono ?_;rintro y a ⟨rfl,q⟩;obtain rfl:=q.symm)|(go_at_call 152;refine(l.o _ _ H.o).mono ?_;rintro y a ⟨rfl,hk,_⟩;have H:=ix hk))
  all_goals ((first|go_end0|refine az (co rfl _ _ _) rfl ?_);have HV:=aa.o;refine⟨rfl,(bf (Kt w0 kb _) (xH e 0 (Iv.it ⟨P,T,r,R,U,val,child,af⟩) yk _ _ _ _ ?_ ?_ ?_ ?_)).mp H.o⟩<;>clear H B D k f j N O<;>have am:(0<r.length)=¬r=[]:=(by rw[bY]))
  all_goals (simp[Iv.it];try grind)
theorem ww(w0 w:World)(kb e i:Nat)(p:Pv)(h:Kt w0 kb w e)(c:Pi w0 p)(hi:i<p.items.length)(hk:p.kind=2)(h0:i≠0):Calls prog 108 #[p.vl,.int .i64 (i:Int),tv kb] w λx w'=>x=.returned (.tuple #[])/\Kt w0 kb w' (els e (p.pg.itemE i)):=by
 have aj:=nO h;have aA:=h.c.lt;have ao:w.heap.size+1≠kb:=by omega
 have aa:=Pv.at p i;have ab:=Pv.at p (i-1);obtain⟨v,I,ac,W⟩:=(c.it.keep (bt h.b (al w (.cells p.cs 77)))).at hi;have ad:i-1<p.items.length:=by omega
 have HJ:=ix (c.it.1 _ (iH ad));have n:=ix λ(a:World)(hb:Below w0.heap.size w0 a)=>(show a.cell? ⟨v,I+(i-1)*4,none⟩=some (.slice (p.items.getD (i-1) Iv.zero).aK (p.items.getD (i-1) Iv.zero).key.length (p.items.getD (i-1) Iv.zero).cK) from by obtain⟨b2,o2,A,r2⟩:=(c.it.keep hb).at ad;rw[ac] at A;simp only[au,Addr.mk.injEq,d9] at A;obtain⟨rfl,rfl⟩:=A;exact(jn r2).1)
 have M:=ix (c.it.1 _ (iH hi));obtain⟨k0,k1,k2,k3⟩:=jn W;rw[pN,aa,ab];clear aa ab;generalize E:p.items.getD i Iv.zero=x at *;generalize hy:p.items.getD (i-1) Iv.zero=y at *;have L:=ix λ(a:World)(hb:Below w0.heap.size w0 a)=>mV a y.aK x.aK y.key.length y.cK x.key.length x.cK y.key x.key (HJ.o.bk.keep hb) (M.o.bk.keep hb) rfl rfl
 have H:=ix ((h.keep (al w (.cells p.cs 77))).keep (al _ (.cells x.cs 89)));have B:=ix ((Bx.new w 77 p.cs).keep (al _ (.cells x.cs 89)));have D:=ix (ow w p.cs x.cs);have q:=ix λ(a:World)(e:Nat)(hk:Kt w0 kb a e)(m:Bx a 77 w.heap.size p.cs)(hD:Bx a 89 (w.heap.size+1) x.cs)(aq:Bool)(K:Int)(E:0<=K)=>uh w0 a kb e w.heap.size (w.heap.size+1) p.cs x.cs hk m hD aj ao aq K E
 have r:=ix λ(a:World)(e:Nat)(hk:Kt w0 kb a e)=>kV w0 a kb e x hk
 have d:=ix λ(a:World)(m:Bx a 77 w.heap.size p.cs)=>Bx.page m
 have f:=ix λ(a:World)(m:Bx a 89 (w.heap.size+1) x.cs)=>Bx.item m
 have HL:=ix c.ci;have ah:=ix c.it.2.1;clear h W c E hy;obtain⟨kind,aH,aI,cI,J,aD,cD,aF,next⟩:=p
 obtain⟨N,P,k,aV,cV,val,child,ap⟩:=x;unfold Pv.vl tv;simp only[Pv.cs,Iv.cs,Iv.vl,tv] at *;subst ac hk;have av:(i:Int)<(J.length:Int):=by omega
 have ax:decide ((0:Int)<(i:Int))=true:=by simp;omega
 have ar:((i:Int)==0)=false:=by simpa using h0
 have af:IntKind.i64.wrap ((i:Int)-1)=((i-1:Nat):Int):=by have:=ah.o;rw[iQ (by omega) (by omega)];omega
 obtain⟨j,rfl⟩:∃j,i=j+1:=⟨i-1,by omega⟩
 rw[show j+1-1=j by omega] at n af
 rw[show((j+1:Nat):Int)-1=(j:Int) by omega] at af
 have aw:(j:Int)<(J.length:Int):=by omega
 obtain⟨am,an,F,aC,aE,aG,aL,aJ⟩:=y;dsimp only at n L ⊢;generalize Y:iy F k=z at *;have s:=ix Y;clear Y;clear r;generalize ae:val.length=Z at *;have ai:=ix ae;clear ae;cases hkd:decide (((k.length:Nat):Int)<1)
 all_goals
  by_cases ak:Z=0
  all_goals
   first
   |subst ak
   |have aB:decide ((0:Int)<(Z:Int))=true:=by simp;omega
   go_enter func108,ntmps108;go_wp2_with (first|(go_at_call 149;refine(q.o _ _ H.o B.o D.o _ _ (by decide)).mono ?_;rintro y a ⟨rfl,hk,hb,b⟩;have H:=ix hk;have B:=ix hb;have D:=ix b;obtain⟨c0,c1,c2,c3,O⟩:=d.o _ hb;obtain⟨R,T,U,V⟩:=f.o _ b;clear hk hb b)|(go_at_call 109;refine(jj _ _).mono ?_;rintro y a ⟨rfl,G⟩;obtain rfl:=G.symm)|(go_at_call 152;refine(r.o _ _ H.o).mono ?_;rintro y a ⟨rfl,hk,_⟩;have H:=ix hk))
   have H:=ix (H.o.keep (dr1 _));have B:=ix (B.o.keep (dr1 _));have D:=ix (D.o.keep (dr1 _));have l:=And.intro (d.o _ B.o).2.2.1 (And.intro (f.o _ D.o).1 (n.o _ H.o.b));refine be (S:=λw'=>w'.cell? ⟨w.heap.size,2,none⟩=some (.slice (some ⟨v,I,none⟩) J.length cI)/\w'.cell? ⟨w.heap.size+1,0,none⟩=some (.slice N k.length P)/\w'.cell? ⟨v,I+j*4,none⟩=some (.slice am F.length an)) (by kernel_rfl) (by exact l) (λhHeld=>?_)
   refine tkd 0 1 2 3 ?_;refine tkd 4 5 6 7 ?_;refine tkd 8 9 10 11 ?_;refine tk 12 ?_;refine tw 13 λag C=>?_
   go_simp;refine(L.o _ H.o.b).mono ?_;rintro e w9 ⟨rfl,X⟩;obtain rfl:=X.symm;clear X;go_wp2_with fail
   refine C.o _ _ (by exact l) (λhHeld=>?_)
   refine tkb 14 15 ?_;refine tw 16 λag C=>?_
   go_simp;refine(q.o _ _ H.o B.o D.o _ _ (by decide)).mono ?_
   rintro y a ⟨rfl,hk,hb,b⟩;have H:=ix hk;have B:=ix hb;have D:=ix b;obtain⟨c0,c1,c2,c3,O⟩:=d.o _ hb;obtain⟨R,T,U,V⟩:=f.o _ b;clear hk hb b;have l:=And.intro (d.o _ B.o).2.2.1 (And.intro (f.o _ D.o).1 (n.o _ H.o.b));go_wp2_with fail
   refine C.o _ _ (by exact l) (λhHeld=>?_)
   refine td ?_;clear l;go_wp2_with (first|(go_at_call 149;refine(q.o _ _ H.o B.o D.o _ _ (by decide)).mono ?_;rintro y a ⟨rfl,hk,hb,b⟩;have H:=ix hk;have B:=ix hb;have D:=ix b;obtain⟨c0,c1,c2,c3,O⟩:=d.o _ hb;obtain⟨R,T,U,V⟩:=f.o _ b;clear hk hb b)|(go_at_call 109;refine(jj _ _).mono ?_;rintro y a ⟨rfl,G⟩;obtain rfl:=G.symm)|(go_at_call 152;refine(r.o _ _ H.o).mono ?_;rintro y a ⟨rfl,hk,_⟩;have H:=ix hk))
   all_goals ((first|go_end0|refine az (co rfl _ _ _) rfl ?_);have HV:=ai.o;refine⟨rfl,(bf (Kt w0 kb _) (xH e (j+1) (Iv.it ⟨N,P,k,aV,cV,val,child,ap⟩) F _ _ _ _ ?_ ?_ ?_ ?_)).mp H.o⟩<;>clear H B D q d f M HL<;>have ay:(0<k.length)=¬k=[]:=(by rw[bY]))
   all_goals (have s:=s.o;simp[Iv.it,s];try grind)
end Go.Proofs.YteaogidofpfmmaaGreat
namespace Go.Proofs.YteaogidofpfmmaaGreat
open Tryz
theorem uc(b w:World)(a e i:Nat)(p:Pv)(h:Kt b a w e)(d:Pi b p)(hi:i<p.items.length)(hk:p.kind=1\/p.kind=2):Calls prog 108 #[p.vl,.int .i64 (i:Int),tv a] w λx f=>x=.returned (.tuple #[])/\Kt b a f (els e (p.pg.itemE i)):=by
 by_cases c:i=0
 . rcases hk with hk|hk
   . exact vZ b w a e i p h d hi hk c
   . exact uy b w a e i p h d hi hk c
 . rcases hk with hk|hk
   . exact uE b w a e i p h d hi hk c
   . exact ww b w a e i p h d hi hk c
end Go.Proofs.YteaogidofpfmmaaGreat
namespace Go.Proofs.YteaogidofpfmmaaGreat
open Tryz
open Go.RowKit
variable {l:List Int}{cap fl:Nat}{col pc:Nat->Nat}{a:Option Addr}{p:Pg}{D:Vd}{w w':World}
theorem rF(h:p.formE≠0):p.check=p.formE:=by
 unfold Pg.check Pg.formE at *;split
 . rfl
 . rename_i b;rw[if_neg b] at h;split
   . rfl
   . rename_i c;rw[if_neg c] at h;exact absurd rfl h
theorem jD(h:p.formE=0):p.kindOk=true/\p.form=true:=by
 unfold Pg.formE at h;cases hk:p.kindOk<;>cases hf:p.form<;>simp[hk,hf] at h ⊢
theorem Df(h:p.formE=0):p.check=tel (jc p.itemE p.items.length) (decide (p.next≠0)&& !kN p.next) 15:=by
 obtain⟨d,b⟩:=jD h;unfold Pg.check tel;rw[if_neg (by rw[d];simp),if_neg (by rw[b];simp)]
 by_cases c:jc p.itemE p.items.length=0
 . rw[if_neg (by rw[c];simp),c]
   unfold Pg.nextOk
   have e:p.kind≠3->p.next=0:=by
    intro hk;unfold Pg.form at b;rw[if_neg hk] at b;simp at b;exact b.1.1.2
   by_cases hk:p.kind=3
   . simp[hk]
   . simp[hk,e hk]
 . rw[if_pos c,if_neg (by simp[c])]
theorem nH(f:Nat->Nat)(n:Nat):jc f (n+1)=els (jc f n) (f n):=rfl
theorem Hl(h:p.formE=0)(hi:0<p.items.length):p.kind=1\/p.kind=2:=by
 obtain⟨c,b⟩:=jD h;rcases Pg.kindOk_iff.1 c with h|h|h
 . exact .inl h
 . exact .inr h
 . unfold Pg.form at b;rw[if_pos h] at b;simp at b;rw[b.1.1.2] at hi;simp at hi
theorem AH(w:World)(p:Pv)(x:Pi w p):Calls prog 64 #[p.vl] w λe w'=>e=.returned (.int .i64 (p.pg.check:Int))/\Below w.heap.size w w':=by
 have R:=ix (x.keep (al w (.cells p.cs 77)));have aj:p.items.length<=9223372036854775807:=by have:=x.it.2.1;omega
 have t:=ix (Bx.new w 77 p.cs);have K:=size_alloc w (.cells p.cs 77);have s:=ix (al w (.cells p.cs 77));obtain⟨v,B⟩:∃v,w.alloc (.cells p.cs 77)=v:=⟨_,rfl⟩;rw[B] at R t K s;have ad:w.heap.size≠v.heap.size:=by omega
 have q:=ix (yK v);have N:Hid (Kt v v.heap.size (v.alloc (.cells #[.int .i64 0] 39)) 0):=⟨Bx.new v 39 #[.int .i64 0],al _ _,am _⟩;have S:=ix λ(b:World)(e:Nat)(hk:Kt v v.heap.size b e)(ag:Bool)(E:Int)(hx:0<=E)=>oQ v b v.heap.size e 77 w.heap.size p.cs hk (t.o.keep hk.b) ad ag E E.toNat (by omega)
 have M:=ix λ(b:World)(hk:Kt v v.heap.size b 0)=>ud v b v.heap.size p hk
 have X:=ix λ(b:World)(e i:Nat)(hk:Kt v v.heap.size b e)(A:i<p.items.length)(ac:p.kind=1\/p.kind=2)=>uc v b v.heap.size e i p hk R.o A ac
 have g:=ix λ(b:World)(hb:Below v.heap.size v b)=>Bx.page (t.o.keep hb)
 have O:=ix (λh:p.pg.formE≠0=>rF h)
 have r:=ix (λh:p.pg.formE=0=>Df h)
 have P:=ix (λ(h:p.pg.formE=0)(A:0<p.pg.items.length)=>Hl h A)
 have Y:=ix λn=>nH p.pg.itemE n
 have J:p.pg.items.length=p.items.length:=by simp[Pv.pg]
 have W:p.pg.next=p.next:=rfl;have V:p.pg.kind=p.kind:=rfl;rw[J,W] at r;rw[J,V] at P;clear J W V x;generalize p.pg.check=ai at *;generalize p.pg.formE=U at *;generalize p.pg.itemE=f at *;obtain⟨kind,aq,aI,cI,m,aD,cD,ak,next⟩:=p
 unfold Pv.vl;simp only[Pv.cs,Pv.vl,tv,fv] at *;generalize L:v.heap.size=kb at *;have ah:=ix L;rw[<-L] at g;clear L;by_cases F:U=0
 . subst F;obtain rfl:=r.o rfl;clear O r;have aa:Hid (0<m.length->kind=1\/kind=2):=λh=>P.o rfl h
   go_enter func64,ntmps64;go_wp2_with fail
   refine q.o.mono ?_;rintro y b ⟨rfl,c⟩;obtain rfl:=c.symm;clear B K c q;obtain⟨Z,b1,b2,b3,b4⟩:=g.o _ (al v (.cells #[.int .i64 0] 39));go_wp2_with (first|(go_at_call 107;refine(M.o _ N.o).mono ?_;rintro y b ⟨rfl,hk⟩;have H:=ix hk;obtain⟨c0,c1,c2,c3,T⟩:=g.o _ hk.b;clear hk)|(go_at_call 150;refine(m8 _ _ _ H.o.c).mono ?_;rintro y C ⟨rfl,c⟩;obtain rfl:=c.symm))
   go_loopw [6,22] (λ_ i wx=>∃k:Nat,k<=m.length/\i=.int .i64 k/\Hid (Kt v kb wx (jc f k))) (λ_ i _=>m.length-(intOf i).toNat)
   case atStart=>exact⟨0,an _,rfl,H.o⟩
   case round=>
    obtain⟨k,hk,rfl,H⟩:=hrel;obtain⟨c0,c1,c2,c3,T⟩:=g.o _ H.o.b;by_cases G:k<m.length
    . have ap:(k:Int)<(m.length:Int):=by omega
      have ab:=w64 (j:=k) (by omega)
      go_wp2_with fail
      refine(X.o _ _ k H.o G (aa.o (by omega))).mono ?_
      rintro y b ⟨rfl,d⟩;have H:=ix d;clear d;go_wp2;go_roundw
      case rel=>exact⟨k+1,by omega,by first|(go_num;done)|exact bf (Value.int IntKind.i64) (by omega),by rw[Y.o];exact H.o⟩
      case measure=>first|exact jr _ _ _ ab G|exact jr _ _ _ rfl G|(simp[intOf];omega)
    . obtain rfl:k=m.length:=by omega
      by_cases I:next=0
      . subst I;go_wp2_with (first|(go_at_call 149;refine(S.o _ _ H.o _ _ (by decide)).mono ?_;rintro y b ⟨rfl,d,_,_⟩;have H:=ix d;clear d)|(go_at_call 150;refine(m8 _ _ _ H.o.c).mono ?_;rintro y C ⟨rfl,c⟩;obtain rfl:=c.symm))
        go_ret;exact⟨by simp,bt s.o H.o.b⟩
      . have af:(next==0)=false:=by simpa using I
        go_wp2_with (first|(go_at_call 109;refine(jj _ _).mono ?_;rintro y b ⟨rfl,ae⟩;obtain rfl:=ae.symm)|(go_at_call 149;refine(S.o _ _ H.o _ _ (by decide)).mono ?_;rintro y b ⟨rfl,d,_,_⟩;have H:=ix d;clear d)|(go_at_call 150;refine(m8 _ _ _ H.o.c).mono ?_;rintro y C ⟨rfl,c⟩;obtain rfl:=c.symm))
        go_ret;exact⟨by simp[bne,af,I],bt s.o H.o.b⟩
 . have ao:(((U:Nat):Int)==0)=false:=by simpa using F
   obtain rfl:=O.o F;clear r;go_enter func64,ntmps64;go_wp2_with fail
   refine q.o.mono ?_;rintro y b ⟨rfl,c⟩;obtain rfl:=c.symm;clear B K c q;obtain⟨Z,b1,b2,b3,b4⟩:=g.o _ (al v (.cells #[.int .i64 0] 39));go_wp2_with (first|(go_at_call 107;refine(M.o _ N.o).mono ?_;rintro y b ⟨rfl,hk⟩;have H:=ix hk;obtain⟨c0,c1,c2,c3,T⟩:=g.o _ hk.b;clear hk)|(go_at_call 150;refine(m8 _ _ _ H.o.c).mono ?_;rintro y C ⟨rfl,c⟩;obtain rfl:=c.symm))
   go_ret;exact⟨rfl,bt s.o H.o.b⟩
theorem sK{T:Nat->Prop}{e s n:Nat}{m c:Nat}{C:List Value}(h:w.ownsRow 0 e s (.slice a m c) n C)(hb:But T w w')(f:∀x,a=some x->¬T x.block):w'.ownsRow 0 e s (.slice a m c) n C:=by
 obtain⟨b,d⟩:=h;refine⟨b,?_⟩;rcases d with⟨hv,h0⟩|⟨g,cap',cur,hv,h3,hg,hr⟩
 . exact .inl ⟨hv,h0⟩
 . simp only[di] at hv;exact .inr ⟨g,cap',cur,by simp only[di];exact hv,h3,(hb.block g (ae.1 hg).1 (f _ hv.1)).trans hg,hr⟩
def vi(l:List Int):List Value:=l.map λx=>Value.int .i64 x
theorem Bt(a b:List Int):vi (a++b)=vi a++vi b:=by unfold vi;rw[dy]
def Ig(w:World)(a:Option Addr)(cap:Nat)(l:List Int):Prop:=w.ownsRow 0 3 1 (.slice a l.length cap) l.length (vi l)
theorem Fs:(prog.info? 3).map (λi=>(i.zero,i.size,i.bytes))=some (some (.int .i64 0),1,8):=by kernel_rfl
theorem Ig.keep(h:Ig w a cap l)(hb:Below w.heap.size w w'):Ig w' a cap l:=sK (T:=λ_=>False) h (But.ofBelow hb) (λ_ _ h=>h)
theorem FZ(w:World)(m:TypeId)(a:Option Addr)(n cap:Nat)(l:List Int)(A:n=l.length)(s:Ig w a cap l)(f:Addr)(c:Nat)(x:Int)(t:w.cell? f=some (.int .i64 x))(I:l.length+1<=17592186044416):
 ∃g d w',(Builtin.append_ #[22,22] m #[.slice a n cap,.slice (some f) 1 c]).run prog w=.ok (.slice (some ⟨g,0,none⟩) (n+1) d) w'/\
  Ig w' (some ⟨g,0,none⟩) d (l++[x])/\New w a (some ⟨g,0,none⟩)/\w.grownBy w' (a.map Addr.block)/\g<w'.heap.size:=by
 subst A;obtain⟨E,v,F,G,H⟩:=eo Fs
 obtain⟨g,d,w',B,q,h,h3,r⟩:=fD (P:=prog) w 22 m 0 3 E (.int .i64 0) 1 8 underlying22 v F G H rfl (by decide) (.slice a l.length cap) l.length (vi l) s f 1 c [.int .i64 x] rfl
  (by intro j u b
      match j,b with
      |0,b=>simp at b;subst b;simpa[Addr.add] using t) (by intro u i;simp at i;subst i;rfl) (by decide) (by unfold maxLen;omega) (by omega) (an _) w.heap.size rfl
 rw[pD] at h h3;refine⟨g,d,w',B,?_,?_,h,r⟩
 . unfold Ig;rw[Bt,af];exact q
 . intro y k;simp only[au] at k;subst k;rcases h3 with h3|h3
   . obtain⟨z,C,e⟩:=map_some h3;exact .inl ⟨z,C,e⟩
   . exact .inr (by show _<=g;omega)
theorem Gr{w:World}{o:Oper}{a:Act}{K:Act->World->Prop}{Q:Exit->Act->World->Prop}(s x:Operand)
 (v:o.op=.call {callee:=.builtin .append,args:=#[s,x],argTypes:=#[22,22]}) (b:Option Addr) (n cap:Nat) (l:List Int) (A:a.eval s=.slice b n cap) (t:n=l.length) (q:Ig w b cap l)
 (e:Addr) (c:Nat) (f:Int) (B:a.eval x=.slice (some e) 1 c) (r:w.cell? e=some (.int .i64 f)) (C:l.length+1<=17592186044416)
 (h:∀g d w',Ig w' (some ⟨g,0,none⟩) d (l++[f])->New w b (some ⟨g,0,none⟩)->w.grownBy w' (b.map Addr.block)->g<w'.heap.size->K (a.put o.dst (.slice (some ⟨g,0,none⟩) (n+1) d)) w'):o.wp prog a w K Q:=by
 obtain⟨g,d,w',y,i,j,k,m⟩:=FZ w o.type b n cap l t q e c f r C;unfold Oper.wp execOp;simp only[v,resolve,invoke,builtin,eu,ey,dP,eB,bT,eG,A,B,y];exact h g d w' i j k m
theorem om{w:World}{i:Array Oper}{j:List Oper}{o:Oper}{a:Act}{Q:Exit->Act->World->Prop}(F:o.guard=none)(s x:Operand)
 (B:o.op=.call {callee:=.builtin .append,args:=#[s,x],argTypes:=#[22,22]}) (b:Option Addr) (n cap:Nat) (l:List Int) (C:a.eval s=.slice b n cap) (A:n=l.length) (v:Ig w b cap l)
 (e:Addr) (c:Nat) (f:Int) (E:a.eval x=.slice (some e) 1 c) (y:w.cell? e=some (.int .i64 f)) (G:l.length+1<=17592186044416)
 (h:∀g d w',Ig w' (some ⟨g,0,none⟩) d (l++[f])->New w b (some ⟨g,0,none⟩)->w.grownBy w' (b.map Addr.block)->g<w'.heap.size->wpList prog i Q j (a.put o.dst (.slice (some ⟨g,0,none⟩) (n+1) d)) w'):wpList prog i Q (o::j) a w:=
 fP F λ_ t=>Gr s x B b n cap l C A v e c f E y G λg d w' k m q r=>t _ _ (h g d w' k m q r)
structure IOwn(w wx:World)(a:Option Addr)(cap:Nat)(l:List Int):Prop where
 r:Ig wx a cap l
 n:New w none a
 b:Below w.heap.size w wx
theorem IOwn.step{f d b:World}{c:Option Addr}{i:Nat}{g:List Int}(h:IOwn w f a cap l)(hb:Below f.heap.size f d)(n:Ig b c i g)(m:New d a c)(q:d.grownBy b (a.map Addr.block)):IOwn w b c i g:=by
 refine⟨n,h.n.trans m (ay h.b.size hb.size),?_⟩;have j:=bt h.b hb
 have r:But (λ_=>False) w b:=(But.ofBelow j).grown q λk hk t=>by
  obtain⟨y,s,e⟩:=map_some hk;rcases h.n y s with⟨z,hz,_⟩|h2
  . cases hz
  . omega
 exact r.below λ_ _ h=>h
def jz(kind:Int)(L:List Iv):List Int:=if kind=2 then L.map Iv.child else (L.map Iv.child).filter (λc=>decide (c≠0))
theorem qh(kind:Int)(L:List Iv)(k:Nat)(hk:k<L.length):jz kind (L.take (k+1))=jz kind (L.take k)++(if kind=2\/(L.getD k Iv.zero).child≠0 then [(L.getD k Iv.zero).child] else []):=by
 have e:L.getD k Iv.zero=L[k]:=by simp[hk]
 unfold jz;rw[bZ hk,e];by_cases b:kind=2
 . rw[if_pos b,if_pos b,if_pos (.inl b),dy];rfl
 . rw[if_neg b,if_neg b,dy,gF];by_cases d:L[k].child=0
   . rw[if_neg (by simp[b,d])]
     generalize List.filter (λc=>decide (c≠0)) (List.map Iv.child (List.take k L))=F
     simp[d]
   . rw[if_pos (.inr d)];generalize List.filter (λc=>decide (c≠0)) (List.map Iv.child (List.take k L))=F
     simp[d]
theorem rI(kind:Int)(L:List Iv):(jz kind L).length<=L.length:=by
 unfold jz;split
 . simp
 . exact ay (fN _ _) (by simp)
theorem tZ(P:Pv)(hk:P.kind=1\/P.kind=2):P.pg.kids=jz P.kind P.items:=by
 unfold Pg.kids jz;have b:P.pg.kind=P.kind:=rfl;have c:P.pg.items.map It.child=P.items.map Iv.child:=by simp[Pv.pg,Iv.it]
 rw[b,c];rcases hk with hk|hk
 . rw[if_neg (by omega),if_pos hk,if_neg (by omega)]
 . rw[if_pos hk,if_pos hk]
structure Vm where
 P:Q.Po
 f:Int->Option Pv
 ch:List (Int×Pv)
def Vm.on(X:Vm)(z:Int):Pv:=(X.f z).getD Pv.zero
def Vd.st(D:Vd)(X:Vm)(ac:Option Addr)(cc:Nat):Vd:={D with f:=X.f,ch:=X.ch,ac:=ac,cc:=cc}
def Vx(w:World)(b:Nat)(X:Vm)(fl:Nat)(D:Vd)(pc col:Nat->Nat):Prop:=∃ac cc,Vq w b X.P fl (D.st X ac cc) pc col
theorem Vx.keep{b:Nat}{X:Vm}(h:Vx w b X fl D pc col)(hb:Below w.heap.size w w'):Vx w' b X fl D pc col:=by
 obtain⟨c,d,h⟩:=h;exact⟨c,d,h.keep hb⟩
theorem Vx.on_z{b:Nat}{X:Vm}(h:Vx w b X fl D pc col)(z:Int):Pz (λk=>col k=6) w (X.on z):=by
 obtain⟨c,d,h⟩:=h;exact EH h z
theorem Vx.look{b:Nat}{X:Vm}(h:Vx w b X fl D pc col)(z:Int):(Instr.lookup 113 (.map (some D.mb)) (.int .i64 z) false).run prog w=.ok (X.on z).vl w:=by
 obtain⟨c,d,h⟩:=h;exact Ey h z
theorem Vx.c01{b:Nat}{X:Vm}(h:Vx w b X fl D pc col):w.cell? ⟨b,0,none⟩=some (.pointer (some ⟨D.pb,0,none⟩))/\w.cell? ⟨b,1,none⟩=some (.map (some D.mb)):=by
 obtain⟨c,d,h⟩:=h;exact⟨h.cells.1,h.cells.2.1⟩
theorem Vx.lb{b:Nat}{X:Vm}(h:Vx w b X fl D pc col):b<w.heap.size:=by
 obtain⟨c,d,h⟩:=h;exact h.lb
theorem Vx.z{w:World}{b:Nat}{X:Vm}{fl:Nat}{D:Vd}{pc col:Nat->Nat}(h:Vx w b X fl D pc col){k:Nat}(hk:w.heap.size<=k):col k=0:=by
 obtain⟨c,d,h⟩:=h;cases e:col k with
 |zero=>rfl
 |succ n=>have:=h.lt k (by omega);omega
theorem qD(w:World):Ig (w.alloc (.cells #[] 3)) (some ⟨w.heap.size,0,none⟩) 0 []:=by
 refine⟨rfl,.inr ⟨w.heap.size,0,#[],rfl,an _,bj _ _,am _,an _,rfl,rfl⟩⟩
theorem FU(w:World)(p:Pv)(r:Pi w p)(hk:p.kind=2):Calls prog 78 #[p.vl] w λe w'=>∃a c,e=.returned (.slice a (p.pg.kids).length c)/\IOwn w w' a c p.pg.kids:=by
 rw[tZ p (by omega)]
 have ac:p.items.length<=2199023255520:=r.it.2.1;have y:=ix (r.keep (al w (.cells p.cs 77)));have t:=ix (Bx.new w 77 p.cs);have n:=ix (al w (.cells p.cs 77));obtain⟨v,J⟩:∃v,w.alloc (.cells p.cs 77)=v:=⟨_,rfl⟩;rw[J] at y t n;have E:=ix λ(s:World)(hb:Below v.heap.size v s)=>Bx.page (t.o.keep hb)
 have A:=ix λ(s:World)(hb:Below v.heap.size v s)(k:Nat)(hk:k<p.items.length)=>(y.o.it.keep hb).at hk
 have M:=ix λ(k:Nat)(hk:k<p.items.length)=>qh p.kind p.items k hk
 have K:=ix λ(k:Nat)=>(show(jz p.kind (p.items.take k)).length<=k from ay (rI _ _) (by rw[dm];omega))
 have g:Hid (p.items.take p.items.length=p.items):=du;clear r;obtain⟨kind,aj,aI,cI,b,aD,cD,af,next⟩:=p
 unfold Pv.vl;simp only[Pv.cs] at *;subst hk;obtain⟨O,P,R,S,T⟩:=E.o _ (Below.refl _ _);go_enter func78,ntmps78;go_wp2;go_loopw [3,4] (λo i V=>∃(k:Nat)(f:Option Addr)(h:Nat),k<=b.length/\i=.int .i64 k/\o=.slice f (jz 2 (b.take k)).length h/\IOwn v V f h (jz 2 (b.take k))) (λ_ i _=>b.length-(intOf i).toNat)
 case atStart=>exact⟨0,_,0,an _,rfl,rfl,qD _,λx U=>.inr (by cases U;exact am _),al _ _⟩
 case round=>
  clear J O P R S T;obtain⟨k,f,h,hk,rfl,rfl,q⟩:=hrel;have d:=ix q;obtain⟨c0,c1,c2,c3,c4⟩:=E.o _ q.b;clear q;by_cases m:k<b.length
  . have ah:(k:Int)<(b.length:Int):=by omega
    have Z:=w64 (j:=k) (by omega)
    obtain⟨bI,ae,rfl,I⟩:=A.o _ d.o.b k m;obtain⟨k0,k1,k2,k3⟩:=jn I;have X:=ix (M.o k m);have ab:=K.o k;clear I A M K;generalize b.getD k Iv.zero=x at *;have B:=d;obtain⟨aK,cK,ad,aV,cV,val,child,ai⟩:=x;simp only at *;generalize jz 2 (b.take k)=L at *;have N:Hid (L++[child]=jz 2 (b.take (k+1))):=by show _=_;rw[X.o];simp
    go_wp2_with (at_builtin;refine om rfl _ _ rfl f L.length h L rfl rfl (B.o.r.keep ((Below.refl _ _).alloc (am _) _)) ⟨wr.heap.size,0,none⟩ 1 child rfl ?c1 (by omega) ?_)
    try case c1=>simp
    intro aa Y w2 G F H ag;have C:=ix (B.o.step (al _ _) G F H);rw[N.o] at C;have W:=ix (bf List.length N.o);clear G F H;go_wp2;go_roundw
    case rel=>exact⟨k+1,_,Y,by omega,by first|(go_num;done)|exact bf (Value.int IntKind.i64) (by omega),by rw[<-W.o];simp,C.o⟩
    case measure=>first|exact jr _ _ _ Z m|exact jr _ _ _ rfl m|(simp[intOf];omega)
  . obtain rfl:k=b.length:=by omega
    rw[g.o] at d ⊢;go_wp2;go_ret;exact⟨f,h,rfl,d.o.r,d.o.n.mono n.o.size,bt n.o d.o.b⟩
theorem Ff(w:World)(p:Pv)(y:Pi w p)(hk:p.kind=1):Calls prog 78 #[p.vl] w λe w'=>∃a c,e=.returned (.slice a (p.pg.kids).length c)/\IOwn w w' a c p.pg.kids:=by
 rw[tZ p (by omega)]
 have ae:p.items.length<=2199023255520:=y.it.2.1;have C:=ix (y.keep (al w (.cells p.cs 77)));have B:=ix (Bx.new w 77 p.cs);have q:=ix (al w (.cells p.cs 77));obtain⟨v,M⟩:∃v,w.alloc (.cells p.cs 77)=v:=⟨_,rfl⟩;rw[M] at C B q;have G:=ix λ(A:World)(hb:Below v.heap.size v A)=>Bx.page (B.o.keep hb)
 have E:=ix λ(A:World)(hb:Below v.heap.size v A)(k:Nat)(hk:k<p.items.length)=>(C.o.it.keep hb).at hk
 have O:=ix λ(k:Nat)(hk:k<p.items.length)=>qh p.kind p.items k hk
 have N:=ix λ(k:Nat)=>(show(jz p.kind (p.items.take k)).length<=k from ay (rI _ _) (by rw[dm];omega))
 have aa:Hid (p.items.take p.items.length=p.items):=du;clear y;obtain⟨kind,ap,aI,cI,b,aD,cD,ah,next⟩:=p
 unfold Pv.vl;simp only[Pv.cs] at *;subst hk;obtain⟨S,T,U,V,W⟩:=G.o _ (Below.refl _ _);go_enter func78,ntmps78;go_wp2;go_loopw [3,4] (λo i Y=>∃(k:Nat)(f:Option Addr)(h:Nat),k<=b.length/\i=.int .i64 k/\o=.slice f (jz 1 (b.take k)).length h/\IOwn v Y f h (jz 1 (b.take k))) (λ_ i _=>b.length-(intOf i).toNat)
 case atStart=>exact⟨0,_,0,an _,rfl,rfl,qD _,λx X=>.inr (by cases X;exact am _),al _ _⟩
 case round=>
  clear M S T U V W;obtain⟨k,f,h,hk,rfl,rfl,t⟩:=hrel;have d:=ix t;obtain⟨c0,c1,c2,c3,c4⟩:=G.o _ t.b;clear t;by_cases m:k<b.length
  . have aj:(k:Int)<(b.length:Int):=by omega
    have R:=w64 (j:=k) (by omega)
    obtain⟨bI,ag,rfl,K⟩:=E.o _ d.o.b k m;obtain⟨k0,k1,k2,k3⟩:=jn K;have P:=ix (O.o k m);have ac:=N.o k;clear K E O N;generalize b.getD k Iv.zero=x at *;have r:=d;obtain⟨aK,cK,af,aV,cV,val,child,ao⟩:=x;simp only at *;generalize jz 1 (b.take k)=L at *;by_cases s:child=0
    . subst s;have n:Hid (L=jz 1 (b.take (k+1))):=by show _=_;rw[P.o];simp
      go_wp2;go_roundw
      case rel=>exact⟨k+1,f,h,by omega,by first|(go_num;done)|exact bf (Value.int IntKind.i64) (by omega),by rw[<-n.o],by rw[<-n.o];exact r.o⟩
      case measure=>first|exact jr _ _ _ R m|exact jr _ _ _ rfl m|(simp[intOf];omega)
    . have ad:(child==0)=false:=by simpa using s
      have n:Hid (L++[child]=jz 1 (b.take (k+1))):=by show _=_;rw[P.o];simp[s]
      go_wp2_with (at_builtin;refine om rfl _ _ rfl f L.length h L rfl rfl (r.o.r.keep ((Below.refl _ _).alloc (am _) _)) ⟨wr.heap.size,0,none⟩ 1 child rfl ?c1 (by omega) ?_)
      try case c1=>simp
      intro ab g w2 I H J ai;have F:=ix (r.o.step (al _ _) I H J);rw[n.o] at F;have Z:=ix (bf List.length n.o);clear I H J;go_wp2;go_roundw
      case rel=>exact⟨k+1,_,g,by omega,by first|(go_num;done)|exact bf (Value.int IntKind.i64) (by omega),by rw[<-Z.o];simp,F.o⟩
      case measure=>first|exact jr _ _ _ R m|exact jr _ _ _ rfl m|(simp[intOf];omega)
  . obtain rfl:k=b.length:=by omega
    rw[aa.o] at d ⊢;go_wp2;go_ret;exact⟨f,h,rfl,d.o.r,d.o.n.mono q.o.size,bt q.o d.o.b⟩
theorem zo(w:World)(p:Pv)(G:Pi w p)(C:p.kind≠1)(E:p.kind≠2):Calls prog 78 #[p.vl] w λe w'=>∃a c,e=.returned (.slice a (p.pg.kids).length c)/\IOwn w w' a c p.pg.kids:=by
 have hk:p.pg.kids=if p.kind=3/\p.next≠0 then [p.next] else []:=by
  unfold Pg.kids;rw[if_neg (show ¬p.pg.kind=2 from E),if_neg (show ¬p.pg.kind=1 from C)]
  rfl
 have q:=ix hk;generalize p.pg.kids=L at *;clear hk;have ae:p.items.length<=2199023255520:=G.it.2.1;have B:=ix (Bx.new w 77 p.cs);have d:=ix (al w (.cells p.cs 77));obtain⟨v,J⟩:∃v,w.alloc (.cells p.cs 77)=v:=⟨_,rfl⟩;rw[J] at B d;have M:=ix λ(O:World)(hb:Below v.heap.size v O)=>Bx.page (B.o.keep hb)
 clear G;obtain⟨kind,ai,V,Y,T,U,X,af,next⟩:=p
 unfold Pv.vl;simp only[Pv.cs] at *;have ab:(kind==1)=false:=by simpa using C
 have ac:(kind==2)=false:=by simpa using E
 go_enter func78,ntmps78;go_wp2;generalize T.length=n at *;go_loopw [3,4] (λo i P=>∃(k:Nat)(f:Option Addr)(m:Nat),k<=n/\i=.int .i64 k/\o=.slice f 0 m/\IOwn v P f m []) (λ_ i _=>n-(intOf i).toNat)
 case atStart=>exact⟨0,_,0,an _,rfl,rfl,qD _,λx N=>.inr (by cases N;exact am _),al _ _⟩
 case round=>
  clear J;obtain⟨k,f,m,hk,rfl,rfl,A⟩:=hrel;have b:=ix A;obtain⟨c0,c1,c2,c3,W⟩:=M.o _ A.b;clear A;by_cases K:k<n
  . have ah:(k:Int)<(n:Int):=by omega
    have S:=w64 (j:=k) (by omega)
    go_wp2;go_roundw
    case rel=>exact⟨k+1,f,m,by omega,by first|(go_num;done)|exact bf (Value.int IntKind.i64) (by omega),rfl,b.o⟩
    case measure=>first|exact jr _ _ _ S K|exact jr _ _ _ rfl K|(simp[intOf];omega)
  . obtain rfl:k=n:=by omega
    by_cases y:kind=3
    . subst y;by_cases t:next=0
      . subst t;have r:L=[]:=by rw[q.o];exact if_neg (λh=>h.2 rfl)
        clear q;subst r;go_wp2;go_ret;exact⟨f,m,rfl,b.o.r,b.o.n.mono d.o.size,bt d.o b.o.b⟩
      . have aa:(next==0)=false:=by simpa using t
        have r:L=[next]:=by rw[q.o];exact if_pos ⟨rfl,t⟩
        clear q;subst r;go_wp2_with (at_builtin;refine om rfl _ _ rfl f 0 m [] rfl rfl (b.o.r.keep ((Below.refl _ _).alloc (am _) _)) ⟨wr.heap.size,0,none⟩ 1 next rfl ?c1 (by decide) ?_)
        try case c1=>simp
        intro g R Z H F I ag;have s:=ix (b.o.step (al _ _) H F I);clear H F I;go_wp2;go_ret;exact⟨_,R,rfl,s.o.r,s.o.n.mono d.o.size,bt d.o s.o.b⟩
    . have ad:(kind==3)=false:=by simpa using y
      have r:L=[]:=by rw[q.o];exact if_neg (λh=>y h.1)
      clear q;subst r;go_wp2;go_ret;exact⟨f,m,rfl,b.o.r,b.o.n.mono d.o.size,bt d.o b.o.b⟩
theorem zx(w:World)(p:Pv)(b:Pi w p):Calls prog 78 #[p.vl] w λe w'=>∃a c,e=.returned (.slice a (p.pg.kids).length c)/\IOwn w w' a c p.pg.kids:=by
 by_cases d:p.kind=1
 . exact Ff w p b d
 . by_cases f:p.kind=2
   . exact FU w p b f
   . exact zo w p b d f
end Go.Proofs.YteaogidofpfmmaaGreat
