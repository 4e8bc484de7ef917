import Derived.Test.YtbdkogimlbnlmaaGreatWlB1
set_option linter.all false
set_option maxHeartbeats 3200000
set_option maxRecDepth 8000
namespace Go.Proofs.YtbdkogimlbnlmaaGreat
open Tryz
open Go.RowKit
variable {cs:Array Value}{e g kb:Nat}{t:TypeId}{w w' w0:World}
theorem mW(a b:Int):(a==b)=decide (a=b):=by
 by_cases h:a=b
 . subst h;simp
 . simp[h]
theorem jx(w:World)(n:Int):Calls prog 159 #[.int .i64 n] w λe w'=>e=.returned (.bool (kO n))/\w'=w:=by
 unfold kO;by_cases b:1<=n
 . have d:decide (1<=n)=true:=by simpa using b
   go_enter func159,ntmps159;go_wp2;go_ret;exact⟨by simp[b],rfl⟩
 . have d:decide (1<=n)=false:=by simpa using b
   go_enter func159,ntmps159;go_wp2;go_ret;exact⟨by simp,rfl⟩
theorem s6(w:World)(r:Iv):Calls prog 200 #[r.vl] w λe w'=>e=.returned (.bool (decide (r.size<=32)))/\∃o,w'=w.alloc o:=by
 unfold Iv.vl Iv.cs;go_enter func200,ntmps200;go_wp2;go_ret;exact⟨rfl,_,rfl⟩
def Kp(w:World)(kb:Nat)(e:Nat):Prop:=w.heap[kb]?=some (.cells #[.int .i64 (e:Int)] 42 (0,0))
theorem Kp.cell(h:Kp w kb e):w.cell? ⟨kb,0,none⟩=some (.int .i64 (e:Int)):=by rw[ay _ _ _ _ _ _ h];rfl
theorem Kp.frozen(h:Kp w kb e):w.frozen? ⟨kb,0,none⟩=false:=bG w kb 0 _ _ h
theorem Kp.lt(h:Kp w kb e):kb<w.heap.size:=(af.1 h).1
theorem Kp.set(h:Kp w kb e)(x:Nat):Kp (w.setCell ⟨kb,0,none⟩ (.int .i64 (x:Int))) kb x:=aY w kb 0 _ _ _ h
theorem Kp.keep(h:Kp w kb e)(hb:Below w.heap.size w w'):Kp w' kb e:=(hb.block kb h.lt).trans h
def tel(e:Nat)(wrong:Bool)(x:Nat):Nat:=if wrong=true/\e=0 then x else e
def tv(kb:Nat):Value:=.func (.func 179) #[] #[.pointer (some ⟨kb,0,none⟩)]
def fv(kb:Nat):Value:=.func (.func 180) #[] #[.pointer (some ⟨kb,0,none⟩)]
theorem yF(w:World):Calls prog 156 #[] w λe w'=>e=.returned (.tuple #[tv w.heap.size,fv w.heap.size])/\w'=w.alloc (.cells #[.int .i64 0] 42):=by
 go_enter func156,ntmps156;go_wp2;go_ret2
 exact⟨rfl,rfl⟩
theorem mJ(w:World)(kb e:Nat)(h:Kp w kb e):Calls prog 180 #[.pointer (some ⟨kb,0,none⟩)] w λx w'=>x=.returned (.int .i64 (e:Int))/\w'=w:=by
 have c:=h.cell;clear h;go_enter func180,ntmps180;go_wp2;go_ret;exact⟨rfl,rfl⟩
theorem Dc(w:World)(kb e:Nat)(h:Kp w kb e)(d:Bool)(x:Nat):Calls prog 179 #[.bool d,.int .i64 (x:Int),.pointer (some ⟨kb,0,none⟩)] w λy w'=>y=.returned (.tuple #[])/\Kp w' kb (tel e d x)/\But (λk=>k=kb) w w':=by
 have c:=h.cell;have f:=h.frozen;have H:=iJ h;clear h;cases d with
 |false=>
  go_enter func179,ntmps179;go_wp2;go_end0
  exact⟨rfl,by simpa[tel] using H.o,But.refl _ _⟩
 |true=>
  by_cases b:e=0
  . subst b;rw[show((0:Nat):Int)=0 from rfl] at c
    go_enter func179,ntmps179;go_wp2;go_end0
    exact⟨rfl,by simpa[tel] using H.o.set x,(But.refl (λk=>k=kb) w).setCell (p:=⟨kb,0,none⟩) (λ_=>rfl) _⟩
  . have i:(((e:Nat):Int)==0)=false:=by simpa using b
    go_enter func179,ntmps179;go_wp2;go_end0
    exact⟨rfl,by simpa[tel,b] using H.o,But.refl _ _⟩
structure Kt(w0:World)(kb:Nat)(w:World)(e:Nat):Prop where
 c:Kp w kb e
 b:Below w0.heap.size w0 w
 l:w0.heap.size<=kb
theorem Kt.keep(h:Kt w0 kb w e)(hb:Below w.heap.size w w'):Kt w0 kb w' e:=⟨h.c.keep hb,bt h.b hb,h.l⟩
theorem Kt.but{b:Nat}(h:Kt w0 kb w e)(hb:But (λk=>k=kb) w w')(d:Kp w' kb b):Kt w0 kb w' b:=
 ⟨d,((But.ofBelow (S:=λ_=>False) h.b).trans hb λx f e=>by have:=h.l;omega).below λ_ _ h=>h,h.l⟩
def Bx(w:World)(t:TypeId)(g:Nat)(cs:Array Value):Prop:=w.heap[g]?=some (.cells cs t (0,0))
theorem Bx.cell(h:Bx w t g cs)(i:Nat){v:Value}(b:cs[i]?=some v):w.cell? ⟨g,i,none⟩=some v:=by rw[ay _ _ _ _ _ _ h];exact b
theorem Bx.lt(h:Bx w t g cs):g<w.heap.size:=(af.1 h).1
theorem Bx.keep(h:Bx w t g cs)(hb:Below w.heap.size w w'):Bx w' t g cs:=(hb.block g h.lt).trans h
theorem Bx.but{S:Nat->Prop}(h:Bx w t g cs)(hb:But S w w')(b:¬S g):Bx w' t g cs:=(hb.block g h.lt b).trans h
theorem Bx.new(w:World)(t:TypeId)(cs:Array Value):Bx (w.alloc (.cells cs t)) t w.heap.size cs:=aH _ _
theorem Bx.page{p:Pv}(h:Bx w 31 g p.cs):w.cell? ⟨g,0,none⟩=some (.int .i64 p.kind)/\w.cell? ⟨g,1,none⟩=some (.int .i64 p.level)/\w.cell? ⟨g,2,none⟩=some (.slice p.aI p.items.length p.cI)/\w.cell? ⟨g,3,none⟩=some (.slice p.aD p.data.length p.cD)/\w.cell? ⟨g,4,none⟩=some (.int .i64 p.next):=
 ⟨h.cell 0 rfl,h.cell 1 rfl,h.cell 2 rfl,h.cell 3 rfl,h.cell 4 rfl⟩
theorem Bx.item{p:Iv}(h:Bx w 51 g p.cs):w.cell? ⟨g,0,none⟩=some (.slice p.aK p.key.length p.cK)/\w.cell? ⟨g,1,none⟩=some (.slice p.aV p.val.length p.cV)/\w.cell? ⟨g,2,none⟩=some (.int .i64 p.child)/\w.cell? ⟨g,3,none⟩=some (.int .i64 p.size):=
 ⟨h.cell 0 rfl,h.cell 1 rfl,h.cell 2 rfl,h.cell 3 rfl⟩
theorem oV(w0:World)(w:World)(kb e:Nat)(t:TypeId)(g:Nat)(cs:Array Value)(h:Kt w0 kb w e)(j:Bx w t g cs)(ne:g≠kb)(d:Bool)(f:Int)(x:Nat)(l:f=x):
 Calls prog 179 #[.bool d,.int .i64 f,.pointer (some ⟨kb,0,none⟩)] w λy w'=>y=.returned (.tuple #[])/\Kt w0 kb w' (tel e d x)/\Bx w' t g cs/\But (λk=>k=kb) w w':=by
 subst l;refine(Dc w kb e h.c d x).mono ?_;rintro y w' ⟨rfl,i,b⟩;exact⟨rfl,h.but b i,j.but b ne,b⟩
theorem qB(w:World)(p:Pv)(f:Int):Calls prog 181 #[p.vl,.int .i64 f] w λe w'=>e=.returned (.bool (decide (f<=p.items.length)&&decide (p.items.length<=8)&&decide (p.data.length=0)&&decide (p.next=0)))/\Below w.heap.size w w':=by
 unfold Pv.vl Pv.cs;obtain⟨y,A,r,v,items,q,s,m,next⟩:=p
 dsimp only;generalize items.length=n;generalize m.length=d;by_cases b:f<=(n:Int)
 . by_cases i:(n:Int)<=8
   . by_cases j:d=0
     . subst j;have h:decide (f<=(n:Int))=true:=by simpa using b
       have k:decide ((n:Int)<=8)=true:=by simpa using i
       have l:decide (n<=8)=true:=by simp;omega
       go_enter func181,ntmps181;go_wp2;go_ret;exact⟨by simp[h,l,mW],al _ _⟩
     . have h:decide (f<=(n:Int))=true:=by simpa using b
       have k:decide ((n:Int)<=8)=true:=by simpa using i
       have x:(((d:Nat):Int)==0)=false:=by simpa using j
       go_enter func181,ntmps181;go_wp2;go_ret;exact⟨by simp[j],al _ _⟩
   . have h:decide (f<=(n:Int))=true:=by simpa using b
     have k:decide ((n:Int)<=8)=false:=by simpa using i
     have l:decide (n<=8)=false:=by simp;omega
     go_enter func181,ntmps181;go_wp2;go_ret;exact⟨by simp,al _ _⟩
 . have h:decide (f<=(n:Int))=false:=by simpa using b
   go_enter func181,ntmps181;go_wp2;go_ret;exact⟨by simp,al _ _⟩
theorem m8(h:Kt w0 kb w e):w.heap.size≠kb:=by have:=h.c.lt;omega
def Pg.formE(p:Pg):Nat:=if p.kindOk=false then 22 else if p.form=false then 5 else 0
theorem uh(w0 w:World)(kb:Nat)(p:Pv)(h:Kt w0 kb w 0):Calls prog 157 #[p.vl,tv kb] w λx w'=>x=.returned (.tuple #[])/\Kt w0 kb w' p.pg.formE:=by
 have C:=m8 h;have H:=iJ (h.keep (al w (.cells p.cs 31)));have B:=iJ (Bx.new w 31 p.cs);have l:=iJ λ(b:World)(e:Nat)(d:Kt w0 kb b e)(n:Bx b 31 w.heap.size p.cs)(D:Bool)(v:Int)(x:Nat)(A:v=x)=>oV w0 b kb e 31 w.heap.size p.cs d n C D v x A
 have m:=iJ λ(b:World)(f:Int)=>qB b p f
 have j:=iJ λ(b:World)(n:Bx b 31 w.heap.size p.cs)=>Bx.page n
 clear h;obtain⟨k,P,G,J,items,E,I,O,next⟩:=p
 unfold Pv.vl tv;simp only[Pv.cs,Pv.vl] at *;by_cases q:k=1
 . subst q;go_enter func157,ntmps157;go_wp2_with (first|(go_at_call 179;refine(l.o _ _ H.o B.o _ _ 5 rfl).mono ?_;rintro y b ⟨rfl,d,hb,_⟩;have H:=iJ d;have B:=iJ hb;obtain⟨c0,c1,c2,c3,c4⟩:=j.o _ hb;clear d hb)|(go_at_call 181;refine(m.o _ _).mono ?_;rintro y b ⟨rfl,i⟩;have H:=iJ (H.o.keep i);have B:=iJ (B.o.keep i);obtain⟨c0,c1,c2,c3,c4⟩:=j.o _ B.o;clear i))
   all_goals (go_end0;refine⟨rfl,(a7 (Kt w0 kb _) ?_).mp H.o⟩;simp[tel,Pg.formE,Pg.kindOk,Pg.form,Pv.pg];grind)
 . by_cases r:k=2
   . subst r;go_enter func157,ntmps157;go_wp2_with (first|(go_at_call 179;refine(l.o _ _ H.o B.o _ _ 5 rfl).mono ?_;rintro y b ⟨rfl,d,hb,_⟩;have H:=iJ d;have B:=iJ hb;obtain⟨c0,c1,c2,c3,c4⟩:=j.o _ hb;clear d hb)|(go_at_call 181;refine(m.o _ _).mono ?_;rintro y b ⟨rfl,i⟩;have H:=iJ (H.o.keep i);have B:=iJ (B.o.keep i);obtain⟨c0,c1,c2,c3,c4⟩:=j.o _ B.o;clear i))
     all_goals (go_end0;refine⟨rfl,(a7 (Kt w0 kb _) ?_).mp H.o⟩;simp[tel,Pg.formE,Pg.kindOk,Pg.form,Pv.pg];grind)
   . by_cases s:k=3
     . subst s;go_enter func157,ntmps157;go_wp2_with (first|(go_at_call 179;refine(l.o _ _ H.o B.o _ _ 5 rfl).mono ?_;rintro y b ⟨rfl,d,hb,_⟩;have H:=iJ d;have B:=iJ hb;obtain⟨c0,c1,c2,c3,c4⟩:=j.o _ hb;clear d hb)|(go_at_call 181;refine(m.o _ _).mono ?_;rintro y b ⟨rfl,i⟩;have H:=iJ (H.o.keep i);have B:=iJ (B.o.keep i);obtain⟨c0,c1,c2,c3,c4⟩:=j.o _ B.o;clear i))
       all_goals (go_end0;refine⟨rfl,(a7 (Kt w0 kb _) ?_).mp H.o⟩;clear H B l m j;have K:(0<items.length)=¬items=[]:=(by rw[bR]);simp[tel,Pg.formE,Pg.kindOk,Pg.form,Pv.pg];grind)
     . have L:(k==1)=false:=by simpa using q
       have M:(k==2)=false:=by simpa using r
       have N:(k==3)=false:=by simpa using s
       go_enter func157,ntmps157;go_wp2_with (go_at_call 179;refine(l.o _ _ H.o B.o _ _ 22 rfl).mono ?_;rintro y b ⟨rfl,d,hb,_⟩;have H:=iJ d)
       all_goals (go_end0;refine⟨rfl,(a7 (Kt w0 kb _) ?_).mp H.o⟩;simp[tel,Pg.formE,Pg.kindOk,Pg.form,Pv.pg];grind)
def It.leafE(x:It):Nat:=if x.valOk 1=false then 8 else if x.kidOk 1=false then 15 else 0
def els(e x:Nat):Nat:=if e≠0 then e else x
theorem kK(w0 w:World)(kb e:Nat)(p:Iv)(h:Kt w0 kb w e):Calls prog 183 #[p.vl,tv kb] w λx w'=>x=.returned (.tuple #[])/\Kt w0 kb w' (els e p.it.leafE)/\But (λk=>k=kb) w w':=by
 have D:=m8 h;have H:=iJ (h.keep (al w (.cells p.cs 51)));have B:=iJ (Bx.new w 51 p.cs);have U:=iJ (But.ofBelow (S:=λk=>k=kb) (al w (.cells p.cs 51)))
 have l:=iJ λ(b:World)(e:Nat)(d:Kt w0 kb b e)(n:Bx b 51 w.heap.size p.cs)(E:Bool)(q:Int)(L:0<=q)=>oV w0 b kb e 51 w.heap.size p.cs d n D E q q.toNat (by omega)
 have j:=iJ λ(b:World)=>s6 b p
 have i:=iJ λ(b:World)(n:Bx b 51 w.heap.size p.cs)=>Bx.item n
 clear h;obtain⟨G,J,M,I,K,val,N,A⟩:=p;unfold Iv.vl tv;simp only[Iv.cs,Iv.vl] at *;by_cases r:A<=32
 . have v:decide (A<=32)=true:=by simpa using r
   rw[v] at j;go_enter func183,ntmps183;go_wp2_with (first|(go_at_call 179;refine(l.o _ _ H.o B.o _ _ (by decide)).mono ?_;rintro y b ⟨rfl,d,hb,m⟩;have U:=iJ (U.o.trans m (λ_ _ h=>h));have H:=iJ d;have B:=iJ hb;obtain⟨c0,c1,c2,c3⟩:=i.o _ hb;clear d hb)|(go_at_call 200;refine(j.o _).mono ?_;rintro y b ⟨rfl,f,rfl⟩;have U:=iJ (U.o.andBelow (al _ f));have H:=iJ (H.o.keep (al _ f));have B:=iJ (B.o.keep (al _ f));obtain⟨c0,c1,c2,c3⟩:=i.o _ B.o)|(go_at_call 159;refine(jx _ _).mono ?_;rintro y b ⟨rfl,s⟩;obtain rfl:=s.symm))
   all_goals (go_end0;refine⟨rfl,(a7 (Kt w0 kb _) ?_).mp H.o,U.o⟩;clear H B l j i;have C:(0<val.length)=¬val=[]:=(by rw[bR]);simp[tel,els,It.leafE,It.valOk,It.kidOk,Iv.it,r];grind)
 . have v:decide (A<=32)=false:=by simpa using r
   rw[v] at j;go_enter func183,ntmps183;go_wp2_with (first|(go_at_call 179;refine(l.o _ _ H.o B.o _ _ (by decide)).mono ?_;rintro y b ⟨rfl,d,hb,m⟩;have U:=iJ (U.o.trans m (λ_ _ h=>h));have H:=iJ d;have B:=iJ hb;obtain⟨c0,c1,c2,c3⟩:=i.o _ hb;clear d hb)|(go_at_call 200;refine(j.o _).mono ?_;rintro y b ⟨rfl,f,rfl⟩;have U:=iJ (U.o.andBelow (al _ f));have H:=iJ (H.o.keep (al _ f));have B:=iJ (B.o.keep (al _ f));obtain⟨c0,c1,c2,c3⟩:=i.o _ B.o)|(go_at_call 159;refine(jx _ _).mono ?_;rintro y b ⟨rfl,s⟩;obtain rfl:=s.symm))
   all_goals (go_end0;refine⟨rfl,(a7 (Kt w0 kb _) ?_).mp H.o,U.o⟩;clear H B l j i;have C:(0<val.length)=¬val=[]:=(by rw[bR]);simp[tel,els,It.leafE,It.valOk,It.kidOk,Iv.it];grind)
theorem dr1(w:World):Below w.heap.size w w.drew:=(Below.refl _ _).drew
theorem uq(w0:World)(w:World)(kb e:Nat)(g d:Nat)(cs i:Array Value)(h:Kt w0 kb w e)(m:Bx w 31 g cs)(n:Bx w 51 d i)(ne:g≠kb)(p:d≠kb)(f:Bool)(b:Int)(q:0<=b):
 Calls prog 179 #[.bool f,.int .i64 b,.pointer (some ⟨kb,0,none⟩)] w λy w'=>y=.returned (.tuple #[])/\Kt w0 kb w' (tel e f b.toNat)/\Bx w' 31 g cs/\Bx w' 51 d i:=by
 refine(oV w0 w kb e 31 g cs h m ne f b b.toNat (by omega)).mono ?_
 rintro y w' ⟨rfl,j,k,l⟩;exact⟨rfl,j,k,n.but l p⟩
theorem oo(w:World)(cs b:Array Value):Bx ((w.alloc (.cells cs 31)).alloc (.cells b 51)) 51 (w.heap.size+1) b:=by
 have:=Bx.new (w.alloc (.cells cs 31)) 51 b;rwa [size_alloc] at this
def tj(kind:Int)(i:Nat)(x:It)(prev:List Nat):Nat:=
 if (if kind=2/\i=0 then decide (x.key.length=0) else decide (1<=x.key.length)&&decide (x.key.length<=24))=false then 7
 else if (decide (i=0)||decide (jo prev x.key<0))=false then 11 else if x.valOk kind=false then 8 else if x.kidOk kind=false then 15 else 0
theorem qz(p:Pg)(i:Nat):p.itemE i=tj p.kind i (p.at i) (p.at (i-1)).key:=by
 unfold Pg.itemE tj Pg.keyOk Pg.ordOk
 have h:decide (0<jo (p.at i).key (p.at (i-1)).key)=decide (jo (p.at (i-1)).key (p.at i).key<0):=by
  rw[ua (p.at (i-1)).key (p.at i).key,decide_eq_decide];omega
 rw[h]
theorem fin4(e:Nat)(k o v c:Bool):tel (tel (tel (tel e (!k) 7) (!o) 11) (!v) 8) (!c) 15=els e (if k=false then 7 else if o=false then 11 else if v=false then 8 else if c=false then 15 else 0):=by
 unfold tel els;by_cases b:e=0<;>cases k<;>cases o<;>cases v<;>cases c<;>simp[b]
theorem fin2(e:Nat)(k o v c:Bool):els (tel (tel e (!k) 7) (!o) 11) (if v=false then 8 else if c=false then 15 else 0)=els e (if k=false then 7 else if o=false then 11 else if v=false then 8 else if c=false then 15 else 0):=by
 unfold tel els;by_cases b:e=0<;>cases k<;>cases o<;>cases v<;>cases c<;>simp[b]
theorem xJ(e i:Nat)(x:It)(j:List Nat)(a b c d:Bool)(k:a= !(if (2:Int)=2/\i=0 then decide (x.key.length=0) else decide (1<=x.key.length)&&decide (x.key.length<=24)))(hb:b= !(decide (i=0)||decide (jo j x.key<0)))
 (f:c= !(decide (x.val.length=0)&&decide (x.size=0))) (h:d= !kO x.child):tel (tel (tel (tel e a (Int.toNat 7)) b (Int.toNat 11)) c (Int.toNat 8)) d (Int.toNat 15)=els e (tj 2 i x j):=by
 have m:x.valOk 2=(decide (x.val.length=0)&&decide (x.size=0)):=by unfold It.valOk;rw[if_pos rfl]
 have l:x.kidOk 2=kO x.child:=by unfold It.kidOk;rw[if_neg (by simp)]
 rw[<-m] at f;rw[<-l] at h;rw[k,hb,f,h];unfold tj;exact fin4 _ _ _ _ _
theorem vH(e i:Nat)(x:It)(d:List Nat)(a b:Bool)(f:a= !(decide (1<=x.key.length)&&decide (x.key.length<=24)))(hb:b= !(decide (i=0)||decide (jo d x.key<0))):
 els (tel (tel e a (Int.toNat 7)) b (Int.toNat 11)) x.leafE=els e (tj 1 i x d):=by
 rw[f,hb];unfold tj It.leafE;rw[if_neg (show ¬((1:Int)=2/\i=0) by simp)]
 exact fin2 _ _ _ _ _
theorem wu(w0 w:World)(kb e i:Nat)(p:Pv)(h:Kt w0 kb w e)(k:Pi w0 p)(hi:i<p.items.length)(b:p.kind=1)(W:i=0):Calls prog 158 #[p.vl,.int .i64 (i:Int),tv kb] w λx w'=>x=.returned (.tuple #[])/\Kt w0 kb w' (els e (p.pg.itemE i)):=by
 have ab:=m8 h;have aj:=h.c.lt;have ac:w.heap.size+1≠kb:=by omega
 have L:=Pv.at p i;have M:=Pv.at p (i-1);obtain⟨bI,off,aa,I⟩:=(k.it.keep (bt h.b (al w (.cells p.cs 31)))).at hi;have O:=iJ (k.it.1 _ (ja hi));obtain⟨K,k1,k2,k3⟩:=jG I;rw[qz,L,M];clear L M;generalize s:p.items.getD i Iv.zero=x at *;generalize Z:p.items.getD (i-1) Iv.zero=y at *;have H:=iJ ((h.keep (al w (.cells p.cs 31))).keep (al _ (.cells x.cs 51)));have B:=iJ ((Bx.new w 31 p.cs).keep (al _ (.cells x.cs 51)));have D:=iJ (oo w p.cs x.cs);have n:=iJ λ(d:World)(e:Nat)(b:Kt w0 kb d e)(j:Bx d 31 w.heap.size p.cs)(X:Bx d 51 (w.heap.size+1) x.cs)(af:Bool)(J:Int)(s:0<=J)=>uq w0 d kb e w.heap.size (w.heap.size+1) p.cs x.cs b j X ab ac af J s
 have q:=iJ λ(d:World)(e:Nat)(b:Kt w0 kb d e)=>kK w0 d kb e x b
 have l:=iJ λ(d:World)(j:Bx d 31 w.heap.size p.cs)=>Bx.page j
 have m:=iJ λ(d:World)(j:Bx d 51 (w.heap.size+1) x.cs)=>Bx.item j
 have P:=iJ k.ci;have ah:=iJ k.it.2.1;clear h I k s Z;obtain⟨am,an,aI,cI,items,aD,cD,ak,next⟩:=p
 obtain⟨R,U,N,T,V,val,ae,ad⟩:=x;unfold Pv.vl tv;simp only[Pv.cs,Iv.cs,Iv.vl,tv] at *;subst aa b;subst W;have ai:(0:Int)<(items.length:Int):=by omega
 simp only[eE,bY] at K k1 k2 k3;generalize y.key=yk at *;cases hkd:decide (((N.length:Nat):Int)<1)
 all_goals
  go_enter func158,ntmps158;go_wp2_with (first|(go_at_call 179;refine(n.o _ _ H.o B.o D.o _ _ (by decide)).mono ?_;rintro y d ⟨rfl,b,hb,f⟩;have H:=iJ b;have B:=iJ hb;have D:=iJ f;obtain⟨c0,c1,c2,c3,c4⟩:=l.o _ hb;obtain⟨A,C,E,G⟩:=m.o _ f;clear b hb f)|(go_at_call 159;refine(jx _ _).mono ?_;rintro y d ⟨rfl,v⟩;obtain rfl:=v.symm)|(go_at_call 183;refine(q.o _ _ H.o).mono ?_;rintro y d ⟨rfl,b,_⟩;have H:=iJ b))
  have H:=iJ (H.o.keep (dr1 _));have B:=iJ (B.o.keep (dr1 _));have D:=iJ (D.o.keep (dr1 _));have r:True:=trivial;refine bC (S:=λw'=>True) (by kernel_rfl) (by exact r) (λhHeld=>?_)
  refine tkd 0 1 2 3 ?_;refine tu 4 ?_;refine tu 5 ?_;refine tu 6 ?_;refine tu 7 ?_;refine tu 8 ?_;refine tu 9 ?_;refine tu 10 ?_;refine tu 11 ?_;refine tu 12 ?_;refine tu 13 ?_;refine tu 14 ?_;refine tk 15 ?_;refine tw 16 λag Y=>?_
  go_simp;refine(n.o _ _ H.o B.o D.o _ _ (by decide)).mono ?_
  rintro y d ⟨rfl,b,hb,f⟩;have H:=iJ b;have B:=iJ hb;have D:=iJ f;obtain⟨c0,c1,c2,c3,c4⟩:=l.o _ hb;obtain⟨A,C,E,G⟩:=m.o _ f;clear b hb f;go_wp2_with fail
  refine Y.o _ _ (by exact r) (λhHeld=>?_)
  refine td ?_;clear r;go_wp2_with (first|(go_at_call 179;refine(n.o _ _ H.o B.o D.o _ _ (by decide)).mono ?_;rintro y d ⟨rfl,b,hb,f⟩;have H:=iJ b;have B:=iJ hb;have D:=iJ f;obtain⟨c0,c1,c2,c3,c4⟩:=l.o _ hb;obtain⟨A,C,E,G⟩:=m.o _ f;clear b hb f)|(go_at_call 159;refine(jx _ _).mono ?_;rintro y d ⟨rfl,v⟩;obtain rfl:=v.symm)|(go_at_call 183;refine(q.o _ _ H.o).mono ?_;rintro y d ⟨rfl,b,_⟩;have H:=iJ b))
  all_goals ((first|go_end0|refine bZ (eQ rfl _ _ _) rfl ?_);refine⟨rfl,(a7 (Kt w0 kb _) (vH e 0 (Iv.it ⟨R,U,N,T,V,val,ae,ad⟩) yk _ _ ?_ ?_)).mp H.o⟩<;>clear H B D n l m O P q)
  all_goals (simp[Iv.it];try grind)
theorem uU(w0 w:World)(kb e i:Nat)(p:Pv)(h:Kt w0 kb w e)(k:Pi w0 p)(hi:i<p.items.length)(d:p.kind=1)(h0:i≠0):Calls prog 158 #[p.vl,.int .i64 (i:Int),tv kb] w λx w'=>x=.returned (.tuple #[])/\Kt w0 kb w' (els e (p.pg.itemE i)):=by
 have ah:=m8 h;have av:=h.c.lt;have ak:w.heap.size+1≠kb:=by omega
 have aa:=Pv.at p i;have ab:=Pv.at p (i-1);obtain⟨E,off,ac,X⟩:=(k.it.keep (bt h.b (al w (.cells p.cs 31)))).at hi;have ad:i-1<p.items.length:=by omega
 have HJ:=iJ (k.it.1 _ (ja ad));have r:=iJ λ(b:World)(hb:Below w0.heap.size w0 b)=>(show b.cell? ⟨E,off+(i-1)*4,none⟩=some (.slice (p.items.getD (i-1) Iv.zero).aK (p.items.getD (i-1) Iv.zero).key.length (p.items.getD (i-1) Iv.zero).cK) from by obtain⟨b2,o2,G,r2⟩:=(k.it.keep hb).at ad;rw[ac] at G;simp only[aE,Addr.mk.injEq,eH] at G;obtain⟨rfl,rfl⟩:=G;exact(jG r2).1)
 have O:=iJ (k.it.1 _ (ja hi));obtain⟨k0,k1,k2,k3⟩:=jG X;rw[qz,aa,ab];clear aa ab;generalize J:p.items.getD i Iv.zero=x at *;generalize hy:p.items.getD (i-1) Iv.zero=y at *;have N:=iJ λ(b:World)(hb:Below w0.heap.size w0 b)=>pN b y.aK x.aK y.key.length y.cK x.key.length x.cK y.key x.key (HJ.o.bk.keep hb) (O.o.bk.keep hb) rfl rfl
 have H:=iJ ((h.keep (al w (.cells p.cs 31))).keep (al _ (.cells x.cs 51)));have B:=iJ ((Bx.new w 31 p.cs).keep (al _ (.cells x.cs 51)));have D:=iJ (oo w p.cs x.cs);have s:=iJ λ(b:World)(e:Nat)(d:Kt w0 kb b e)(q:Bx b 31 w.heap.size p.cs)(hD:Bx b 51 (w.heap.size+1) x.cs)(ao:Bool)(K:Int)(J:0<=K)=>uq w0 b kb e w.heap.size (w.heap.size+1) p.cs x.cs d q hD ah ak ao K J
 have A:=iJ λ(b:World)(e:Nat)(d:Kt w0 kb b e)=>kK w0 b kb e x d
 have l:=iJ λ(b:World)(q:Bx b 31 w.heap.size p.cs)=>Bx.page q
 have m:=iJ λ(b:World)(q:Bx b 51 (w.heap.size+1) x.cs)=>Bx.item q
 have HL:=iJ k.ci;have ag:=iJ k.it.2.1;clear h X k J hy;obtain⟨az,aB,aI,cI,items,aD,cD,ay,next⟩:=p
 obtain⟨P,R,v,aV,cV,val,an,am⟩:=x;unfold Pv.vl tv;simp only[Pv.cs,Iv.cs,Iv.vl,tv] at *;subst ac d;have aq:(i:Int)<(items.length:Int):=by omega
 have au:decide ((0:Int)<(i:Int))=true:=by simp;omega
 have ap:((i:Int)==0)=false:=by simpa using h0
 have ae:IntKind.i64.wrap ((i:Int)-1)=((i-1:Nat):Int):=by have:=ag.o;rw[iT (by omega) (by omega)];omega
 obtain⟨j,rfl⟩:∃j,i=j+1:=⟨i-1,by omega⟩
 rw[show j+1-1=j by omega] at r ae
 rw[show((j+1:Nat):Int)-1=(j:Int) by omega] at ae
 have ar:(j:Int)<(items.length:Int):=by omega
 obtain⟨ai,aj,L,aw,ax,aA,aF,aC⟩:=y;dsimp only at r N ⊢;generalize Z:jo L v=z at *;have C:=iJ Z;clear Z;cases hkd:decide (((v.length:Nat):Int)<1)
 all_goals
  go_enter func158,ntmps158;go_wp2_with (first|(go_at_call 179;refine(s.o _ _ H.o B.o D.o _ _ (by decide)).mono ?_;rintro y b ⟨rfl,d,hb,f⟩;have H:=iJ d;have B:=iJ hb;have D:=iJ f;obtain⟨c0,c1,c2,c3,c4⟩:=l.o _ hb;obtain⟨T,U,V,W⟩:=m.o _ f;clear d hb f)|(go_at_call 159;refine(jx _ _).mono ?_;rintro y b ⟨rfl,M⟩;obtain rfl:=M.symm)|(go_at_call 183;refine(A.o _ _ H.o).mono ?_;rintro y b ⟨rfl,d,_⟩;have H:=iJ d))
  have H:=iJ (H.o.keep (dr1 _));have B:=iJ (B.o.keep (dr1 _));have D:=iJ (D.o.keep (dr1 _));have n:=And.intro (l.o _ B.o).2.2.1 (And.intro (m.o _ D.o).1 (r.o _ H.o.b));refine bC (S:=λw'=>w'.cell? ⟨w.heap.size,2,none⟩=some (.slice (some ⟨E,off,none⟩) items.length cI)/\w'.cell? ⟨w.heap.size+1,0,none⟩=some (.slice P v.length R)/\w'.cell? ⟨E,off+j*4,none⟩=some (.slice ai L.length aj)) (by kernel_rfl) (by exact n) (λhHeld=>?_)
  refine tkd 0 1 2 3 ?_;refine tkd 4 5 6 7 ?_;refine tkd 8 9 10 11 ?_;refine tk 12 ?_;refine tw 13 λaf I=>?_
  go_simp;refine(N.o _ H.o.b).mono ?_;rintro e w9 ⟨rfl,Y⟩;obtain rfl:=Y.symm;clear Y;go_wp2_with fail
  refine I.o _ _ (by exact n) (λhHeld=>?_)
  refine tkb 14 15 ?_;refine tw 16 λaf I=>?_
  go_simp;refine(s.o _ _ H.o B.o D.o _ _ (by decide)).mono ?_
  rintro y b ⟨rfl,d,hb,f⟩;have H:=iJ d;have B:=iJ hb;have D:=iJ f;obtain⟨c0,c1,c2,c3,c4⟩:=l.o _ hb;obtain⟨T,U,V,W⟩:=m.o _ f;clear d hb f;have n:=And.intro (l.o _ B.o).2.2.1 (And.intro (m.o _ D.o).1 (r.o _ H.o.b));go_wp2_with fail
  refine I.o _ _ (by exact n) (λhHeld=>?_)
  refine td ?_;clear n;go_wp2_with (first|(go_at_call 179;refine(s.o _ _ H.o B.o D.o _ _ (by decide)).mono ?_;rintro y b ⟨rfl,d,hb,f⟩;have H:=iJ d;have B:=iJ hb;have D:=iJ f;obtain⟨c0,c1,c2,c3,c4⟩:=l.o _ hb;obtain⟨T,U,V,W⟩:=m.o _ f;clear d hb f)|(go_at_call 159;refine(jx _ _).mono ?_;rintro y b ⟨rfl,M⟩;obtain rfl:=M.symm)|(go_at_call 183;refine(A.o _ _ H.o).mono ?_;rintro y b ⟨rfl,d,_⟩;have H:=iJ d))
  all_goals ((first|go_end0|refine bZ (eQ rfl _ _ _) rfl ?_);refine⟨rfl,(a7 (Kt w0 kb _) (vH e (j+1) (Iv.it ⟨P,R,v,aV,cV,val,an,am⟩) L _ _ ?_ ?_)).mp H.o⟩<;>clear H B D s l m O HL A)
  all_goals (have C:=C.o;simp[Iv.it,C];try grind)
theorem uN(w0 w:World)(kb e i:Nat)(p:Pv)(h:Kt w0 kb w e)(k:Pi w0 p)(hi:i<p.items.length)(b:p.kind=2)(Y:i=0):Calls prog 158 #[p.vl,.int .i64 (i:Int),tv kb] w λx w'=>x=.returned (.tuple #[])/\Kt w0 kb w' (els e (p.pg.itemE i)):=by
 have ac:=m8 h;have an:=h.c.lt;have ae:w.heap.size+1≠kb:=by omega
 have N:=Pv.at p i;have O:=Pv.at p (i-1);obtain⟨bI,off,ab,J⟩:=(k.it.keep (bt h.b (al w (.cells p.cs 31)))).at hi;have R:=iJ (k.it.1 _ (ja hi));obtain⟨k0,k1,k2,k3⟩:=jG J;rw[qz,N,O];clear N O;generalize s:p.items.getD i Iv.zero=x at *;generalize hy:p.items.getD (i-1) Iv.zero=y at *;have H:=iJ ((h.keep (al w (.cells p.cs 31))).keep (al _ (.cells x.cs 51)));have B:=iJ ((Bx.new w 31 p.cs).keep (al _ (.cells x.cs 51)));have D:=iJ (oo w p.cs x.cs);have n:=iJ λ(d:World)(e:Nat)(b:Kt w0 kb d e)(j:Bx d 31 w.heap.size p.cs)(Z:Bx d 51 (w.heap.size+1) x.cs)(ah:Bool)(M:Int)(s:0<=M)=>uq w0 d kb e w.heap.size (w.heap.size+1) p.cs x.cs b j Z ac ae ah M s
 have q:=iJ λ(d:World)(e:Nat)(b:Kt w0 kb d e)=>kK w0 d kb e x b
 have l:=iJ λ(d:World)(j:Bx d 31 w.heap.size p.cs)=>Bx.page j
 have m:=iJ λ(d:World)(j:Bx d 51 (w.heap.size+1) x.cs)=>Bx.item j
 have T:=iJ k.ci;have aj:=iJ k.it.2.1;clear h J k s hy;obtain⟨aq,ar,aI,cI,items,aD,cD,ap,next⟩:=p
 obtain⟨U,W,A,V,X,val,ag,af⟩:=x;unfold Pv.vl tv;simp only[Pv.cs,Iv.cs,Iv.vl,tv] at *;subst ab b;subst Y;have ak:(0:Int)<(items.length:Int):=by omega
 simp only[eE,bY] at k0 k1 k2 k3;generalize y.key=yk at *;clear q;generalize P:val.length=L at *;have aa:=iJ P;clear P;by_cases ad:L=0
 all_goals
  first
  |subst ad
  |have ao:decide ((0:Int)<(L:Int))=true:=by simp;omega
  go_enter func158,ntmps158;go_wp2_with (first|(go_at_call 179;refine(n.o _ _ H.o B.o D.o _ _ (by decide)).mono ?_;rintro y d ⟨rfl,b,hb,f⟩;have H:=iJ b;have B:=iJ hb;have D:=iJ f;obtain⟨c0,c1,c2,c3,c4⟩:=l.o _ hb;obtain⟨C,E,G,I⟩:=m.o _ f;clear b hb f)|(go_at_call 159;refine(jx _ _).mono ?_;rintro y d ⟨rfl,v⟩;obtain rfl:=v.symm)|(go_at_call 183;refine(q.o _ _ H.o).mono ?_;rintro y d ⟨rfl,b,_⟩;have H:=iJ b))
  have H:=iJ (H.o.keep (dr1 _));have B:=iJ (B.o.keep (dr1 _));have D:=iJ (D.o.keep (dr1 _));have r:True:=trivial;refine bC (S:=λw'=>True) (by kernel_rfl) (by exact r) (λhHeld=>?_)
  refine tkd 0 1 2 3 ?_;refine tu 4 ?_;refine tu 5 ?_;refine tu 6 ?_;refine tu 7 ?_;refine tu 8 ?_;refine tu 9 ?_;refine tu 10 ?_;refine tu 11 ?_;refine tu 12 ?_;refine tu 13 ?_;refine tu 14 ?_;refine tk 15 ?_;refine tw 16 λai K=>?_
  go_simp;refine(n.o _ _ H.o B.o D.o _ _ (by decide)).mono ?_
  rintro y d ⟨rfl,b,hb,f⟩;have H:=iJ b;have B:=iJ hb;have D:=iJ f;obtain⟨c0,c1,c2,c3,c4⟩:=l.o _ hb;obtain⟨C,E,G,I⟩:=m.o _ f;clear b hb f;go_wp2_with fail
  refine K.o _ _ (by exact r) (λhHeld=>?_)
  refine td ?_;clear r;go_wp2_with (first|(go_at_call 179;refine(n.o _ _ H.o B.o D.o _ _ (by decide)).mono ?_;rintro y d ⟨rfl,b,hb,f⟩;have H:=iJ b;have B:=iJ hb;have D:=iJ f;obtain⟨c0,c1,c2,c3,c4⟩:=l.o _ hb;obtain⟨C,E,G,I⟩:=m.o _ f;clear b hb f)|(go_at_call 159;refine(jx _ _).mono ?_;rintro y d ⟨rfl,v⟩;obtain rfl:=v.symm)|(go_at_call 183;refine(q.o _ _ H.o).mono ?_;rintro y d ⟨rfl,b,_⟩;have H:=iJ b))
  all_goals ((first|go_end0|refine bZ (eQ rfl _ _ _) rfl ?_);have HV:=aa.o;refine⟨rfl,(a7 (Kt w0 kb _) (xJ e 0 (Iv.it ⟨U,W,A,V,X,val,ag,af⟩) yk _ _ _ _ ?_ ?_ ?_ ?_)).mp H.o⟩<;>clear H B D n l m R T<;>have am:(0<A.length)=¬A=[]:=(by rw[bR]))
  all_goals (simp[Iv.it];try grind)
theorem wI(w0 w:World)(kb e i:Nat)(p:Pv)(h:Kt w0 kb w e)(k:Pi w0 p)(hi:i<p.items.length)(d:p.kind=2)(h0:i≠0):Calls prog 158 #[p.vl,.int .i64 (i:Int),tv kb] w λx w'=>x=.returned (.tuple #[])/\Kt w0 kb w' (els e (p.pg.itemE i)):=by
 have aj:=m8 h;have az:=h.c.lt;have ao:w.heap.size+1≠kb:=by omega
 have aa:=Pv.at p i;have ab:=Pv.at p (i-1);obtain⟨E,off,ac,X⟩:=(k.it.keep (bt h.b (al w (.cells p.cs 31)))).at hi;have ad:i-1<p.items.length:=by omega
 have HJ:=iJ (k.it.1 _ (ja ad));have s:=iJ λ(b:World)(hb:Below w0.heap.size w0 b)=>(show b.cell? ⟨E,off+(i-1)*4,none⟩=some (.slice (p.items.getD (i-1) Iv.zero).aK (p.items.getD (i-1) Iv.zero).key.length (p.items.getD (i-1) Iv.zero).cK) from by obtain⟨b2,o2,G,r2⟩:=(k.it.keep hb).at ad;rw[ac] at G;simp only[aE,Addr.mk.injEq,eH] at G;obtain⟨rfl,rfl⟩:=G;exact(jG r2).1)
 have O:=iJ (k.it.1 _ (ja hi));obtain⟨k0,k1,k2,k3⟩:=jG X;rw[qz,aa,ab];clear aa ab;generalize J:p.items.getD i Iv.zero=x at *;generalize hy:p.items.getD (i-1) Iv.zero=y at *;have N:=iJ λ(b:World)(hb:Below w0.heap.size w0 b)=>pN b y.aK x.aK y.key.length y.cK x.key.length x.cK y.key x.key (HJ.o.bk.keep hb) (O.o.bk.keep hb) rfl rfl
 have H:=iJ ((h.keep (al w (.cells p.cs 31))).keep (al _ (.cells x.cs 51)));have B:=iJ ((Bx.new w 31 p.cs).keep (al _ (.cells x.cs 51)));have D:=iJ (oo w p.cs x.cs);have v:=iJ λ(b:World)(e:Nat)(d:Kt w0 kb b e)(r:Bx b 31 w.heap.size p.cs)(hD:Bx b 51 (w.heap.size+1) x.cs)(ar:Bool)(xi:Int)(J:0<=xi)=>uq w0 b kb e w.heap.size (w.heap.size+1) p.cs x.cs d r hD aj ao ar xi J
 have A:=iJ λ(b:World)(e:Nat)(d:Kt w0 kb b e)=>kK w0 b kb e x d
 have l:=iJ λ(b:World)(r:Bx b 31 w.heap.size p.cs)=>Bx.page r
 have m:=iJ λ(b:World)(r:Bx b 51 (w.heap.size+1) x.cs)=>Bx.item r
 have HL:=iJ k.ci;have ah:=iJ k.it.2.1;clear h X k J hy;obtain⟨aG,aJ,aI,cI,items,aD,cD,aF,next⟩:=p
 obtain⟨P,R,n,aV,cV,val,aq,ap⟩:=x;unfold Pv.vl tv;simp only[Pv.cs,Iv.cs,Iv.vl,tv] at *;subst ac d;have av:(i:Int)<(items.length:Int):=by omega
 have ax:decide ((0:Int)<(i:Int))=true:=by simp;omega
 have au:((i:Int)==0)=false:=by simpa using h0
 have af:IntKind.i64.wrap ((i:Int)-1)=((i-1:Nat):Int):=by have:=ah.o;rw[iT (by omega) (by omega)];omega
 obtain⟨j,rfl⟩:∃j,i=j+1:=⟨i-1,by omega⟩
 rw[show j+1-1=j by omega] at s af
 rw[show((j+1:Nat):Int)-1=(j:Int) by omega] at af
 have aw:(j:Int)<(items.length:Int):=by omega
 obtain⟨am,an,L,aB,aC,aH,aM,aL⟩:=y;dsimp only at s N ⊢;generalize Z:jo L n=z at *;have C:=iJ Z;clear Z;clear A;generalize ae:val.length=K at *;have ai:=iJ ae;clear ae;cases hkd:decide (((n.length:Nat):Int)<1)
 all_goals
  by_cases ak:K=0
  all_goals
   first
   |subst ak
   |have aA:decide ((0:Int)<(K:Int))=true:=by simp;omega
   go_enter func158,ntmps158;go_wp2_with (first|(go_at_call 179;refine(v.o _ _ H.o B.o D.o _ _ (by decide)).mono ?_;rintro y b ⟨rfl,d,hb,f⟩;have H:=iJ d;have B:=iJ hb;have D:=iJ f;obtain⟨c0,c1,c2,c3,c4⟩:=l.o _ hb;obtain⟨T,U,V,W⟩:=m.o _ f;clear d hb f)|(go_at_call 159;refine(jx _ _).mono ?_;rintro y b ⟨rfl,M⟩;obtain rfl:=M.symm)|(go_at_call 183;refine(A.o _ _ H.o).mono ?_;rintro y b ⟨rfl,d,_⟩;have H:=iJ d))
   have H:=iJ (H.o.keep (dr1 _));have B:=iJ (B.o.keep (dr1 _));have D:=iJ (D.o.keep (dr1 _));have q:=And.intro (l.o _ B.o).2.2.1 (And.intro (m.o _ D.o).1 (s.o _ H.o.b));refine bC (S:=λw'=>w'.cell? ⟨w.heap.size,2,none⟩=some (.slice (some ⟨E,off,none⟩) items.length cI)/\w'.cell? ⟨w.heap.size+1,0,none⟩=some (.slice P n.length R)/\w'.cell? ⟨E,off+j*4,none⟩=some (.slice am L.length an)) (by kernel_rfl) (by exact q) (λhHeld=>?_)
   refine tkd 0 1 2 3 ?_;refine tkd 4 5 6 7 ?_;refine tkd 8 9 10 11 ?_;refine tk 12 ?_;refine tw 13 λag I=>?_
   go_simp;refine(N.o _ H.o.b).mono ?_;rintro e w9 ⟨rfl,Y⟩;obtain rfl:=Y.symm;clear Y;go_wp2_with fail
   refine I.o _ _ (by exact q) (λhHeld=>?_)
   refine tkb 14 15 ?_;refine tw 16 λag I=>?_
   go_simp;refine(v.o _ _ H.o B.o D.o _ _ (by decide)).mono ?_
   rintro y b ⟨rfl,d,hb,f⟩;have H:=iJ d;have B:=iJ hb;have D:=iJ f;obtain⟨c0,c1,c2,c3,c4⟩:=l.o _ hb;obtain⟨T,U,V,W⟩:=m.o _ f;clear d hb f;have q:=And.intro (l.o _ B.o).2.2.1 (And.intro (m.o _ D.o).1 (s.o _ H.o.b));go_wp2_with fail
   refine I.o _ _ (by exact q) (λhHeld=>?_)
   refine td ?_;clear q;go_wp2_with (first|(go_at_call 179;refine(v.o _ _ H.o B.o D.o _ _ (by decide)).mono ?_;rintro y b ⟨rfl,d,hb,f⟩;have H:=iJ d;have B:=iJ hb;have D:=iJ f;obtain⟨c0,c1,c2,c3,c4⟩:=l.o _ hb;obtain⟨T,U,V,W⟩:=m.o _ f;clear d hb f)|(go_at_call 159;refine(jx _ _).mono ?_;rintro y b ⟨rfl,M⟩;obtain rfl:=M.symm)|(go_at_call 183;refine(A.o _ _ H.o).mono ?_;rintro y b ⟨rfl,d,_⟩;have H:=iJ d))
   all_goals ((first|go_end0|refine bZ (eQ rfl _ _ _) rfl ?_);have HV:=ai.o;refine⟨rfl,(a7 (Kt w0 kb _) (xJ e (j+1) (Iv.it ⟨P,R,n,aV,cV,val,aq,ap⟩) L _ _ _ _ ?_ ?_ ?_ ?_)).mp H.o⟩<;>clear H B D v l m O HL<;>have ay:(0<n.length)=¬n=[]:=(by rw[bR]))
   all_goals (have C:=C.o;simp[Iv.it,C];try grind)
end Go.Proofs.YtbdkogimlbnlmaaGreat
namespace Go.Proofs.YtbdkogimlbnlmaaGreat
open Tryz
theorem ug(d w:World)(b e i:Nat)(p:Pv)(h:Kt d b w e)(g:Pi d p)(hi:i<p.items.length)(hk:p.kind=1\/p.kind=2):Calls prog 158 #[p.vl,.int .i64 (i:Int),tv b] w λx j=>x=.returned (.tuple #[])/\Kt d b j (els e (p.pg.itemE i)):=by
 by_cases f:i=0
 . rcases hk with hk|hk
   . exact wu d w b e i p h g hi hk f
   . exact uN d w b e i p h g hi hk f
 . rcases hk with hk|hk
   . exact uU d w b e i p h g hi hk f
   . exact wI d w b e i p h g hi hk f
end Go.Proofs.YtbdkogimlbnlmaaGreat
namespace Go.Proofs.YtbdkogimlbnlmaaGreat
open Tryz
open Go.RowKit
variable {l:List Int}{cap:Nat}{a:Option Addr}{p:Pg}{w w' wx wy:World}
theorem rU(h:p.formE≠0):p.check=p.formE:=by
 unfold Pg.check Pg.formE at *;split
 . rfl
 . rename_i b;rw[if_neg b] at h;split
   . rfl
   . rename_i d;rw[if_neg d] at h;exact absurd rfl h
theorem jI(h:p.formE=0):p.kindOk=true/\p.form=true:=by
 unfold Pg.formE at h;cases hk:p.kindOk<;>cases hf:p.form<;>simp[hk,hf] at h ⊢
theorem Cp(h:p.formE=0):p.check=tel (ju p.itemE p.items.length) (decide (p.next≠0)&& !kO p.next) 15:=by
 obtain⟨f,b⟩:=jI h;unfold Pg.check tel;rw[if_neg (by rw[f];simp),if_neg (by rw[b];simp)]
 by_cases e:ju p.itemE p.items.length=0
 . rw[if_neg (by rw[e];simp),e]
   unfold Pg.nextOk
   have g:p.kind≠3->p.next=0:=by
    intro d;unfold Pg.form at b;rw[if_neg d] at b;simp at b;exact b.1.1.2
   by_cases d:p.kind=3
   . simp[d]
   . simp[d,g d]
 . rw[if_pos e,if_neg (by simp[e])]
theorem mX(f:Nat->Nat)(n:Nat):ju f (n+1)=els (ju f n) (f n):=rfl
theorem Ia(h:p.formE=0)(hi:0<p.items.length):p.kind=1\/p.kind=2:=by
 obtain⟨d,b⟩:=jI h;rcases Pg.kindOk_iff.1 d with h|h|h
 . exact .inl h
 . exact .inr h
 . unfold Pg.form at b;rw[if_pos h] at b;simp at b;rw[b.1.1.2] at hi;simp at hi
theorem pS(w:World)(p:Pv)(A:Pi w p):Calls prog 124 #[p.vl] w λe w'=>e=.returned (.int .i64 (p.pg.check:Int))/\Below w.heap.size w w':=by
 have S:=iJ (A.keep (al w (.cells p.cs 31)));have ak:p.items.length<=9223372036854775807:=by have:=A.it.2.1;omega
 have x:=iJ (Bx.new w 31 p.cs);have L:=size_alloc w (.cells p.cs 31);have t:=iJ (al w (.cells p.cs 31));obtain⟨v,C⟩:∃v,w.alloc (.cells p.cs 31)=v:=⟨_,rfl⟩;rw[C] at S x L t;have ad:w.heap.size≠v.heap.size:=by omega
 have r:=iJ (yF v);have O:Hid (Kt v v.heap.size (v.alloc (.cells #[.int .i64 0] 42)) 0):=⟨Bx.new v 42 #[.int .i64 0],al _ _,ai _⟩;have T:=iJ λ(b:World)(e:Nat)(d:Kt v v.heap.size b e)(ag:Bool)(E:Int)(hx:0<=E)=>oV v b v.heap.size e 31 w.heap.size p.cs d (x.o.keep d.b) ad ag E E.toNat (by omega)
 have N:=iJ λ(b:World)(d:Kt v v.heap.size b 0)=>uh v b v.heap.size p d
 have Y:=iJ λ(b:World)(e i:Nat)(d:Kt v v.heap.size b e)(B:i<p.items.length)(ac:p.kind=1\/p.kind=2)=>ug v b v.heap.size e i p d S.o B ac
 have q:=iJ λ(b:World)(hb:Below v.heap.size v b)=>Bx.page (x.o.keep hb)
 have P:=iJ (λh:p.pg.formE≠0=>rU h)
 have s:=iJ (λh:p.pg.formE=0=>Cp h)
 have R:=iJ (λ(h:p.pg.formE=0)(B:0<p.pg.items.length)=>Ia h B)
 have Z:=iJ λn=>mX p.pg.itemE n
 have K:p.pg.items.length=p.items.length:=by simp[Pv.pg]
 have W:p.pg.next=p.next:=rfl;have V:p.pg.kind=p.kind:=rfl;rw[K,W] at s;rw[K,V] at R;clear K W V A;generalize p.pg.check=aj at *;generalize p.pg.formE=U at *;generalize p.pg.itemE=f at *;obtain⟨X,ap,aI,cI,items,aD,cD,am,next⟩:=p
 unfold Pv.vl;simp only[Pv.cs,Pv.vl,tv,fv] at *;generalize M:v.heap.size=kb at *;have ah:=iJ M;rw[<-M] at q;clear M;by_cases G:U=0
 . subst G;obtain rfl:=s.o rfl;clear P s;have aa:Hid (0<items.length->X=1\/X=2):=λh=>R.o rfl h
   go_enter func124,ntmps124;go_wp2_with fail
   refine r.o.mono ?_;rintro y b ⟨rfl,g⟩;obtain rfl:=g.symm;clear C L g r;obtain⟨b0,b1,b2,b3,b4⟩:=q.o _ (al v (.cells #[.int .i64 0] 42));go_wp2_with (first|(go_at_call 157;refine(N.o _ O.o).mono ?_;rintro y b ⟨rfl,d⟩;have H:=iJ d;obtain⟨c0,c1,c2,c3,c4⟩:=q.o _ d.b;clear d)|(go_at_call 180;refine(mJ _ _ _ H.o.c).mono ?_;rintro y D ⟨rfl,g⟩;obtain rfl:=g.symm))
   go_loopw [6,22] (λ_ i wx=>∃k:Nat,k<=items.length/\i=.int .i64 k/\Hid (Kt v kb wx (ju f k))) (λ_ i _=>items.length-(intOf i).toNat)
   case atStart=>exact⟨0,az _,rfl,H.o⟩
   case round=>
    obtain⟨k,d,rfl,H⟩:=hrel;obtain⟨c0,c1,c2,c3,c4⟩:=q.o _ H.o.b;by_cases I:k<items.length
    . have ao:(k:Int)<(items.length:Int):=by omega
      have ab:=w64 (j:=k) (by omega)
      go_wp2_with fail
      refine(Y.o _ _ k H.o I (aa.o (by omega))).mono ?_
      rintro y b ⟨rfl,m⟩;have H:=iJ m;clear m;go_wp2;go_roundw
      case rel=>exact⟨k+1,by omega,by first|(go_num;done)|exact a7 (Value.int IntKind.i64) (by omega),by rw[Z.o];exact H.o⟩
      case measure=>first|exact jb _ _ _ ab I|exact jb _ _ _ rfl I|(simp[intOf];omega)
    . obtain rfl:k=items.length:=by omega
      by_cases J:next=0
      . subst J;go_wp2_with (first|(go_at_call 179;refine(T.o _ _ H.o _ _ (by decide)).mono ?_;rintro y b ⟨rfl,m,_,_⟩;have H:=iJ m;clear m)|(go_at_call 180;refine(mJ _ _ _ H.o.c).mono ?_;rintro y D ⟨rfl,g⟩;obtain rfl:=g.symm))
        go_ret;exact⟨by simp,bt t.o H.o.b⟩
      . have af:(next==0)=false:=by simpa using J
        go_wp2_with (first|(go_at_call 159;refine(jx _ _).mono ?_;rintro y b ⟨rfl,ae⟩;obtain rfl:=ae.symm)|(go_at_call 179;refine(T.o _ _ H.o _ _ (by decide)).mono ?_;rintro y b ⟨rfl,m,_,_⟩;have H:=iJ m;clear m)|(go_at_call 180;refine(mJ _ _ _ H.o.c).mono ?_;rintro y D ⟨rfl,g⟩;obtain rfl:=g.symm))
        go_ret;exact⟨by simp[bne,af,J],bt t.o H.o.b⟩
 . have an:(((U:Nat):Int)==0)=false:=by simpa using G
   obtain rfl:=P.o G;clear s;go_enter func124,ntmps124;go_wp2_with fail
   refine r.o.mono ?_;rintro y b ⟨rfl,g⟩;obtain rfl:=g.symm;clear C L g r;obtain⟨b0,b1,b2,b3,b4⟩:=q.o _ (al v (.cells #[.int .i64 0] 42));go_wp2_with (first|(go_at_call 157;refine(N.o _ O.o).mono ?_;rintro y b ⟨rfl,d⟩;have H:=iJ d;obtain⟨c0,c1,c2,c3,c4⟩:=q.o _ d.b;clear d)|(go_at_call 180;refine(mJ _ _ _ H.o.c).mono ?_;rintro y D ⟨rfl,g⟩;obtain rfl:=g.symm))
   go_ret;exact⟨rfl,bt t.o H.o.b⟩
theorem nH{T:Nat->Prop}{e s n:Nat}{m c:Nat}{C:List Value}(h:w.ownsRow 0 e s (.slice a m c) n C)(hb:But T w w')(f:∀x,a=some x->¬T x.block):w'.ownsRow 0 e s (.slice a m c) n C:=by
 obtain⟨b,d⟩:=h;refine⟨b,?_⟩;rcases d with⟨hv,h0⟩|⟨g,cap',cur,hv,h3,hg,hr⟩
 . exact .inl ⟨hv,h0⟩
 . simp only[bM] at hv;exact .inr ⟨g,cap',cur,by simp only[bM];exact hv,h3,(hb.block g (af.1 hg).1 (f _ hv.1)).trans hg,hr⟩
def vi(l:List Int):List Value:=l.map λx=>Value.int .i64 x
theorem qc(a b:List Int):vi (a++b)=vi a++vi b:=by unfold vi;rw[bP]
theorem pD(l:List Int)(i:Nat)(hi:i<l.length):(vi l)[i]?=some (.int .i64 (l.getD i 0)):=by simp[vi,hi]
def Ig(w:World)(a:Option Addr)(cap:Nat)(l:List Int):Prop:=w.ownsRow 0 3 1 (.slice a l.length cap) l.length (vi l)
theorem nE:(prog.info? 3).map (λi=>(i.zero,i.size,i.bytes))=some (some (.int .i64 0),1,8):=by kernel_rfl
theorem Ig.nil(w:World):Ig w none 0 []:=fB w 0 3 1
theorem Ig.keep(h:Ig w a cap l)(hb:Below w.heap.size w w'):Ig w' a cap l:=nH (T:=λ_=>False) h (But.ofBelow hb) (λ_ _ h=>h)
def Ir(w:World)(a:Option Addr)(l:List Int):Prop:=l=[]\/∃b off,a=some ⟨b,off,none⟩/\∀i,i<l.length->w.cell? ⟨b,off+i,none⟩=some (.int .i64 (l.getD i 0))
theorem Ig.but{S:Nat->Prop}(h:Ig w a cap l)(hb:But S w w')(b:∀x,a=some x->¬S x.block):Ig w' a cap l:=nH h hb b
theorem Ir.at(h:Ir w a l){j:Nat}(d:j<l.length):∃b off,a=some ⟨b,off,none⟩/\w.cell? ⟨b,off+j,none⟩=some (.int .i64 (l.getD j 0)):=by
 rcases h with rfl|⟨b,off,rfl,e⟩
 . simp at d
 . exact⟨b,off,rfl,e j d⟩
theorem Ig.ir(h:Ig w a cap l):Ir w a l:=by
 obtain⟨_,d⟩:=h;rcases d with⟨_,h0⟩|⟨g,cap',cur,hv,h3,hg,hn,hm,hs,ht⟩
 . exact .inl (co.1 h0)
 . simp only[bM] at hv;obtain⟨b,_,rfl⟩:=hv;refine .inr ⟨g,0,b,λi e=>?_⟩
   rw[bN,ay _ _ _ _ _ _ hg,<-pD l i e,<-ht,cH,if_pos (by omega)]
   simp
theorem tm(w:World)(m:TypeId)(a:Option Addr)(n cap:Nat)(l:List Int)(A:n=l.length)(s:Ig w a cap l)(f:Addr)(c:Nat)(x:Int)(t:w.cell? f=some (.int .i64 x))(I:l.length+1<=17592186044416):
 ∃g d w',(Builtin.append_ #[35,35] m #[.slice a n cap,.slice (some f) 1 c]).run prog w=.ok (.slice (some ⟨g,0,none⟩) (n+1) d) w'/\
  Ig w' (some ⟨g,0,none⟩) d (l++[x])/\New w a (some ⟨g,0,none⟩)/\w.grownBy w' (a.map Addr.block)/\g<w'.heap.size:=by
 subst A;obtain⟨D,v,E,G,H⟩:=dr nE
 obtain⟨g,d,w',B,q,h,h3,r⟩:=dW (P:=prog) w 35 m 0 3 D (.int .i64 0) 1 8 underlying35 v E G H rfl (by decide) (.slice a l.length cap) l.length (vi l) s f 1 c [.int .i64 x] rfl
  (by intro j u b
      match j,b with
      |0,b=>simp at b;subst b;simpa[Addr.add] using t) (by intro u i;simp at i;subst i;rfl) (by decide) (by unfold maxLen;omega) (by omega) (az _) w.heap.size rfl
 rw[kA] at h h3;refine⟨g,d,w',B,?_,?_,h,r⟩
 . unfold Ig;rw[qc,ae];exact q
 . intro y k;simp only[aE] at k;subst k;rcases h3 with h3|h3
   . obtain⟨z,C,e⟩:=map_some h3;exact .inl ⟨z,C,e⟩
   . exact .inr (by show _<=g;omega)
theorem uY{w:World}{o:Oper}{a:Act}{K:Act->World->Prop}{Q:Exit->Act->World->Prop}(s x:Operand)
 (v:o.op=.call {callee:=.builtin .append,args:=#[s,x],argTypes:=#[35,35]}) (b:Option Addr) (n cap:Nat) (l:List Int) (A:a.eval s=.slice b n cap) (t:n=l.length) (q:Ig w b cap l)
 (e:Addr) (c:Nat) (f:Int) (B:a.eval x=.slice (some e) 1 c) (r:w.cell? e=some (.int .i64 f)) (C:l.length+1<=17592186044416)
 (h:∀g d w',Ig w' (some ⟨g,0,none⟩) d (l++[f])->New w b (some ⟨g,0,none⟩)->w.grownBy w' (b.map Addr.block)->g<w'.heap.size->K (a.put o.dst (.slice (some ⟨g,0,none⟩) (n+1) d)) w'):o.wp prog a w K Q:=by
 obtain⟨g,d,w',y,i,j,k,m⟩:=tm w o.type b n cap l t q e c f r C;unfold Oper.wp execOp;simp only[v,resolve,invoke,builtin,dE,dF,bT,cR,bL,dM,A,B,y];exact h g d w' i j k m
theorem jN{w:World}{i:Array Oper}{j:List Oper}{o:Oper}{a:Act}{Q:Exit->Act->World->Prop}(E:o.guard=none)(s x:Operand)
 (B:o.op=.call {callee:=.builtin .append,args:=#[s,x],argTypes:=#[35,35]}) (b:Option Addr) (n cap:Nat) (l:List Int) (C:a.eval s=.slice b n cap) (A:n=l.length) (v:Ig w b cap l)
 (e:Addr) (c:Nat) (f:Int) (D:a.eval x=.slice (some e) 1 c) (y:w.cell? e=some (.int .i64 f)) (G:l.length+1<=17592186044416)
 (h:∀g d w',Ig w' (some ⟨g,0,none⟩) d (l++[f])->New w b (some ⟨g,0,none⟩)->w.grownBy w' (b.map Addr.block)->g<w'.heap.size->wpList prog i Q j (a.put o.dst (.slice (some ⟨g,0,none⟩) (n+1) d)) w'):wpList prog i Q (o::j) a w:=
 e7 E λ_ t=>uY s x B b n cap l C A v e c f D y G λg d w' k m q r=>t _ _ (h g d w' k m q r)
structure IOwn(w wx:World)(a:Option Addr)(cap:Nat)(l:List Int):Prop where
 r:Ig wx a cap l
 n:New w none a
 b:Below w.heap.size w wx
theorem IOwn.keep(h:IOwn w wx a cap l)(hb:Below wx.heap.size wx wy):IOwn w wy a cap l:=⟨h.r.keep hb,h.n,bt h.b hb⟩
theorem IOwn.step{d:World}{b:Option Addr}{g:Nat}{f:List Int}(h:IOwn w wx a cap l)(hb:Below wx.heap.size wx d)(m:Ig wy b g f)(j:New d a b)(n:d.grownBy wy (a.map Addr.block)):IOwn w wy b g f:=by
 refine⟨m,h.n.trans j (aO h.b.size hb.size),?_⟩;have i:=bt h.b hb
 have q:But (λ_=>False) w wy:=(But.ofBelow i).grown n λk r t=>by
  obtain⟨y,s,e⟩:=map_some r;rcases h.n y s with⟨z,hz,_⟩|h2
  . cases hz
  . omega
 exact q.below λ_ _ h=>h
def jj(kind:Int)(L:List Iv):List Int:=if kind=2 then L.map Iv.child else (L.map Iv.child).filter (λc=>decide (c≠0))
theorem lS(f:Int)(L:List Iv)(k:Nat)(g:k<L.length):jj f (L.take (k+1))=jj f (L.take k)++(if f=2\/(L.getD k Iv.zero).child≠0 then [(L.getD k Iv.zero).child] else []):=by
 have e:L.getD k Iv.zero=L[k]:=by simp[g]
 unfold jj;rw[dS g,e];by_cases b:f=2
 . rw[if_pos b,if_pos b,if_pos (.inl b),bP];rfl
 . rw[if_neg b,if_neg b,bP,gq];by_cases d:L[k].child=0
   . rw[if_neg (by simp[b,d])]
     generalize List.filter (λc=>decide (c≠0)) (List.map Iv.child (List.take k L))=F
     simp[d]
   . rw[if_pos (.inr d)];generalize List.filter (λc=>decide (c≠0)) (List.map Iv.child (List.take k L))=F
     simp[d]
theorem mh(b:Int)(L:List Iv):(jj b L).length<=L.length:=by
 unfold jj;split
 . simp
 . exact aO (fK _ _) (by simp)
theorem mR(P:Pv)(hk:P.kind=1\/P.kind=2):P.pg.kids=jj P.kind P.items:=by
 unfold Pg.kids jj;have b:P.pg.kind=P.kind:=rfl;have d:P.pg.items.map It.child=P.items.map Iv.child:=by simp[Pv.pg,Iv.it]
 rw[b,d];rcases hk with hk|hk
 . rw[if_neg (by omega),if_pos hk,if_neg (by omega)]
 . rw[if_pos hk,if_pos hk]
theorem G9(w:World)(p:Pv)(t:Pi w p)(d:p.kind=2):Calls prog 148 #[p.vl] w λe w'=>∃a c,e=.returned (.slice a (p.pg.kids).length c)/\IOwn w w' a c p.pg.kids:=by
 rw[mR p (by omega)]
 have ac:p.items.length<=2199023255489:=t.it.2.1;have B:=iJ (t.keep (al w (.cells p.cs 31)));have A:=iJ (Bx.new w 31 p.cs);have n:=iJ (al w (.cells p.cs 31));obtain⟨v,J⟩:∃v,w.alloc (.cells p.cs 31)=v:=⟨_,rfl⟩;rw[J] at B A n;have r:=iJ λ(y:World)(hb:Below v.heap.size v y)=>Bx.page (A.o.keep hb)
 have C:=iJ λ(y:World)(hb:Below v.heap.size v y)(k:Nat)(d:k<p.items.length)=>(B.o.it.keep hb).at d
 have M:=iJ λ(k:Nat)(d:k<p.items.length)=>lS p.kind p.items k d
 have K:=iJ λ(k:Nat)=>(show(jj p.kind (p.items.take k)).length<=k from aO (mh _ _) (by rw[bi];omega))
 have g:Hid (p.items.take p.items.length=p.items):=cJ;clear t;obtain⟨ah,am,aI,cI,items,aD,cD,ae,next⟩:=p
 unfold Pv.vl;simp only[Pv.cs] at *;subst d;obtain⟨P,R,S,T,U⟩:=r.o _ (Below.refl _ _);go_enter func148,ntmps148;go_wp2;go_loopw [3,5,14] (λo _ i wx=>∃(k:Nat)(f:Option Addr)(h:Nat),k<=items.length/\i=.int .i64 k/\o=.slice f (jj 2 (items.take k)).length h/\IOwn v wx f h (jj 2 (items.take k))) (λ_ _ i _=>items.length-(intOf i).toNat)
 case atStart=>exact⟨0,none,0,az _,rfl,rfl,Ig.nil _,New.none _ _,Below.refl _ _⟩
 case round=>
  clear J P R S T U;obtain⟨k,f,h,d,rfl,rfl,s⟩:=hrel;have b:=iJ s;obtain⟨c0,c1,c2,c3,c4⟩:=r.o _ s.b;clear s;by_cases m:k<items.length
  . have ag:(k:Int)<(items.length:Int):=by omega
    have Z:=w64 (j:=k) (by omega)
    obtain⟨bI,off,rfl,I⟩:=C.o _ b.o.b k m;obtain⟨k0,k1,k2,k3⟩:=jG I;have W:=iJ (M.o k m);have ab:=K.o k;clear I C M K;generalize items.getD k Iv.zero=x at *;have Y:=al wr (.cells x.cs 51);have q:=iJ (b.o.keep Y);obtain⟨e0,e1,e2,e3,e4⟩:=r.o _ q.o.b;obtain⟨aK,cK,ad,aV,cV,val,O,aj⟩:=x;simp only[Iv.cs] at *;generalize jj 2 (items.take k)=L at *;have N:Hid (L++[O]=jj 2 (items.take (k+1))):=by show _=_;rw[W.o];simp
    go_wp2_with (at_builtin;refine jN rfl _ _ rfl f L.length h L rfl rfl (q.o.r.keep ((Below.refl _ _).alloc (ai _) _)) ⟨wr.heap.size+1,0,none⟩ 1 O rfl ?c1 (by omega) ?_)
    try case c1=>simp
    intro aa X w2 G E H af;have D:=iJ (q.o.step (al _ _) G E H);rw[N.o] at D;have V:=iJ (a7 List.length N.o);clear G E H;go_wp2;go_roundw
    case rel=>exact⟨k+1,_,X,by omega,by first|(go_num;done)|exact a7 (Value.int IntKind.i64) (by omega),by rw[<-V.o];simp,D.o⟩
    case measure=>first|exact jb _ _ _ Z m|exact jb _ _ _ rfl m|(simp[intOf];omega)
  . obtain rfl:k=items.length:=by omega
    rw[g.o] at b ⊢;go_wp2;go_ret;exact⟨f,h,rfl,b.o.r,b.o.n.mono n.o.size,bt n.o b.o.b⟩
theorem Hv(w:World)(p:Pv)(B:Pi w p)(h:p.kind=1):Calls prog 148 #[p.vl] w λe w'=>∃a c,e=.returned (.slice a (p.pg.kids).length c)/\IOwn w w' a c p.pg.kids:=by
 rw[mR p (by omega)]
 have ae:p.items.length<=2199023255489:=B.it.2.1;have E:=iJ (B.keep (al w (.cells p.cs 31)));have D:=iJ (Bx.new w 31 p.cs);have s:=iJ (al w (.cells p.cs 31));obtain⟨v,N⟩:∃v,w.alloc (.cells p.cs 31)=v:=⟨_,rfl⟩;rw[N] at E D s;have t:=iJ λ(C:World)(hb:Below v.heap.size v C)=>Bx.page (D.o.keep hb)
 have G:=iJ λ(C:World)(hb:Below v.heap.size v C)(k:Nat)(h:k<p.items.length)=>(E.o.it.keep hb).at h
 have P:=iJ λ(k:Nat)(h:k<p.items.length)=>lS p.kind p.items k h
 have O:=iJ λ(k:Nat)=>(show(jj p.kind (p.items.take k)).length<=k from aO (mh _ _) (by rw[bi];omega))
 have aa:Hid (p.items.take p.items.length=p.items):=cJ;clear B;obtain⟨am,ao,aI,cI,items,aD,cD,ag,next⟩:=p
 unfold Pv.vl;simp only[Pv.cs] at *;subst h;obtain⟨T,U,V,W,X⟩:=t.o _ (Below.refl _ _);go_enter func148,ntmps148;go_wp2;go_loopw [3,5,14] (λo _ i wx=>∃(k:Nat)(d:Option Addr)(f:Nat),k<=items.length/\i=.int .i64 k/\o=.slice d (jj 1 (items.take k)).length f/\IOwn v wx d f (jj 1 (items.take k))) (λ_ _ i _=>items.length-(intOf i).toNat)
 case atStart=>exact⟨0,none,0,az _,rfl,rfl,Ig.nil _,New.none _ _,Below.refl _ _⟩
 case round=>
  clear N T U V W X;obtain⟨k,d,f,h,rfl,rfl,A⟩:=hrel;have b:=iJ A;obtain⟨c0,c1,c2,c3,c4⟩:=t.o _ A.b;clear A;by_cases m:k<items.length
  . have aj:(k:Int)<(items.length:Int):=by omega
    have S:=w64 (j:=k) (by omega)
    obtain⟨bI,off,rfl,M⟩:=G.o _ b.o.b k m;obtain⟨k0,k1,k2,k3⟩:=jG M;have R:=iJ (P.o k m);have ac:=O.o k;clear M G P O;generalize items.getD k Iv.zero=x at *;have g:=al wr (.cells x.cs 51);have q:=iJ (b.o.keep g);obtain⟨e0,e1,e2,e3,e4⟩:=t.o _ q.o.b;obtain⟨aK,cK,af,aV,cV,val,r,an⟩:=x;simp only[Iv.cs] at *;generalize jj 1 (items.take k)=L at *;by_cases y:r=0
    . subst y;have n:Hid (L=jj 1 (items.take (k+1))):=by show _=_;rw[R.o];simp
      go_wp2;go_roundw
      case rel=>exact⟨k+1,d,f,by omega,by first|(go_num;done)|exact a7 (Value.int IntKind.i64) (by omega),by rw[<-n.o],by rw[<-n.o];exact q.o⟩
      case measure=>first|exact jb _ _ _ S m|exact jb _ _ _ rfl m|(simp[intOf];omega)
    . have ad:(r==0)=false:=by simpa using y
      have n:Hid (L++[r]=jj 1 (items.take (k+1))):=by show _=_;rw[R.o];simp[y]
      go_wp2_with (at_builtin;refine jN rfl _ _ rfl d L.length f L rfl rfl (q.o.r.keep ((Below.refl _ _).alloc (ai _) _)) ⟨wr.heap.size+1,0,none⟩ 1 r rfl ?c1 (by omega) ?_)
      try case c1=>simp
      intro ab Z w2 J I K ah;have H:=iJ (q.o.step (al _ _) J I K);rw[n.o] at H;have Y:=iJ (a7 List.length n.o);clear J I K;go_wp2;go_roundw
      case rel=>exact⟨k+1,_,Z,by omega,by first|(go_num;done)|exact a7 (Value.int IntKind.i64) (by omega),by rw[<-Y.o];simp,H.o⟩
      case measure=>first|exact jb _ _ _ S m|exact jb _ _ _ rfl m|(simp[intOf];omega)
  . obtain rfl:k=items.length:=by omega
    rw[aa.o] at b ⊢;go_wp2;go_ret;exact⟨d,f,rfl,b.o.r,b.o.n.mono s.o.size,bt s.o b.o.b⟩
theorem AZ(w:World)(p:Pv)(i:p.kind≠1)(j:p.kind≠2):Calls prog 148 #[p.vl] w λe w'=>∃a c,e=.returned (.slice a (p.pg.kids).length c)/\IOwn w w' a c p.pg.kids:=by
 have q:p.pg.kids=if p.kind=3/\p.next≠0 then [p.next] else []:=by
  unfold Pg.kids;rw[if_neg (show ¬p.pg.kind=2 from j),if_neg (show ¬p.pg.kind=1 from i)]
  rfl
 rw[q];clear q;obtain⟨b,I,x,A,items,v,y,G,next⟩:=p
 unfold Pv.vl;simp only[Pv.cs] at *;have C:(b==1)=false:=by simpa using i
 have D:(b==2)=false:=by simpa using j
 by_cases f:b=3
 . subst f;by_cases d:next=0
   . subst d;go_enter func148,ntmps148;go_wp2;go_ret;exact⟨none,0,by simp,Ig.nil _,New.none _ _,al _ _⟩
   . have B:(next==0)=false:=by simpa using d
     rw[if_pos ⟨rfl,d⟩];go_enter func148,ntmps148;go_wp2_with (at_builtin;refine jN rfl _ _ rfl none 0 0 [] rfl rfl (Ig.nil _) ⟨w.heap.size+1,0,none⟩ 1 next rfl ?c1 (by decide) ?_)
     try case c1=>simp
     intro g r t m k n H;have s:Hid (IOwn w t (some ⟨g,0,none⟩) r ([]++[next])):=IOwn.step (w:=w) (wx:=w) ⟨Ig.nil _,New.none _ _,Below.refl _ _⟩ (bt (al _ _) (al _ _)) m k n
     clear m k n;go_wp2;go_ret;exact⟨_,r,rfl,s.o⟩
 . have E:(b==3)=false:=by simpa using f
   rw[if_neg (λh=>f h.1)]
   go_enter func148,ntmps148;go_wp2;go_ret;exact⟨none,0,rfl,Ig.nil _,New.none _ _,al _ _⟩
theorem wB(w:World)(p:Pv)(f:Pi w p):Calls prog 148 #[p.vl] w λe w'=>∃a c,e=.returned (.slice a (p.pg.kids).length c)/\IOwn w w' a c p.pg.kids:=by
 by_cases b:p.kind=1
 . exact Hv w p f b
 . by_cases d:p.kind=2
   . exact G9 w p f d
   . exact AZ w p b d
end Go.Proofs.YtbdkogimlbnlmaaGreat
