import Derived.Test.YtnnieandfdbhgaaGreatWkB5
set_option linter.all false
set_option maxHeartbeats 3200000
set_option maxRecDepth 8000
namespace Go.Proofs.YtnnieandfdbhgaaGreat
open Tryz
open Go.RowKit
variable {cs:Array Value}{e g kb:Nat}{t:TypeId}{w w' w0:World}
theorem jG(a b:Int):(a==b)=decide (a=b):=by
 by_cases h:a=b
 . subst h;simp
 . simp[h]
theorem fH(w:World)(n:Int):Calls prog 109 #[.int .i64 n] w λe w'=>e=.returned (.bool (ic n))/\w'=w:=by
 unfold ic;by_cases a:1<=n
 . have b:decide (1<=n)=true:=by simpa using a
   go_enter func109,ntmps109;go_wp2;go_ret;exact⟨by simp[a],rfl⟩
 . have b:decide (1<=n)=false:=by simpa using a
   go_enter func109,ntmps109;go_wp2;go_ret;exact⟨by simp,rfl⟩
theorem n9(w:World)(r:Iv):Calls prog 180 #[r.vl] w λe w'=>e=.returned (.bool (decide (r.size<=32)))/\∃o,w'=w.alloc o:=by
 unfold Iv.vl Iv.cs;go_enter func180,ntmps180;go_wp2;go_ret;exact⟨rfl,_,rfl⟩
def Kp(w:World)(kb:Nat)(e:Nat):Prop:=w.heap[kb]?=some (.cells #[.int .i64 (e:Int)] 39 (0,0))
theorem Kp.cell(h:Kp w kb e):w.cell? ⟨kb,0,none⟩=some (.int .i64 (e:Int)):=by rw[ah _ _ _ _ _ _ h];rfl
theorem Kp.frozen(h:Kp w kb e):w.frozen? ⟨kb,0,none⟩=false:=aQ w kb 0 _ _ h
theorem Kp.lt(h:Kp w kb e):kb<w.heap.size:=(ae.1 h).1
theorem Kp.set(h:Kp w kb e)(x:Nat):Kp (w.setCell ⟨kb,0,none⟩ (.int .i64 (x:Int))) kb x:=ay w kb 0 _ _ _ h
theorem Kp.keep(h:Kp w kb e)(hb:Below w.heap.size w w'):Kp w' kb e:=(hb.block kb h.lt).trans h
def tel(e:Nat)(wrong:Bool)(x:Nat):Nat:=if wrong=true/\e=0 then x else e
def tv(kb:Nat):Value:=.func (.func 149) #[] #[.pointer (some ⟨kb,0,none⟩)]
def fv(kb:Nat):Value:=.func (.func 150) #[] #[.pointer (some ⟨kb,0,none⟩)]
theorem sQ(w:World):Calls prog 106 #[] w λe w'=>e=.returned (.tuple #[tv w.heap.size,fv w.heap.size])/\w'=w.alloc (.cells #[.int .i64 0] 39):=by
 go_enter func106,ntmps106;go_wp2;go_ret2
 exact⟨rfl,rfl⟩
theorem jB(w:World)(kb e:Nat)(h:Kp w kb e):Calls prog 150 #[.pointer (some ⟨kb,0,none⟩)] w λx w'=>x=.returned (.int .i64 (e:Int))/\w'=w:=by
 have c:=h.cell;clear h;go_enter func150,ntmps150;go_wp2;go_ret;exact⟨rfl,rfl⟩
theorem vm(w:World)(kb e:Nat)(h:Kp w kb e)(b:Bool)(x:Nat):Calls prog 149 #[.bool b,.int .i64 (x:Int),.pointer (some ⟨kb,0,none⟩)] w λy w'=>y=.returned (.tuple #[])/\Kp w' kb (tel e b x)/\But (λk=>k=kb) w w':=by
 have c:=h.cell;have f:=h.frozen;have H:=e7 h;clear h;cases b with
 |false=>
  go_enter func149,ntmps149;go_wp2;go_end0
  exact⟨rfl,by simpa[tel] using H.o,But.refl _ _⟩
 |true=>
  by_cases a:e=0
  . subst a;rw[show((0:Nat):Int)=0 from rfl] at c
    go_enter func149,ntmps149;go_wp2;go_end0
    exact⟨rfl,by simpa[tel] using H.o.set x,(But.refl (λk=>k=kb) w).setCell (p:=⟨kb,0,none⟩) (λ_=>rfl) _⟩
  . have d:(((e:Nat):Int)==0)=false:=by simpa using a
    go_enter func149,ntmps149;go_wp2;go_end0
    exact⟨rfl,by simpa[tel,a] using H.o,But.refl _ _⟩
structure Kt(w0:World)(kb:Nat)(w:World)(e:Nat):Prop where
 c:Kp w kb e
 b:Below w0.heap.size w0 w
 l:w0.heap.size<=kb
theorem Kt.keep(h:Kt w0 kb w e)(hb:Below w.heap.size w w'):Kt w0 kb w' e:=⟨h.c.keep hb,bt h.b hb,h.l⟩
theorem Kt.but{a:Nat}(h:Kt w0 kb w e)(hb:But (λk=>k=kb) w w')(b:Kp w' kb a):Kt w0 kb w' a:=
 ⟨b,((But.ofBelow (S:=λ_=>False) h.b).trans hb λx c e=>by have:=h.l;omega).below λ_ _ h=>h,h.l⟩
def Bx(w:World)(t:TypeId)(g:Nat)(cs:Array Value):Prop:=w.heap[g]?=some (.cells cs t (0,0))
theorem Bx.cell(h:Bx w t g cs)(i:Nat){v:Value}(a:cs[i]?=some v):w.cell? ⟨g,i,none⟩=some v:=by rw[ah _ _ _ _ _ _ h];exact a
theorem Bx.lt(h:Bx w t g cs):g<w.heap.size:=(ae.1 h).1
theorem Bx.keep(h:Bx w t g cs)(hb:Below w.heap.size w w'):Bx w' t g cs:=(hb.block g h.lt).trans h
theorem Bx.but{S:Nat->Prop}(h:Bx w t g cs)(hb:But S w w')(a:¬S g):Bx w' t g cs:=(hb.block g h.lt a).trans h
theorem Bx.new(w:World)(t:TypeId)(cs:Array Value):Bx (w.alloc (.cells cs t)) t w.heap.size cs:=aF _ _
theorem Bx.page{p:Pv}(h:Bx w 77 g p.cs):w.cell? ⟨g,0,none⟩=some (.int .i64 p.kind)/\w.cell? ⟨g,1,none⟩=some (.int .i64 p.level)/\w.cell? ⟨g,2,none⟩=some (.slice p.aI p.items.length p.cI)/\w.cell? ⟨g,3,none⟩=some (.slice p.aD p.data.length p.cD)/\w.cell? ⟨g,4,none⟩=some (.int .i64 p.next):=
 ⟨h.cell 0 rfl,h.cell 1 rfl,h.cell 2 rfl,h.cell 3 rfl,h.cell 4 rfl⟩
theorem Bx.item{p:Iv}(h:Bx w 89 g p.cs):w.cell? ⟨g,0,none⟩=some (.slice p.aK p.key.length p.cK)/\w.cell? ⟨g,1,none⟩=some (.slice p.aV p.val.length p.cV)/\w.cell? ⟨g,2,none⟩=some (.int .i64 p.child)/\w.cell? ⟨g,3,none⟩=some (.int .i64 p.size):=
 ⟨h.cell 0 rfl,h.cell 1 rfl,h.cell 2 rfl,h.cell 3 rfl⟩
theorem ke(w0:World)(w:World)(kb e:Nat)(t:TypeId)(g:Nat)(cs:Array Value)(h:Kt w0 kb w e)(f:Bx w t g cs)(ne:g≠kb)(b:Bool)(c:Int)(x:Nat)(i:c=x):
 Calls prog 149 #[.bool b,.int .i64 c,.pointer (some ⟨kb,0,none⟩)] w λy w'=>y=.returned (.tuple #[])/\Kt w0 kb w' (tel e b x)/\Bx w' t g cs/\But (λk=>k=kb) w w':=by
 subst i;refine(vm w kb e h.c b x).mono ?_;rintro y w' ⟨rfl,d,a⟩;exact⟨rfl,h.but a d,f.but a ne,a⟩
theorem kY(w:World)(p:Pv)(f:Int):Calls prog 151 #[p.vl,.int .i64 f] w λe w'=>e=.returned (.bool (decide (f<=p.items.length)&&decide (p.items.length<=8)&&decide (p.data.length=0)&&decide (p.next=0)))/\Below w.heap.size w w':=by
 unfold Pv.vl Pv.cs;obtain⟨kind,x,q,s,l,m,r,k,next⟩:=p
 dsimp only;generalize l.length=n;generalize k.length=d;by_cases a:f<=(n:Int)
 . by_cases c:(n:Int)<=8
   . by_cases h:d=0
     . subst h;have b:decide (f<=(n:Int))=true:=by simpa using a
       have i:decide ((n:Int)<=8)=true:=by simpa using c
       have j:decide (n<=8)=true:=by simp;omega
       go_enter func151,ntmps151;go_wp2;go_ret;exact⟨by simp[b,j,jG],al _ _⟩
     . have b:decide (f<=(n:Int))=true:=by simpa using a
       have i:decide ((n:Int)<=8)=true:=by simpa using c
       have v:(((d:Nat):Int)==0)=false:=by simpa using h
       go_enter func151,ntmps151;go_wp2;go_ret;exact⟨by simp[h],al _ _⟩
   . have b:decide (f<=(n:Int))=true:=by simpa using a
     have i:decide ((n:Int)<=8)=false:=by simpa using c
     have j:decide (n<=8)=false:=by simp;omega
     go_enter func151,ntmps151;go_wp2;go_ret;exact⟨by simp,al _ _⟩
 . have b:decide (f<=(n:Int))=false:=by simpa using a
   go_enter func151,ntmps151;go_wp2;go_ret;exact⟨by simp,al _ _⟩
theorem jI(h:Kt w0 kb w e):w.heap.size≠kb:=by have:=h.c.lt;omega
def Pg.formE(p:Pg):Nat:=if p.kindOk=false then 22 else if p.form=false then 5 else 0
theorem o7(w0 w:World)(kb:Nat)(p:Pv)(h:Kt w0 kb w 0):Calls prog 107 #[p.vl,tv kb] w λx w'=>x=.returned (.tuple #[])/\Kt w0 kb w' p.pg.formE:=by
 have A:=jI h;have H:=e7 (h.keep (al w (.cells p.cs 77)));have B:=e7 (Bx.new w 77 p.cs);have i:=e7 λ(a:World)(e:Nat)(b:Kt w0 kb a e)(l:Bx a 77 w.heap.size p.cs)(C:Bool)(r:Int)(x:Nat)(v:r=x)=>ke w0 a kb e 77 w.heap.size p.cs b l A C r x v
 have k:=e7 λ(a:World)(f:Int)=>kY a p f
 have d:=e7 λ(a:World)(l:Bx a 77 w.heap.size p.cs)=>Bx.page l
 clear h;obtain⟨kind,N,E,G,s,D,F,M,next⟩:=p
 unfold Pv.vl tv;simp only[Pv.cs,Pv.vl] at *;by_cases m:kind=1
 . subst m;go_enter func107,ntmps107;go_wp2_with (first|(go_at_call 149;refine(i.o _ _ H.o B.o _ _ 5 rfl).mono ?_;rintro y a ⟨rfl,b,hb,_⟩;have H:=e7 b;have B:=e7 hb;obtain⟨c0,c1,c2,c3,j⟩:=d.o _ hb;clear b hb)|(go_at_call 151;refine(k.o _ _).mono ?_;rintro y a ⟨rfl,c⟩;have H:=e7 (H.o.keep c);have B:=e7 (B.o.keep c);obtain⟨c0,c1,c2,c3,j⟩:=d.o _ B.o;clear c))
   all_goals (go_end0;refine⟨rfl,(aU (Kt w0 kb _) ?_).mp H.o⟩;simp[tel,Pg.formE,Pg.kindOk,Pg.form,Pv.pg];grind)
 . by_cases n:kind=2
   . subst n;go_enter func107,ntmps107;go_wp2_with (first|(go_at_call 149;refine(i.o _ _ H.o B.o _ _ 5 rfl).mono ?_;rintro y a ⟨rfl,b,hb,_⟩;have H:=e7 b;have B:=e7 hb;obtain⟨c0,c1,c2,c3,j⟩:=d.o _ hb;clear b hb)|(go_at_call 151;refine(k.o _ _).mono ?_;rintro y a ⟨rfl,c⟩;have H:=e7 (H.o.keep c);have B:=e7 (B.o.keep c);obtain⟨c0,c1,c2,c3,j⟩:=d.o _ B.o;clear c))
     all_goals (go_end0;refine⟨rfl,(aU (Kt w0 kb _) ?_).mp H.o⟩;simp[tel,Pg.formE,Pg.kindOk,Pg.form,Pv.pg];grind)
   . by_cases q:kind=3
     . subst q;go_enter func107,ntmps107;go_wp2_with (first|(go_at_call 149;refine(i.o _ _ H.o B.o _ _ 5 rfl).mono ?_;rintro y a ⟨rfl,b,hb,_⟩;have H:=e7 b;have B:=e7 hb;obtain⟨c0,c1,c2,c3,j⟩:=d.o _ hb;clear b hb)|(go_at_call 151;refine(k.o _ _).mono ?_;rintro y a ⟨rfl,c⟩;have H:=e7 (H.o.keep c);have B:=e7 (B.o.keep c);obtain⟨c0,c1,c2,c3,j⟩:=d.o _ B.o;clear c))
       all_goals (go_end0;refine⟨rfl,(aU (Kt w0 kb _) ?_).mp H.o⟩;clear H B i k d;have I:(0<s.length)=¬s=[]:=(by rw[a7]);simp[tel,Pg.formE,Pg.kindOk,Pg.form,Pv.pg];grind)
     . have J:(kind==1)=false:=by simpa using m
       have K:(kind==2)=false:=by simpa using n
       have L:(kind==3)=false:=by simpa using q
       go_enter func107,ntmps107;go_wp2_with (go_at_call 149;refine(i.o _ _ H.o B.o _ _ 22 rfl).mono ?_;rintro y a ⟨rfl,b,hb,_⟩;have H:=e7 b)
       all_goals (go_end0;refine⟨rfl,(aU (Kt w0 kb _) ?_).mp H.o⟩;simp[tel,Pg.formE,Pg.kindOk,Pg.form,Pv.pg];grind)
def It.leafE(x:It):Nat:=if x.valOk 1=false then 8 else if x.kidOk 1=false then 15 else 0
def els(e x:Nat):Nat:=if e≠0 then e else x
theorem ip(w0 w:World)(kb e:Nat)(p:Iv)(h:Kt w0 kb w e):Calls prog 152 #[p.vl,tv kb] w λx w'=>x=.returned (.tuple #[])/\Kt w0 kb w' (els e p.it.leafE)/\But (λk=>k=kb) w w':=by
 have A:=jI h;have H:=e7 (h.keep (al w (.cells p.cs 89)));have B:=e7 (Bx.new w 89 p.cs);have U:=e7 (But.ofBelow (S:=λk=>k=kb) (al w (.cells p.cs 89)))
 have i:=e7 λ(a:World)(e:Nat)(b:Kt w0 kb a e)(l:Bx a 89 w.heap.size p.cs)(C:Bool)(m:Int)(I:0<=m)=>ke w0 a kb e 89 w.heap.size p.cs b l A C m m.toNat (by omega)
 have f:=e7 λ(a:World)=>n9 a p
 have d:=e7 λ(a:World)(l:Bx a 89 w.heap.size p.cs)=>Bx.item l
 clear h;obtain⟨D,F,J,E,G,val,K,s⟩:=p;unfold Iv.vl tv;simp only[Iv.cs,Iv.vl] at *;by_cases n:s<=32
 . have r:decide (s<=32)=true:=by simpa using n
   rw[r] at f;go_enter func152,ntmps152;go_wp2_with (first|(go_at_call 149;refine(i.o _ _ H.o B.o _ _ (by decide)).mono ?_;rintro y a ⟨rfl,b,hb,j⟩;have U:=e7 (U.o.trans j (λ_ _ h=>h));have H:=e7 b;have B:=e7 hb;obtain⟨c0,c1,c2,c3⟩:=d.o _ hb;clear b hb)|(go_at_call 180;refine(f.o _).mono ?_;rintro y a ⟨rfl,c,rfl⟩;have U:=e7 (U.o.andBelow (al _ c));have H:=e7 (H.o.keep (al _ c));have B:=e7 (B.o.keep (al _ c));obtain⟨c0,c1,c2,c3⟩:=d.o _ B.o)|(go_at_call 109;refine(fH _ _).mono ?_;rintro y a ⟨rfl,q⟩;obtain rfl:=q.symm))
   all_goals (go_end0;refine⟨rfl,(aU (Kt w0 kb _) ?_).mp H.o,U.o⟩;clear H B i f d;have v:(0<val.length)=¬val=[]:=(by rw[a7]);simp[tel,els,It.leafE,It.valOk,It.kidOk,Iv.it,n];grind)
 . have r:decide (s<=32)=false:=by simpa using n
   rw[r] at f;go_enter func152,ntmps152;go_wp2_with (first|(go_at_call 149;refine(i.o _ _ H.o B.o _ _ (by decide)).mono ?_;rintro y a ⟨rfl,b,hb,j⟩;have U:=e7 (U.o.trans j (λ_ _ h=>h));have H:=e7 b;have B:=e7 hb;obtain⟨c0,c1,c2,c3⟩:=d.o _ hb;clear b hb)|(go_at_call 180;refine(f.o _).mono ?_;rintro y a ⟨rfl,c,rfl⟩;have U:=e7 (U.o.andBelow (al _ c));have H:=e7 (H.o.keep (al _ c));have B:=e7 (B.o.keep (al _ c));obtain⟨c0,c1,c2,c3⟩:=d.o _ B.o)|(go_at_call 109;refine(fH _ _).mono ?_;rintro y a ⟨rfl,q⟩;obtain rfl:=q.symm))
   all_goals (go_end0;refine⟨rfl,(aU (Kt w0 kb _) ?_).mp H.o,U.o⟩;clear H B i f d;have v:(0<val.length)=¬val=[]:=(by rw[a7]);simp[tel,els,It.leafE,It.valOk,It.kidOk,Iv.it];grind)
theorem dr1(w:World):Below w.heap.size w w.drew:=(Below.refl _ _).drew
theorem pa(w0:World)(w:World)(kb e:Nat)(g b:Nat)(cs d:Array Value)(h:Kt w0 kb w e)(k:Bx w 77 g cs)(l:Bx w 89 b d)(ne:g≠kb)(m:b≠kb)(c:Bool)(a:Int)(n:0<=a):
 Calls prog 149 #[.bool c,.int .i64 a,.pointer (some ⟨kb,0,none⟩)] w λy w'=>y=.returned (.tuple #[])/\Kt w0 kb w' (tel e c a.toNat)/\Bx w' 77 g cs/\Bx w' 89 b d:=by
 refine(ke w0 w kb e 77 g cs h k ne c a a.toNat (by omega)).mono ?_
 rintro y w' ⟨rfl,f,i,j⟩;exact⟨rfl,f,i,l.but j m⟩
theorem jT(w:World)(cs a:Array Value):Bx ((w.alloc (.cells cs 77)).alloc (.cells a 89)) 89 (w.heap.size+1) a:=by
 have:=Bx.new (w.alloc (.cells cs 77)) 89 a;rwa [size_alloc] at this
def nK(kind:Int)(i:Nat)(x:It)(prev:List Nat):Nat:=
 if (if kind=2/\i=0 then decide (x.key.length=0) else decide (1<=x.key.length)&&decide (x.key.length<=24))=false then 7
 else if (decide (i=0)||decide (fa prev x.key<0))=false then 11 else if x.valOk kind=false then 8 else if x.kidOk kind=false then 15 else 0
theorem kX(p:Pg)(i:Nat):p.itemE i=nK p.kind i (p.at i) (p.at (i-1)).key:=by
 unfold Pg.itemE nK Pg.keyOk Pg.ordOk
 have h:decide (0<fa (p.at i).key (p.at (i-1)).key)=decide (fa (p.at (i-1)).key (p.at i).key<0):=by
  rw[oT (p.at (i-1)).key (p.at i).key,decide_eq_decide];omega
 rw[h]
theorem fin4(e:Nat)(k o v c:Bool):tel (tel (tel (tel e (!k) 7) (!o) 11) (!v) 8) (!c) 15=els e (if k=false then 7 else if o=false then 11 else if v=false then 8 else if c=false then 15 else 0):=by
 unfold tel els;by_cases a:e=0<;>cases k<;>cases o<;>cases v<;>cases c<;>simp[a]
theorem fin2(e:Nat)(k o v c:Bool):els (tel (tel e (!k) 7) (!o) 11) (if v=false then 8 else if c=false then 15 else 0)=els e (if k=false then 7 else if o=false then 11 else if v=false then 8 else if c=false then 15 else 0):=by
 unfold tel els;by_cases a:e=0<;>cases k<;>cases o<;>cases v<;>cases c<;>simp[a]
theorem rR(e i:Nat)(x:It)(j:List Nat)(a b c d:Bool)(k:a= !(if (2:Int)=2/\i=0 then decide (x.key.length=0) else decide (1<=x.key.length)&&decide (x.key.length<=24)))(hb:b= !(decide (i=0)||decide (fa j x.key<0)))
 (f:c= !(decide (x.val.length=0)&&decide (x.size=0))) (h:d= !ic x.child):tel (tel (tel (tel e a (Int.toNat 7)) b (Int.toNat 11)) c (Int.toNat 8)) d (Int.toNat 15)=els e (nK 2 i x j):=by
 have m:x.valOk 2=(decide (x.val.length=0)&&decide (x.size=0)):=by unfold It.valOk;rw[if_pos rfl]
 have l:x.kidOk 2=ic x.child:=by unfold It.kidOk;rw[if_neg (by simp)]
 rw[<-m] at f;rw[<-l] at h;rw[k,hb,f,h];unfold nK;exact fin4 _ _ _ _ _
theorem py(e i:Nat)(x:It)(c:List Nat)(a b:Bool)(d:a= !(decide (1<=x.key.length)&&decide (x.key.length<=24)))(hb:b= !(decide (i=0)||decide (fa c x.key<0))):
 els (tel (tel e a (Int.toNat 7)) b (Int.toNat 11)) x.leafE=els e (nK 1 i x c):=by
 rw[d,hb];unfold nK It.leafE;rw[if_neg (show ¬((1:Int)=2/\i=0) by simp)]
 exact fin2 _ _ _ _ _
theorem ql(w0 w:World)(kb e i:Nat)(p:Pv)(h:Kt w0 kb w e)(f:Pi w0 p)(hi:i<p.items.length)(a:p.kind=1)(U:i=0):Calls prog 108 #[p.vl,.int .i64 (i:Int),tv kb] w λx w'=>x=.returned (.tuple #[])/\Kt w0 kb w' (els e (p.pg.itemE i)):=by
 have ab:=jI h;have ak:=h.c.lt;have ac:w.heap.size+1≠kb:=by omega
 have I:=Pv.at p i;have J:=Pv.at p (i-1);obtain⟨bI,am,aa,F⟩:=(f.it.keep (bt h.b (al w (.cells p.cs 77)))).at hi;have M:=e7 (f.it.1 _ (fh hi));obtain⟨Y,Z,K,k3⟩:=fY F;rw[kX,I,J];clear I J;generalize q:p.items.getD i Iv.zero=x at *;generalize X:p.items.getD (i-1) Iv.zero=y at *;have H:=e7 ((h.keep (al w (.cells p.cs 77))).keep (al _ (.cells x.cs 89)));have B:=e7 ((Bx.new w 77 p.cs).keep (al _ (.cells x.cs 89)));have D:=e7 (jT w p.cs x.cs);have l:=e7 λ(b:World)(e:Nat)(a:Kt w0 kb b e)(d:Bx b 77 w.heap.size p.cs)(V:Bx b 89 (w.heap.size+1) x.cs)(ag:Bool)(G:Int)(q:0<=G)=>pa w0 b kb e w.heap.size (w.heap.size+1) p.cs x.cs a d V ab ac ag G q
 have m:=e7 λ(b:World)(e:Nat)(a:Kt w0 kb b e)=>ip w0 b kb e x a
 have j:=e7 λ(b:World)(d:Bx b 77 w.heap.size p.cs)=>Bx.page d
 have k:=e7 λ(b:World)(d:Bx b 89 (w.heap.size+1) x.cs)=>Bx.item d
 have N:=e7 f.ci;have ai:=e7 f.it.2.1;clear h F f q X;obtain⟨kind,ao,aI,cI,af,aD,cD,an,next⟩:=p
 obtain⟨O,R,L,P,T,val,ae,ad⟩:=x;unfold Pv.vl tv;simp only[Pv.cs,Iv.cs,Iv.vl,tv] at *;subst aa a;subst U;have aj:(0:Int)<(af.length:Int):=by omega
 simp only[dJ,cx] at Y Z K k3;generalize y.key=yk at *;cases hkd:decide (((L.length:Nat):Int)<1)
 all_goals
  go_enter func108,ntmps108;go_wp2_with (first|(go_at_call 149;refine(l.o _ _ H.o B.o D.o _ _ (by decide)).mono ?_;rintro y b ⟨rfl,a,hb,c⟩;have H:=e7 a;have B:=e7 hb;have D:=e7 c;obtain⟨c0,c1,c2,c3,s⟩:=j.o _ hb;obtain⟨v,A,C,E⟩:=k.o _ c;clear a hb c)|(go_at_call 109;refine(fH _ _).mono ?_;rintro y b ⟨rfl,r⟩;obtain rfl:=r.symm)|(go_at_call 152;refine(m.o _ _ H.o).mono ?_;rintro y b ⟨rfl,a,_⟩;have H:=e7 a))
  have H:=e7 (H.o.keep (dr1 _));have B:=e7 (B.o.keep (dr1 _));have D:=e7 (D.o.keep (dr1 _));have n:True:=trivial;refine aX (S:=λw'=>True) (by kernel_rfl) (by exact n) (λhHeld=>?_)
  refine tkd 0 1 2 3 ?_;refine tu 4 ?_;refine tu 5 ?_;refine tu 6 ?_;refine tu 7 ?_;refine tu 8 ?_;refine tu 9 ?_;refine tu 10 ?_;refine tu 11 ?_;refine tu 12 ?_;refine tu 13 ?_;refine tu 14 ?_;refine tk 15 ?_;refine tw 16 λah W=>?_
  go_simp;refine(l.o _ _ H.o B.o D.o _ _ (by decide)).mono ?_
  rintro y b ⟨rfl,a,hb,c⟩;have H:=e7 a;have B:=e7 hb;have D:=e7 c;obtain⟨c0,c1,c2,c3,s⟩:=j.o _ hb;obtain⟨v,A,C,E⟩:=k.o _ c;clear a hb c;go_wp2_with fail
  refine W.o _ _ (by exact n) (λhHeld=>?_)
  refine td ?_;clear n;go_wp2_with (first|(go_at_call 149;refine(l.o _ _ H.o B.o D.o _ _ (by decide)).mono ?_;rintro y b ⟨rfl,a,hb,c⟩;have H:=e7 a;have B:=e7 hb;have D:=e7 c;obtain⟨c0,c1,c2,c3,s⟩:=j.o _ hb;obtain⟨v,A,C,E⟩:=k.o _ c;clear a hb c)|(go_at_call 109;refine(fH _ _).mono ?_;rintro y b ⟨rfl,r⟩;obtain rfl:=r.symm)|(go_at_call 152;refine(m.o _ _ H.o).mono ?_;rintro y b ⟨rfl,a,_⟩;have H:=e7 a))
  all_goals ((first|go_end0|refine aG (bm rfl _ _ _) rfl ?_);refine⟨rfl,(aU (Kt w0 kb _) (py e 0 (Iv.it ⟨O,R,L,P,T,val,ae,ad⟩) yk _ _ ?_ ?_)).mp H.o⟩<;>clear H B D l j k M N m)
  all_goals (simp[Iv.it];try grind)
theorem pW(w0 w:World)(kb e i:Nat)(p:Pv)(h:Kt w0 kb w e)(d:Pi w0 p)(hi:i<p.items.length)(b:p.kind=1)(h0:i≠0):Calls prog 108 #[p.vl,.int .i64 (i:Int),tv kb] w λx w'=>x=.returned (.tuple #[])/\Kt w0 kb w' (els e (p.pg.itemE i)):=by
 have ah:=jI h;have aw:=h.c.lt;have ak:w.heap.size+1≠kb:=by omega
 have aa:=Pv.at p i;have ab:=Pv.at p (i-1);obtain⟨A,J,ac,X⟩:=(d.it.keep (bt h.b (al w (.cells p.cs 77)))).at hi;have ad:i-1<p.items.length:=by omega
 have HJ:=e7 (d.it.1 _ (fh ad));have n:=e7 λ(a:World)(hb:Below w0.heap.size w0 a)=>(show a.cell? ⟨A,J+(i-1)*4,none⟩=some (.slice (p.items.getD (i-1) Iv.zero).aK (p.items.getD (i-1) Iv.zero).key.length (p.items.getD (i-1) Iv.zero).cK) from by obtain⟨b2,o2,C,r2⟩:=(d.it.keep hb).at ad;rw[ac] at C;simp only[au,Addr.mk.injEq,di] at C;obtain⟨rfl,rfl⟩:=C;exact(fY r2).1)
 have N:=e7 (d.it.1 _ (fh hi));obtain⟨k0,k1,k2,k3⟩:=fY X;rw[kX,aa,ab];clear aa ab;generalize F:p.items.getD i Iv.zero=x at *;generalize hy:p.items.getD (i-1) Iv.zero=y at *;have M:=e7 λ(a:World)(hb:Below w0.heap.size w0 a)=>jm a y.aK x.aK y.key.length y.cK x.key.length x.cK y.key x.key (HJ.o.bk.keep hb) (N.o.bk.keep hb) rfl rfl
 have H:=e7 ((h.keep (al w (.cells p.cs 77))).keep (al _ (.cells x.cs 89)));have B:=e7 ((Bx.new w 77 p.cs).keep (al _ (.cells x.cs 89)));have D:=e7 (jT w p.cs x.cs);have q:=e7 λ(a:World)(e:Nat)(b:Kt w0 kb a e)(m:Bx a 77 w.heap.size p.cs)(hD:Bx a 89 (w.heap.size+1) x.cs)(ao:Bool)(K:Int)(F:0<=K)=>pa w0 a kb e w.heap.size (w.heap.size+1) p.cs x.cs b m hD ah ak ao K F
 have s:=e7 λ(a:World)(e:Nat)(b:Kt w0 kb a e)=>ip w0 a kb e x b
 have f:=e7 λ(a:World)(m:Bx a 77 w.heap.size p.cs)=>Bx.page m
 have k:=e7 λ(a:World)(m:Bx a 89 (w.heap.size+1) x.cs)=>Bx.item m
 have HL:=e7 d.ci;have ag:=e7 d.it.2.1;clear h X d F hy;obtain⟨kind,aB,aI,cI,L,aD,cD,az,next⟩:=p
 obtain⟨O,R,r,aV,cV,val,an,am⟩:=x;unfold Pv.vl tv;simp only[Pv.cs,Iv.cs,Iv.vl,tv] at *;subst ac b;have aq:(i:Int)<(L.length:Int):=by omega
 have av:decide ((0:Int)<(i:Int))=true:=by simp;omega
 have ap:((i:Int)==0)=false:=by simpa using h0
 have ae:IntKind.i64.wrap ((i:Int)-1)=((i-1:Nat):Int):=by have:=ag.o;rw[fB (by omega) (by omega)];omega
 obtain⟨j,rfl⟩:∃j,i=j+1:=⟨i-1,by omega⟩
 rw[show j+1-1=j by omega] at n ae
 rw[show((j+1:Nat):Int)-1=(j:Int) by omega] at ae
 have ar:(j:Int)<(L.length:Int):=by omega
 obtain⟨ai,aj,G,ax,ay,aA,aE,aC⟩:=y;dsimp only at n M ⊢;generalize Z:fa G r=z at *;have v:=e7 Z;clear Z;cases hkd:decide (((r.length:Nat):Int)<1)
 all_goals
  go_enter func108,ntmps108;go_wp2_with (first|(go_at_call 149;refine(q.o _ _ H.o B.o D.o _ _ (by decide)).mono ?_;rintro y a ⟨rfl,b,hb,c⟩;have H:=e7 b;have B:=e7 hb;have D:=e7 c;obtain⟨c0,c1,c2,c3,P⟩:=f.o _ hb;obtain⟨T,U,V,W⟩:=k.o _ c;clear b hb c)|(go_at_call 109;refine(fH _ _).mono ?_;rintro y a ⟨rfl,I⟩;obtain rfl:=I.symm)|(go_at_call 152;refine(s.o _ _ H.o).mono ?_;rintro y a ⟨rfl,b,_⟩;have H:=e7 b))
  have H:=e7 (H.o.keep (dr1 _));have B:=e7 (B.o.keep (dr1 _));have D:=e7 (D.o.keep (dr1 _));have l:=And.intro (f.o _ B.o).2.2.1 (And.intro (k.o _ D.o).1 (n.o _ H.o.b));refine aX (S:=λw'=>w'.cell? ⟨w.heap.size,2,none⟩=some (.slice (some ⟨A,J,none⟩) L.length cI)/\w'.cell? ⟨w.heap.size+1,0,none⟩=some (.slice O r.length R)/\w'.cell? ⟨A,J+j*4,none⟩=some (.slice ai G.length aj)) (by kernel_rfl) (by exact l) (λhHeld=>?_)
  refine tkd 0 1 2 3 ?_;refine tkd 4 5 6 7 ?_;refine tkd 8 9 10 11 ?_;refine tk 12 ?_;refine tw 13 λaf E=>?_
  go_simp;refine(M.o _ H.o.b).mono ?_;rintro e w9 ⟨rfl,Y⟩;obtain rfl:=Y.symm;clear Y;go_wp2_with fail
  refine E.o _ _ (by exact l) (λhHeld=>?_)
  refine tkb 14 15 ?_;refine tw 16 λaf E=>?_
  go_simp;refine(q.o _ _ H.o B.o D.o _ _ (by decide)).mono ?_
  rintro y a ⟨rfl,b,hb,c⟩;have H:=e7 b;have B:=e7 hb;have D:=e7 c;obtain⟨c0,c1,c2,c3,P⟩:=f.o _ hb;obtain⟨T,U,V,W⟩:=k.o _ c;clear b hb c;have l:=And.intro (f.o _ B.o).2.2.1 (And.intro (k.o _ D.o).1 (n.o _ H.o.b));go_wp2_with fail
  refine E.o _ _ (by exact l) (λhHeld=>?_)
  refine td ?_;clear l;go_wp2_with (first|(go_at_call 149;refine(q.o _ _ H.o B.o D.o _ _ (by decide)).mono ?_;rintro y a ⟨rfl,b,hb,c⟩;have H:=e7 b;have B:=e7 hb;have D:=e7 c;obtain⟨c0,c1,c2,c3,P⟩:=f.o _ hb;obtain⟨T,U,V,W⟩:=k.o _ c;clear b hb c)|(go_at_call 109;refine(fH _ _).mono ?_;rintro y a ⟨rfl,I⟩;obtain rfl:=I.symm)|(go_at_call 152;refine(s.o _ _ H.o).mono ?_;rintro y a ⟨rfl,b,_⟩;have H:=e7 b))
  all_goals ((first|go_end0|refine aG (bm rfl _ _ _) rfl ?_);refine⟨rfl,(aU (Kt w0 kb _) (py e (j+1) (Iv.it ⟨O,R,r,aV,cV,val,an,am⟩) G _ _ ?_ ?_)).mp H.o⟩<;>clear H B D q f k N HL s)
  all_goals (have v:=v.o;simp[Iv.it,v];try grind)
theorem pN(w0 w:World)(kb e i:Nat)(p:Pv)(h:Kt w0 kb w e)(f:Pi w0 p)(hi:i<p.items.length)(a:p.kind=2)(W:i=0):Calls prog 108 #[p.vl,.int .i64 (i:Int),tv kb] w λx w'=>x=.returned (.tuple #[])/\Kt w0 kb w' (els e (p.pg.itemE i)):=by
 have ac:=jI h;have ao:=h.c.lt;have ae:w.heap.size+1≠kb:=by omega
 have L:=Pv.at p i;have M:=Pv.at p (i-1);obtain⟨bI,aq,ab,G⟩:=(f.it.keep (bt h.b (al w (.cells p.cs 77)))).at hi;have O:=e7 (f.it.1 _ (fh hi));obtain⟨K,k1,k2,k3⟩:=fY G;rw[kX,L,M];clear L M;generalize q:p.items.getD i Iv.zero=x at *;generalize Z:p.items.getD (i-1) Iv.zero=y at *;have H:=e7 ((h.keep (al w (.cells p.cs 77))).keep (al _ (.cells x.cs 89)));have B:=e7 ((Bx.new w 77 p.cs).keep (al _ (.cells x.cs 89)));have D:=e7 (jT w p.cs x.cs);have l:=e7 λ(b:World)(e:Nat)(a:Kt w0 kb b e)(d:Bx b 77 w.heap.size p.cs)(X:Bx b 89 (w.heap.size+1) x.cs)(ai:Bool)(J:Int)(q:0<=J)=>pa w0 b kb e w.heap.size (w.heap.size+1) p.cs x.cs a d X ac ae ai J q
 have m:=e7 λ(b:World)(e:Nat)(a:Kt w0 kb b e)=>ip w0 b kb e x a
 have j:=e7 λ(b:World)(d:Bx b 77 w.heap.size p.cs)=>Bx.page d
 have k:=e7 λ(b:World)(d:Bx b 89 (w.heap.size+1) x.cs)=>Bx.item d
 have P:=e7 f.ci;have ak:=e7 f.it.2.1;clear h G f q Z;obtain⟨kind,au,aI,cI,ah,aD,cD,ar,next⟩:=p
 obtain⟨R,U,s,T,V,val,ag,af⟩:=x;unfold Pv.vl tv;simp only[Pv.cs,Iv.cs,Iv.vl,tv] at *;subst ab a;subst W;have am:(0:Int)<(ah.length:Int):=by omega
 simp only[dJ,cx] at K k1 k2 k3;generalize y.key=yk at *;clear m;generalize N:val.length=I at *;have aa:=e7 N;clear N;by_cases ad:I=0
 all_goals
  first
  |subst ad
  |have ap:decide ((0:Int)<(I:Int))=true:=by simp;omega
  go_enter func108,ntmps108;go_wp2_with (first|(go_at_call 149;refine(l.o _ _ H.o B.o D.o _ _ (by decide)).mono ?_;rintro y b ⟨rfl,a,hb,c⟩;have H:=e7 a;have B:=e7 hb;have D:=e7 c;obtain⟨c0,c1,c2,c3,v⟩:=j.o _ hb;obtain⟨A,C,E,F⟩:=k.o _ c;clear a hb c)|(go_at_call 109;refine(fH _ _).mono ?_;rintro y b ⟨rfl,r⟩;obtain rfl:=r.symm)|(go_at_call 152;refine(m.o _ _ H.o).mono ?_;rintro y b ⟨rfl,a,_⟩;have H:=e7 a))
  have H:=e7 (H.o.keep (dr1 _));have B:=e7 (B.o.keep (dr1 _));have D:=e7 (D.o.keep (dr1 _));have n:True:=trivial;refine aX (S:=λw'=>True) (by kernel_rfl) (by exact n) (λhHeld=>?_)
  refine tkd 0 1 2 3 ?_;refine tu 4 ?_;refine tu 5 ?_;refine tu 6 ?_;refine tu 7 ?_;refine tu 8 ?_;refine tu 9 ?_;refine tu 10 ?_;refine tu 11 ?_;refine tu 12 ?_;refine tu 13 ?_;refine tu 14 ?_;refine tk 15 ?_;refine tw 16 λaj Y=>?_
  go_simp;refine(l.o _ _ H.o B.o D.o _ _ (by decide)).mono ?_
  rintro y b ⟨rfl,a,hb,c⟩;have H:=e7 a;have B:=e7 hb;have D:=e7 c;obtain⟨c0,c1,c2,c3,v⟩:=j.o _ hb;obtain⟨A,C,E,F⟩:=k.o _ c;clear a hb c;go_wp2_with fail
  refine Y.o _ _ (by exact n) (λhHeld=>?_)
  refine td ?_;clear n;go_wp2_with (first|(go_at_call 149;refine(l.o _ _ H.o B.o D.o _ _ (by decide)).mono ?_;rintro y b ⟨rfl,a,hb,c⟩;have H:=e7 a;have B:=e7 hb;have D:=e7 c;obtain⟨c0,c1,c2,c3,v⟩:=j.o _ hb;obtain⟨A,C,E,F⟩:=k.o _ c;clear a hb c)|(go_at_call 109;refine(fH _ _).mono ?_;rintro y b ⟨rfl,r⟩;obtain rfl:=r.symm)|(go_at_call 152;refine(m.o _ _ H.o).mono ?_;rintro y b ⟨rfl,a,_⟩;have H:=e7 a))
  all_goals ((first|go_end0|refine aG (bm rfl _ _ _) rfl ?_);have HV:=aa.o;refine⟨rfl,(aU (Kt w0 kb _) (rR e 0 (Iv.it ⟨R,U,s,T,V,val,ag,af⟩) yk _ _ _ _ ?_ ?_ ?_ ?_)).mp H.o⟩<;>clear H B D l j k O P<;>have an:(0<s.length)=¬s=[]:=(by rw[a7]))
  all_goals (simp[Iv.it];try grind)
theorem qG(w0 w:World)(kb e i:Nat)(p:Pv)(h:Kt w0 kb w e)(d:Pi w0 p)(hi:i<p.items.length)(b:p.kind=2)(h0:i≠0):Calls prog 108 #[p.vl,.int .i64 (i:Int),tv kb] w λx w'=>x=.returned (.tuple #[])/\Kt w0 kb w' (els e (p.pg.itemE i)):=by
 have aj:=jI h;have aA:=h.c.lt;have ao:w.heap.size+1≠kb:=by omega
 have aa:=Pv.at p i;have ab:=Pv.at p (i-1);obtain⟨A,J,ac,X⟩:=(d.it.keep (bt h.b (al w (.cells p.cs 77)))).at hi;have ad:i-1<p.items.length:=by omega
 have HJ:=e7 (d.it.1 _ (fh ad));have q:=e7 λ(a:World)(hb:Below w0.heap.size w0 a)=>(show a.cell? ⟨A,J+(i-1)*4,none⟩=some (.slice (p.items.getD (i-1) Iv.zero).aK (p.items.getD (i-1) Iv.zero).key.length (p.items.getD (i-1) Iv.zero).cK) from by obtain⟨b2,o2,C,r2⟩:=(d.it.keep hb).at ad;rw[ac] at C;simp only[au,Addr.mk.injEq,di] at C;obtain⟨rfl,rfl⟩:=C;exact(fY r2).1)
 have N:=e7 (d.it.1 _ (fh hi));obtain⟨k0,k1,k2,k3⟩:=fY X;rw[kX,aa,ab];clear aa ab;generalize F:p.items.getD i Iv.zero=x at *;generalize hy:p.items.getD (i-1) Iv.zero=y at *;have M:=e7 λ(a:World)(hb:Below w0.heap.size w0 a)=>jm a y.aK x.aK y.key.length y.cK x.key.length x.cK y.key x.key (HJ.o.bk.keep hb) (N.o.bk.keep hb) rfl rfl
 have H:=e7 ((h.keep (al w (.cells p.cs 77))).keep (al _ (.cells x.cs 89)));have B:=e7 ((Bx.new w 77 p.cs).keep (al _ (.cells x.cs 89)));have D:=e7 (jT w p.cs x.cs);have r:=e7 λ(a:World)(e:Nat)(b:Kt w0 kb a e)(n:Bx a 77 w.heap.size p.cs)(hD:Bx a 89 (w.heap.size+1) x.cs)(ar:Bool)(xi:Int)(F:0<=xi)=>pa w0 a kb e w.heap.size (w.heap.size+1) p.cs x.cs b n hD aj ao ar xi F
 have s:=e7 λ(a:World)(e:Nat)(b:Kt w0 kb a e)=>ip w0 a kb e x b
 have f:=e7 λ(a:World)(n:Bx a 77 w.heap.size p.cs)=>Bx.page n
 have k:=e7 λ(a:World)(n:Bx a 89 (w.heap.size+1) x.cs)=>Bx.item n
 have HL:=e7 d.ci;have ah:=e7 d.it.2.1;clear h X d F hy;obtain⟨kind,aJ,aI,cI,L,aD,cD,aF,next⟩:=p
 obtain⟨O,R,l,aV,cV,val,aq,ap⟩:=x;unfold Pv.vl tv;simp only[Pv.cs,Iv.cs,Iv.vl,tv] at *;subst ac b;have aw:(i:Int)<(L.length:Int):=by omega
 have ay:decide ((0:Int)<(i:Int))=true:=by simp;omega
 have av:((i:Int)==0)=false:=by simpa using h0
 have af:IntKind.i64.wrap ((i:Int)-1)=((i-1:Nat):Int):=by have:=ah.o;rw[fB (by omega) (by omega)];omega
 obtain⟨j,rfl⟩:∃j,i=j+1:=⟨i-1,by omega⟩
 rw[show j+1-1=j by omega] at q af
 rw[show((j+1:Nat):Int)-1=(j:Int) by omega] at af
 have ax:(j:Int)<(L.length:Int):=by omega
 obtain⟨am,an,G,aC,aE,aH,aM,aL⟩:=y;dsimp only at q M ⊢;generalize Z:fa G l=z at *;have v:=e7 Z;clear Z;clear s;generalize ae:val.length=K at *;have ai:=e7 ae;clear ae;cases hkd:decide (((l.length:Nat):Int)<1)
 all_goals
  by_cases ak:K=0
  all_goals
   first
   |subst ak
   |have aB:decide ((0:Int)<(K:Int))=true:=by simp;omega
   go_enter func108,ntmps108;go_wp2_with (first|(go_at_call 149;refine(r.o _ _ H.o B.o D.o _ _ (by decide)).mono ?_;rintro y a ⟨rfl,b,hb,c⟩;have H:=e7 b;have B:=e7 hb;have D:=e7 c;obtain⟨c0,c1,c2,c3,P⟩:=f.o _ hb;obtain⟨T,U,V,W⟩:=k.o _ c;clear b hb c)|(go_at_call 109;refine(fH _ _).mono ?_;rintro y a ⟨rfl,I⟩;obtain rfl:=I.symm)|(go_at_call 152;refine(s.o _ _ H.o).mono ?_;rintro y a ⟨rfl,b,_⟩;have H:=e7 b))
   have H:=e7 (H.o.keep (dr1 _));have B:=e7 (B.o.keep (dr1 _));have D:=e7 (D.o.keep (dr1 _));have m:=And.intro (f.o _ B.o).2.2.1 (And.intro (k.o _ D.o).1 (q.o _ H.o.b));refine aX (S:=λw'=>w'.cell? ⟨w.heap.size,2,none⟩=some (.slice (some ⟨A,J,none⟩) L.length cI)/\w'.cell? ⟨w.heap.size+1,0,none⟩=some (.slice O l.length R)/\w'.cell? ⟨A,J+j*4,none⟩=some (.slice am G.length an)) (by kernel_rfl) (by exact m) (λhHeld=>?_)
   refine tkd 0 1 2 3 ?_;refine tkd 4 5 6 7 ?_;refine tkd 8 9 10 11 ?_;refine tk 12 ?_;refine tw 13 λag E=>?_
   go_simp;refine(M.o _ H.o.b).mono ?_;rintro e w9 ⟨rfl,Y⟩;obtain rfl:=Y.symm;clear Y;go_wp2_with fail
   refine E.o _ _ (by exact m) (λhHeld=>?_)
   refine tkb 14 15 ?_;refine tw 16 λag E=>?_
   go_simp;refine(r.o _ _ H.o B.o D.o _ _ (by decide)).mono ?_
   rintro y a ⟨rfl,b,hb,c⟩;have H:=e7 b;have B:=e7 hb;have D:=e7 c;obtain⟨c0,c1,c2,c3,P⟩:=f.o _ hb;obtain⟨T,U,V,W⟩:=k.o _ c;clear b hb c;have m:=And.intro (f.o _ B.o).2.2.1 (And.intro (k.o _ D.o).1 (q.o _ H.o.b));go_wp2_with fail
   refine E.o _ _ (by exact m) (λhHeld=>?_)
   refine td ?_;clear m;go_wp2_with (first|(go_at_call 149;refine(r.o _ _ H.o B.o D.o _ _ (by decide)).mono ?_;rintro y a ⟨rfl,b,hb,c⟩;have H:=e7 b;have B:=e7 hb;have D:=e7 c;obtain⟨c0,c1,c2,c3,P⟩:=f.o _ hb;obtain⟨T,U,V,W⟩:=k.o _ c;clear b hb c)|(go_at_call 109;refine(fH _ _).mono ?_;rintro y a ⟨rfl,I⟩;obtain rfl:=I.symm)|(go_at_call 152;refine(s.o _ _ H.o).mono ?_;rintro y a ⟨rfl,b,_⟩;have H:=e7 b))
   all_goals ((first|go_end0|refine aG (bm rfl _ _ _) rfl ?_);have HV:=ai.o;refine⟨rfl,(aU (Kt w0 kb _) (rR e (j+1) (Iv.it ⟨O,R,l,aV,cV,val,aq,ap⟩) G _ _ _ _ ?_ ?_ ?_ ?_)).mp H.o⟩<;>clear H B D r f k N HL<;>have az:(0<l.length)=¬l=[]:=(by rw[a7]))
   all_goals (have v:=v.o;simp[Iv.it,v];try grind)
end Go.Proofs.YtnnieandfdbhgaaGreat
namespace Go.Proofs.YtnnieandfdbhgaaGreat
open Tryz
theorem o6(b w:World)(a e i:Nat)(p:Pv)(h:Kt b a w e)(d:Pi b p)(hi:i<p.items.length)(hk:p.kind=1\/p.kind=2):Calls prog 108 #[p.vl,.int .i64 (i:Int),tv a] w λx f=>x=.returned (.tuple #[])/\Kt b a f (els e (p.pg.itemE i)):=by
 by_cases c:i=0
 . rcases hk with hk|hk
   . exact ql b w a e i p h d hi hk c
   . exact pN b w a e i p h d hi hk c
 . rcases hk with hk|hk
   . exact pW b w a e i p h d hi hk c
   . exact qG b w a e i p h d hi hk c
end Go.Proofs.YtnnieandfdbhgaaGreat
namespace Go.Proofs.YtnnieandfdbhgaaGreat
open Tryz
open Go.RowKit
variable {b fl k:Nat}{col pc:Nat->Nat}{p:Pg}{D:Vd}{w:World}
theorem mR(h:p.formE≠0):p.check=p.formE:=by
 unfold Pg.check Pg.formE at *;split
 . rfl
 . rename_i a;rw[if_neg a] at h;split
   . rfl
   . rename_i c;rw[if_neg c] at h;exact absurd rfl h
theorem fM(h:p.formE=0):p.kindOk=true/\p.form=true:=by
 unfold Pg.formE at h;cases hk:p.kindOk<;>cases hf:p.form<;>simp[hk,hf] at h ⊢
theorem wA(h:p.formE=0):p.check=tel (fD p.itemE p.items.length) (decide (p.next≠0)&& !ic p.next) 15:=by
 obtain⟨e,a⟩:=fM h;unfold Pg.check tel;rw[if_neg (by rw[e];simp),if_neg (by rw[a];simp)]
 by_cases d:fD p.itemE p.items.length=0
 . rw[if_neg (by rw[d];simp),d]
   unfold Pg.nextOk
   have f:p.kind≠3->p.next=0:=by
    intro c;unfold Pg.form at a;rw[if_neg c] at a;simp at a;exact a.1.1.2
   by_cases c:p.kind=3
   . simp[c]
   . simp[c,f c]
 . rw[if_pos d,if_neg (by simp[d])]
theorem jH(f:Nat->Nat)(n:Nat):fD f (n+1)=els (fD f n) (f n):=rfl
theorem yJ(h:p.formE=0)(hi:0<p.items.length):p.kind=1\/p.kind=2:=by
 obtain⟨c,a⟩:=fM h;rcases Pg.kindOk_iff.1 c with h|h|h
 . exact .inl h
 . exact .inr h
 . unfold Pg.form at a;rw[if_pos h] at a;simp at a;rw[a.1.1.2] at hi;simp at hi
theorem tP(w:World)(p:Pv)(x:Pi w p):Calls prog 64 #[p.vl] w λe w'=>e=.returned (.int .i64 (p.pg.check:Int))/\Below w.heap.size w w':=by
 have R:=e7 (x.keep (al w (.cells p.cs 77)));have ak:p.items.length<=9223372036854775807:=by have:=x.it.2.1;omega
 have t:=e7 (Bx.new w 77 p.cs);have K:=size_alloc w (.cells p.cs 77);have s:=e7 (al w (.cells p.cs 77));obtain⟨v,B⟩:∃v,w.alloc (.cells p.cs 77)=v:=⟨_,rfl⟩;rw[B] at R t K s;have ad:w.heap.size≠v.heap.size:=by omega
 have q:=e7 (sQ v);have N:Hid (Kt v v.heap.size (v.alloc (.cells #[.int .i64 0] 39)) 0):=⟨Bx.new v 39 #[.int .i64 0],al _ _,ai _⟩;have S:=e7 λ(a:World)(e:Nat)(c:Kt v v.heap.size a e)(ag:Bool)(E:Int)(hx:0<=E)=>ke v a v.heap.size e 77 w.heap.size p.cs c (t.o.keep c.b) ad ag E E.toNat (by omega)
 have M:=e7 λ(a:World)(c:Kt v v.heap.size a 0)=>o7 v a v.heap.size p c
 have X:=e7 λ(a:World)(e i:Nat)(c:Kt v v.heap.size a e)(A:i<p.items.length)(ac:p.kind=1\/p.kind=2)=>o6 v a v.heap.size e i p c R.o A ac
 have l:=e7 λ(a:World)(hb:Below v.heap.size v a)=>Bx.page (t.o.keep hb)
 have O:=e7 (λh:p.pg.formE≠0=>mR h)
 have r:=e7 (λh:p.pg.formE=0=>wA h)
 have P:=e7 (λ(h:p.pg.formE=0)(A:0<p.pg.items.length)=>yJ h A)
 have Y:=e7 λn=>jH p.pg.itemE n
 have J:p.pg.items.length=p.items.length:=by simp[Pv.pg]
 have W:p.pg.next=p.next:=rfl;have V:p.pg.kind=p.kind:=rfl;rw[J,W] at r;rw[J,V] at P;clear J W V x;generalize p.pg.check=aj at *;generalize p.pg.formE=U at *;generalize p.pg.itemE=f at *;obtain⟨kind,ap,aI,cI,m,aD,cD,am,next⟩:=p
 unfold Pv.vl;simp only[Pv.cs,Pv.vl,tv,fv] at *;generalize L:v.heap.size=kb at *;have ah:=e7 L;rw[<-L] at l;clear L;by_cases F:U=0
 . subst F;obtain rfl:=r.o rfl;clear O r;have aa:Hid (0<m.length->kind=1\/kind=2):=λh=>P.o rfl h
   go_enter func64,ntmps64;go_wp2_with fail
   refine q.o.mono ?_;rintro y a ⟨rfl,d⟩;obtain rfl:=d.symm;clear B K d q;obtain⟨Z,b1,b2,b3,b4⟩:=l.o _ (al v (.cells #[.int .i64 0] 39));go_wp2_with (first|(go_at_call 107;refine(M.o _ N.o).mono ?_;rintro y a ⟨rfl,c⟩;have H:=e7 c;obtain⟨c0,c1,c2,c3,T⟩:=l.o _ c.b;clear c)|(go_at_call 150;refine(jB _ _ _ H.o.c).mono ?_;rintro y C ⟨rfl,d⟩;obtain rfl:=d.symm))
   go_loopw [6,22] (λ_ i wx=>∃k:Nat,k<=m.length/\i=.int .i64 k/\Hid (Kt v kb wx (fD f k))) (λ_ i _=>m.length-(intOf i).toNat)
   case atStart=>exact⟨0,ar _,rfl,H.o⟩
   case round=>
    obtain⟨k,c,rfl,H⟩:=hrel;obtain⟨c0,c1,c2,c3,T⟩:=l.o _ H.o.b;by_cases G:k<m.length
    . have ao:(k:Int)<(m.length:Int):=by omega
      have ab:=w64 (j:=k) (by omega)
      go_wp2_with fail
      refine(X.o _ _ k H.o G (aa.o (by omega))).mono ?_
      rintro y a ⟨rfl,g⟩;have H:=e7 g;clear g;go_wp2;go_roundw
      case rel=>exact⟨k+1,by omega,by first|(go_num;done)|exact aU (Value.int IntKind.i64) (by omega),by rw[Y.o];exact H.o⟩
      case measure=>first|exact gy _ _ _ ab G|exact gy _ _ _ rfl G|(simp[intOf];omega)
    . obtain rfl:k=m.length:=by omega
      by_cases I:next=0
      . subst I;go_wp2_with (first|(go_at_call 149;refine(S.o _ _ H.o _ _ (by decide)).mono ?_;rintro y a ⟨rfl,g,_,_⟩;have H:=e7 g;clear g)|(go_at_call 150;refine(jB _ _ _ H.o.c).mono ?_;rintro y C ⟨rfl,d⟩;obtain rfl:=d.symm))
        go_ret;exact⟨by simp,bt s.o H.o.b⟩
      . have af:(next==0)=false:=by simpa using I
        go_wp2_with (first|(go_at_call 109;refine(fH _ _).mono ?_;rintro y a ⟨rfl,ae⟩;obtain rfl:=ae.symm)|(go_at_call 149;refine(S.o _ _ H.o _ _ (by decide)).mono ?_;rintro y a ⟨rfl,g,_,_⟩;have H:=e7 g;clear g)|(go_at_call 150;refine(jB _ _ _ H.o.c).mono ?_;rintro y C ⟨rfl,d⟩;obtain rfl:=d.symm))
        go_ret;exact⟨by simp[bne,af,I],bt s.o H.o.b⟩
 . have an:(((U:Nat):Int)==0)=false:=by simpa using F
   obtain rfl:=O.o F;clear r;go_enter func64,ntmps64;go_wp2_with fail
   refine q.o.mono ?_;rintro y a ⟨rfl,d⟩;obtain rfl:=d.symm;clear B K d q;obtain⟨Z,b1,b2,b3,b4⟩:=l.o _ (al v (.cells #[.int .i64 0] 39));go_wp2_with (first|(go_at_call 107;refine(M.o _ N.o).mono ?_;rintro y a ⟨rfl,c⟩;have H:=e7 c;obtain⟨c0,c1,c2,c3,T⟩:=l.o _ c.b;clear c)|(go_at_call 150;refine(jB _ _ _ H.o.c).mono ?_;rintro y C ⟨rfl,d⟩;obtain rfl:=d.symm))
   go_ret;exact⟨rfl,bt s.o H.o.b⟩
structure Vm where
 P:Q.Po
 f:Int->Option Pv
 ch:List (Int×Pv)
def Vm.on(X:Vm)(z:Int):Pv:=(X.f z).getD Pv.zero
def Vd.st(D:Vd)(X:Vm)(ac:Option Addr)(cc:Nat):Vd:={D with f:=X.f,ch:=X.ch,ac:=ac,cc:=cc}
def Vx(w:World)(b:Nat)(X:Vm)(fl:Nat)(D:Vd)(pc col:Nat->Nat):Prop:=∃ac cc,Vq w b X.P fl (D.st X ac cc) pc col
theorem Vx.keep{a:World}{X:Vm}(h:Vx w b X fl D pc col)(hb:Below w.heap.size w a):Vx a b X fl D pc col:=by
 obtain⟨c,d,h⟩:=h;exact⟨c,d,h.keep hb⟩
theorem Vx.on_z{X:Vm}(h:Vx w b X fl D pc col)(z:Int):Pz (λk=>col k=6) w (X.on z):=by
 obtain⟨a,c,h⟩:=h;exact wY h z
theorem Vx.look{X:Vm}(h:Vx w b X fl D pc col)(z:Int):(Instr.lookup 113 (.map (some D.mb)) (.int .i64 z) false).run prog w=.ok (X.on z).vl w:=by
 obtain⟨a,c,h⟩:=h;exact wS h z
theorem Vx.c01{X:Vm}(h:Vx w b X fl D pc col):w.cell? ⟨b,0,none⟩=some (.pointer (some ⟨D.pb,0,none⟩))/\w.cell? ⟨b,1,none⟩=some (.map (some D.mb)):=by
 obtain⟨a,c,h⟩:=h;exact⟨h.cells.1,h.cells.2.1⟩
theorem Vx.lb{X:Vm}(h:Vx w b X fl D pc col):b<w.heap.size:=by
 obtain⟨a,c,h⟩:=h;exact h.lb
theorem Vx.z{w:World}{b:Nat}{X:Vm}{fl:Nat}{D:Vd}{pc col:Nat->Nat}(h:Vx w b X fl D pc col){k:Nat}(d:w.heap.size<=k):col k=0:=by
 obtain⟨a,c,h⟩:=h;cases e:col k with
 |zero=>rfl
 |succ n=>have:=h.lt k (by omega);omega
theorem j6(w:World)(n:Int):Calls prog 164 #[.int .i64 n] w λe c=>e=.returned (.bool (ic n))/\c=w:=by
 unfold ic;by_cases a:1<=n
 . have d:decide (1<=n)=true:=by simpa using a
   go_enter func164,ntmps164;go_wp2;go_ret;exact⟨by simp[a],rfl⟩
 . have d:decide (1<=n)=false:=by simpa using a
   go_enter func164,ntmps164;go_wp2;go_ret;exact⟨by simp,rfl⟩
theorem jW{a b:Bool}(h:a=b):Ending.returned (.bool a)=.returned (.bool b):=by rw[h]
theorem ky(w:World)(p:Pv):Calls prog 160 #[p.vl] w λe f=>e=.returned (.bool p.pg.form)/\Below w.heap.size w f:=by
 unfold Pv.vl Pv.cs Pg.form Pv.pg;simp only[bf];obtain⟨kind,s,j,m,h,i,l,g,next⟩:=p
 dsimp only;generalize h.length=n;generalize g.length=d;by_cases c:kind=3
 . subst c;go_enter func160,ntmps160;go_wp2
   all_goals (go_ret;refine⟨jW ?_,al _ _⟩;first|grind|(simp;grind)|(simp[jG];grind))
 . have r:(kind==3)=false:=by simpa using c
   rw[if_neg c];by_cases a:kind=1
   . subst a;go_enter func160,ntmps160;go_wp2
     all_goals (go_ret;refine⟨jW ?_,al _ _⟩;first|grind|(simp;grind)|(simp[jG];grind))
   . have q:(kind==1)=false:=by simpa using a
     rw[if_neg a];go_enter func160,ntmps160;go_wp2
     all_goals (go_ret;refine⟨jW ?_,al _ _⟩;first|grind|(simp;grind)|(simp[jG];grind))
theorem qh(w:World)(p:Pv)(i:Nat)(c:Pi w p)(hi:i<p.items.length):Calls prog 161 #[p.vl,.int .i64 (i:Int)] w λe l=>e=.returned (.bool (p.pg.keyOk i))/\Below w.heap.size w l:=by
 obtain⟨s,C,m,d⟩:=(c.it.keep (al w (.cells p.cs 77))).at hi;obtain⟨g,h,a,j⟩:=fY d;have A:(i:Int)<(p.items.length:Int):=by omega
 unfold Pg.keyOk;rw[Pv.at];generalize p.items.getD i Iv.zero=x at *;clear d c h a j;obtain⟨kind,G,r,v,F,q,t,E,next⟩:=p
 unfold Pv.vl Iv.it;simp only[Pv.cs,Pv.pg] at *;subst m;generalize x.key.length=n at *;by_cases f:kind=2/\i=0
 . obtain⟨rfl,rfl⟩:=f;simp only[dJ,cx] at g;go_enter func161,ntmps161;go_wp2
   all_goals (go_ret;refine⟨jW ?_,al _ _⟩;first|grind|(simp;grind)|(simp[jG];grind))
 . by_cases a:kind=2
   . subst a;have y:((i:Int)==0)=false:=by simp;omega
     go_enter func161,ntmps161;go_wp2
     all_goals (go_ret;refine⟨jW ?_,al _ _⟩;first|grind|(simp;grind)|(simp[jG];grind))
   . have B:(kind==2)=false:=by simpa using a
     go_enter func161,ntmps161;go_wp2
     all_goals (go_ret;refine⟨jW ?_,al _ _⟩;first|grind|(simp;grind)|(simp[jG];grind))
theorem mP(w:World)(p:Pv)(x:Iv):Calls prog 162 #[p.vl,x.vl] w λe c=>e=.returned (.bool (x.it.valOk p.kind))/\Below w.heap.size w c:=by
 unfold It.valOk;obtain⟨kind,A,f,j,y,d,i,s,next⟩:=p
 obtain⟨g,l,r,h,m,val,v,t⟩:=x;unfold Pv.vl Iv.vl Iv.it;simp only[Pv.cs,Iv.cs];generalize val.length=n;by_cases a:kind=2
 . subst a;go_enter func162,ntmps162;go_wp2
   all_goals (go_ret;refine⟨jW ?_,bt (al _ _) (al _ _)⟩;first|grind|(simp;grind)|(simp[jG];grind))
 . have q:(kind==2)=false:=by simpa using a
   rw[if_neg a];go_enter func162,ntmps162;go_wp2
   all_goals (go_ret;refine⟨jW ?_,bt (al _ _) (al _ _)⟩;first|grind|(simp;grind)|(simp[jG];grind))
theorem mq(w:World)(p:Pv)(x:Iv):Calls prog 163 #[p.vl,x.vl] w λe h=>e=.returned (.bool (x.it.kidOk p.kind))/\Below w.heap.size w h:=by
 unfold It.kidOk;obtain⟨kind,G,m,s,F,l,r,C,next⟩:=p
 obtain⟨n,t,B,q,v,val,E,c⟩:=x;unfold Pv.vl Iv.vl Iv.it;simp only[Pv.cs,Iv.cs];by_cases f:kind=1/\c<=32
 . obtain⟨rfl,g⟩:=f;have j:decide (c<=32)=true:=by simpa using g
   rw[if_pos ⟨rfl,g⟩];go_enter func163,ntmps163;go_wp2
   all_goals (go_ret;refine⟨jW ?_,bt (al _ _) (al _ _)⟩;simp[jG])
 . rw[if_neg f];by_cases d:kind=1
   . subst d;have j:decide (c<=32)=false:=by simp;omega
     go_enter func163,ntmps163;go_wp2_with (go_at_call 164;refine(j6 _ _).mono ?_;rintro y i ⟨rfl,a⟩;obtain rfl:=a.symm)
     go_ret;exact⟨rfl,bt (al _ _) (al _ _)⟩
   . have A:(kind==1)=false:=by simpa using d
     go_enter func163,ntmps163;go_wp2_with (go_at_call 164;refine(j6 _ _).mono ?_;rintro y i ⟨rfl,a⟩;obtain rfl:=a.symm)
     go_ret;exact⟨rfl,bt (al _ _) (al _ _)⟩
theorem pK(h:p.formE=0)(c:fD p.itemE k=0)(f:k<p.items.length)(a:p.itemE k≠0):p.check=p.itemE k:=by
 obtain⟨d,e⟩:=fM h;unfold Pg.check;rw[if_neg (by rw[d];simp),if_neg (by rw[e];simp),ls c a _ f,if_pos a]
theorem oP(h:p.formE=0)(a:fD p.itemE p.items.length=0):p.check=if p.nextOk=false then 15 else 0:=by
 obtain⟨c,d⟩:=fM h;unfold Pg.check;rw[if_neg (by rw[c];simp),if_neg (by rw[d];simp),a,if_neg (by simp)]
theorem gE{a:Nat}(h:b=a):Ending.returned (.int .i64 (a:Int))=.returned (.int .i64 (b:Int)):=by rw[h]
theorem pd{a c:Nat}{L:List Iv}(h:Js w (some ⟨a,c,none⟩) L)(e:k<L.length):w.cell? ⟨a,c+k*4,none⟩=some (.slice (L.getD k Iv.zero).aK (L.getD k Iv.zero).key.length (L.getD k Iv.zero).cK)/\w.cell? ⟨a,c+k*4+1,none⟩=some (.slice (L.getD k Iv.zero).aV (L.getD k Iv.zero).val.length (L.getD k Iv.zero).cV)/\w.cell? ⟨a,c+k*4+2,none⟩=some (.int .i64 (L.getD k Iv.zero).child)/\w.cell? ⟨a,c+k*4+3,none⟩=some (.int .i64 (L.getD k Iv.zero).size):=by
 obtain⟨g,i,d,f⟩:=h.at e;simp only[au,Addr.mk.injEq,di] at d;obtain⟨rfl,rfl⟩:=d;exact fY f
end Go.Proofs.YtnnieandfdbhgaaGreat
