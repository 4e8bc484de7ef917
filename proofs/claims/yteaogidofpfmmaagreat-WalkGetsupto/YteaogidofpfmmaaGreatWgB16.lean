import Derived.Test.YteaogidofpfmmaaGreatWgB12
import Derived.Test.YteaogidofpfmmaaGreatWgB15
set_option linter.all false
set_option maxHeartbeats 16000000
set_option maxRecDepth 8000
namespace Go.Proofs.YteaogidofpfmmaaGreat
open Go.Proofs.Tryz
open Go.RowKit
variable {col:Nat->Nat}{w:World}
def iW(rd:Int->Option Pg)(s:Nat):Nat->List Nat->Int->Nat×List Nat
 |0,acc,_=>(0,acc)
 |t+1,acc,n=>if acc.length<s then
   match rd n with
   |none=>(15,[])
   |some p=>if p.kind≠3 then (15,[]) else if p.data.length≠min (s-acc.length) 480 then (5,[]) else if decide (p.next=0)≠decide (s-acc.length<=480) then (5,[]) else iW rd s t (acc++p.data) p.next
  else (0,acc)
theorem lg{rd:Int->Option Pg}{s:Nat}{a:List Nat}{n:Int}(h:s<=a.length):∀t,iW rd s t a n=(0,a)
 |0=>rfl
 |t+1=>by unfold iW;rw[if_neg (by omega)]
theorem ot{rd:Int->Option Pg}{s:Nat}:∀(t b:Nat)(a:List Nat)(n:Int),s-a.length<=t->s-a.length<=b->iW rd s t a n=iW rd s b a n
 |0,b,a,n,h,_=>by rw[lg (by omega),lg (by omega)]
 |t+1,0,a,n,_,h'=>by rw[lg (by omega),lg (by omega)]
 |t+1,b+1,a,n,h,h'=>by
  unfold iW;by_cases hl:a.length<s
  . rw[if_pos hl,if_pos hl];cases rd n with
    |none=>rfl
    |some p=>
     simp only;by_cases h1:p.kind≠3
     . rw[if_pos h1,if_pos h1]
     . rw[if_neg h1,if_neg h1];by_cases h2:p.data.length≠min (s-a.length) 480
       . rw[if_pos h2,if_pos h2]
       . rw[if_neg h2,if_neg h2];by_cases h3:decide (p.next=0)≠decide (s-a.length<=480)
         . rw[if_pos h3,if_pos h3]
         . rw[if_neg h3,if_neg h3];have e:p.data.length=min (s-a.length) 480:=by simpa using h2
           exact ot t b _ _ (by rw[af];omega) (by rw[af];omega)
  . rw[if_neg hl,if_neg hl]
def jL(f:FuncId)(v:Value)(rd:Int->Option Pg)(w:World):Prop:=∀(W:World),Below w.heap.size w W->∀z:Int,Calls prog f #[v,.int .i64 z] W λx w'=>∃q:Pv,x=.returned (.tuple #[q.vl,.int .i64 (if (rd z).isSome=true then 0 else 15)])/\Pn W w' q/\q.pg=(rd z).getD Pv.zero.pg/\Below W.heap.size W w'
def rdV(S:Vs)(z:Int):Option Pg:=if 0<S.X.P.count z then some (S.X.on z).pg else none
def rdR(D:Rd)(z:Int):Option Pg:=if 0<D.count z then some (D.on z).pg else none
theorem Vw.reads{b:Nat}{S:Vs}{d c:Nat}{e:Nat->Nat}(h:Vw w b S d c e col)(i:∀z,Sml (S.X.on z)):jL 52 (.pointer (some ⟨b,0,none⟩)) (rdV S) w:=λW hb z=>by
 refine(Dm W b S d c e col (h.keep hb) z (i z)).mono ?_;rintro _ k ⟨q,rfl,f,g,j⟩;refine⟨q,?_,f,?_,j⟩
 . unfold rdV;by_cases a:0<S.X.P.count z
   . rw[if_pos a,if_pos a,if_pos (by rfl)]
   . rw[if_neg a,if_neg a,if_neg (by simp)]
 . rw[g];unfold rdV;by_cases a:0<S.X.P.count z
   . rw[if_pos a,if_pos a];rfl
   . rw[if_neg a,if_neg a];rfl
theorem Rq.reads{b:Nat}{D:Rd}(h:Rq w b D col):jL 53 (.pointer (some ⟨b,0,none⟩)) (rdR D) w:=λW hb z=>by
 refine(Am W b D col (h.keep hb) z).mono ?_;rintro _ f ⟨q,rfl,c,_,d,e⟩;refine⟨q,?_,c,?_,e⟩
 . unfold rdR;by_cases a:0<D.count z
   . rw[if_pos a,if_pos a,if_pos (by rfl)]
   . rw[if_neg a,if_neg a,if_neg (by simp)]
 . rw[d];unfold rdR;by_cases a:0<D.count z
   . rw[if_pos a,if_pos a];rfl
   . rw[if_neg a,if_neg a];rfl
def Gvn(w w':World)(e:Ending)(r:Nat×List Nat):Prop:=(r.1≠0/\e=.returned (.tuple #[.slice none 0 0,.int .i64 ((r.1:Nat):Int)])/\Below w.heap.size w w')\/(r.1=0/\∃(a:Option Addr)(c:Nat),e=.returned (.tuple #[.slice a r.2.length c,.int .i64 0])/\Own w w' a c r.2/\B8 r.2)
theorem xq(w:World)(v:Value)(rd:Int->Option Pg)(B:jL 52 v rd w)(s:Nat)(h1:32<s)(h2:s<=3840)(n:Int):
 Calls prog 83 #[v,.int .i64 n,.int .i64 (s:Int)] w λe w'=>Gvn w w' e (iW rd s s [] n):=by
 have RD:=gW B;have aC:∀w:World,(Instr.makeSlice 37 (.int .i64 0) (.int .i64 (s:Int))).run prog w=.ok (.slice (some ⟨w.heap.size,0,none⟩) 0 s) (w.alloc (.cells (madeCells #[.int .u8 0] s) 5)):=oT 0 s (an _) (by omega)
 have A0:=gW (al w (.cells (madeCells #[.int .u8 0] s) 5));have R0:Hid (Rw (w.alloc (.cells (madeCells #[.int .u8 0] s) 5)) (some ⟨w.heap.size,0,none⟩) s []):=Rw.mk (cur:=madeCells #[.int .u8 0] s) (aZ _ _) (an _) (az h2 (by decide)) (yN s) (by simp[vb])
 clear B;obtain⟨f,ak⟩:∃f,iW rd s s [] n=f:=⟨_,rfl⟩;have aD:=gW ak;rw[ak];clear ak;go_enter func83,ntmps83;go_wp2_with fail
 generalize (w.alloc (.cells (madeCells #[.int .u8 0] s) 5))=w1 at *;clear aC;go_loopw [8,1] (λvv nv wx=>∃(i:List Nat)(U:Int)(a:Option Addr)(c m:Nat),vv=.slice a m c/\nv=.int .i64 U/\m=i.length/\m<=s/\Rw wx a c i/\New w none a/\Below w.heap.size w wx/\B8 i/\iW rd s (s-m) i U=f) (λvv _ _=>s-(lN vv))
 case atStart=>exact⟨[],n,some ⟨w.heap.size,0,none⟩,s,0,rfl,rfl,rfl,an _,R0.o,λx hx=>.inr (by cases hx;exact ai _),A0.o,(λx hx=>absurd hx (bX)),by rw[Nat.sub_zero];exact aD.o⟩
 case round=>
  clear R0 A0;obtain⟨i,U,a,c,m,rfl,rfl,hm,aG,B,C,hb,h8,b⟩:=hrel;have A:=gW hm;have RW:=gW B;have N:=gW C;have X:=gW hb;have H8:=gW h8;have EE:=gW b;clear hm B C hb h8 b;by_cases aB:m<s
  . have aJ:(m:Int)<(s:Int):=by omega
    have I:=gW (RD.o wr X.o U);obtain⟨t,ht⟩:∃t,s-m=t+1:=⟨s-m-1,by omega⟩
    have b:=EE.o;rw[ht] at b;unfold iW at b;rw[if_pos (by rw[<-A.o];exact aB)] at b
    obtain⟨o,ho⟩:∃o,rd U=o:=⟨_,rfl⟩;rw[ho] at I b;clear ho EE;cases o with
    |none=>
     simp only at b;have g:Hid ((15,[])=f):=b;clear b;go_wp2_with fail
     refine I.o.mono ?_;rintro _ w3 ⟨q,rfl,ab,ac,K⟩;have M:=gW (al w3 (.cells #[.int .i64 q.kind,.int .i64 q.level,.slice q.aI q.items.length q.cI,.slice q.aD q.data.length q.cD,.int .i64 q.next] 77));have l:=gW (bt X.o (bt K M.o));clear ab ac K I;obtain⟨W,ay,av,aw,ax,ad,ag,E,r⟩:=q;unfold Pv.vl;simp only[Pv.cs] at l ⊢;go_wp2_with fail
     refine aF (dg rfl _ _ _) rfl ?_;rw[<-g.o];exact .inl ⟨by decide,rfl,l.o⟩
    |some pg=>
     simp only at b
     have aj:Hid ((pg.kind≠3->(15,[])=f)/\(pg.kind=3->pg.data.length≠min (s-m) 480->(5,[])=f)/\(pg.kind=3->pg.data.length=min (s-m) 480->decide (pg.next=0)≠decide (s-m<=480)->(5,[])=f)/\(pg.kind=3->pg.data.length=min (s-m) 480->decide (pg.next=0)=decide (s-m<=480)->iW rd s (s-(m+pg.data.length)) (i++pg.data) pg.next=f)):=by
      rw[<-A.o] at b;refine⟨λH=>?_,λH T=>?_,λH T k3=>?_,λH T k3=>?_⟩
      . rw[if_pos H] at b;exact b
      . rw[if_neg (λe=>e H),if_pos T] at b;exact b
      . rw[if_neg (λe=>e H),if_neg (λe=>e T),if_pos k3] at b;exact b
      . rw[if_neg (λe=>e H),if_neg (λe=>e T),if_neg (λe=>e k3)] at b
        rw[<-b];exact ot _ _ _ _ (by rw[af,<-A.o];omega) (by rw[af,<-A.o];omega)
     clear b;rw[if_pos (show(some pg).isSome=true from rfl)] at I
     go_wp2_with fail
     refine I.o.mono ?_;rintro _ w3 ⟨q,rfl,ab,ac,K⟩;have ao:q.pg=pg:=ac;have M:=gW (al w3 (.cells q.cs 77));have F:=gW (aZ w3 (.cells q.cs 77));have l:=gW (bt X.o (bt K M.o));have O:=gW (ab.keep M.o);have P:=gW ((RW.o.keep K).keep M.o);rw[<-ao] at aj;clear ab ac K I ao;have Y:=gW (O.o.d.bs O.o.d8 O.o.d.len_le);have D8:Hid (B8 q.data):=O.o.d8;have j:Hid ((q.kind≠3->(15,[])=f)/\(q.kind=3->q.data.length≠min (s-m) 480->(5,[])=f)/\(q.kind=3->q.data.length=min (s-m) 480->decide (q.next=0)≠decide (s-m<=480)->(5,[])=f)/\(q.kind=3->q.data.length=min (s-m) 480->decide (q.next=0)=decide (s-m<=480)->iW rd s (s-(m+q.data.length)) (i++q.data) q.next=f)):=aj.o;clear aj O;obtain⟨W,ay,av,aw,ax,ad,ag,E,r⟩:=q;unfold Pv.vl;simp only[Pv.cs] at F l P j Y D8 ⊢;obtain⟨d,D⟩:∃d,E.length=d:=⟨_,rfl⟩;have J:=gW D;simp only[D] at F l P Y j ⊢;clear D;have aq:Hid (∀x,a=some x->x.block≠w3.heap.size):=λx hx=>P.o.nty13 (t:=77) F.o (by decide) hx
     go_upto_region 4 with fail
     generalize (w3.alloc (.cells #[.int .i64 W,.int .i64 ay,.slice av ax.length aw,.slice ad d ag,.int .i64 r] 77))=w4 at *;have ap:w3.heap.size<w4.heap.size:=(ae.1 F.o).1;generalize w3.heap.size=gp at *;obtain⟨y,y1,y2,y3,y4⟩:=iT F.o;by_cases L:W=3
     . have V:=gW L;have dk:(W != 3)=false:=by simpa using L
       clear L;by_cases D:d=min (s-m) 480
       . have aa:=gW D;have e2:min ((s:Int)-(m:Int)) 480=(d:Int):=by omega
         have aI:d<=480:=by omega
         have aH:1<=d:=by omega
         have aE:m+d<=s:=by omega
         have aA:((d:Int) != (d:Int))=false:=by simp
         have am:i.length+d<=140737488355328:=by rw[<-A.o];omega
         clear D;by_cases Z:s-m<=480
         . have d1:decide ((s:Int)-(m:Int)<=480)=true:=au (by omega)
           by_cases p:r=0
           . have d0:(r==0)=true:=by simpa using p
             have g:Hid (iW rd s (s-(m+d)) (i++E) r=f):=j.o.2.2.2 V.o aa.o (by rw[au p,au Z])
             clear p j;go_wp2_with (at_builtin;refine jO rfl _ _ rfl a m c i rfl A.o P.o ad d ag E rfl J.o.symm Y.o (by rw[J.o];exact am) ?_)
             intro R c' w5 B C G _;have R5:=gW B
             have X5:=gW ((G.block gp ap (λe=>by
              cases ha:a with
              |none=>rw[ha] at e;cases e
              |some x=>rw[ha] at e;exact aq.o x ha (by simpa using e.symm))).trans F.o)
             have N5:Hid (New w none R):=λah hy=>by
              rcases C ah hy with⟨z,hz,e⟩|h
              . rcases N.o z hz with⟨_,h0,_⟩|h1
                . cases h0
                . exact .inr (by rw[<-e];exact h1)
              . exact .inr (az l.o.size h)
             have B5:Hid (Below w.heap.size w w5):=(But.grown (S:=λk=>∃x,a=some x/\x.block=k) (But.ofBelow l.o) G (by
              intro k e _;cases ha:a with
              |none=>rw[ha] at e;simp at e
              |some x=>rw[ha] at e;exact⟨x,rfl,by first|(simpa using e)|(simpa using e.symm)⟩)).below (λk hk ⟨x,hx,e⟩=>by
               rcases N.o x hx with⟨_,h0,_⟩|h1
               . cases h0
               . omega)
             clear B C G y y1 y2 y3 y4;obtain⟨y,y1,y2,y3,y4⟩:=iT X5.o;go_wp2_with fail
             go_roundw
             case rel=>exact⟨i++E,r,R,c',m+d,rfl,rfl,by rw[af,<-A.o,J.o],by omega,R5.o,N5.o,B5.o,(λx hx=>by
              rcases bG.1 hx with hx|hx
              . exact H8.o x hx
              . exact D8.o x hx),g.o⟩
             case measure=>simp[lN];omega
           . have d0:(r==0)=false:=by simpa using p
             have g:Hid ((5,[])=f):=j.o.2.2.1 V.o aa.o (by rw[ar p,au Z];decide)
             clear p j;go_wp2_with fail
             refine aF (dg rfl _ _ _) rfl ?_;rw[<-g.o];exact .inl ⟨by decide,rfl,l.o⟩
         . have d1:decide ((s:Int)-(m:Int)<=480)=false:=ar (by omega)
           by_cases p:r=0
           . have d0:(r==0)=true:=by simpa using p
             have g:Hid ((5,[])=f):=j.o.2.2.1 V.o aa.o (by rw[au p,ar Z];decide)
             clear p j;go_wp2_with fail
             refine aF (dg rfl _ _ _) rfl ?_;rw[<-g.o];exact .inl ⟨by decide,rfl,l.o⟩
           . have d0:(r==0)=false:=by simpa using p
             have g:Hid (iW rd s (s-(m+d)) (i++E) r=f):=j.o.2.2.2 V.o aa.o (by rw[ar p,ar Z])
             clear p j;go_wp2_with (at_builtin;refine jO rfl _ _ rfl a m c i rfl A.o P.o ad d ag E rfl J.o.symm Y.o (by rw[J.o];exact am) ?_)
             intro R c' w5 B C G _;have R5:=gW B
             have X5:=gW ((G.block gp ap (λe=>by
              cases ha:a with
              |none=>rw[ha] at e;cases e
              |some x=>rw[ha] at e;exact aq.o x ha (by simpa using e.symm))).trans F.o)
             have N5:Hid (New w none R):=λah hy=>by
              rcases C ah hy with⟨z,hz,e⟩|h
              . rcases N.o z hz with⟨_,h0,_⟩|h1
                . cases h0
                . exact .inr (by rw[<-e];exact h1)
              . exact .inr (az l.o.size h)
             have B5:Hid (Below w.heap.size w w5):=(But.grown (S:=λk=>∃x,a=some x/\x.block=k) (But.ofBelow l.o) G (by
              intro k e _;cases ha:a with
              |none=>rw[ha] at e;simp at e
              |some x=>rw[ha] at e;exact⟨x,rfl,by first|(simpa using e)|(simpa using e.symm)⟩)).below (λk hk ⟨x,hx,e⟩=>by
               rcases N.o x hx with⟨_,h0,_⟩|h1
               . cases h0
               . omega)
             clear B C G y y1 y2 y3 y4;obtain⟨y,y1,y2,y3,y4⟩:=iT X5.o;go_wp2_with fail
             go_roundw
             case rel=>exact⟨i++E,r,R,c',m+d,rfl,rfl,by rw[af,<-A.o,J.o],by omega,R5.o,N5.o,B5.o,(λx hx=>by
              rcases bG.1 hx with hx|hx
              . exact H8.o x hx
              . exact D8.o x hx),g.o⟩
             case measure=>simp[lN];omega
       . have aA:((d:Int) != min ((s:Int)-(m:Int)) 480)=true:=by
          have:¬((d:Int)=min ((s:Int)-(m:Int)) 480):=by omega
          simpa using this
         have g:Hid ((5,[])=f):=j.o.2.1 V.o D;clear D j;go_wp2_with fail
         refine aF (dg rfl _ _ _) rfl ?_;rw[<-g.o];exact .inl ⟨by decide,rfl,l.o⟩
     . have dk:(W != 3)=true:=by simpa using L
       have g:Hid ((15,[])=f):=j.o.1 L;clear L j;go_wp2_with fail
       refine aF (dg rfl _ _ _) rfl ?_;rw[<-g.o];exact .inl ⟨by decide,rfl,l.o⟩
  . have e1:m=s:=by omega
    have g:Hid ((0,i)=f):=by
     show _=_;rw[<-EE.o];exact(lg (by rw[<-A.o];omega) _).symm
    subst e1;go_wp2_with fail
    refine aF (dg rfl _ _ _) rfl ?_;rw[<-g.o];exact .inr ⟨rfl,a,c,(by show Ending.returned (.tuple #[.slice a m c,.int .i64 0])=_;rw[A.o]),⟨RW.o,N.o,X.o⟩,H8.o⟩
end Go.Proofs.YteaogidofpfmmaaGreat
namespace Go.Proofs.YteaogidofpfmmaaGreat
open Go.Proofs.Tryz
variable {o:Bool}{n root:Int}{rd:Int->Option Pg}{k:List Nat}{f i:Nat}{p:Pg}{r:Rg}
theorem tR(r s:Rg)(k:List Nat):has (js r s) k=true↔has r k=true/\has s k=true:=by
 have e:∀a b:List Nat,(grt a b<=k↔a<=k/\b<=k):=λa b=>by
  unfold grt;have:= @mh a b;split<;>grind
 have g:∀a b:List Nat,(k<lsr a b↔k<a/\k<b):=λa b=>by
  unfold lsr;have:= @mh a b;split<;>grind
 rw[has_iff,has_iff,has_iff];obtain⟨h,c,l⟩:=r;obtain⟨j,d,m⟩:=s;unfold js;have a:=e h j;have b:=g c d;cases l<;>cases m<;>simp<;>grind
theorem mK:has (wth p i r) k=true↔has r k=true/\(p.at i).key<=k/\(i+1<p.items.length->k<(p.at (i+1)).key):=by
 unfold wth;rw[tR];have b:=has_iff (r:=⟨(p.at i).key,if i+1<p.items.length then (p.at (i+1)).key else [],decide (¬i+1<p.items.length)⟩) (k:=k)
 rw[b];constructor
 . rintro⟨h1,_,h3,h4⟩;refine⟨h1,h3,λa=>?_⟩
   rw[if_pos a] at h4;simpa[a] using h4
 . rintro⟨h1,h2,h3⟩;refine⟨h1,D4 h1,h2,?_⟩;by_cases a:i+1<p.items.length
   . right;rw[if_pos a];exact h3 a
   . left;simpa using a
theorem mP(h:i<p.items.length):p.at i=p.items[i]:=by unfold Pg.at;simp[h]
theorem Sound.rise{p:Pg}(h:Sound p):∀{i j:Nat},i<j->j<p.items.length->(p.at i).key<(p.at j).key:=by
 intro i j c;induction j with
 |zero=>omega
 |succ j ih=>
  intro b;have a:=(lJ.1 (h.i (j+1) b)).2.1;unfold Pg.ordOk at a;simp at a;have a:=qr.1 a;by_cases e:i=j
  . subst e;exact a
  . have:=ih (by omega) (by omega);grind
theorem Sound.keyK(h:Sound p)(hi:i<p.items.length)(hk:p.kind=1\/i≠0):isK (p.at i).key=true:=by
 have c:=(lJ.1 (h.i i hi)).1;unfold Pg.keyOk at c;rw[if_neg (by rintro⟨a,b⟩;rcases hk with h|h<;>omega)] at c
 unfold isK;simp at c ⊢;omega
theorem Sound.key0(h:Sound p)(hk:p.kind=2)(hi:0<p.items.length):(p.at 0).key=[]:=by
 have a:=(lJ.1 (h.i 0 hi)).1;unfold Pg.keyOk at a;rw[if_pos ⟨hk,rfl⟩] at a;simpa using a
theorem jb{a:Int}:lvl p a=true↔p.kind≠3/\p.level=a:=by unfold lvl;simp
theorem Sound.leaf0(h:Sound p)(hk:p.kind=1):p.level=0/\1<=p.items.length:=by
 have a:=h.f;unfold Pg.form at a;rw[if_neg (by omega),if_pos hk] at a
 simp at a;omega
theorem Sound.idx(h:Sound p)(hk:p.kind=2):1<=p.level/\p.level<=11/\2<=p.items.length:=by
 have a:=h.f;unfold Pg.form at a;rw[if_neg (by omega),if_neg (by omega)] at a
 simp at a;omega
theorem Sound.kind(h:Sound p):p.kind=1\/p.kind=2\/p.kind=3:=Pg.kindOk_iff.1 h.k
def ldI(rd:Int->Option Pg)(x:It):Nat×List Nat:=if x.size<0\/3840<x.size then (8,[]) else if 32<x.size then iW rd x.size.toNat x.size.toNat [] x.child else if (x.val.length:Int)≠x.size then (8,[]) else (0,x.val)
def nds(rd:Int->Option Pg):Nat->Int->List Int
 |f,n=>match rd n with
  |none=>[]
  |some p=>n::(if p.kind=1 then [] else match f with
   |0=>[]
   |k+1=>(p.items.map It.child).flatMap (nds rd k))
def lits(rd:Int->Option Pg):Nat->Int->List It
 |f,n=>match rd n with
  |none=>[]
  |some p=>if p.kind=1 then p.items else match f with
   |0=>[]
   |k+1=>(p.items.map It.child).flatMap (lits rd k)
def Sub(rd:Int->Option Pg)(root:Int):Nat->Plx->Prop
 |f,a=>∃p,rd a.no=some p/\lvl p a.lv=true/\(a.no=root\/4<=p.items.length)/\(p.kind=1->∀x∈p.items,has a.keys x.key=true/\(ldI rd x).1=0)/\(p.kind≠1->match f with
    |0=>False
    |k+1=>∀c∈ben a p,Sub rd root k c)
theorem se{a:Plx}(h:i<p.items.length):(ben a p)[i]?=some ⟨(p.at i).child,a.lv-1,wth p i a.keys⟩:=by
 unfold ben;simp[h]
theorem mO(a:Plx)(p:Pg):(ben a p).map Plx.no=p.items.map It.child:=by
 unfold ben;apply fK
 . simp
 . intro i c b;simp at c b;simp[mP b]
theorem rL{a:Plx}{c:Plx}(h:c∈ben a p):∃i,i<p.items.length/\c=⟨(p.at i).child,a.lv-1,wth p i a.keys⟩:=by
 unfold ben at h;obtain⟨i,b,e⟩:=bM.1 h;exact⟨i,dv.1 b,e.symm⟩
structure Grw(rd:Int->Option Pg)(G G':List Int):Prop where
 sub:∀x∈G,x∈G'
 nd:G.Nodup->G'.Nodup
 cl:∀x∈G',x∈G\/∃p,rd x=some p/\∀k∈p.kids,k∈G'
theorem Grw.refl(rd:Int->Option Pg)(G:List Int):Grw rd G G:=⟨λ_ h=>h,id,λ_ h=>.inl h⟩
theorem Grw.trans{A B C:List Int}(h:Grw rd A B)(k:Grw rd B C):Grw rd A C:=
 ⟨λx a=>k.sub x (h.sub x a),λe=>k.nd (h.nd e),λx a=>by
   rcases k.cl x a with hb|hp
   . rcases h.cl x hb with b|⟨p,e,hp⟩
     . exact .inl b
     . exact .inr ⟨p,e,λc d=>k.sub c (hp c d)⟩
   . exact .inr hp⟩
theorem wG{rd:Int->Option Pg}:∀(t:Nat)(G:List Int)(n l:Int),l<=480*t->(iE rd t G n l).2=0->
 Grw rd G (iE rd t G n l).1/\(0<l->n∈(iE rd t G n l).1)/\∀(s f:Nat)(a:List Nat),t<=f->(a.length:Int)+l=s->(iW rd s f a n).1=0
 |0,G,n,l,hl,_=>by
  refine⟨Grw.refl _ _,λh=>by omega,λs f a _ m=>?_⟩
  cases f with
  |zero=>rfl
  |succ f=>unfold iW;rw[if_neg (by omega)]
 |t+1,G,n,l,hl,h=>by
  unfold iE at h ⊢;by_cases h0:l<=0
  . rw[if_pos h0];refine⟨Grw.refl _ _,λh=>by omega,λs f a _ m=>?_⟩
    cases f with
    |zero=>rfl
    |succ f=>unfold iW;rw[if_neg (by omega)]
  . rw[if_neg h0] at h ⊢;cases hp:rd n with
    |none=>rw[hp] at h;cases h
    |some p=>
     rw[hp] at h;simp only at h ⊢;by_cases h1:n∈G
     . rw[if_pos h1] at h;cases h
     rw[if_neg h1] at h ⊢;by_cases h2:p.kind≠3
     . rw[if_pos h2] at h;cases h
     rw[if_neg h2] at h ⊢;by_cases h3:(p.data.length:Int)≠min l 480\/decide (p.next=0)≠decide (l<=480)
     . rw[if_pos h3] at h;cases h
     rw[if_neg h3] at h ⊢;obtain⟨g,hn,ga⟩:=wG t (n::G) p.next (l-480) (by omega) h
     have B:(p.data.length:Int)=min l 480:=by simpa using λe=>h3 (.inl e)
     have q:decide (p.next=0)=decide (l<=480):=by
      by_cases e:decide (p.next=0)=decide (l<=480)
      . exact e
      . exact absurd (.inr e) h3
     have C:p.kind=3:=by omega
     refine⟨⟨λx hx=>g.sub x (bj _ hx),λe=>g.nd (e8.2 ⟨h1,e⟩),λx hx=>?_⟩,λ_=>g.sub n bC,λs f a A m=>?_⟩
     . rcases g.cl x hx with hx|hx
       . rcases bN.1 hx with rfl|hx
         . refine .inr ⟨p,hp,λc b=>?_⟩
           unfold Pg.kids at b;rw[if_neg (by omega),if_neg (by omega)] at b
           split at b
           . rename_i e;rw[aM.1 b];refine hn ?_;have:¬(l<=480):=λj=>e.2 (by simpa[j] using q)
             omega
           . cases b
         . exact .inl hx
       . exact .inr hx
     . cases f with
       |zero=>omega
       |succ f=>
        unfold iW;rw[if_pos (by omega),hp]
        simp only;have v:((s-a.length:Nat):Int)=l:=by omega
        have j:min (s-a.length) 480=p.data.length:=by omega
        rw[if_neg h2,if_neg (by omega),if_neg (by
         intro e;apply e;rw[q];by_cases d:l<=480
         . rw[au d,au (by omega)]
         . rw[ar d,ar (by omega)])]
        by_cases d:l<=480
        . have y:(a++p.data).length=s:=by rw[af];omega
          cases f with
          |zero=>rfl
          |succ f=>unfold iW;rw[if_neg (by omega)]
        . exact ga s f (a++p.data) (by omega) (by rw[af];omega)
theorem rG{rd:Int->Option Pg}{r:Rg}:∀(L:List It)(G:List Int),(∀x∈L,Fits 1 x)->(iM rd r L G).2=0->
 Grw rd G (iM rd r L G).1/\(∀x∈L,has r x.key=true/\(ldI rd x).1=0/\(x.child≠0->x.child∈(iM rd r L G).1))
 | [],G,_,_=>⟨Grw.refl _ _,λ_ h=>(bX h).elim⟩
 |x::L,G,hF,h=>by
  obtain⟨f1,f2,f3,f4⟩:=(hF x bC).leaf rfl;unfold iM at h ⊢;by_cases a:has r x.key=false
  . rw[if_pos a] at h;cases h
  rw[if_neg a] at h ⊢;have a:has r x.key=true:=by simpa using a
  by_cases c:x.size<=32
  . rw[if_pos c] at h ⊢;obtain⟨g,k⟩:=rG L G (λy hy=>hF y (bj _ hy)) h
    refine⟨g,λy hy=>?_⟩
    rcases bN.1 hy with rfl|hy
    . obtain⟨q,d⟩:=f3 c;refine⟨a,?_,λe=>absurd d e⟩
      unfold ldI;rw[if_neg (by omega),if_neg (by omega),if_neg (by omega)]
    . exact k y hy
  . rw[if_neg c] at h ⊢;by_cases b:(iE rd 8 G x.child x.size).2≠0
    . rw[if_pos b] at h;exact absurd h b
    rw[if_neg b] at h ⊢;have b:(iE rd 8 G x.child x.size).2=0:=by simpa using b
    obtain⟨j,l,m⟩:=wG 8 G x.child x.size (by omega) b
    obtain⟨g,k⟩:=rG L _ (λy hy=>hF y (bj _ hy)) h
    refine⟨j.trans g,λy hy=>?_⟩
    rcases bN.1 hy with rfl|hy
    . refine⟨a,?_,λ_=>g.sub _ (l (by omega))⟩
      unfold ldI;rw[if_neg (by omega),if_pos (by omega)]
      exact m _ _ [] (by omega) (by simp;omega)
    . exact k y hy
structure Fnd(rd:Int->Option Pg)(root:Int)(f:Nat)(a:Plx)(s s':Cst):Prop where
 g:Grw rd s.G s'.G
 sb:Sub rd root f a
 nd:(nds rd f a.no).Nodup
 ni:∀x∈nds rd f a.no,x∉s.G/\x∈s'.G
 me:a.no∈s'.G
 ks:s'.ks=s.ks+(lits rd f a.no).length
theorem wu{rd:Int->Option Pg}{root:Int}{f:Nat}:∀(L:List Plx)(s:Cst),(∀c∈L,c.lv<=(f:Int))->(∀(a:Plx)(s:Cst),a.lv<=(f:Int)->s.er=0->(ib (ik rd root) rd (λ_=>true) true f s a).er=0->Fnd rd root f a s (ib (ik rd root) rd (λ_=>true) true f s a))->
 s.er=0->(flw (λs c=>ib (ik rd root) rd (λ_=>true) true f s c) (ik rd root).stp L s).er=0->
  Grw rd s.G (flw (λs c=>ib (ik rd root) rd (λ_=>true) true f s c) (ik rd root).stp L s).G/\(∀c∈L,Sub rd root f c)/\((L.map Plx.no).flatMap (nds rd f)).Nodup/\(∀x∈(L.map Plx.no).flatMap (nds rd f),x∉s.G/\x∈(flw (λs c=>ib (ik rd root) rd (λ_=>true) true f s c) (ik rd root).stp L s).G)/\
  (∀c∈L,c.no∈(flw (λs c=>ib (ik rd root) rd (λ_=>true) true f s c) (ik rd root).stp L s).G)/\(flw (λs c=>ib (ik rd root) rd (λ_=>true) true f s c) (ik rd root).stp L s).ks=s.ks+((L.map Plx.no).flatMap (lits rd f)).length
 | [],s,_,_,_,_=>⟨Grw.refl _ _,λ_ h=>(bX h).elim,by simp,λx h=>by simp at h,λ_ h=>(bX h).elim,by simp[flw]⟩
 |c::L,s,hL,H,h0,h=>by
  rw[jj] at h ⊢;generalize ht:ib (ik rd root) rd (λ_=>true) true f s c=s1 at*
  by_cases b:(ik rd root).stp s1=true
  . rw[if_pos b] at h;have b:decide (s1.er≠0)=true:=b;simp[h] at b
  rw[if_neg b] at h ⊢
  have j:s1.er=0:=by
   have b:¬decide (s1.er≠0)=true:=b;simpa using b
  have F:=H c s (hL c bC) h0 (by rw[ht];exact j)
  rw[ht] at F;obtain⟨g,l,m,d,q,t⟩:=wu L s1 (λy hy=>hL y (bj _ hy)) H j h
  generalize flw (λs c=>ib (ik rd root) rd (λ_=>true) true f s c) (ik rd root).stp L s1=v at*
  refine⟨F.g.trans g,λy hy=>?_,?_,λx hx=>?_,λy hy=>?_,?_⟩
  . rcases bN.1 hy with rfl|hy
    . exact F.sb
    . exact l y hy
  . rw[bO,dR,List.nodup_append];exact⟨F.nd,m,λx hx y hy e=>(d y hy).1 (e▸(F.ni x hx).2)⟩
  . rw[bO,dR,bG] at hx;rcases hx with hx|hx
    . exact⟨(F.ni x hx).1,g.sub _ (F.ni x hx).2⟩
    . exact⟨λe=>(d x hx).1 (F.g.sub _ e),(d x hx).2⟩
  . rcases bN.1 hy with rfl|hy
    . exact g.sub _ F.me
    . exact q y hy
  . rw[bO,dR,af,t,F.ks];omega
theorem tj{s:Cst}{a:Plx}(j:Sound p)(hk:p.kind=1)(h:(i6 rd root s a p).er=0):
 (a.no=root\/4<=p.items.length)/\Grw rd s.G (i6 rd root s a p).G/\(∀x∈p.items,has a.keys x.key=true/\(ldI rd x).1=0/\(x.child≠0->x.child∈(i6 rd root s a p).G))/\(i6 rd root s a p).ks=s.ks+p.items.length:=by
 unfold i6 at h ⊢;by_cases c:a.no≠root/\p.items.length<4
 . rw[if_pos c] at h;cases h
 rw[if_neg c,if_pos hk] at h ⊢;by_cases b:(iM rd a.keys p.items s.G).2≠0
 . rw[if_pos b] at h;exact absurd h b
 rw[if_neg b];obtain⟨g,k⟩:=rG p.items s.G (λx l=>by have:=j.fits l;rwa [hk] at this) (by simpa using b)
 refine⟨?_,g,k,rfl⟩;by_cases e:a.no=root
 . exact .inl e
 . exact .inr (gF λd=>c ⟨e,d⟩)
theorem Cf{s:Cst}{a:Plx}(hk:p.kind≠1)(h:(i6 rd root s a p).er=0):(a.no=root\/4<=p.items.length)/\i6 rd root s a p=s:=by
 unfold i6 at h ⊢;by_cases b:a.no≠root/\p.items.length<4
 . rw[if_pos b] at h;cases h
 rw[if_neg b,if_neg hk];refine⟨?_,rfl⟩;by_cases e:a.no=root
 . exact .inl e
 . exact .inr (gF λc=>b ⟨e,c⟩)
theorem Grw.enter{G a:List Int}(d:rd n=some p)(b:n∉G)(g:Grw rd (n::G) a)(hk:∀c∈p.kids,c∈a):Grw rd G a:=
 ⟨λx hx=>g.sub x (bj _ hx),λe=>g.nd (e8.2 ⟨b,e⟩),λx hx=>by
   rcases g.cl x hx with hx|hx
   . rcases bN.1 hx with rfl|hx
     . exact .inr ⟨p,d,hk⟩
     . exact .inl hx
   . exact .inr hx⟩
theorem jP(a:rd n=some p)(hk:p.kind=1):nds rd f n=[n]/\lits rd f n=p.items:=by
 unfold nds lits;rw[a];simp[hk]
theorem kJ(a:rd n=some p)(hk:p.kind≠1):nds rd (f+1) n=n::(p.items.map It.child).flatMap (nds rd f)/\lits rd (f+1) n=(p.items.map It.child).flatMap (lits rd f):=by
 conv=>lhs;unfold nds
 conv=>rhs;unfold lits
 rw[a];simp[hk]
theorem th{rd:Int->Option Pg}{root:Int}{f:Nat}{a:Plx}{s:Cst}(h:(ib (ik rd root) rd (λ_=>true) true f s a).er=0):
 ∃p,rd a.no=some p/\a.no∉s.G/\lvl p a.lv=true/\(i6 rd root {s with G:=a.no::s.G} a p).er=0/\(p.kind=1->ib (ik rd root) rd (λ_=>true) true f s a=i6 rd root {s with G:=a.no::s.G} a p)/\
  (p.kind≠1->∀k,f=k+1->ib (ik rd root) rd (λ_=>true) true f s a=flw (λs c=>ib (ik rd root) rd (λ_=>true) true k s c) (ik rd root).stp (ben a p) (i6 rd root {s with G:=a.no::s.G} a p)):=by
 generalize b:ib (ik rd root) rd (λ_=>true) true f s a=T at*
 unfold ib at b;rw[if_neg (by simp)] at b
 cases hp:rd a.no with
 |none=>rw[hp] at b;rw[<-b] at h;cases h
 |some p=>
  rw[hp] at b;simp only at b;refine⟨p,rfl,?_⟩;by_cases j:a.no∈(ik rd root).gone s
  . rw[if_pos j] at b;rw[<-b] at h;cases h
  rw[if_neg j] at b;refine⟨j,?_⟩;by_cases l:lvl p a.lv=false
  . rw[if_pos l] at b;rw[<-b] at h;cases h
  rw[if_neg l] at b;refine⟨by simpa using l,?_⟩
  have q:(ik rd root).tel ((ik rd root).ent s a.no) a p=i6 rd root {s with G:=a.no::s.G} a p:=rfl;rw[q] at b;generalize i6 rd root {s with G:=a.no::s.G} a p=g at *;by_cases d:(ik rd root).stp g=true
  . rw[if_pos (.inl d)] at b;rw[<-b] at h;have d:decide (g.er≠0)=true:=d;simp[h] at d
  have m:g.er=0:=by
   have d:¬decide (g.er≠0)=true:=d;simpa using d
  refine⟨m,λhk=>by rw[<-b,if_pos (.inr hk)],λhk k e=>?_⟩
  subst e;rw[if_neg (by simp[d,hk])] at b
  exact b.symm
theorem wJ{rd:Int->Option Pg}{root:Int}(M:ix rd):∀(f:Nat)(a:Plx)(s:Cst),a.lv<=f->s.er=0->(ib (ik rd root) rd (λ_=>true) true f s a).er=0->Fnd rd root f a s (ib (ik rd root) rd (λ_=>true) true f s a):=by
 intro f;induction f with
 |zero=>
  intro a s E B h;obtain⟨p,d,m,t,C,D,_⟩:=th h;have q:=M _ _ d;obtain⟨F,V⟩:=jb.1 t
  have hk:p.kind=1:=by
   rcases q.kind with h|h|h
   . exact h
   . have:=q.idx h;omega
   . exact absurd h F
  rw[D hk];obtain⟨y,g,k,H⟩:=tj q hk C;obtain⟨j,v⟩:=jP (f:=0) d hk;have l:=g.sub a.no bC;refine⟨Grw.enter d m g (λc b=>?_),⟨p,d,t,y,λ_ x hx=>⟨(k x hx).1,(k x hx).2.1⟩,λe=>absurd hk e⟩,by rw[j];simp,λx hx=>?_,l,by rw[v];exact H⟩
  . unfold Pg.kids at b;rw[if_neg (by omega),if_pos hk] at b
    obtain⟨b,I⟩:=eG.1 b;obtain⟨x,hx,rfl⟩:=bM.1 b;exact(k x hx).2.2 (by simpa using I)
  . rw[j] at hx;rw[aM.1 hx];exact⟨m,l⟩
 |succ f ih=>
  intro a s E B h;obtain⟨p,d,m,t,C,D,T⟩:=th h;have q:=M _ _ d;obtain⟨F,V⟩:=jb.1 t;by_cases hk:p.kind=1
  . rw[D hk];obtain⟨y,g,k,H⟩:=tj q hk C;obtain⟨j,v⟩:=jP (f:=f+1) d hk;have l:=g.sub a.no bC;refine⟨Grw.enter d m g (λc b=>?_),⟨p,d,t,y,λ_ x hx=>⟨(k x hx).1,(k x hx).2.1⟩,λe=>absurd hk e⟩,by rw[j];simp,λx hx=>?_,l,by rw[v];exact H⟩
    . unfold Pg.kids at b;rw[if_neg (by omega),if_pos hk] at b
      obtain⟨b,I⟩:=eG.1 b;obtain⟨x,hx,rfl⟩:=bM.1 b;exact(k x hx).2.2 (by simpa using I)
    . rw[j] at hx;rw[aM.1 hx];exact⟨m,l⟩
  . rw[T hk f rfl] at h ⊢;obtain⟨y,S⟩:=Cf hk C;rw[S] at h ⊢
    have X:p.kind=2:=by
     rcases q.kind with h|h|h
     . exact absurd h hk
     . exact h
     . exact absurd h F
    have Y:∀c∈ben a p,c.lv<=f:=λc b=>by
     obtain⟨i,_,rfl⟩:=rL b;show a.lv-1<=(f:Int);omega
    obtain⟨j,v⟩:=kJ (f:=f) d hk;have N:∀(L:List Plx)(s:Cst),(∀c∈L,c.lv<=(f:Int))->s.er=0->(flw (λs c=>ib (ik rd root) rd (λ_=>true) true f s c) (ik rd root).stp L s).er=0->_:=λL s U=>wu (rd:=rd) (root:=root) (f:=f) L s U (λa s E B h=>ih a s E B h)
    obtain⟨g,O,J,A,P,K⟩:=N (ben a p) _ Y (by exact B) h
    generalize flw (λs c=>ib (ik rd root) rd (λ_=>true) true f s c) (ik rd root).stp (ben a p) {s with G:=a.no::s.G}=Z at*
    rw[mO] at J A K;have l:=g.sub a.no bC;refine⟨Grw.enter d m g (λc b=>?_),⟨p,d,t,y,λe=>absurd e hk,λ_=>O⟩,?_,λx hx=>?_,l,by rw[v];exact K⟩
    . unfold Pg.kids at b;rw[if_pos X,<-mO a] at b;obtain⟨R,W,rfl⟩:=bM.1 b;exact P R W
    . rw[j,e8];exact⟨λe=>(A _ e).1 bC,J⟩
    . rw[j] at hx;rcases bN.1 hx with rfl|hx
      . exact⟨m,l⟩
      . exact⟨λe=>(A x hx).1 (bj _ e),(A x hx).2⟩
theorem Sub.page{rd:Int->Option Pg}{root:Int}{f:Nat}{a:Plx}(h:Sub rd root f a):∃p,rd a.no=some p/\lvl p a.lv=true/\(a.no=root\/4<=p.items.length)/\(p.kind=1->∀x∈p.items,has a.keys x.key=true/\(ldI rd x).1=0)/\(p.kind≠1->∃k,f=k+1/\∀c∈ben a p,Sub rd root k c):=by
 unfold Sub at h;obtain⟨p,b,d,e,g,j⟩:=h;refine⟨p,b,d,e,g,λhk=>?_⟩
 have:=j hk;cases f with
 |zero=>exact this.elim
 |succ k=>exact⟨k,rfl,this⟩
theorem Ef(h:has (wth p i r) k=true):has r k=true:=(mK.1 h).1
theorem C8{a:Plx}{x:It}(h:x∈(p.items.map It.child).flatMap (lits rd f)):∃i,i<p.items.length/\x∈lits rd f (p.at i).child:=by
 rw[<-mO a] at h;obtain⟨n,e,g⟩:=gG.1 h;obtain⟨c,b,rfl⟩:=bM.1 e;obtain⟨i,d,rfl⟩:=rL b;exact⟨i,d,g⟩
theorem Sub.kid{a:Plx}(h:∀c∈ben a p,Sub rd root f c)(hi:i<p.items.length):Sub rd root f ⟨(p.at i).child,a.lv-1,wth p i a.keys⟩:=h _ (fh (se hi))
theorem Sub.hk{rd:Int->Option Pg}{root:Int}(c:ix rd):∀{f:Nat}{a:Plx},Sub rd root f a->∀x∈lits rd f a.no,has a.keys x.key=true/\(ldI rd x).1=0
 |f,a,h=>by
  obtain⟨p,hp,hl,hr,h1,h2⟩:=h.page;by_cases hk:p.kind=1
  . rw[(jP hp hk).2];exact h1 hk
  . obtain⟨k,rfl,d⟩:=h2 hk;rw[(kJ hp hk).2];intro x b;obtain⟨i,e,b⟩:=C8 (a:=a) b;obtain⟨g,j⟩:=Sub.hk c (Sub.kid d e) x b;exact⟨Ef g,j⟩
theorem pK{α:Type}(r:α->α->Prop)(g:Nat->List α):∀(n:Nat),(∀i,i<n->(g i).Pairwise r)->(∀i j,i<j->j<n->∀x∈g i,∀y∈g j,r x y)->((List.range n).flatMap g).Pairwise r
 |0,_,_=>by simp
 |n+1,h1,h2=>by
  rw[gT,fQ,dA];refine⟨pK r g n (λi hi=>h1 i (by omega)) (λi j hi c=>h2 i j hi (by omega)),by simpa using h1 n (by omega),λx a y b=>?_⟩
  obtain⟨i,hi,a⟩:=gG.1 a;have hi:=dv.1 hi;exact h2 i n hi (by omega) x a y (by simpa using b)
theorem qE(p:Pg){β:Type}(g:Int->List β):(p.items.map It.child).flatMap g=(List.range p.items.length).flatMap λi=>g (p.at i).child:=by
 have:p.items.map It.child=(List.range p.items.length).map λi=>(p.at i).child:=by
  apply fK
  . simp
  . intro i b a;simp at b a;simp[mP a]
 rw[this,gH]
theorem Sub.rise{rd:Int->Option Pg}{root:Int}(c:ix rd):∀{f:Nat}{a:Plx},Sub rd root f a->(lits rd f a.no).Pairwise λx y=>x.key<y.key
 |f,a,h=>by
  obtain⟨p,hp,hl,hr,h1,h2⟩:=h.page;have l:=c _ _ hp;by_cases hk:p.kind=1
  . rw[(jP hp hk).2,fi];intro i j g b m;have:=l.rise m b;rwa [mP g,mP b] at this
  . obtain⟨k,rfl,d⟩:=h2 hk;rw[(kJ hp hk).2,qE];refine pK _ _ _ (λi g=>Sub.rise c (Sub.kid d g)) (λi j m b x q y s=>?_)
    have t:=(mK.1 ((Sub.kid d (show i<p.items.length by omega)).hk c x q).1).2.2 (by omega)
    have v:=(mK.1 ((Sub.kid d b).hk c y s).1).2.1
    have:(p.at (i+1)).key<=(p.at j).key:=by
     by_cases e:i+1=j
     . subst e;grind
     . have:=l.rise (show i+1<j by omega) b;grind
    grind
theorem xE(L:List It)(i:Nat):(L.drop 1).getD i It.zero=L.getD (i+1) It.zero:=by simp
theorem pN{L:List It}(h:0<L.length):iQ k L<L.length:=by
 unfold iQ;have:=oW k (L.drop 1);rw[di] at this;omega
theorem pU(a:Sound p)(hk:p.kind=2)(k:List Nat):(p.at (iQ k p.items)).key<=k/\(iQ k p.items+1<p.items.length->k<(p.at (iQ k p.items+1)).key):=by
 have b:=(a.idx hk).2.2;have e:∀i,p.at (i+1)=(p.items.drop 1).getD i It.zero:=λi=>(xE p.items i).symm
 constructor
 . cases hr:iQ k p.items with
   |zero=>rw[a.key0 hk (by omega)];exact List.not_lt.1 (List.not_lt_nil _)
   |succ j=>
    rw[e];exact wo k (p.items.drop 1) j (by have:upto k (p.items.drop 1)=j+1:=hr;omega)
 . intro h;rw[e];have:=uQ k (p.items.drop 1) (by rw[di];unfold iQ at h;omega)
   exact List.not_le.1 this
theorem Cj(a:Sound p)(hk:p.kind=2)(b:has r k=true):has (wth p (iQ k p.items) r) k=true:=mK.2 ⟨b,(pU a hk k).1,(pU a hk k).2⟩
theorem zX(a:Sound p)(hk:p.kind=2)(hi:i<p.items.length)(h:has (wth p i r) k=true):i=iQ k p.items:=by
 obtain⟨_,m,d⟩:=mK.1 h;obtain⟨l,c⟩:=pU a hk k;have g:=pN (k:=k) (show 0<p.items.length by omega)
 generalize iQ k p.items=j at *;rcases Nat.lt_trichotomy i j with hij|hij|hij
 . have b:=d (by omega)
   have:(p.at (i+1)).key<=(p.at j).key:=by
    by_cases e:i+1=j
    . subst e;grind
    . have:=a.rise (show i+1<j by omega) g;grind
   grind
 . exact hij
 . have b:=c (by omega)
   have:(p.at (j+1)).key<=(p.at i).key:=by
    by_cases e:j+1=i
    . subst e;grind
    . have:=a.rise (show j+1<i by omega) hi;grind
   grind
def way(rd:Int->Option Pg)(k:List Nat):Nat->Int->List Int
 |0,n=>[n]
 |f+1,n=>n::(match rd n with
  |none=>[]
  |some p=>way rd k f (p.at (iQ k p.items)).child)
def lm(rd:Int->Option Pg)(k:List Nat):Nat->Int->Int
 |0,n=>n
 |f+1,n=>(match rd n with
  |none=>n
  |some p=>lm rd k f (p.at (iQ k p.items)).child)
theorem mu{α:Type}(q:α->Bool)(g:Nat->List α):∀(n j:Nat),j<n->(∀i,i<n->i≠j->∀x∈g i,q x=false)->((List.range n).flatMap g).filter q=(g j).filter q
 |0,j,h,_=>by omega
 |n+1,j,h,h2=>by
  rw[gT,fQ,List.filter_append];have none:∀L:List α,(∀x∈L,q x=false)->L.filter q=[]:=λL d=>gh.2 λx a e=>by rw[d x a] at e;cases e
  by_cases e:j=n
  . subst e
    rw[none _ (λx a=>by
     obtain⟨i,b,a⟩:=gG.1 a;have b:=dv.1 b;exact h2 i (by omega) (by omega) x a)]
    simp
  . rw[mu q g n j (by omega) (λi b=>h2 i (by omega))]
    rw[none ([n].flatMap g) (λx a=>h2 n (by omega) (λc=>e c.symm) x (by simpa using a))]
    simp
theorem Sub.find{rd:Int->Option Pg}{root:Int}(g:ix rd){k:List Nat}:∀{f:Nat}{a:Plx},Sub rd root f a->a.lv=f->has a.keys k=true->∃q,rd (lm rd k f a.no)=some q/\q.kind=1/\(lits rd f a.no).filter (λx=>decide (x.key=k))=q.items.filter (λx=>decide (x.key=k))
 |0,a,h,hl,hh=>by
  obtain⟨p,b,v,B,y,d⟩:=h.page
  have hk:p.kind=1:=by
   apply eD;intro hk;obtain⟨k,e,_⟩:=d hk;cases e
  refine⟨p,b,hk,?_⟩;rw[(jP b hk).2]
 |f+1,a,h,hl,hh=>by
  obtain⟨p,b,v,B,y,d⟩:=h.page;have c:=g _ _ b;obtain⟨D,H⟩:=jb.1 v;have hk:p.kind≠1:=λe=>by have:=(c.leaf0 e).1;omega
  have l:p.kind=2:=by
   rcases c.kind with h|h|h
   . exact absurd h hk
   . exact h
   . exact absurd h D
  obtain⟨j,e,m⟩:=d hk;cases e;have t:=pN (k:=k) (show 0<p.items.length by have:=(c.idx l).2.2;omega)
  obtain⟨q,A,F,G⟩:=Sub.find g (Sub.kid m t) (by show a.lv-1=_;omega) (Cj c l hh)
  refine⟨q,?_,F,?_⟩
  . unfold lm;rw[b];exact A
  . rw[(kJ b hk).2,qE,mu _ _ _ (iQ k p.items) t (λi s E x C=>?_)]
    . exact G
    . apply ar;intro e;have:=((Sub.kid m s).hk g x C).1;rw[e] at this;exact E (zX c l s this)
theorem rS{α σ:Type}(f:σ->α->σ)(a:σ->Bool)(s:σ):flw f a [] s=s:=rfl
theorem vH{α σ:Type}(f:σ->α->σ)(a:σ->Bool):∀(A B:List α)(s:σ),a s=false->flw f a (A++B) s=if a (flw f a A s)=true then flw f a A s else flw f a B (flw f a A s)
 | [],B,s,h=>by rw[rS,cJ,if_neg (by rw[h];decide)]
 |x::A,B,s,h=>by
  rw[cf,jj,jj];by_cases e:a (f s x)=true
  . rw[if_pos e,if_pos e,if_pos e]
  . rw[if_neg e,if_neg e];exact vH f a A B _ (by simpa using e)
structure Yc(τ:Type) where
 yl:τ->List Nat×List Nat->τ
 ybad:τ->Nat->τ
 ystp:τ->Bool
structure Pst(τ:Type) where
 G:List Int
 c:τ
def jv(rd:Int->Option Pg)(x:It):List Nat×List Nat:=(x.key,(ldI rd x).2)
def pit{τ:Type}(Y:Yc τ)(rd:Int->Option Pg)(r:Rg):List It->τ->τ
 | [],c=>c
 |x::L,c=>if has r x.key=false then pit Y rd r L c else
  if (ldI rd x).1≠0 then Y.ybad c (ldI rd x).1 else
  if Y.ystp (Y.yl c (jv rd x))=true then Y.yl c (jv rd x) else pit Y rd r L (Y.yl c (jv rd x))
def prM{τ:Type}(Y:Yc τ)(rd:Int->Option Pg)(r:Rg)(o:Bool):Mc (Pst τ) where
 gone:=Pst.G
 ent:=λs n=>{s with G:=n::s.G}
 tel:=λs _ p=>if p.kind=1 then {s with c:=pit Y rd r (iH o p.items) s.c} else s
 bad:=λs=>{s with c:=Y.ybad s.c 15}
 stp:=λs=>Y.ystp s.c
def iG(r keys:Rg):Bool:=has (js r keys) (i7 (js r keys).lo)
theorem rm{τ:Type}{Y:Yc τ}{rd:Int->Option Pg}{r:Rg}:∀(L:List It)(c:τ),(∀x∈L,(ldI rd x).1=0)->Y.ystp c=false->pit Y rd r L c=flw Y.yl Y.ystp ((L.filter λx=>has r x.key).map (jv rd)) c
 | [],c,_,_=>rfl
 |x::L,c,h,hc=>by
  unfold pit;have hL:=λy d=>h y (bj _ d)
  by_cases b:has r x.key=false
  . rw[if_pos b,List.filter_cons_of_neg (by simp[b])]
    exact rm L c hL hc
  . rw[if_neg b,if_neg (by rw[h x bC];simp),List.filter_cons_of_pos (by simpa using b),bO,jj]
    by_cases a:Y.ystp (Y.yl c (jv rd x))=true
    . rw[if_pos a,if_pos a]
    . rw[if_neg a,if_neg a];exact rm L _ hL (by simpa using a)
theorem pG{α:Type}(o:Bool)(L:List α)(q:α->Bool):(iH o L).filter q=iH o (L.filter q):=by
 unfold iH;split
 . rfl
 . rw[List.filter_reverse]
theorem ql{α:Type}{L:List α}{x:α}:x∈iH o L↔x∈L:=by
 unfold iH;split
 . rfl
 . exact gE
theorem uU{α β:Type}(g:α->List β):∀L:List α,(L.flatMap g).reverse=L.reverse.flatMap λx=>(g x).reverse
 | []=>rfl
 |x::L=>by rw[dR,List.reverse_append,List.reverse_cons,fQ,uU g L];simp
theorem yP{α β:Type}(o:Bool)(g:α->List β)(L:List α):iH o (L.flatMap g)=(iH o L).flatMap λx=>iH o (g x):=by
 unfold iH;cases o
 . simpa using uU g L
 . simp
theorem pF{α β:Type}(q:β->Bool)(g:α->List β):∀L:List α,(L.flatMap g).filter q=L.flatMap λx=>(g x).filter q
 | []=>rfl
 |x::L=>by rw[dR,List.filter_append,pF q g L,dR]
def qe(rd:Int->Option Pg):Prop:=∀n p,rd n=some p->p.b8
def inR(rd:Int->Option Pg)(r:Rg)(o:Bool)(f:Nat)(n:Int):List (List Nat×List Nat):=(iH o ((lits rd f n).filter λx=>has r x.key)).map (jv rd)
theorem EZ{a:Plx}(b:rd a.no=some p)(hk:p.kind≠1):inR rd r o (f+1) a.no=(iH o (ben a p)).flatMap λc=>inR rd r o f c.no:=by
 unfold inR;rw[(kJ b hk).2,<-mO a,gH,pF,yP,List.map_flatMap]
theorem wj{k:Rg}(c:r.b8)(hk:k.b8):(js r k).b8:=by
 have g:∀a b:List Nat,B8 a->B8 b->B8 (grt a b)/\B8 (lsr a b):=λa b d hb=>by unfold grt lsr;split<;>exact⟨‹_›,‹_›⟩
 refine⟨(g _ _ c.1 hk.1).1,?_⟩;unfold js;show B8 (if _ then _ else _)
 split
 . split
   . exact B8.nil
   . exact hk.2
 . split
   . exact c.2
   . exact(g _ _ c.2 hk.2).2
theorem qW{a:Rg}(c:r.b8)(hk:a.b8)(h:iG r a=false)(b:KK k):¬(has r k=true/\has a k=true):=λe=>by
 have e:=(tR r a k).2 e;have hb:=wj c hk;have:=Ao hb (by unfold form;unfold iG at h;rw[if_neg (by rw[h];simp)]) b
 rw[e] at this;cases this
theorem Fy(c:r.b8)(b:p.b8):(wth p i r).b8:=by
 have a:∀j,B8 (p.at j).key:=λj=>by
  by_cases h:j<p.items.length
  . exact(b.1 _ (vy h)).1
  . unfold Pg.at;rw[be,dQ (by omega)]
    exact B8.nil
 exact wj c ⟨a i,by show B8 (if _ then _ else _);split;exact a _;exact B8.nil⟩
theorem wk{rd:Int->Option Pg}(d:ix rd)(e:qe rd):∀(f:Nat)(n:Int),∀x∈lits rd f n,KK x.key:=by
 intro f;induction f with
 |zero=>
  intro n x a;unfold lits at a;cases hp:rd n with
  |none=>rw[hp] at a;cases a
  |some p=>
   rw[hp] at a;simp only at a;split at a
   . rename_i hk;obtain⟨i,b,rfl⟩:=uM a;exact⟨(d _ _ hp).keyK b (.inl hk),((e _ _ hp).1 _ (vy b)).1⟩
   . cases a
 |succ f ih=>
  intro n x a;unfold lits at a;cases hp:rd n with
  |none=>rw[hp] at a;cases a
  |some p=>
   rw[hp] at a;simp only at a;split at a
   . rename_i hk;obtain⟨i,b,rfl⟩:=uM a;exact⟨(d _ _ hp).keyK b (.inl hk),((e _ _ hp).1 _ (vy b)).1⟩
   . obtain⟨c,_,a⟩:=gG.1 a;exact ih c x a
theorem sC{τ:Type}{Y:Yc τ}{rd:Int->Option Pg}{r:Rg}{o:Bool}{f:Nat}:∀(L:List Plx)(s:Pst τ),
 (∀a∈L,∀s:Pst τ,(∀x∈nds rd f a.no,x∉s.G)->Y.ystp s.c=false->(ib (prM Y rd r o) rd (iG r) o f s a).c=flw Y.yl Y.ystp (inR rd r o f a.no) s.c/\∀x∈(ib (prM Y rd r o) rd (iG r) o f s a).G,x∈s.G\/x∈nds rd f a.no)->
 ((L.map Plx.no).flatMap (nds rd f)).Nodup->(∀x∈(L.map Plx.no).flatMap (nds rd f),x∉s.G)->Y.ystp s.c=false->
 (flw (λs c=>ib (prM Y rd r o) rd (iG r) o f s c) (prM Y rd r o).stp L s).c=flw Y.yl Y.ystp (L.flatMap λa=>inR rd r o f a.no) s.c/\∀x∈(flw (λs c=>ib (prM Y rd r o) rd (iG r) o f s c) (prM Y rd r o).stp L s).G,x∈s.G\/x∈(L.map Plx.no).flatMap (nds rd f)
 | [],s,_,_,_,_=>⟨rfl,λx d=>.inl d⟩
 |a::L,s,H,hn,hd,h0=>by
  rw[bO,dR] at hn hd;obtain⟨n1,n2,n3⟩:=List.nodup_append.1 hn;obtain⟨j,t2⟩:=H a bC s (λx d=>hd x (eb _ d)) h0
  rw[jj,bO,dR,dR,vH _ _ _ _ _ h0];generalize ib (prM Y rd r o) rd (iG r) o f s a=l at *;have m:(prM Y rd r o).stp l=Y.ystp l.c:=rfl;rw[m,j];by_cases g:Y.ystp (flw Y.yl Y.ystp (inR rd r o f a.no) s.c)=true
  . rw[if_pos g,if_pos g];exact⟨j,λx d=>(t2 x d).imp id λh=>eb _ h⟩
  . rw[if_neg g,if_neg g]
    obtain⟨u1,u2⟩:=sC L l (λb hb=>H b (bj _ hb)) n2 (λx d e=>by
     rcases t2 x e with e|e
     . exact hd x (dP _ d) e
     . exact n3 x e x d rfl) (by rw[j];simpa using g)
    rw[j] at u1
    exact⟨u1,λx d=>by
     rcases u2 x d with h|h
     . exact(t2 x h).imp id λh=>eb _ h
     . exact .inr (dP _ h)⟩
theorem lS(a:rd n=some p):n∈nds rd f n:=by
 unfold nds;rw[a];exact bC
theorem qL{α β:Type}(g:α->List β):∀{L:List α},(L.flatMap g).Nodup->∀x∈L,(g x).Nodup
 | [],_,_,h=>(bX h).elim
 |y::L,h,x,hx=>by
  rw[dR,List.nodup_append] at h;rcases bN.1 hx with rfl|hx
  . exact h.1
  . exact qL g h.2.1 x hx
theorem rn{τ:Type}{Y:Yc τ}{rd:Int->Option Pg}{root:Int}{r:Rg}{o:Bool}(t:ix rd)(A:qe rd)(E:r.b8):∀(f:Nat)(a:Plx)(s:Pst τ),Sub rd root f a->a.keys.b8->(nds rd f a.no).Nodup->(∀x∈nds rd f a.no,x∉s.G)->Y.ystp s.c=false->
 (ib (prM Y rd r o) rd (iG r) o f s a).c=flw Y.yl Y.ystp (inR rd r o f a.no) s.c/\∀x∈(ib (prM Y rd r o) rd (iG r) o f s a).G,x∈s.G\/x∈nds rd f a.no:=by
 intro f;induction f with
 |zero=>
  intro a s l hb C m j;obtain⟨p,d,B,O,v,y⟩:=l.page
  have hk:p.kind=1:=by
   apply eD;intro hk;obtain⟨k,e,_⟩:=y hk;cases e
  unfold ib;by_cases g:iG r a.keys=false
  . rw[if_pos g];refine⟨?_,λx hx=>.inl hx⟩
    have:inR rd r o 0 a.no=[]:=by
     unfold inR;rw[gh.2 λx hx e=>qW E hb g (wk t A _ _ x hx) ⟨e,(l.hk t x hx).1⟩]
     unfold iH;split<;>rfl
    rw[this,rS]
  . rw[if_neg g,d];simp only;rw[if_neg (show a.no∉(prM Y rd r o).gone s from m a.no (lS d)),if_neg (by rw[B];simp),if_pos (.inr hk)]
    show(if p.kind=1 then _ else _:Pst τ).c=_/\∀x∈(if p.kind=1 then _ else _:Pst τ).G,_
    rw[if_pos hk];refine⟨?_,λx hx=>?_⟩
    . show pit Y rd r (iH o p.items) s.c=_;rw[rm _ _ (λx hx=>(v hk x (ql.1 hx)).2) j,pG]
      unfold inR;rw[(jP d hk).2]
    . rcases bN.1 hx with rfl|hx
      . exact .inr (lS d)
      . exact .inl hx
 |succ f ih=>
  intro a s l hb C m j;obtain⟨p,d,B,O,v,y⟩:=l.page;generalize b:ib (prM Y rd r o) rd (iG r) o (f+1) s a=T;unfold ib at b;by_cases g:iG r a.keys=false
  . rw[if_pos g] at b;subst b;refine⟨?_,λx hx=>.inl hx⟩
    have:inR rd r o (f+1) a.no=[]:=by
     unfold inR;rw[gh.2 λx hx e=>qW E hb g (wk t A _ _ x hx) ⟨e,(l.hk t x hx).1⟩]
     unfold iH;split<;>rfl
    rw[this,rS]
  . rw[if_neg g,d] at b;simp only at b;rw[if_neg (show a.no∉(prM Y rd r o).gone s from m a.no (lS d)),if_neg (by rw[B];simp)] at b
    by_cases hk:p.kind=1
    . rw[if_pos (.inr hk)] at b;have b:(if p.kind=1 then { ({s with G:=a.no::s.G}:Pst τ) with c:=pit Y rd r (iH o p.items) s.c} else {s with G:=a.no::s.G}:Pst τ)=T:=b
      rw[if_pos hk] at b;subst b;refine⟨?_,λx hx=>?_⟩
      . show pit Y rd r (iH o p.items) s.c=_;rw[rm _ _ (λx hx=>(v hk x (ql.1 hx)).2) j,pG]
        unfold inR;rw[(jP d hk).2]
      . rcases bN.1 hx with rfl|hx
        . exact .inr (lS d)
        . exact .inl hx
    . obtain⟨k,e,J⟩:=y hk;cases e
      have I:(prM Y rd r o).tel ((prM Y rd r o).ent s a.no) a p={s with G:=a.no::s.G}:=by
       show(if p.kind=1 then _ else _:Pst τ)=_
       rw[if_neg hk];rfl
      rw[I] at b
      rw[if_neg (by
       rintro(e|e)
       . have e:Y.ystp s.c=true:=e;rw[j] at e;cases e
       . exact hk e)] at b
      have b:flw (λs c=>ib (prM Y rd r o) rd (iG r) o f s c) (prM Y rd r o).stp (iH o (ben a p)) {s with G:=a.no::s.G}=T:=b
      obtain⟨H,_⟩:=kJ (f:=f) d hk;rw[H,<-mO a] at C m;obtain⟨K,F⟩:=e8.1 C
      have D:(((iH o (ben a p)).map Plx.no).flatMap (nds rd f)).Perm (((ben a p).map Plx.no).flatMap (nds rd f)):=by
       unfold iH;split
       . exact List.Perm.refl _
       . exact((List.reverse_perm _).map _).flatMap_right _
      obtain⟨u1,u2⟩:=sC (Y:=Y) (rd:=rd) (r:=r) (o:=o) (f:=f) (iH o (ben a p)) {s with G:=a.no::s.G} (λc q L N M=>by
       have q:=ql.1 q;obtain⟨i,P,rfl⟩:=rL q;refine ih _ L (J _ q) (Fy hb (A _ _ d)) ?_ N M;exact qL _ F _ (bM.2 ⟨_,q,rfl⟩)) (D.nodup_iff.2 F) (λx hx=>by
       have hx:=D.mem_iff.1 hx;rw[bN];rintro(e|e)
       . rw[e] at hx;exact K hx
       . exact m x (bj _ hx) e) j
      rw[b] at u1 u2;rw[EZ d hk];refine⟨u1,λx hx=>?_⟩
      rw[H,<-mO a];rcases u2 x hx with h|h
      . rcases bN.1 h with rfl|h
        . exact .inr bC
        . exact .inl h
      . exact .inr (bj _ (D.mem_iff.1 h))
end Go.Proofs.YteaogidofpfmmaaGreat
namespace Go.Proofs.YteaogidofpfmmaaGreat
open Go.Proofs.Tryz
open Go.RowKit Go.Shelf
theorem ti{σ:Type}(M:Mc σ)(rd:Int->Option Pg)(r:ix rd)(b c a:Nat)(h:FuncId)(l:Array Value)(q:∀args w,(callFunc h args).run prog w=.ok (.enter h args) w)(o:Bool)(d:Nat->Prop)(wants:Rg->Bool)(g:Nat->Prop)(v:∀s n,M.gone (M.ent s n)=n::M.gone s)(t:∀s,M.stp (M.bad s)=true)(m:rz)(f:Nat):∀(w:World)(i t2:Nat)(p:Plv)(j:σ),p.lv<=(f:Int)->w.cell? ⟨i,0,none⟩=some (.pointer (some ⟨c,0,none⟩))->w.heap[t2]?=some (.cells p.cs 148 (0,0))->Ri w p.r->Rb p.r->N64 p.lv->Tou w c a b h l o rd d wants g->M.stp j=false->(∀k,XS c i t2 p d g k->k<w.heap.size)->lz prog 116 #[.pointer (some ⟨i,0,none⟩),.pointer (some ⟨t2,0,none⟩)] M.stp (EnS M rd a) (λk=>k=a) (λs W=>Mp W a (gnf (M.gone s))) j (λs=>s=ib M rd wants o f j p.px) w (XS c i t2 p d g):=by
 induction f with
 |zero=>exact qO M rd r b c a h l q o d wants g v t m 0 (λk e=>by omega)
 |succ f ih=>exact qO M rd r b c a h l q o d wants g v t m (f+1) (λk e=>by cases e;exact ih)
theorem tX(w:World):ve 69 #[] (λ_=>true) (λ_=>False) w:=λW b r a hb=>by
 unfold Rv.val;simp only[Rv.cs];go_enter func69,ntmps69;go_wp2;go_ret;exact⟨rfl,al _ _⟩
theorem jq{W:World}{b:Nat}{t:TypeId}{v0 a c:Value}(h:W.heap[b]?=some (.cells #[v0,a,c] t (0,0))):W.cell? ⟨b,0,none⟩=some v0/\W.cell? ⟨b,1,none⟩=some a/\W.cell? ⟨b,2,none⟩=some c:=by
 refine⟨?_,?_,?_⟩<;>(rw[am _ _ _ _ _ _ h];rfl)
def jn(r:Rv)(k:Nat):Prop:=(∃x,r.aL=some x/\x.block=k)\/∃x,r.aH=some x/\x.block=k
theorem Ri.but{S:Nat->Prop}{w c:World}{r:Rv}(h:Ri w r)(hb:But S w c)(b:∀k,jn r k->¬S k):Ri c r:=⟨h.bl.but hb (λx a _=>b _ (.inl ⟨x,a,rfl⟩)),h.cl,h.bh.but hb (λx a _=>b _ (.inr ⟨x,a,rfl⟩)),h.ch⟩
theorem wh(w:World)(c:Nat)(r:Rv)(v:w.heap[c]?=some (.cells r.cs 62 (0,0)))(t:Ri w r)(hb:Rb r):ve 87 #[.pointer (some ⟨c,0,none⟩)] (iG r.rg) (λk=>k=c\/jn r k) w:=λW g q s y=>by
 have j:=g.same v (λh=>h (.inl rfl))
 have p:=gW (t.but g (λk hk h=>h (.inr hk)))
 have n:=gW s;have a:=gW (al W (.cells q.cs 62));have i:=(a.o.block c (ae.1 j).1).trans j;have e:=gW (pR _ r q (p.o.keep a.o) (n.o.keep a.o) hb y);have f:=ah W (.cells q.cs 62);have l:=gW λ(U:World)(m:Rv)(b:Ri U m)=>yT U m b
 clear v t hb g j s y;unfold Rv.val at *;obtain⟨L,c1,R,M,c2,S,X⟩:=r;obtain⟨N,c3,T,O,P,V,Y⟩:=q;simp only[Rv.cs] at i f a e ⊢;obtain⟨G,H,I⟩:=jq i;obtain⟨D,E,F⟩:=jq f;clear i f p n;go_enter func87,ntmps87;go_wp2_with fail
 refine e.o.mono ?_;rintro _ C ⟨m,rfl,b,x⟩;have A:=gW (bt a.o b.l.b);have d:=gW (l.o C m b.ri);have B:=gW x;clear e l b x G H I D E F;unfold Rv.val at d;simp only[Rv.cs] at d;go_wp2_with fail
 refine d.o.mono ?_;rintro _ K ⟨rfl,J⟩;go_wp2;go_ret;refine⟨?_,bt A.o J⟩;show Ending.returned (.bool (has m.rg (i7 m.rg.lo)))=_;rw[B.o];rfl
end Go.Proofs.YteaogidofpfmmaaGreat
namespace Go.Proofs.YteaogidofpfmmaaGreat
open Go.Proofs.Tryz
open Go.RowKit
theorem Ce{rd:Int->Option Pg}{t:Nat}{G:List Int}{n l:Int}(h:l<=0):iE rd t G n l=(G,0):=by
 cases t with
 |zero=>rfl
 |succ t=>unfold iE;rw[if_pos h]
theorem yU{rd:Int->Option Pg}{t:Nat}{G:List Int}{n l:Int}{p:Pg}(b:rd n=some p)(a:n∉G)(c:0<l)(hk:p.kind=3):iE rd (t+1) G n l=if (p.data.length:Int)≠min l 480\/decide (p.next=0)≠decide (l<=480) then (n::G,5) else iE rd t (n::G) p.next (l-480):=by
 conv=>lhs;unfold iE
 rw[if_neg (by omega),b]
 simp only;rw[if_neg a,if_neg (by rw[hk];simp)]
theorem qz(w:World)(F g b:Nat)(wf:Value)(o:Bool)(rd:Int->Option Pg)(hA:ix rd)(X:Nat->Prop)(G:List Int)(x:Iv)(L:x.size<=3840)(ae:0<=x.size)(hT:w.heap[F]?=some (.cells (oU b g wf o) 143 (0,0)))(A:Mp w g (gnf G))(Z:iZ 52 (.pointer (some ⟨b,0,none⟩)) rd X w)(hX:¬X g)(ai:F≠g):
 Calls prog 120 #[.pointer (some ⟨F,0,none⟩),x.vl] w λe w'=>e=.returned (.int .i64 (((iE rd 8 G x.child x.size).2:Nat):Int))/\But (λk=>k=g) w w'/\Mp w' g (gnf (iE rd 8 G x.child x.size).1):=by
 have T:=gW (al w (.cells x.cs 89));have V:=ah w (.cells x.cs 89);have HT:=gW hT;have HM:=gW (A.keep T.o);have HR:=gW Z;obtain⟨aK,cK,ak,aV,cV,val,child,C⟩:=x;have L:C<=3840:=L;have ae:0<=C:=ae;unfold Iv.vl;simp only[Iv.cs] at *;obtain⟨k0,k1,k2,k3⟩:=jp V;clear hT A Z V;obtain⟨R,P⟩:∃R,iE rd 8 G child C=R:=⟨_,rfl⟩;rw[P];have RR:=gW P;clear P;go_enter func120,ntmps120;go_wp2;generalize aj:w.alloc (.cells #[.slice aK ak.length cK,.slice aV val.length cV,.int .i64 child,.int .i64 C] 89)=w1 at *;clear aj k0 k1 k2 k3;go_loopw [5,6] (λp q wr=>∃(t:Nat)(a:List Int)(n l:Int),p=.int .i64 n/\q=.int .i64 l/\l<=480*t/\l<=3840/\ -480<=l/\But (λk=>k=g) w wr/\Mp wr g (gnf a)/\iE rd t a n l=R) (λ_ q _=>(intOf q+480).toNat)
 case atStart=>exact⟨8,G,child,C,rfl,rfl,by omega,L,by omega,But.ofBelow T.o,HM.o,RR.o⟩
 case round=>
  obtain⟨t,a,n,l,rfl,rfl,ap,av,aw,Y,A,hc⟩:=hrel;have s:=gW Y;have D:=gW A;have v:=gW hc;clear Y A hc;by_cases ag:0<l
  . have I:=gW (sD wr F g b wf o rd X a n (s.o.same HT.o ai) D.o (HR.o.but s.o (λk e h=>by have e:k=g:=e;rw[e] at h;exact hX h)))
    go_wp2_with fail
    obtain⟨m,rfl⟩:∃m,t=m+1:=⟨t-1,by omega⟩
    refine I.o.mono ?_;rintro e M (⟨rfl,af,B⟩|⟨q,S,ad,rfl,hP,B,ab⟩)
    . have c:Hid (R=(a,15)):=by
       show _=_;rw[<-v.o];unfold iE;rw[if_neg (by omega)]
       cases hp:rd n with
       |none=>rfl
       |some p=>
        rcases af with h|h
        . rw[hp] at h;cases h
        . simp only;rw[if_pos h]
      have U:=gW (bt B (al M (.cells #[.int .i64 0,.int .i64 0,.slice none 0 0,.slice none 0 0,.int .i64 0] 77)));clear af B I;simp only[Pv.vl,Pv.cs,Pv.zero,bg];go_wp2;go_ret;rw[c.o];exact⟨rfl,s.o.andBelow U.o,D.o.keep U.o⟩
    . have O:=gW S;have N:=gW ad;have aa:=gW (hA _ _ S);have J:=ah M (.cells #[.int .i64 q.kind,.int .i64 q.level,.slice q.aI q.items.length q.cI,.slice q.aD q.data.length q.cD,.int .i64 q.next] 77);have H:=al M (.cells #[.int .i64 q.kind,.int .i64 q.level,.slice q.aI q.items.length q.cI,.slice q.aD q.data.length q.cD,.int .i64 q.next] 77);have j:=gW ((s.o.trans B (λ_ _ e=>e)).andBelow H)
      have i:=gW (ab.keep H);clear S ad hP B ab I H;obtain⟨kq,lq,aq,cq,iq,am,an,K,nq⟩:=q;simp only[Pv.vl,Pv.cs];simp only at J j i;obtain⟨j0,j1,j2,j3,j4⟩:=iI J;clear J;by_cases W:kq=3
      . subst W;have ac:=gW ((aa.o.blob rfl).2.2)
        have f:Hid ((if (K.length:Int)≠min l 480\/decide (nq=0)≠decide (l<=480) then (n::a,5) else iE rd m (n::a) nq (l-480))=R):=by
         show _=_;rw[<-v.o];exact(yU O.o N.o ag rfl).symm
        have ao:K.length<=480:=ac.o.2.1;clear O N aa ac v D;generalize K.length=d at *;by_cases E:l<=480
        . by_cases y:(d:Int)=l
          . subst y;have hm:min (d:Int) 480=(d:Int):=by omega
            by_cases r:nq=0
            . subst r
              have c:Hid (iE rd m (n::a) 0 ((d:Int)-480)=R):=by
               show _=_;rw[<-f.o];exact(if_neg (λh=>by rcases h with h|h;exact h (by omega);exact h (by rw[au (rfl:(0:Int)=0),au E]))).symm
              clear f;have hw:wrap64 ((d:Int)-480)=(d:Int)-480:=by unfold wrap64;omega
              go_wp2;go_roundw
              case rel=>exact⟨m,n::a,0,(d:Int)-480,rfl,by first|rfl|go_num,by omega,by omega,by omega,j.o,i.o,c.o⟩
              case measure=>simp[intOf];omega
            . have c:Hid (R=(n::a,5)):=by
               show _=_;rw[<-f.o];exact if_pos (.inr (λh=>by rw[ar r,au E] at h;cases h))
              clear f;have hq:(nq==0)=false:=by simp[r]
              go_wp2;go_ret;rw[c.o];exact⟨rfl,j.o,i.o⟩
          . have c:Hid (R=(n::a,5)):=by
             show _=_;rw[<-f.o];exact if_pos (.inl (λh=>y (by omega)))
            clear f;go_wp2;go_ret;rw[c.o];exact⟨rfl,j.o,i.o⟩
        . by_cases y:(d:Int)=480
          . obtain rfl:d=480:=by omega
            clear y;have hm:min l 480=480:=by omega
            by_cases r:nq=0
            . subst r
              have c:Hid (R=(n::a,5)):=by
               show _=_;rw[<-f.o];exact if_pos (.inr (λh=>by rw[au (rfl:(0:Int)=0),ar E] at h;cases h))
              clear f;go_wp2;go_ret;rw[c.o];exact⟨rfl,j.o,i.o⟩
            . have c:Hid (iE rd m (n::a) nq (l-480)=R):=by
               show _=_;rw[<-f.o];exact(if_neg (λh=>by rcases h with h|h;exact h (by omega);exact h (by rw[ar r,ar E]))).symm
              clear f;have hw:wrap64 (l-480)=l-480:=by unfold wrap64;omega
              go_wp2;go_roundw
              case rel=>exact⟨m,n::a,nq,l-480,rfl,by first|rfl|go_num,by omega,by omega,by omega,j.o,i.o,c.o⟩
              case measure=>simp[intOf];omega
          . have c:Hid (R=(n::a,5)):=by
             show _=_;rw[<-f.o];exact if_pos (.inl (λh=>y (by omega)))
            clear f;go_wp2;go_ret;rw[c.o];exact⟨rfl,j.o,i.o⟩
      . have c:Hid (R=(n::a,15)):=by
         show _=_;rw[<-v.o];unfold iE;rw[if_neg (by omega),O.o]
         simp only;rw[if_neg N.o];exact if_pos (show(kq:Int)≠3 from W)
        go_wp2;go_ret;rw[c.o];exact⟨rfl,j.o,i.o⟩
  . go_wp2;go_ret;have:=v.o;rw[Ce (by omega)] at this
    rw[<-this];exact⟨rfl,s.o,D.o⟩
end Go.Proofs.YteaogidofpfmmaaGreat
