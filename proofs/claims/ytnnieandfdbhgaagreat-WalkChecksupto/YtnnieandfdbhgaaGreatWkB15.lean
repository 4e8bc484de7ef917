import Derived.Test.YtnnieandfdbhgaaGreatWkB11
import Derived.Test.YtnnieandfdbhgaaGreatWkB14
set_option linter.all false
set_option maxHeartbeats 16000000
set_option maxRecDepth 8000
namespace Go.Proofs.YtnnieandfdbhgaaGreat
open Go.Proofs.Tryz
open Go.RowKit
variable {col:Nat->Nat}{w:World}
def g9(rd:Int->Option Pg)(s:Nat):Nat->List Nat->Int->Nat×List Nat
 |0,acc,_=>(0,acc)
 |t+1,acc,n=>if acc.length<s then
   match rd n with
   |none=>(15,[])
   |some p=>if p.kind≠3 then (15,[]) else if p.data.length≠min (s-acc.length) 480 then (5,[]) else if decide (p.next=0)≠decide (s-acc.length<=480) then (5,[]) else g9 rd s t (acc++p.data) p.next
  else (0,acc)
theorem jw{rd:Int->Option Pg}{s:Nat}{a:List Nat}{n:Int}(h:s<=a.length):∀t,g9 rd s t a n=(0,a)
 |0=>rfl
 |t+1=>by unfold g9;rw[if_neg (by omega)]
theorem oM{rd:Int->Option Pg}{s:Nat}:∀(t b:Nat)(a:List Nat)(n:Int),s-a.length<=t->s-a.length<=b->g9 rd s t a n=g9 rd s b a n
 |0,b,a,n,h,_=>by rw[jw (by omega),jw (by omega)]
 |t+1,0,a,n,_,h'=>by rw[jw (by omega),jw (by omega)]
 |t+1,b+1,a,n,h,h'=>by
  unfold g9;by_cases hl:a.length<s
  . rw[if_pos hl,if_pos hl];cases rd n with
    |none=>rfl
    |some p=>
     simp only;by_cases h1:p.kind≠3
     . rw[if_pos h1,if_pos h1]
     . rw[if_neg h1,if_neg h1];by_cases h2:p.data.length≠min (s-a.length) 480
       . rw[if_pos h2,if_pos h2]
       . rw[if_neg h2,if_neg h2];by_cases h3:decide (p.next=0)≠decide (s-a.length<=480)
         . rw[if_pos h3,if_pos h3]
         . rw[if_neg h3,if_neg h3];have e:p.data.length=min (s-a.length) 480:=by simpa using h2
           exact oM t b _ _ (by rw[af];omega) (by rw[af];omega)
  . rw[if_neg hl,if_neg hl]
def gW(f:FuncId)(v:Value)(rd:Int->Option Pg)(w:World):Prop:=∀(W:World),Below w.heap.size w W->∀z:Int,Calls prog f #[v,.int .i64 z] W λx w'=>∃q:Pv,x=.returned (.tuple #[q.vl,.int .i64 (if (rd z).isSome=true then 0 else 15)])/\Pn W w' q/\q.pg=(rd z).getD Pv.zero.pg/\Below W.heap.size W w'
def rdV(S:Vs)(z:Int):Option Pg:=if 0<S.X.P.count z then some (S.X.on z).pg else none
def rdR(D:Rd)(z:Int):Option Pg:=if 0<D.count z then some (D.on z).pg else none
theorem Vw.reads{b:Nat}{S:Vs}{d c:Nat}{e:Nat->Nat}(h:Vw w b S d c e col)(i:∀z,Sml (S.X.on z)):gW 52 (.pointer (some ⟨b,0,none⟩)) (rdV S) w:=λW hb z=>by
 refine(wk W b S d c e col (h.keep hb) z (i z)).mono ?_;rintro _ k ⟨q,rfl,f,g,j⟩;refine⟨q,?_,f,?_,j⟩
 . unfold rdV;by_cases a:0<S.X.P.count z
   . rw[if_pos a,if_pos a,if_pos (by rfl)]
   . rw[if_neg a,if_neg a,if_neg (by simp)]
 . rw[g];unfold rdV;by_cases a:0<S.X.P.count z
   . rw[if_pos a,if_pos a];rfl
   . rw[if_neg a,if_neg a];rfl
theorem Rq.reads{b:Nat}{D:Rd}(h:Rq w b D col):gW 53 (.pointer (some ⟨b,0,none⟩)) (rdR D) w:=λW hb z=>by
 refine(uq W b D col (h.keep hb) z).mono ?_;rintro _ f ⟨q,rfl,c,_,d,e⟩;refine⟨q,?_,c,?_,e⟩
 . unfold rdR;by_cases a:0<D.count z
   . rw[if_pos a,if_pos a,if_pos (by rfl)]
   . rw[if_neg a,if_neg a,if_neg (by simp)]
 . rw[d];unfold rdR;by_cases a:0<D.count z
   . rw[if_pos a,if_pos a];rfl
   . rw[if_neg a,if_neg a];rfl
def Gvn(w w':World)(e:Ending)(r:Nat×List Nat):Prop:=(r.1≠0/\e=.returned (.tuple #[.slice none 0 0,.int .i64 ((r.1:Nat):Int)])/\Below w.heap.size w w')\/(r.1=0/\∃(a:Option Addr)(c:Nat),e=.returned (.tuple #[.slice a r.2.length c,.int .i64 0])/\Own w w' a c r.2/\B8 r.2)
theorem sh(w:World)(v:Value)(rd:Int->Option Pg)(B:gW 52 v rd w)(s:Nat)(h1:32<s)(h2:s<=3840)(n:Int):
 Calls prog 83 #[v,.int .i64 n,.int .i64 (s:Int)] w λe w'=>Gvn w w' e (g9 rd s s [] n):=by
 have RD:=e7 B;have aC:∀w:World,(Instr.makeSlice 37 (.int .i64 0) (.int .i64 (s:Int))).run prog w=.ok (.slice (some ⟨w.heap.size,0,none⟩) 0 s) (w.alloc (.cells (madeCells #[.int .u8 0] s) 5)):=nQ 0 s (ar _) (by omega)
 have A0:=e7 (al w (.cells (madeCells #[.int .u8 0] s) 5));have R0:Hid (Rw (w.alloc (.cells (madeCells #[.int .u8 0] s) 5)) (some ⟨w.heap.size,0,none⟩) s []):=Rw.mk (cur:=madeCells #[.int .u8 0] s) (aF _ _) (ar _) (az h2 (by decide)) (tK s) (by simp[vb])
 clear B;obtain⟨f,ak⟩:∃f,g9 rd s s [] n=f:=⟨_,rfl⟩;have aD:=e7 ak;rw[ak];clear ak;go_enter func83,ntmps83;go_wp2_with fail
 generalize (w.alloc (.cells (madeCells #[.int .u8 0] s) 5))=w1 at *;clear aC;go_loopw [8,1] (λvv nv wx=>∃(i:List Nat)(U:Int)(a:Option Addr)(c m:Nat),vv=.slice a m c/\nv=.int .i64 U/\m=i.length/\m<=s/\Rw wx a c i/\New w none a/\Below w.heap.size w wx/\B8 i/\g9 rd s (s-m) i U=f) (λvv _ _=>s-(oe vv))
 case atStart=>exact⟨[],n,some ⟨w.heap.size,0,none⟩,s,0,rfl,rfl,rfl,ar _,R0.o,λx hx=>.inr (by cases hx;exact ai _),A0.o,(λx hx=>absurd hx (bZ)),by rw[Nat.sub_zero];exact aD.o⟩
 case round=>
  clear R0 A0;obtain⟨i,U,a,c,m,rfl,rfl,hm,aH,B,C,hb,h8,b⟩:=hrel;have A:=e7 hm;have RW:=e7 B;have N:=e7 C;have X:=e7 hb;have H8:=e7 h8;have EE:=e7 b;clear hm B C hb h8 b;by_cases aB:m<s
  . have aK:(m:Int)<(s:Int):=by omega
    have I:=e7 (RD.o wr X.o U);obtain⟨t,ht⟩:∃t,s-m=t+1:=⟨s-m-1,by omega⟩
    have b:=EE.o;rw[ht] at b;unfold g9 at b;rw[if_pos (by rw[<-A.o];exact aB)] at b
    obtain⟨o,ho⟩:∃o,rd U=o:=⟨_,rfl⟩;rw[ho] at I b;clear ho EE;cases o with
    |none=>
     simp only at b;have g:Hid ((15,[])=f):=b;clear b;go_wp2_with fail
     refine I.o.mono ?_;rintro _ w3 ⟨q,rfl,ab,ac,K⟩;have M:=e7 (al w3 (.cells #[.int .i64 q.kind,.int .i64 q.level,.slice q.aI q.items.length q.cI,.slice q.aD q.data.length q.cD,.int .i64 q.next] 77));have l:=e7 (bt X.o (bt K M.o));clear ab ac K I;obtain⟨W,ay,av,aw,ax,ad,ag,E,r⟩:=q;unfold Pv.vl;simp only[Pv.cs] at l ⊢;go_wp2_with fail
     refine aG (cZ rfl _ _ _) rfl ?_;rw[<-g.o];exact .inl ⟨by decide,rfl,l.o⟩
    |some pg=>
     simp only at b
     have aj:Hid ((pg.kind≠3->(15,[])=f)/\(pg.kind=3->pg.data.length≠min (s-m) 480->(5,[])=f)/\(pg.kind=3->pg.data.length=min (s-m) 480->decide (pg.next=0)≠decide (s-m<=480)->(5,[])=f)/\(pg.kind=3->pg.data.length=min (s-m) 480->decide (pg.next=0)=decide (s-m<=480)->g9 rd s (s-(m+pg.data.length)) (i++pg.data) pg.next=f)):=by
      rw[<-A.o] at b;refine⟨λH=>?_,λH T=>?_,λH T k3=>?_,λH T k3=>?_⟩
      . rw[if_pos H] at b;exact b
      . rw[if_neg (λe=>e H),if_pos T] at b;exact b
      . rw[if_neg (λe=>e H),if_neg (λe=>e T),if_pos k3] at b;exact b
      . rw[if_neg (λe=>e H),if_neg (λe=>e T),if_neg (λe=>e k3)] at b
        rw[<-b];exact oM _ _ _ _ (by rw[af,<-A.o];omega) (by rw[af,<-A.o];omega)
     clear b;rw[if_pos (show(some pg).isSome=true from rfl)] at I
     go_wp2_with fail
     refine I.o.mono ?_;rintro _ w3 ⟨q,rfl,ab,ac,K⟩;have ap:q.pg=pg:=ac;have M:=e7 (al w3 (.cells q.cs 77));have F:=e7 (aF w3 (.cells q.cs 77));have l:=e7 (bt X.o (bt K M.o));have O:=e7 (ab.keep M.o);have P:=e7 ((RW.o.keep K).keep M.o);rw[<-ap] at aj;clear ab ac K I ap;have Y:=e7 (O.o.d.bs O.o.d8 O.o.d.len_le);have D8:Hid (B8 q.data):=O.o.d8;have j:Hid ((q.kind≠3->(15,[])=f)/\(q.kind=3->q.data.length≠min (s-m) 480->(5,[])=f)/\(q.kind=3->q.data.length=min (s-m) 480->decide (q.next=0)≠decide (s-m<=480)->(5,[])=f)/\(q.kind=3->q.data.length=min (s-m) 480->decide (q.next=0)=decide (s-m<=480)->g9 rd s (s-(m+q.data.length)) (i++q.data) q.next=f)):=aj.o;clear aj O;obtain⟨W,ay,av,aw,ax,ad,ag,E,r⟩:=q;unfold Pv.vl;simp only[Pv.cs] at F l P j Y D8 ⊢;obtain⟨d,D⟩:∃d,E.length=d:=⟨_,rfl⟩;have J:=e7 D;simp only[D] at F l P Y j ⊢;clear D;have au:Hid (∀x,a=some x->x.block≠w3.heap.size):=λx hx=>P.o.nty13 (t:=77) F.o (by decide) hx
     go_upto_region 4 with fail
     generalize (w3.alloc (.cells #[.int .i64 W,.int .i64 ay,.slice av ax.length aw,.slice ad d ag,.int .i64 r] 77))=w4 at *;have aq:w3.heap.size<w4.heap.size:=(ae.1 F.o).1;generalize w3.heap.size=gp at *;obtain⟨y,y1,y2,y3,y4⟩:=fL F.o;by_cases L:W=3
     . have V:=e7 L;have dk:(W != 3)=false:=by simpa using L
       clear L;by_cases D:d=min (s-m) 480
       . have aa:=e7 D;have e2:min ((s:Int)-(m:Int)) 480=(d:Int):=by omega
         have aJ:d<=480:=by omega
         have aI:1<=d:=by omega
         have aE:m+d<=s:=by omega
         have aA:((d:Int) != (d:Int))=false:=by simp
         have ao:i.length+d<=140737488355328:=by rw[<-A.o];omega
         clear D;by_cases Z:s-m<=480
         . have d1:decide ((s:Int)-(m:Int)<=480)=true:=an (by omega)
           by_cases p:r=0
           . have d0:(r==0)=true:=by simpa using p
             have g:Hid (g9 rd s (s-(m+d)) (i++E) r=f):=j.o.2.2.2 V.o aa.o (by rw[an p,an Z])
             clear p j;go_wp2_with (at_builtin;refine jQ rfl _ _ rfl a m c i rfl A.o P.o ad d ag E rfl J.o.symm Y.o (by rw[J.o];exact ao) ?_)
             intro R c' w5 B C G _;have R5:=e7 B
             have X5:=e7 ((G.block gp aq (λe=>by
              cases ha:a with
              |none=>rw[ha] at e;cases e
              |some x=>rw[ha] at e;exact au.o x ha (by simpa using e.symm))).trans F.o)
             have N5:Hid (New w none R):=λah hy=>by
              rcases C ah hy with⟨z,hz,e⟩|h
              . rcases N.o z hz with⟨_,h0,_⟩|h1
                . cases h0
                . exact .inr (by rw[<-e];exact h1)
              . exact .inr (az l.o.size h)
             have B5:Hid (Below w.heap.size w w5):=(But.grown (S:=λk=>∃x,a=some x/\x.block=k) (But.ofBelow l.o) G (by
              intro k e _;cases ha:a with
              |none=>rw[ha] at e;simp at e
              |some x=>rw[ha] at e;exact⟨x,rfl,by first|(simpa using e)|(simpa using e.symm)⟩)).below (λk hk ⟨x,hx,e⟩=>by
               rcases N.o x hx with⟨_,h0,_⟩|h1
               . cases h0
               . omega)
             clear B C G y y1 y2 y3 y4;obtain⟨y,y1,y2,y3,y4⟩:=fL X5.o;go_wp2_with fail
             go_roundw
             case rel=>exact⟨i++E,r,R,c',m+d,rfl,rfl,by rw[af,<-A.o,J.o],by omega,R5.o,N5.o,B5.o,(λx hx=>by
              rcases bg.1 hx with hx|hx
              . exact H8.o x hx
              . exact D8.o x hx),g.o⟩
             case measure=>simp[oe];omega
           . have d0:(r==0)=false:=by simpa using p
             have g:Hid ((5,[])=f):=j.o.2.2.1 V.o aa.o (by rw[am p,an Z];decide)
             clear p j;go_wp2_with fail
             refine aG (cZ rfl _ _ _) rfl ?_;rw[<-g.o];exact .inl ⟨by decide,rfl,l.o⟩
         . have d1:decide ((s:Int)-(m:Int)<=480)=false:=am (by omega)
           by_cases p:r=0
           . have d0:(r==0)=true:=by simpa using p
             have g:Hid ((5,[])=f):=j.o.2.2.1 V.o aa.o (by rw[an p,am Z];decide)
             clear p j;go_wp2_with fail
             refine aG (cZ rfl _ _ _) rfl ?_;rw[<-g.o];exact .inl ⟨by decide,rfl,l.o⟩
           . have d0:(r==0)=false:=by simpa using p
             have g:Hid (g9 rd s (s-(m+d)) (i++E) r=f):=j.o.2.2.2 V.o aa.o (by rw[am p,am Z])
             clear p j;go_wp2_with (at_builtin;refine jQ rfl _ _ rfl a m c i rfl A.o P.o ad d ag E rfl J.o.symm Y.o (by rw[J.o];exact ao) ?_)
             intro R c' w5 B C G _;have R5:=e7 B
             have X5:=e7 ((G.block gp aq (λe=>by
              cases ha:a with
              |none=>rw[ha] at e;cases e
              |some x=>rw[ha] at e;exact au.o x ha (by simpa using e.symm))).trans F.o)
             have N5:Hid (New w none R):=λah hy=>by
              rcases C ah hy with⟨z,hz,e⟩|h
              . rcases N.o z hz with⟨_,h0,_⟩|h1
                . cases h0
                . exact .inr (by rw[<-e];exact h1)
              . exact .inr (az l.o.size h)
             have B5:Hid (Below w.heap.size w w5):=(But.grown (S:=λk=>∃x,a=some x/\x.block=k) (But.ofBelow l.o) G (by
              intro k e _;cases ha:a with
              |none=>rw[ha] at e;simp at e
              |some x=>rw[ha] at e;exact⟨x,rfl,by first|(simpa using e)|(simpa using e.symm)⟩)).below (λk hk ⟨x,hx,e⟩=>by
               rcases N.o x hx with⟨_,h0,_⟩|h1
               . cases h0
               . omega)
             clear B C G y y1 y2 y3 y4;obtain⟨y,y1,y2,y3,y4⟩:=fL X5.o;go_wp2_with fail
             go_roundw
             case rel=>exact⟨i++E,r,R,c',m+d,rfl,rfl,by rw[af,<-A.o,J.o],by omega,R5.o,N5.o,B5.o,(λx hx=>by
              rcases bg.1 hx with hx|hx
              . exact H8.o x hx
              . exact D8.o x hx),g.o⟩
             case measure=>simp[oe];omega
       . have aA:((d:Int) != min ((s:Int)-(m:Int)) 480)=true:=by
          have:¬((d:Int)=min ((s:Int)-(m:Int)) 480):=by omega
          simpa using this
         have g:Hid ((5,[])=f):=j.o.2.1 V.o D;clear D j;go_wp2_with fail
         refine aG (cZ rfl _ _ _) rfl ?_;rw[<-g.o];exact .inl ⟨by decide,rfl,l.o⟩
     . have dk:(W != 3)=true:=by simpa using L
       have g:Hid ((15,[])=f):=j.o.1 L;clear L j;go_wp2_with fail
       refine aG (cZ rfl _ _ _) rfl ?_;rw[<-g.o];exact .inl ⟨by decide,rfl,l.o⟩
  . have e1:m=s:=by omega
    have g:Hid ((0,i)=f):=by
     show _=_;rw[<-EE.o];exact(jw (by rw[<-A.o];omega) _).symm
    subst e1;go_wp2_with fail
    refine aG (cZ rfl _ _ _) rfl ?_;rw[<-g.o];exact .inr ⟨rfl,a,c,(by show Ending.returned (.tuple #[.slice a m c,.int .i64 0])=_;rw[A.o]),⟨RW.o,N.o,X.o⟩,H8.o⟩
end Go.Proofs.YtnnieandfdbhgaaGreat
namespace Go.Proofs.YtnnieandfdbhgaaGreat
open Go.Proofs.Tryz
variable {i:Nat}{p:Pg}
theorem yD(h:i<p.items.length):p.at i=p.items[i]:=by unfold Pg.at;simp[h]
theorem Sound.keyK(h:Sound p)(hi:i<p.items.length)(d:p.kind=1\/i≠0):isK (p.at i).key=true:=by
 have c:=(j7.1 (h.i i hi)).1;unfold Pg.keyOk at c;rw[if_neg (by rintro⟨a,b⟩;rcases d with h|h<;>omega)] at c
 unfold isK;simp at c ⊢;omega
theorem Sound.key0(h:Sound p)(b:p.kind=2)(hi:0<p.items.length):(p.at 0).key=[]:=by
 have a:=(j7.1 (h.i 0 hi)).1;unfold Pg.keyOk at a;rw[if_pos ⟨b,rfl⟩] at a;simpa using a
theorem iM{a:Int}:lvl p a=true↔p.kind≠3/\p.level=a:=by unfold lvl;simp
theorem Sound.leaf0(h:Sound p)(b:p.kind=1):p.level=0/\1<=p.items.length:=by
 have a:=h.f;unfold Pg.form at a;rw[if_neg (by omega),if_pos b] at a
 simp at a;omega
theorem Sound.idx(h:Sound p)(b:p.kind=2):1<=p.level/\p.level<=11/\2<=p.items.length:=by
 have a:=h.f;unfold Pg.form at a;rw[if_neg (by omega),if_neg (by omega)] at a
 simp at a;omega
theorem Sound.kind(h:Sound p):p.kind=1\/p.kind=2\/p.kind=3:=Pg.kindOk_iff.1 h.k
def ldI(rd:Int->Option Pg)(x:It):Nat×List Nat:=if x.size<0\/3840<x.size then (8,[]) else if 32<x.size then g9 rd x.size.toNat x.size.toNat [] x.child else if (x.val.length:Int)≠x.size then (8,[]) else (0,x.val)
theorem rL{a:Plx}(h:i<p.items.length):(ben a p)[i]?=some ⟨(p.at i).child,a.lv-1,wth p i a.keys⟩:=by
 unfold ben;simp[h]
structure Yc(τ:Type) where
 yl:τ->List Nat×List Nat->τ
 ybad:τ->Nat->τ
 ystp:τ->Bool
structure Pst(τ:Type) where
 G:List Int
 c:τ
def mO(rd:Int->Option Pg)(x:It):List Nat×List Nat:=(x.key,(ldI rd x).2)
def pit{τ:Type}(Y:Yc τ)(rd:Int->Option Pg)(r:Rg):List It->τ->τ
 | [],c=>c
 |x::L,c=>if has r x.key=false then pit Y rd r L c else
  if (ldI rd x).1≠0 then Y.ybad c (ldI rd x).1 else
  if Y.ystp (Y.yl c (mO rd x))=true then Y.yl c (mO rd x) else pit Y rd r L (Y.yl c (mO rd x))
def prM{τ:Type}(Y:Yc τ)(rd:Int->Option Pg)(r:Rg)(o:Bool):Mc (Pst τ) where
 gone:=Pst.G
 ent:=λs n=>{s with G:=n::s.G}
 tel:=λs _ p=>if p.kind=1 then {s with c:=pit Y rd r (ga o p.items) s.c} else s
 bad:=λs=>{s with c:=Y.ybad s.c 15}
 stp:=λs=>Y.ystp s.c
def iz(r keys:Rg):Bool:=has (gZ r keys) (iE (gZ r keys).lo)
end Go.Proofs.YtnnieandfdbhgaaGreat
namespace Go.Proofs.YtnnieandfdbhgaaGreat
open Go.Proofs.Tryz
open Go.RowKit Go.Shelf
theorem oH{σ:Type}(M:Mc σ)(rd:Int->Option Pg)(r:gc rd)(b c a:Nat)(h:FuncId)(l:Array Value)(q:∀args w,(callFunc h args).run prog w=.ok (.enter h args) w)(o:Bool)(d:Nat->Prop)(wants:Rg->Bool)(g:Nat->Prop)(v:∀s n,M.gone (M.ent s n)=n::M.gone s)(t:∀s,M.stp (M.bad s)=true)(m:mY)(f:Nat):∀(w:World)(i t2:Nat)(p:Plv)(j:σ),p.lv<=(f:Int)->w.cell? ⟨i,0,none⟩=some (.pointer (some ⟨c,0,none⟩))->w.heap[t2]?=some (.cells p.cs 148 (0,0))->Ri w p.r->Rb p.r->N64 p.lv->Tou w c a b h l o rd d wants g->M.stp j=false->(∀k,XS c i t2 p d g k->k<w.heap.size)->jE prog 116 #[.pointer (some ⟨i,0,none⟩),.pointer (some ⟨t2,0,none⟩)] M.stp (EnS M rd a) (λk=>k=a) (λs W=>Mp W a (gnf (M.gone s))) j (λs=>s=fs M rd wants o f j p.px) w (XS c i t2 p d g):=by
 induction f with
 |zero=>exact mJ M rd r b c a h l q o d wants g v t m 0 (λk e=>by omega)
 |succ f ih=>exact mJ M rd r b c a h l q o d wants g v t m (f+1) (λk e=>by cases e;exact ih)
theorem pB(w:World):qb 69 #[] (λ_=>true) (λ_=>False) w:=λW b r a hb=>by
 unfold Rv.val;simp only[Rv.cs];go_enter func69,ntmps69;go_wp2;go_ret;exact⟨rfl,al _ _⟩
theorem ix{W:World}{b:Nat}{t:TypeId}{v0 a c:Value}(h:W.heap[b]?=some (.cells #[v0,a,c] t (0,0))):W.cell? ⟨b,0,none⟩=some v0/\W.cell? ⟨b,1,none⟩=some a/\W.cell? ⟨b,2,none⟩=some c:=by
 refine⟨?_,?_,?_⟩<;>(rw[ah _ _ _ _ _ _ h];rfl)
def iY(r:Rv)(k:Nat):Prop:=(∃x,r.aL=some x/\x.block=k)\/∃x,r.aH=some x/\x.block=k
theorem Ri.but{S:Nat->Prop}{w c:World}{r:Rv}(h:Ri w r)(hb:But S w c)(b:∀k,iY r k->¬S k):Ri c r:=⟨h.bl.but hb (λx a _=>b _ (.inl ⟨x,a,rfl⟩)),h.cl,h.bh.but hb (λx a _=>b _ (.inr ⟨x,a,rfl⟩)),h.ch⟩
theorem rm(w:World)(c:Nat)(r:Rv)(v:w.heap[c]?=some (.cells r.cs 62 (0,0)))(t:Ri w r)(hb:Rb r):qb 87 #[.pointer (some ⟨c,0,none⟩)] (iz r.rg) (λk=>k=c\/iY r k) w:=λW g q s y=>by
 have j:=g.same v (λh=>h (.inl rfl))
 have p:=e7 (t.but g (λk D h=>h (.inr D)))
 have n:=e7 s;have a:=e7 (al W (.cells q.cs 62));have i:=(a.o.block c (ae.1 j).1).trans j;have e:=e7 (lI _ r q (p.o.keep a.o) (n.o.keep a.o) hb y);have f:=ag W (.cells q.cs 62);have l:=e7 λ(U:World)(m:Rv)(b:Ri U m)=>tV U m b
 clear v t hb g j s y;unfold Rv.val at *;obtain⟨M,c1,S,N,c2,T,Y⟩:=r;obtain⟨O,c3,V,P,R,X,Z⟩:=q;simp only[Rv.cs] at i f a e ⊢;obtain⟨H,I,J⟩:=ix i;obtain⟨E,F,G⟩:=ix f;clear i f p n;go_enter func87,ntmps87;go_wp2_with fail
 refine e.o.mono ?_;rintro _ C ⟨m,rfl,b,x⟩;have A:=e7 (bt a.o b.l.b);have d:=e7 (l.o C m b.ri);have B:=e7 x;clear e l b x H I J E F G;unfold Rv.val at d;simp only[Rv.cs] at d;go_wp2_with fail
 refine d.o.mono ?_;rintro _ L ⟨rfl,K⟩;go_wp2;go_ret;refine⟨?_,bt A.o K⟩;show Ending.returned (.bool (has m.rg (iE m.rg.lo)))=_;rw[B.o];rfl
end Go.Proofs.YtnnieandfdbhgaaGreat
namespace Go.Proofs.YtnnieandfdbhgaaGreat
open Go.Proofs.Tryz
open Go.RowKit
variable {rd:Int->Option Pg}{f:Int->Option Value}{G:List Int}{L:List Iv}{c g j:Nat}{a:Option Addr}{p:Pg}{w w' wx:World}
theorem wI{rd:Int->Option Pg}{t:Nat}{G:List Int}{n l:Int}(h:l<=0):fy rd t G n l=(G,0):=by
 cases t with
 |zero=>rfl
 |succ t=>unfold fy;rw[if_pos h]
theorem tW{t:Nat}{n l:Int}(e:rd n=some p)(d:n∉G)(h:0<l)(b:p.kind=3):fy rd (t+1) G n l=if (p.data.length:Int)≠min l 480\/decide (p.next=0)≠decide (l<=480) then (n::G,5) else fy rd t (n::G) p.next (l-480):=by
 conv=>lhs;unfold fy
 rw[if_neg (by omega),e]
 simp only;rw[if_neg d,if_neg (by rw[b];simp)]
theorem mt(w:World)(M s b:Nat)(wf:Value)(o:Bool)(rd:Int->Option Pg)(hA:gc rd)(X:Nat->Prop)(G:List Int)(x:Iv)(T:x.size<=3840)(af:0<=x.size)(hT:w.heap[M]?=some (.cells (kW b s wf o) 143 (0,0)))(F:Mp w s (gnf G))(hR:gu 52 (.pointer (some ⟨b,0,none⟩)) rd X w)(hX:¬X s)(aj:M≠s):
 Calls prog 120 #[.pointer (some ⟨M,0,none⟩),x.vl] w λe w'=>e=.returned (.int .i64 (((fy rd 8 G x.child x.size).2:Nat):Int))/\But (λk=>k=s) w w'/\Mp w' s (gnf (fy rd 8 G x.child x.size).1):=by
 have A0:=e7 (al w (.cells x.cs 89));have X0:=ag w (.cells x.cs 89);have HT:=e7 hT;have HM:=e7 (F.keep A0.o);have HR:=e7 hR;obtain⟨aK,cK,ao,aV,cV,val,aa,I⟩:=x;have T:I<=3840:=T;have af:0<=I:=af;unfold Iv.vl;simp only[Iv.cs] at *;obtain⟨k0,k1,k2,k3⟩:=fO X0;clear hT F hR X0;obtain⟨R,Y⟩:∃R,fy rd 8 G aa I=R:=⟨_,rfl⟩;rw[Y];have RR:=e7 Y;clear Y;go_enter func120,ntmps120;go_wp2;generalize ak:w.alloc (.cells #[.slice aK ao.length cK,.slice aV val.length cV,.int .i64 aa,.int .i64 I] 89)=w1 at *;clear ak k0 k1 k2 k3;go_loopw [5,6] (λp q wr=>∃(t:Nat)(i:List Int)(n l:Int),p=.int .i64 n/\q=.int .i64 l/\l<=480*t/\l<=3840/\ -480<=l/\But (λk=>k=s) w wr/\Mp wr s (gnf i)/\fy rd t i n l=R) (λ_ q _=>(intOf q+480).toNat)
 case atStart=>exact⟨8,G,aa,I,rfl,rfl,by omega,T,by omega,But.ofBelow A0.o,HM.o,RR.o⟩
 case round=>
  obtain⟨t,i,n,l,rfl,rfl,av,aw,ax,hB,F,hc⟩:=hrel;have C:=e7 hB;have J:=e7 F;have D:=e7 hc;clear hB F hc;by_cases ai:0<l
  . have O:=e7 (oD wr M s b wf o rd X i n (C.o.same HT.o aj) J.o (HR.o.but C.o (λk e h=>by have e:k=s:=e;rw[e] at h;exact hX h)))
    go_wp2_with fail
    obtain⟨A,rfl⟩:∃A,t=A+1:=⟨t-1,by omega⟩
    refine O.o.mono ?_;rintro e U (⟨rfl,ah,H⟩|⟨q,Z,ae,rfl,hP,H,ac⟩)
    . have m:Hid (R=(i,15)):=by
       show _=_;rw[<-D.o];unfold fy;rw[if_neg (by omega)]
       cases hp:rd n with
       |none=>rfl
       |some p=>
        rcases ah with h|h
        . rw[hp] at h;cases h
        . simp only;rw[if_pos h]
      have B2:=e7 (bt H (al U (.cells #[.int .i64 0,.int .i64 0,.slice none 0 0,.slice none 0 0,.int .i64 0] 77)));clear ah H O;simp only[Pv.vl,Pv.cs,Pv.zero,aO];go_wp2;go_ret;rw[m.o];exact⟨rfl,C.o.andBelow B2.o,J.o.keep B2.o⟩
    . have W:=e7 Z;have V:=e7 ae;have ab:=e7 (hA _ _ Z);have P:=ag U (.cells #[.int .i64 q.kind,.int .i64 q.level,.slice q.aI q.items.length q.cI,.slice q.aD q.data.length q.cD,.int .i64 q.next] 77);have N:=al U (.cells #[.int .i64 q.kind,.int .i64 q.level,.slice q.aI q.items.length q.cI,.slice q.aD q.data.length q.cD,.int .i64 q.next] 77);have y:=e7 ((C.o.trans H (λ_ _ e=>e)).andBelow N)
      have v:=e7 (ac.keep N);clear Z ae hP H ac O N;obtain⟨kq,lq,aq,cq,iq,ap,ar,S,nq⟩:=q;simp only[Pv.vl,Pv.cs];simp only at P y v;obtain⟨j0,j1,j2,j3,j4⟩:=fC P;clear P;by_cases h3:kq=3
      . subst h3;have ad:=e7 ((ab.o.blob rfl).2.2)
        have r:Hid ((if (S.length:Int)≠min l 480\/decide (nq=0)≠decide (l<=480) then (n::i,5) else fy rd A (n::i) nq (l-480))=R):=by
         show _=_;rw[<-D.o];exact(tW W.o V.o ai rfl).symm
        have au:S.length<=480:=ad.o.2.1;clear W V ab ad D J;generalize S.length=d at *;by_cases K:l<=480
        . by_cases E:(d:Int)=l
          . subst E;have hm:min (d:Int) 480=(d:Int):=by omega
            by_cases B:nq=0
            . subst B
              have m:Hid (fy rd A (n::i) 0 ((d:Int)-480)=R):=by
               show _=_;rw[<-r.o];exact(if_neg (λh=>by rcases h with h|h;exact h (by omega);exact h (by rw[an (rfl:(0:Int)=0),an K]))).symm
              clear r;have hw:wrap64 ((d:Int)-480)=(d:Int)-480:=by unfold wrap64;omega
              go_wp2;go_roundw
              case rel=>exact⟨A,n::i,0,(d:Int)-480,rfl,by first|rfl|go_num,by omega,by omega,by omega,y.o,v.o,m.o⟩
              case measure=>simp[intOf];omega
            . have m:Hid (R=(n::i,5)):=by
               show _=_;rw[<-r.o];exact if_pos (.inr (λh=>by rw[am B,an K] at h;cases h))
              clear r;have hq:(nq==0)=false:=by simp[B]
              go_wp2;go_ret;rw[m.o];exact⟨rfl,y.o,v.o⟩
          . have m:Hid (R=(n::i,5)):=by
             show _=_;rw[<-r.o];exact if_pos (.inl (λh=>E (by omega)))
            clear r;go_wp2;go_ret;rw[m.o];exact⟨rfl,y.o,v.o⟩
        . by_cases E:(d:Int)=480
          . obtain rfl:d=480:=by omega
            clear E;have hm:min l 480=480:=by omega
            by_cases B:nq=0
            . subst B
              have m:Hid (R=(n::i,5)):=by
               show _=_;rw[<-r.o];exact if_pos (.inr (λh=>by rw[an (rfl:(0:Int)=0),am K] at h;cases h))
              clear r;go_wp2;go_ret;rw[m.o];exact⟨rfl,y.o,v.o⟩
            . have m:Hid (fy rd A (n::i) nq (l-480)=R):=by
               show _=_;rw[<-r.o];exact(if_neg (λh=>by rcases h with h|h;exact h (by omega);exact h (by rw[am B,am K]))).symm
              clear r;have hw:wrap64 (l-480)=l-480:=by unfold wrap64;omega
              go_wp2;go_roundw
              case rel=>exact⟨A,n::i,nq,l-480,rfl,by first|rfl|go_num,by omega,by omega,by omega,y.o,v.o,m.o⟩
              case measure=>simp[intOf];omega
          . have m:Hid (R=(n::i,5)):=by
             show _=_;rw[<-r.o];exact if_pos (.inl (λh=>E (by omega)))
            clear r;go_wp2;go_ret;rw[m.o];exact⟨rfl,y.o,v.o⟩
      . have m:Hid (R=(n::i,15)):=by
         show _=_;rw[<-D.o];unfold fy;rw[if_neg (by omega),W.o]
         simp only;rw[if_neg V.o];exact if_pos (show(kq:Int)≠3 from h3)
        go_wp2;go_ret;rw[m.o];exact⟨rfl,y.o,v.o⟩
  . go_wp2;go_ret;have:=D.o;rw[wI (by omega)] at this
    rw[<-this];exact⟨rfl,C.o,J.o⟩
theorem Mp.not_cell{b:Nat}(h:Mp w b f){o:Nat}{v:Value}(d:w.cell? ⟨b,o,none⟩=some v):False:=by
 obtain⟨i,k,e,_⟩:=h;rw[World.cell?,e] at d;simp at d
theorem Bs.mp{b:Nat}(h:Mp w b f){l:List Nat}(m:Bs w a l)(hb:But (λk=>k=b) w w'):Bs w' a l:=
 ⟨m.1,m.2.1,m.2.2.imp id (λ⟨c,o,e,n⟩=>⟨c,o,e,λi q=>by
   have k:=n i q;exact(hb.cell (block_lt_of_cell k) (λd=>by have d:c=b:=d;subst d;exact h.not_cell k)).trans k⟩)⟩
theorem Ii.mp{b:Nat}(h:Mp w b f){x:Iv}(d:Ii w x)(hb:But (λk=>k=b) w w'):Ii w' x:=⟨d.bk.mp h hb,d.ck,d.bv.mp h hb,d.cv,d.nc,d.ns⟩
theorem Js.mp{b:Nat}(h:Mp w b f)(i:Js w a L)(hb:But (λk=>k=b) w w'):Js w' a L:=
 ⟨λx q=>(i.1 x q).mp h hb,i.2.1,i.2.2.imp id (λ⟨c,o,e,l⟩=>⟨c,o,e,λr m j v n=>by
   have k:=l r m j v n;exact(hb.cell (block_lt_of_cell k) (λd=>by have d:c=b:=d;subst d;exact h.not_cell k)).trans k⟩)⟩
theorem Ri.mp{b:Nat}(h:Mp w b f){r:Rv}(d:Ri w r)(hb:But (λk=>k=b) w w'):Ri w' r:=⟨d.bl.mp h hb,d.cl,d.bh.mp h hb,d.ch⟩
theorem xd{r:Rg}(h:j<L.length):fE rd r ((L.drop j).map Iv.it) G=
 if has r (L.getD j Iv.zero).key=false then (G,11) else
 if (L.getD j Iv.zero).size<=32 then fE rd r ((L.drop (j+1)).map Iv.it) G else
 if (fy rd 8 G (L.getD j Iv.zero).child (L.getD j Iv.zero).size).2≠0 then fy rd 8 G (L.getD j Iv.zero).child (L.getD j Iv.zero).size else fE rd r ((L.drop (j+1)).map Iv.it) (fy rd 8 G (L.getD j Iv.zero).child (L.getD j Iv.zero).size).1:=by
 have e:L.getD j Iv.zero=L[j]:=by simp[h]
 rw[bC h,bE,e];rfl
theorem ng(w:World)(K d b:Nat)(wf:Value)(o:Bool)(rd:Int->Option Pg)(hA:gc rd)(X:Nat->Prop)(G:List Int)(p:Plv)(q:Pv)(ai:Ri w p.r)(hJ:Js w q.aI q.items)(ak:∀x∈q.items,0<=x.size/\x.size<=3840)(hT:w.heap[K]?=some (.cells (kW b d wf o) 143 (0,0)))(H:Mp w d (gnf G))(hR:gu 52 (.pointer (some ⟨b,0,none⟩)) rd X w)(hX:¬X d)(P:K≠d):
 Calls prog 72 #[.pointer (some ⟨K,0,none⟩),.agg (il p q)] w λe w'=>e=.returned (.int .i64 (((fE rd p.r.rg (q.items.map Iv.it) G).2:Nat):Int))/\But (λk=>k=d) w w'/\Mp w' d (gnf (fE rd p.r.rg (q.items.map Iv.it) G).1):=by
 have E:=e7 (al w (.cells (il p q) 151));have Z:=ag w (.cells (il p q) 151);have h:=e7 (H.keep E.o);have HT:=e7 ((But.ofBelow (S:=λk=>k=d) E.o).same hT P)
 have HR:=e7 (hR.keep E.o);have HJ:=e7 (hJ.keep E.o);have RI:=e7 (ai.keep E.o);have SZ:=e7 ak;obtain⟨no,lv,r⟩:=p;obtain⟨kind,aC,aI,cI,L,aD,cD,aA,next⟩:=q
 obtain⟨R,ac⟩:∃R,fE rd r.rg (L.map Iv.it) G=R:=⟨_,rfl⟩;have hn:L.length<=2199023255520:=hJ.2.1;simp only[ac];simp only[il] at *;have RR:=e7 ac;obtain⟨k0,k1,k2,k3,k4,k5,k6,k7,k8,k9⟩:=iD Z;have aw:d<w.heap.size:=H.lt;clear hT H hR ac ai hJ ak;go_enter func72,ntmps72;go_wp2;generalize av:w.alloc _=w1 at *;have Z:=e7 (show w1.heap[w.heap.size]?=_ from Z)
 have ax:d<w.heap.size:=aw;have am:=e7 (But.ofBelow (S:=λk=>k=d) E.o)
 clear av k0 k1 k2 k3 k4 k5 k6 k7 k8 k9;go_loopw [12] (λq wr=>∃(j:Nat)(l:List Int),q=.int .i64 j/\j<=L.length/\But (λk=>k=d) w1 wr/\Mp wr d (gnf l)/\fE rd r.rg ((L.drop j).map Iv.it) l=R) (λq _=>L.length-(intOf q).toNat)
 case atStart=>exact⟨0,G,rfl,ar _,But.refl _ _,h.o,RR.o⟩
 case round=>
  obtain⟨j,l,rfl,hj,J,H,hc⟩:=hrel;have t:=e7 J;have I:=e7 H;have HC:=e7 hc;have ah:=e7 (J.same HT.o P);have af:=e7 (HR.o.but J (λk e ae=>by have e:k=d:=e;rw[e] at ae;exact hX ae))
  obtain⟨k0,k1,k2,k3,k4,k5,k6,k7,k8,k9⟩:=iD (J.same Z.o (λe=>by have e:w.heap.size=d:=e;omega))
  clear J H hc;by_cases aa:j<L.length
  . have aB:(j:Int)<(L.length:Int):=by omega
    obtain⟨b1,o1,rfl,cA⟩:=(HJ.o.mp h.o t.o).at aa;have B:=e7 ((xd aa).symm.trans HC.o);have v:=e7 (λ(W:World)(hb:Below wr.heap.size wr W)=>nR W r (L.getD j Iv.zero).aK _ (L.getD j Iv.zero).cK (L.getD j Iv.zero).key ((RI.o.mp h.o t.o).keep hb) ((((HJ.o.mp h.o t.o).1 _ (fh aa)).bk).keep hb) rfl)
    have ab:=SZ.o _ (fh aa);clear HC;generalize L.getD j Iv.zero=x at *;obtain⟨aK,cK,Y,aV,cV,val,D,s⟩:=x;simp only[Iv.cs] at *;obtain⟨i0,i1,i2,i3⟩:=sP cA;clear cA;have F:=e7 (λ(W:World)(A:W.heap[K]?=some (.cells (kW b d wf o) 143 (0,0)))(h2:Mp W d (gnf l))(h3:gu 52 (.pointer (some ⟨b,0,none⟩)) rd X W)=>mt W K d b wf o rd hA X l ⟨aK,cK,Y,aV,cV,val,D,s⟩ ab.2 ab.1 A h2 h3 hX P)
    simp only at ab B v F;have m:=e7 (al wr (.cells #[.slice aK Y.length cK,.slice aV val.length cV,.int .i64 D,.int .i64 s] 89));have m2:=(m.o.cell (p:=⟨w.heap.size,2,none⟩) (block_lt_of_cell k2)).trans k2;have m3:=(m.o.cell (p:=⟨w.heap.size,3,none⟩) (block_lt_of_cell k3)).trans k3;have m4:=(m.o.cell (p:=⟨w.heap.size,4,none⟩) (block_lt_of_cell k4)).trans k4;have N1:=ag wr (.cells #[.slice aK Y.length cK,.slice aV val.length cV,.int .i64 D,.int .i64 s] 89);have BE:=e7 (am.o.trans t.o (λ_ _ e=>e))
    by_cases A:has r.rg Y=false
    . have n:Hid ((l,11)=R):=(e7 ((if_pos A).symm.trans B.o));rw[A] at v;clear B F;go_wp2_with (go_at_call 91;refine(v.o _ m.o).mono ?_;rintro y M ⟨rfl,hb⟩;have i:=e7 (bt m.o hb);clear hb)
      go_ret;rw[<-n.o];exact⟨rfl,BE.o.andBelow i.o,I.o.keep i.o⟩
    . have ao:has r.rg Y=true:=by simpa using A
      rw[ao] at v;by_cases h2:s<=32
      . have n:Hid (fE rd r.rg ((L.drop (j+1)).map Iv.it) l=R):=(e7 (((if_neg A).trans (if_pos h2)).symm.trans B.o));clear B F;obtain⟨T,U,V,C⟩:=fO N1;go_wp2_with (go_at_call 91;refine(v.o _ m.o).mono ?_;rintro y M ⟨rfl,hb⟩;have i:=e7 (bt m.o hb);have aj:=(hb.cell (p:=⟨wr.heap.size,3,none⟩) (block_lt_of_cell C)).trans C;clear hb)
        go_roundw
        case rel=>exact⟨j+1,l,by go_num,by omega,t.o.andBelow i.o,I.o.keep i.o,n.o⟩
        case measure=>simp[intOf];omega
      . have n:Hid ((if (fy rd 8 l D s).2≠0 then fy rd 8 l D s else fE rd r.rg ((L.drop (j+1)).map Iv.it) (fy rd 8 l D s).1)=R):=(e7 (((if_neg A).trans (if_neg h2)).symm.trans B.o))
        clear B;obtain⟨T,U,V,C⟩:=fO N1;generalize fy rd 8 l D s=an at *;obtain⟨Z1,Z2⟩:=an;simp only at n F;by_cases hz:Z2=0
        . subst hz;have ad:Hid (fE rd r.rg ((L.drop (j+1)).map Iv.it) Z1=R):=e7 ((if_neg (by simp)).symm.trans n.o)
          clear n;go_wp2_with (first|(go_at_call 91;refine(v.o _ m.o).mono ?_;rintro y M ⟨rfl,hb⟩;have i:=e7 (bt m.o hb);have ap:=(hb.cell (p:=⟨wr.heap.size,0,none⟩) (block_lt_of_cell T)).trans T;have aq:=(hb.cell (p:=⟨wr.heap.size,1,none⟩) (block_lt_of_cell U)).trans U;have au:=(hb.cell (p:=⟨wr.heap.size,2,none⟩) (block_lt_of_cell V)).trans V;have aj:=(hb.cell (p:=⟨wr.heap.size,3,none⟩) (block_lt_of_cell C)).trans C;have C2:=e7 (F.o M ((But.ofBelow (S:=λk=>k=d) i.o).same ah.o P) (I.o.keep i.o) (af.o.keep i.o));clear hb)|(go_at_call 120;refine C2.o.mono ?_;rintro y w3 ⟨rfl,O,N⟩;have B3:=e7 O;have M3:=e7 N;clear O N))
          go_roundw
          case rel=>exact⟨j+1,Z1,by go_num,by omega,(t.o.andBelow i.o).trans B3.o (λ_ _ e=>e),M3.o,ad.o⟩
          case measure=>simp[intOf];omega
        . have ad:Hid ((Z1,Z2)=R):=e7 ((if_pos hz).symm.trans n.o);clear n;have ay:((Z2:Int)==0)=false:=by simp[hz]
          have az:¬(Z2:Int)=0:=by omega
          go_wp2_with (first|(go_at_call 91;refine(v.o _ m.o).mono ?_;rintro y M ⟨rfl,hb⟩;have i:=e7 (bt m.o hb);have ap:=(hb.cell (p:=⟨wr.heap.size,0,none⟩) (block_lt_of_cell T)).trans T;have aq:=(hb.cell (p:=⟨wr.heap.size,1,none⟩) (block_lt_of_cell U)).trans U;have au:=(hb.cell (p:=⟨wr.heap.size,2,none⟩) (block_lt_of_cell V)).trans V;have aj:=(hb.cell (p:=⟨wr.heap.size,3,none⟩) (block_lt_of_cell C)).trans C;have C2:=e7 (F.o M ((But.ofBelow (S:=λk=>k=d) i.o).same ah.o P) (I.o.keep i.o) (af.o.keep i.o));clear hb)|(go_at_call 120;refine C2.o.mono ?_;rintro y w3 ⟨rfl,O,N⟩;have B3:=e7 O;have M3:=e7 N;clear O N))
          go_ret;rw[<-ad.o];exact⟨rfl,(BE.o.andBelow i.o).trans B3.o (λ_ _ e=>e),M3.o⟩
  . obtain rfl:j=L.length:=by omega
    have n:Hid ((l,0)=R):=by
     show _=_;rw[<-HC.o,ep];rfl
    go_wp2;go_ret;rw[<-n.o];exact⟨rfl,am.o.trans t.o (λ_ _ e=>e),I.o⟩
def iX(L:List Plv):List Value:=(L.map λp=>p.cs.toList).flatten
theorem tC(L:List Plv)(x:Plv):iX L++x.cs.toList=iX (L++[x]):=by simp[iX]
theorem qo:∀(L:List Plv)(i k:Nat)(x:Plv),L[i]?=some x->k<5->(iX L)[i*5+k]?=x.cs.toList[k]?
 | [],i,k,x,h,_=>by simp at h
 |y::L,0,k,x,h,hk=>by
  simp only[List.getElem?_cons_zero,au] at h;subst h;simp only[iX,bE,dC,dJ,bP];rw[bu (by simp[Plv.cs];omega)]
 |y::L,i+1,k,x,h,hk=>by
  simp only[dp] at h;have:=qo L i k x h hk;simp only[iX,bE,dC] at this ⊢;rw[a6 (by simp[Plv.cs];omega),<-this]
  congr 1
  simp[Plv.cs];omega
theorem rI:(prog.info? 148).map (λi=>(i.zero,i.size,i.bytes))=some (some (.agg #[.int .i64 0,.int .i64 0,.slice none 0 0,.slice none 0 0,.bool false]),5,72):=by kernel_rfl
theorem ry{W:World}{x:Plv}{t:TypeId}(h:W.heap[g]?=some (.cells x.cs t (0,0))):∀j u,x.cs.toList[j]?=some u->W.cell? ((⟨g,0,none⟩:Addr).add j)=some u:=by
 intro j u b;rw[Addr.add_mid,bP,ah _ _ _ _ _ _ h,<-b];simp
theorem rC{x:Plv}:∀u∈x.cs.toList,u.oneCell'=true:=by
 intro u b;simp only[Plv.cs,b8,bZ,or_false] at b;rcases b with rfl|rfl|rfl|rfl|rfl<;>rfl
theorem Q.Gw.rrow{L:List Plv}(h:Q.Gw 148 5 w a c L.length (iX L)):gz w a Plv.cs 5 L:=by
 rcases h.cases with⟨_,_,h0,_⟩|⟨g,cur,rfl,hg,h1,h2,h3,h4⟩
 . exact .inl (bY.1 h0)
 . refine .inr ⟨g,0,rfl,λi x d j v b=>?_⟩
   have k:i<L.length:=by rcases Nat.lt_or_ge i L.length with h|h;exact h;rw[du h] at d;cases d
   have e:j<5:=by rcases Nat.lt_or_ge j 5 with h|h;exact h;rw[du (by simp[Plv.cs];omega)] at b;cases b
   rw[bP,ah _ _ _ _ _ _ hg,<-b,<-qo L i j x d e,<-h4,cX,if_pos (by omega)]
   simp
structure Bn(w wx:World)(B:List Plx)(j:Nat)(a:Option Addr)(c:Nat)(L:List Plv):Prop where
 gw:Q.Gw 148 5 wx a c j (iX L)
 ln:L.length=j
 pl:L.map Plv.px=B.take j
 el:∀x∈L,Ro w wx x.r/\Rb x.r
 nw:∀x,a=some x->w.heap.size<=x.block
 b:Below w.heap.size w wx
theorem Bn.keep{d:World}{B:List Plx}{L:List Plv}(h:Bn w wx B j a c L)(hb:Below wx.heap.size wx d):Bn w d B j a c L:=
 ⟨h.gw.keep hb,h.ln,h.pl,λx b=>⟨(h.el x b).1.keep hb,(h.el x b).2⟩,h.nw,bt h.b hb⟩
theorem Bn.app{b:World}{B:List Plx}{L:List Plv}(h:Bn w wx B j a c L){x:Plv}(H:Ro w wx x.r)(I:Rb x.r)(F:B[j]?=some x.px){n:Nat}(A:Q.Gw 148 5 b (some ⟨g,0,none⟩) n (j+1) (iX L++x.cs.toList))(C:New wx a (some ⟨g,0,none⟩))(q:But (Q.InA a) wx b):Bn w b B (j+1) (some ⟨g,0,none⟩) n (L++[x]):=by
 have v:Below w.heap.size w b:=((But.ofBelow (S:=Q.InA a) h.b).trans q (λ_ _ e=>e)).below (λk J ⟨y,hy,e⟩=>by have:=h.nw y hy;omega)
 have own:∀{i:Option Addr}{c2:Nat}{m:List Nat},Own w wx i c2 m->Own w b i c2 m:=λ{i c2 m} s=>s.but q v (λy hy ⟨z,l,e⟩=>by
  obtain⟨K,D⟩:=h.gw.blk l;rcases s.r.cases with⟨e1,_⟩|⟨g2,cur2,e1,hg2,_⟩
  . rw[e1] at hy;cases hy
  . rw[e1] at hy;cases hy;exact fJ D hg2 (by decide) e)
 have t:∀{r:Rv},Ro w wx r->Ro w b r:=λd=>⟨own d.l,own d.h,d.apart,d.l8,d.h8⟩
 refine⟨by rw[<-tC];exact A,by rw[af,h.ln];rfl,?_,?_,?_,v⟩
 . rw[dh,h.pl,bE,dz];obtain⟨E,e⟩:=aW.1 F;rw[bO E,e]
 . intro y hy;rcases bg.1 hy with hy|hy
   . exact⟨t (h.el y hy).1,(h.el y hy).2⟩
   . rw[aS.1 hy];exact⟨t H,I⟩
 . intro y hy;rcases C y hy with⟨z,l,e⟩|h2
   . rw[<-e];exact h.nw z l
   . exact az h.b.size h2
theorem yA{at_:Plx}(h:j<p.items.length):(ben at_ p)[j]?=some ⟨(p.at j).child,at_.lv-1,wth p j at_.keys⟩:=by
 unfold ben;rw[dR,List.getElem?_range h];rfl
theorem Bn.done{p:Plv}{q:Pv}{L:List Plv}(h:Bn w wx (ben p.px q.pg) q.items.length a c L):wP w wx (.returned (.slice a q.items.length c)) p q:=by
 have d:=h.ln;refine⟨a,c,L,by rw[d],?_,by have:=h.gw;rw[<-d] at this;exact this.rrow,λx b=>⟨h.nw x b,h.gw.lt b⟩,λx b=>⟨(h.el x b).1.ri,(h.el x b).2,λy hy=>?_⟩,h.b⟩
 . rw[h.pl,eI (by simp[ben,Pv.pg])]
 . rcases hy with hy|hy
   . exact⟨(h.el x b).1.l.fresh hy,(h.el x b).1.l.r.lt hy⟩
   . exact⟨(h.el x b).1.h.fresh hy,(h.el x b).1.h.r.lt hy⟩
end Go.Proofs.YtnnieandfdbhgaaGreat
