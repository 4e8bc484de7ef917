import Derived.Test.YtbdkogimlbnlmaaGreatWlB26
set_option linter.all false
set_option maxHeartbeats 32000000
set_option maxRecDepth 8000
namespace Go.Proofs.YtbdkogimlbnlmaaGreat
open Go.Proofs.Tryz
open Go.RowKit
variable {r:Int}{C:List Int}{gi gk x:Nat}{D:Rd}{V:World}
def pvA(gk gi x:Nat):Pv:=⟨1,0,some ⟨gi,0,none⟩,1,[⟨some ⟨gk,0,none⟩,1,[x],none,0,[],0,0⟩],none,0,[],0⟩
def pvI(gk gi:Nat):Pv:=⟨2,1,some ⟨gi,0,none⟩,2,[⟨none,0,[],none,0,[],1,0⟩,⟨some ⟨gk,0,none⟩,1,[109],none,0,[],2,0⟩],none,0,[],0⟩
theorem nK(V:World)(a:Option Addr):Bs V a []:=⟨λx b=>absurd b (bm),by simp,.inl rfl⟩
theorem zW{t:TypeId}(d:x<256)(h:V.heap[gk]?=some (.cells #[.int .u8 ((x:Nat):Int)] t (1,2))):Bs V (some ⟨gk,0,none⟩) [x]:=by
 refine⟨λy e=>by rw[aQ.1 e];exact d,by simp,.inr ⟨gk,0,rfl,λi b=>?_⟩⟩
 have:i=0:=by simp at b;exact b
 subst this;rw[ay _ _ _ _ _ _ h];rfl
theorem oS:N64 0:=⟨by decide,by decide⟩
theorem yQ:N64 1:=⟨by decide,by decide⟩
theorem Es:N64 2:=⟨by decide,by decide⟩
theorem xI(g:x<256)(e:V.heap[gk]?=some (.cells #[.int .u8 ((x:Nat):Int)] 5 (1,2)))(f:V.heap[gi]?=some (.cells #[.slice (some ⟨gk,0,none⟩) 1 1,.slice none 0 0,.int .i64 0,.int .i64 0] 51 (0,0))):Pi V (pvA gk gi x):=by
 refine⟨⟨λr d=>?_,by simp[pvA],.inr ⟨gi,0,rfl,λr d j u b=>?_⟩⟩,by simp[pvA],nK _ _,by simp[pvA],yQ,oS,oS⟩
 . have:r=⟨some ⟨gk,0,none⟩,1,[x],none,0,[],0,0⟩:=by simpa[pvA] using d
   subst this;exact⟨zW g e,by simp,nK _ _,by simp,oS,oS⟩
 . have:r=0:=by simp[pvA] at d;exact d
   subst this;rw[ay _ _ _ _ _ _ f];match j,b with
   |0,b=>exact b
   |1,b=>exact b
   |2,b=>exact b
   |3,b=>exact b
   |j+4,b=>simp[pvA,Iv.cs] at b
theorem E6(e:V.heap[gk]?=some (.cells #[.int .u8 ((109:Nat):Int)] 5 (1,2)))(f:V.heap[gi]?=some (.cells #[.slice none 0 0,.slice none 0 0,.int .i64 1,.int .i64 0,.slice (some ⟨gk,0,none⟩) 1 1,.slice none 0 0,.int .i64 2,.int .i64 0] 51 (0,0))):Pi V (pvI gk gi):=by
 refine⟨⟨λr d=>?_,by simp[pvI],.inr ⟨gi,0,rfl,λr d j u b=>?_⟩⟩,by simp[pvI],nK _ _,by simp[pvI],Es,yQ,oS⟩
 . have:r=⟨none,0,[],none,0,[],1,0⟩\/r=⟨some ⟨gk,0,none⟩,1,[109],none,0,[],2,0⟩:=by simpa[pvI] using d
   rcases this with rfl|rfl
   . exact⟨nK _ _,by simp,nK _ _,by simp,yQ,oS⟩
   . exact⟨zW (by decide) e,by simp,nK _ _,by simp,Es,oS⟩
 . have:r=0\/r=1:=by simp[pvI] at d;omega
   rw[ay _ _ _ _ _ _ f];rcases this with rfl|rfl
   all_goals
    match j,b with
    |0,b=>exact b
    |1,b=>exact b
    |2,b=>exact b
    |3,b=>exact b
    |j+4,b=>simp[pvI,Iv.cs] at b
theorem yg(gk gi x:Nat):Smi (pvA gk gi x):=⟨⟨by simp[pvA],λy b=>by
 have:y=⟨some ⟨gk,0,none⟩,1,[x],none,0,[],0,0⟩:=by simpa[pvA] using b
 subst this;simp⟩,by simp[pvA]⟩
theorem EB(gk gi:Nat):Smi (pvI gk gi):=⟨⟨by simp[pvI],λy b=>by
 have:y=⟨none,0,[],none,0,[],1,0⟩\/y=⟨some ⟨gk,0,none⟩,1,[109],none,0,[],2,0⟩:=by simpa[pvI] using b
 rcases this with rfl|rfl<;>simp⟩,by simp[pvI]⟩
def clr(wb:Nat)(col colR:Nat->Nat)(k:Nat):Prop:=¬(1<=col k/\col k<=5)/\¬(1<=colR k/\colR k<=5)/\k≠wb
structure Lvv(wb:Nat)(W:World)(col colR:Nat->Nat)(g5:Nat)(P:Pv):Prop where
 z:Pz (clr wb col colR) W P
 s:Smi P
 b:W.heap[g5]?=some (.cells #[.int .i64 P.kind,.int .i64 P.level,.slice P.aI P.items.length P.cI,.slice P.aD P.data.length P.cD,.int .i64 P.next] 31 (0,0))
 c:clr wb col colR g5
section
variable {wb g5:Nat} {W W':World} {col colR col' colR':Nat->Nat} {P:Pv}
theorem Lvv.keep(h:Lvv wb W col colR g5 P)(hb:Below W.heap.size W W'):Lvv wb W' col colR g5 P:=⟨h.z.keep hb,h.s,iQ h.b hb,h.c⟩
theorem Lvv.po(h:Lvv wb W col colR g5 P):Po2 W col colR P:=⟨h.z.mono (λk _ e=>⟨e.1,e.2.1⟩),h.s⟩
theorem FG{k:Nat}(h:ot wb none Bkk.nil k):k=wb:=by
 rcases h with(h|⟨y,hy,_⟩|⟨y,hy,_⟩)|⟨y,hy,_⟩|⟨p,hp,_⟩
 . exact h
 . cases hy
 . cases hy
 . cases hy
 . cases hp
theorem Lvv.fx(h:Lvv wb W col colR g5 P)(d:Fx W col colR (ot wb none Bkk.nil) W' col' colR'):Lvv wb W' col' colR' g5 P:=by
 have off:∀k,clr wb col colR k->¬((1<=col k/\col k<=5)\/(1<=colR k/\colR k<=5)\/ot wb none Bkk.nil k):=λk b e=>by
  rcases e with e|e|e
  . exact b.1 e
  . exact b.2.1 e
  . exact b.2.2 (FG e)
 have f:=(af.1 h.b).1;refine⟨(h.z.mono (C':=clr wb col' colR') (λk b e=>?_)).but d.b (λk b e=>?_),h.s,d.b.same h.b (off g5 h.c),?_⟩
 . unfold clr at e ⊢;rw[d.c k b,d.r k b];exact e
 . unfold clr at e;rw[d.c k b,d.r k b] at e;exact off k e
 . unfold clr;rw[d.c g5 f,d.r g5 f];exact h.c
end
theorem lv3(b:World)(c1 c2 c3 c4:Array Value):∃d:World,Hid (d=(((b.alloc (.cells c1 5 (1,2))).alloc (.cells c2 51)).alloc (.cells c3 31)).setRow (b.heap.size+1+1) c4)/\Hid ((((b.alloc (.cells c1 5 (1,2))).alloc (.cells c2 51)).alloc (.cells c3 31)).heap[b.heap.size+1+1]?=some (.cells c3 31 (0,0)))/\Hid (Below b.heap.size b d)/\Hid (d.heap[b.heap.size]?=some (.cells c1 5 (1,2)))/\Hid (d.heap[b.heap.size+1]?=some (.cells c2 51 (0,0)))/\Hid (d.heap[b.heap.size+1+1]?=some (.cells c4 31 (0,0))):=by
 have g:=aH (b.alloc (.cells c1 5 (1,2))) (.cells c2 51);have f:=aH ((b.alloc (.cells c1 5 (1,2))).alloc (.cells c2 51)) (.cells c3 31);rw[size_alloc] at g;rw[size_alloc,size_alloc] at f;exact⟨_,rfl,f,((But.ofBelow (S:=λ_=>False) (bt (bt (al b _) (al _ _)) (al _ _))).trans (jz _ _ _) (λk h e=>by omega)).below (λ_ _ e=>e),(jz _ _ _).same (iQ (iQ (aH b _) (al _ _)) (al _ _)) (by omega),(jz _ _ _).same (iQ g (al _ _)) (by omega),dc _ _ _ _ _ _ f⟩
theorem lvz{v w:World}{wb b j g f:Nat}{S:Vs}{H:List Sn}{i col colR:Nat->Nat}{aW:Option Addr}{d:Nat}{W:List Wl}{K:Bkk}{M:Nat}(h:Wo v w wb b j g f S D H i col colR aW d W K M){k:Nat}(e:w.heap.size<=k):clr wb col colR k:=by
 have z:=h.va.z e;have l:=h.bo.lb;exact⟨by omega,by omega,by omega⟩
theorem rO(w:World):Calls prog 8 #[] w λe w'=>e=.returned (.bool true)/\Below w.heap.size w w':=by
 have ac:∀(W:World)(C:Array Value)(ab c g:Nat),W.heap.size=g->(convert 29 29 (.slice (some ⟨g,0,none⟩) ab c)).run prog (W.alloc (.cells C 5))=.ok (.slice (some ⟨g,0,none⟩) ab c) (W.alloc (.cells C 5 (C.size,C.size+1))):=by
  intro W C ab c g hg;subst hg;exact Lib.run_convert_bytes_const W 29 5 C ab c underlying29 underlying5
 go_enter func8,ntmps8;go_wp2_with fail
 refine(yG w 6 3).mono ?_;rintro _ i ⟨ak,⟨p,_⟩|⟨_,wb,b,J,q,H,D,pc,col,colR,rfl,h⟩⟩
 . exact absurd p (by decide)
 have B1:=iJ ak;have L:Hid (Wo w i wb b J q H liv0 D [] pc col colR none 0 [] Bkk.nil 4294967296):=h;clear h ak;go_upto_region 4 with fail
 obtain⟨j,A,s,B1,t,v,y⟩:=lv3 i #[.int .u8 97] #[.slice (some ⟨i.heap.size,0,none⟩) 1 1,.slice none 0 0,.int .i64 0,.int .i64 0] #[.int .i64 0,.int .i64 0,.slice none 0 0,.slice none 0 0,.int .i64 0] #[.int .i64 1,.int .i64 0,.slice (some ⟨i.heap.size+1,0,none⟩) 1 1,.slice none 0 0,.int .i64 0];have R:Hid (Lvv wb j col colR (i.heap.size+1+1) (pvA i.heap.size (i.heap.size+1) 97)):=⟨λV B=>xI (by decide) (B.same t.o (λe=>e (lvz L.o (ai _)))) (B.same v.o (λe=>e (lvz L.o (by omega)))),yg _ _ _,y.o,lvz L.o (by omega)⟩
 have M:=iJ (L.o.keep B1.o);have aa:(convert 29 29 (.slice (some ⟨i.heap.size,0,none⟩) 1 1)).run prog (i.alloc (.cells #[.int .u8 97] 5))=.ok (.slice (some ⟨i.heap.size,0,none⟩) 1 1) (i.alloc (.cells #[.int .u8 97] 5 (1,2))):=ac i #[.int .u8 97] 1 1 i.heap.size rfl;go_upto_region 5 with(first|(refine cE rfl 31 _ _ rfl (i.heap.size+1+1) _ rfl rfl 31 _ s.o iP rfl (by simp[Value.oneCell']) ?_)|fail)
 rw[<-A.o];clear A s t v y aa;obtain⟨g1,ad⟩:∃g,i.heap.size+1+1=g:=⟨_,rfl⟩;obtain⟨f,ag⟩:∃k,(pvA i.heap.size (i.heap.size+1) 97)=k:=⟨_,rfl⟩;have Q1:Hid (f.pg=sL 97):=by rw[<-ag];rfl
 simp only[ad,ag] at R;simp only[ad];clear ad ag;obtain⟨w3,A,s,B2,t,v,y⟩:=lv3 j #[.int .u8 112] #[.slice (some ⟨j.heap.size,0,none⟩) 1 1,.slice none 0 0,.int .i64 0,.int .i64 0] #[.int .i64 0,.int .i64 0,.slice none 0 0,.slice none 0 0,.int .i64 0] #[.int .i64 1,.int .i64 0,.slice (some ⟨j.heap.size+1,0,none⟩) 1 1,.slice none 0 0,.int .i64 0];have E:Hid (Lvv wb w3 col colR (j.heap.size+1+1) (pvA j.heap.size (j.heap.size+1) 112)):=⟨λV B=>xI (by decide) (B.same t.o (λe=>e (lvz M.o (ai _)))) (B.same v.o (λe=>e (lvz M.o (by omega)))),yg _ _ _,y.o,lvz M.o (by omega)⟩
 have N:=iJ (M.o.keep B2.o);have aa:(convert 29 29 (.slice (some ⟨j.heap.size,0,none⟩) 1 1)).run prog (j.alloc (.cells #[.int .u8 112] 5))=.ok (.slice (some ⟨j.heap.size,0,none⟩) 1 1) (j.alloc (.cells #[.int .u8 112] 5 (1,2))):=ac j #[.int .u8 112] 1 1 j.heap.size rfl;go_upto_region 6 with(first|(refine cE rfl 31 _ _ rfl (j.heap.size+1+1) _ rfl rfl 31 _ s.o iP rfl (by simp[Value.oneCell']) ?_)|fail)
 rw[<-A.o];clear A s t v y aa;obtain⟨g2,ae⟩:∃g,j.heap.size+1+1=g:=⟨_,rfl⟩;obtain⟨P2,ah⟩:∃k,(pvA j.heap.size (j.heap.size+1) 112)=k:=⟨_,rfl⟩;have Q2:Hid (P2.pg=sL 112):=by rw[<-ah];rfl
 simp only[ae,ah] at E;simp only[ae];clear ae ah;obtain⟨w4,A,s,B3,t,v,y⟩:=lv3 w3 #[.int .u8 109] #[.slice none 0 0,.slice none 0 0,.int .i64 1,.int .i64 0,.slice (some ⟨w3.heap.size,0,none⟩) 1 1,.slice none 0 0,.int .i64 2,.int .i64 0] #[.int .i64 0,.int .i64 0,.slice none 0 0,.slice none 0 0,.int .i64 0] #[.int .i64 2,.int .i64 1,.slice (some ⟨w3.heap.size+1,0,none⟩) 2 2,.slice none 0 0,.int .i64 0];have G:Hid (Lvv wb w4 col colR (w3.heap.size+1+1) (pvI w3.heap.size (w3.heap.size+1))):=⟨λV B=>E6 (B.same t.o (λe=>e (lvz N.o (ai _)))) (B.same v.o (λe=>e (lvz N.o (by omega)))),EB _ _,y.o,lvz N.o (by omega)⟩
 have H4:=iJ (N.o.keep B3.o);have aa:(convert 29 29 (.slice (some ⟨w3.heap.size,0,none⟩) 1 1)).run prog (w3.alloc (.cells #[.int .u8 109] 5))=.ok (.slice (some ⟨w3.heap.size,0,none⟩) 1 1) (w3.alloc (.cells #[.int .u8 109] 5 (1,2))):=ac w3 #[.int .u8 109] 1 1 w3.heap.size rfl;go_upto_region 7 with(first|(refine cE rfl 31 _ _ rfl (w3.heap.size+1+1) _ rfl rfl 31 _ s.o iP rfl (by simp[Value.oneCell']) ?_)|fail)
 rw[<-A.o];clear A s t v y aa;obtain⟨g3,af⟩:∃g,w3.heap.size+1+1=g:=⟨_,rfl⟩;obtain⟨l,aj⟩:∃k,(pvI w3.heap.size (w3.heap.size+1))=k:=⟨_,rfl⟩;have Q3:Hid (l.pg=yo):=by rw[<-aj];rfl
 simp only[af,aj] at G;simp only[af];clear af aj;have R:=iJ ((R.o.keep B2.o).keep B3.o);have E:=iJ (E.o.keep B3.o);clear L M N B2 B3;have d:=iJ (rS w w4 wb b J q H liv0 _ _ _ _ _ none 0 [] Bkk.nil 4294967296 H4.o (by decide) ⟨0,0,0,f⟩ (.inl rfl) R.o.po)
 have m:Hid ((⟨0,0,0,f⟩:Oq).vl=.agg #[.int .i64 0,.int .i64 0,.int .i64 0,.int .i64 f.kind,.int .i64 f.level,.slice f.aI f.items.length f.cI,.slice f.aD f.data.length f.cD,.int .i64 f.next]):=rfl;rw[m.o] at d;obtain⟨U,X,Y,Z,n⟩:=iR R.o.b;go_wp2_with fail
 refine d.o.mono ?_;rintro _ w5 ⟨rfl,S1,D1,aA,aH,aL,aQ,ap,h,p⟩;obtain⟨I,al,av⟩:=ap (by simp)
 subst av;clear ap;have aF:=iJ al;have H5:=iJ h;have E:=iJ (E.o.fx p);have G:=iJ (G.o.fx p);clear al h p d m U X Y Z n;have d:=iJ (rS w w5 wb b J q H (liv0.makeS f.pg I) _ _ _ _ _ none 0 [] Bkk.nil (4294967296+20) H5.o (by decide) ⟨0,0,0,P2⟩ (.inl rfl) E.o.po)
 have m:Hid ((⟨0,0,0,P2⟩:Oq).vl=.agg #[.int .i64 0,.int .i64 0,.int .i64 0,.int .i64 P2.kind,.int .i64 P2.level,.slice P2.aI P2.items.length P2.cI,.slice P2.aD P2.data.length P2.cD,.int .i64 P2.next]):=rfl;rw[m.o] at d;obtain⟨U,X,Y,Z,n⟩:=iR E.o.b;go_wp2_with fail
 refine d.o.mono ?_;rintro _ w6 ⟨rfl,S2,D2,aB,aI,aM,aR,aq,h,p⟩;obtain⟨K,am,aw⟩:=aq (by simp)
 subst aw;clear aq;have aG:=iJ am;have H6:=iJ h;have G:=iJ (G.o.fx p);clear am h p d m U X Y Z n;have d:=iJ (rS w w6 wb b J q H ((liv0.makeS f.pg I).makeS P2.pg K) _ _ _ _ _ none 0 [] Bkk.nil (4294967296+20+20) H6.o (by decide) ⟨0,0,0,l⟩ (.inl rfl) G.o.po)
 have m:Hid ((⟨0,0,0,l⟩:Oq).vl=.agg #[.int .i64 0,.int .i64 0,.int .i64 0,.int .i64 l.kind,.int .i64 l.level,.slice l.aI l.items.length l.cI,.slice l.aD l.data.length l.cD,.int .i64 l.next]):=rfl;rw[m.o] at d;obtain⟨U,X,Y,Z,n⟩:=iR G.o.b;go_wp2_with fail
 refine d.o.mono ?_;rintro _ w7 ⟨rfl,S3,D3,aC,aJ,aN,aS,ar,h,p⟩;obtain⟨T,an,ax⟩:=ar (by simp)
 subst ax;clear ar;have au:=iJ an;have H7:=iJ h;clear an h p d m U X Y Z n;have d:=iJ (Ej w w7 wb b J q H (((liv0.makeS f.pg I).makeS P2.pg K).makeS l.pg T) _ _ _ _ _ none 0 [] Bkk.nil (4294967296+20+20+20) H7.o (by decide) ⟨4,3,0,Pv.zero⟩ rfl)
 have m:Hid ((⟨4,3,0,Pv.zero⟩:Oq).vl=.agg #[.int .i64 4,.int .i64 3,.int .i64 0,.int .i64 0,.int .i64 0,.slice none 0 0,.slice none 0 0,.int .i64 0]):=rfl;rw[m.o] at d;go_wp2_with fail
 refine d.o.mono ?_;rintro _ w8 ⟨rfl,S4,D4,aD,aK,aO,aT,ay,h,p⟩;subst ay;have H8:=iJ h;clear h p d m;have d:=iJ (Eo w w8 wb b J q H (Vs.keepS (((liv0.makeS f.pg I).makeS P2.pg K).makeS l.pg T) 3) _ _ _ _ _ none 0 [] Bkk.nil (4294967296+20+20+20+20) H8.o (by decide) ⟨2,3,0,Pv.zero⟩ rfl)
 have m:Hid ((⟨2,3,0,Pv.zero⟩:Oq).vl=.agg #[.int .i64 2,.int .i64 3,.int .i64 0,.int .i64 0,.int .i64 0,.slice none 0 0,.slice none 0 0,.int .i64 0]):=rfl;rw[m.o] at d;go_wp2_with fail
 refine d.o.mono ?_;rintro _ w9 ⟨rfl,S5,D5,aE,ao,aP,aU,az,h,p⟩;subst az;have O:=iJ h;clear h p d m;have CT:=iJ (xq I K T (au.o.trans Q3.o))
 have CO:Hid ((Vs.shadow (Vs.keepS (((liv0.makeS f.pg I).makeS P2.pg K).makeS l.pg T) 3) 3).2.X.P.count 1=2/\(Vs.shadow (Vs.keepS (((liv0.makeS f.pg I).makeS P2.pg K).makeS l.pg T) 3) 3).2.X.P.count 4=1):=by
  have e:=CT.o;rw[<-Q1.o,<-Q2.o,<-Q3.o] at e;exact e
 have C1:=iJ (Q.mE w9 q _ ao O.o.va.V.pl 1);have C4:=iJ (Q.mE w9 q _ ao O.o.va.V.pl 4);rw[CO.o.1] at C1;rw[CO.o.2] at C4;have v0:=O.o.ws.cells.1;have v1:=O.o.va.V.c0;have AL:=iJ (wC w w9 wb b J q H _ _ _ _ _ _ _ _ _ _ _ O.o (by decide))
 clear CT CO;go_wp2_with fail
 refine C1.o.mono ?_;rintro _ wq ⟨rfl,S⟩;obtain rfl:=S.symm;clear C1 S;go_wp2_with fail
 refine C4.o.mono ?_;rintro _ wq ⟨rfl,S⟩;obtain rfl:=S.symm;clear C4 S;go_wp2_with fail
 refine AL.o.mono ?_;rintro _ wz ⟨rfl,hz,_⟩;have BZ:=iJ hz;clear hz AL;go_wp2_with fail
 go_ret;exact⟨rfl,BZ.o⟩
theorem GD{l:List (Int×Pg)}(h:(jm r C l).1=0){i:Nat}(hi:i<C.length)(g:0<C.getD i 0):((jm r C l).2 ((i:Int)+1)).isSome=true:=by
 by_cases b:Q.js C.length r=false
 . rw[me b] at h;exact absurd h (by decide)
 have b:Q.js C.length r=true:=by simpa using b
 by_cases hb:jL r C=true
 . rw[lY b hb] at h;exact absurd h (by decide)
 have hb:jL r C=false:=by simpa using hb
 by_cases f:(ldG (iU C) (λ_=>none) l).1=0
 . by_cases d:lk C (ldG (iU C) (λ_=>none) l).2=true
   . rw[mZ b hb f d] at h;exact absurd h (by decide)
   . have d:lk C (ldG (iU C) (λ_=>none) l).2=false:=by simpa using d
     rw[ro b hb f d];cases e:((ldG (iU C) (λ_=>none) l).2 ((i:Int)+1)).isSome with
     |true=>rfl
     |false=>rw[uw hi g e] at d;cases d
 . rw[kE b hb f] at h;exact absurd h f
theorem Tw.load{g:Int->Option Pg}{f:Int->Option Pv}(n:(Q.Po.start r C).Ok)(v:∀k,(f k).map Pv.pg=g k)(y:∀k q,f k=some q->q.pg.check=0)(O:∀k,(f k).isSome=true->0<iU C k)(N:∀i,i<C.length->0<C.getD i 0->(g ((i:Int)+1)).isSome=true)(d:PR C g D)(H:D.R=r)(L:D.fl=0)(J:D.hush=false):Tw (ldS r C f) D [] 4294967296:=by
 have E:PV r C g (ldS r C f):=⟨f,rfl,v,y⟩;have rel:=De E d H n
 have st:∀z,D.state z=if D.has z then Q.stt (D.C.getD (z-1).toNat 0,decide (0<D.C.getD (z-1).toNat 0)) else 0:=λz=>by
  unfold Rd.state;by_cases b:D.has z=true
  . rw[if_pos b,if_pos b];have l:=Rd.has_iff.1 b;have j:(z-1).toNat<C.length:=by rw[d.1] at l;omega
    have e:D.lasts z=decide (0<D.C.getD (z-1).toNat 0):=by
     unfold Rd.lasts;rw[d.2.1,d.1];generalize (z-1).toNat=k at j ⊢;simp[j]
    rw[e]
  . rw[if_neg b,if_neg b]
 have t:=Hs n
 have K:∀c:Int,0<=c->Q.stt (c,decide (0<c))≠2:=λc R=>by
  unfold Q.stt;by_cases A:c=0
  . subst A;decide
  . have:0<c:=by omega
    simp[A,this]
 refine⟨⟨⟨rel,λz b=>?_,λz b=>?_⟩,λz b=>?_,AI E,λz=>?_,?_,?_⟩,L.symm,rfl,az _,J,[],dy _ _,rfl,λt Y s I _=>by cases I⟩
 . rw[st z] at b;by_cases h:D.has z=true
   . rw[if_pos h] at b;have l:=Rd.has_iff.1 h;have c0:=(jJ n z).1
     have e:(Q.Po.start r C).count z=D.C.getD (z-1).toNat 0:=by
      rw[kr r C z];unfold iU;rw[d.1] at l ⊢;rw[if_pos l]
     exact absurd b (K _ (by rw[<-e];exact c0))
   . rw[if_neg h] at b;cases b
 . show f z=none;cases e:f z with
   |none=>rfl
   |some q=>
    have p:=O z (by rw[e];rfl)
    rw[st z] at b;unfold iU at p;split at p
    . rename_i h;rw[d.1] at b;rw[if_pos (Rd.has_iff.2 (by rw[d.1];exact h))] at b
      have B:¬C.getD (z-1).toNat 0=0:=by omega
      generalize C.getD (z-1).toNat 0=c at b p B;unfold Q.stt at b;simp[p,B] at b
    . omega
 . have c1:0<iU C z:=by
    rw[d.count z] at b;have:=(jJ n z).1;rw[kr r C z] at this;omega
   have M:1<=z/\z<=C.length:=by
    unfold iU at c1;split at c1
    . assumption
    . omega
   have j:(z-1).toNat<C.length:=by omega
   have c2:0<C.getD (z-1).toNat 0:=by unfold iU at c1;rw[if_pos M] at c1;exact c1
   have m:=N _ j c2;have G:(((z-1).toNat:Nat):Int)+1=z:=by omega
   have e:=d.2.2.2 _ j;rw[G] at e m;show(D.P.getD (z-1).toNat Pv.zero).pg.check=0;rw[e,<-v z];rw[<-v z] at m;cases e2:f z with
   |none=>rw[e2] at m;cases m
   |some q=>exact y z q e2
 . show Smi ((f z).getD Pv.zero);cases e:f z with
   |none=>exact jU (.inr rfl)
   |some q=>exact jU (.inl (y z q e))
 all_goals
  show 0+tot (Q.Po.start r C)<=_;omega
section
variable {U v w w1 w2:World} {b rb pb mb:Nat} {S:Vs} {D:Rd} {pc col colR:Nat->Nat} {M:Nat}
theorem DY(h:Vw w1 b S pb mb pc col)(hb:Below w.heap.size w w1)(y:∀k,col k≠0->w.heap.size<=k)(g:Rn w1 w2 rb D)(p:D.L.length=D.C.length)(t:D.P.length=D.C.length)(n:D.C.length<=65536)(d:D.aA=none/\D.nA=0/\D.cA=0):∃colR,Va w w2 b rb pb mb S D [] pc col colR:=by
 obtain⟨q,low⟩:=g.rq p t n;obtain⟨colR,E⟩:∃c,kQ w1 w2 rb D=c:=⟨_,rfl⟩;rw[E] at q low;have j:Below w1.heap.size w1 w2:=g.b;have B:=hb.size;have l:Ah w2 D [] colR:=⟨by rw[d.1,d.2.2];exact Q.Gw.nil _ _ _,d.2.1,λx i=>(by rw[d.1] at i;cases i),λs A=>absurd A (bm)⟩
 exact⟨colR,h.keep j,⟨q,l⟩,λk f=>by
  by_cases e:colR k=0
  . exact e
  . have m:=low k e;exact absurd (h.z m) f,y,λk f=>aO B (low k f),bt hb j⟩
theorem Va.work(h:Va v w b rb pb mb S D [] pc col colR)(g:Tw S D [] M):Wo v (w.alloc (.cells #[.pointer (some ⟨b,0,none⟩),.pointer (some ⟨rb,0,none⟩),.slice none 0 0,.slice none 0 0,.slice none 0 0] 55)) w.heap.size b rb pb mb S D [] pc col colR none 0 [] Bkk.nil M:=by
 have A:=al w (.cells #[.pointer (some ⟨b,0,none⟩),.pointer (some ⟨rb,0,none⟩),.slice none 0 0,.slice none 0 0,.slice none 0 0] 55);have X:=aH w (.cells #[.pointer (some ⟨b,0,none⟩),.pointer (some ⟨rb,0,none⟩),.slice none 0 0,.slice none 0 0,.slice none 0 0] 55);obtain⟨i,j⟩:=h.z (ai w.heap.size);have s:=h.bl.size;exact⟨h.keep A,⟨X,⟨i,j,s⟩,Q.Gw.nil _ _ _,Q.Gw.nil _ _ _,λy e=>(by cases e),λy e=>(by cases e),λy z e=>(by cases e),λp d=>absurd d (bm),λp d=>absurd d (bm),List.Pairwise.nil,λp d=>absurd d (bm)⟩,Q.Gw.nil _ _ _,λy e=>(by cases e),λk f=>absurd f (bm),λk f=>absurd f (bm),λk f=>absurd f (bm),λp d=>absurd d (bm),g,rfl,az _,az _,λp d=>absurd d (bm)⟩
end
structure Ld(U w:World)(l:List (Int×Pv))(i j:Nat)(aP:Option Addr)(cP:Nat)(P:List (Int×Pv))(aN:Option Addr)(cN:Nat)(N:List (Int×Pv)):Prop where
 b:Below U.heap.size U w
 lp:P.length=i
 ln:N.length=j
 gp:Q.Gw 39 6 w aP cP i (nms P)
 gn:Q.Gw 39 6 w aN cN j (nms N)
 op:∀y,aP=some y->U.heap.size<=y.block
 on:∀y,aN=some y->U.heap.size<=y.block
 ne:∀y z,aP=some y->aN=some z->y.block≠z.block
 pp:∀(t:Nat)(x:Int×Pv),P[t]?=some x->∃y:Int×Pv,l[t]?=some y/\x.1=y.1/\Sp U w y.2 x.2
 nn:∀(t:Nat)(x:Int×Pv),N[t]?=some x->∃y:Int×Pv,l[t]?=some y/\x.1=y.1/\Pn U w x.2/\x.2.pg=y.2.pg
 dp:P.Pairwise (λx y=>Bdj x.2 y.2)
 fp:∀x∈P,∀k,Blk x.2 k->¬Q.InA aP k/\¬Q.InA aN k
 fn:∀x∈N,∀k,Blk x.2 k->¬Q.InA aP k/\¬Q.InA aN k
section
variable {U w w' w1 w2 w3 w5:World} {l:List (Int×Pv)} {i j:Nat} {aP:Option Addr} {cP:Nat} {P:List (Int×Pv)} {aN:Option Addr} {cN:Nat} {N:List (Int×Pv)} {T:Nat->Prop}
theorem Ld.nil(w:World)(l:List (Int×Pv))(hb:Below U.heap.size U w):Ld U w l 0 0 none 0 [] none 0 []:=
 ⟨hb,rfl,rfl,Q.Gw.nil _ _ _,Q.Gw.nil _ _ _,λy e=>(by cases e),λy e=>(by cases e),λy z e=>(by cases e),λt x d=>(by cases d),λt x d=>(by cases d),List.Pairwise.nil,λx d=>absurd d (bm),λx d=>absurd d (bm)⟩
theorem Ld.bp(h:Ld U w l i j aP cP P aN cN N){x:Int×Pv}(f:x∈P){k:Nat}(d:Blk x.2 k):U.heap.size<=k/\k<w.heap.size:=by
 obtain⟨t,e⟩:=e8 f;obtain⟨y,_,_,s⟩:=h.pp t x e;exact s.blk d
theorem Ld.bn(h:Ld U w l i j aP cP P aN cN N){x:Int×Pv}(f:x∈N){k:Nat}(d:Blk x.2 k):k<w.heap.size:=by
 obtain⟨t,e⟩:=e8 f;obtain⟨y,_,_,s,_⟩:=h.nn t x e;exact s.blk_lt d
theorem Ld.but(h:Ld U w l i j aP cP P aN cN N)(hb:But T w w')(g:Below U.heap.size U w')(n:∀y,aP=some y->¬T y.block)(p:∀y,aN=some y->¬T y.block)(q:∀x∈P,∀k,Blk x.2 k->¬T k)(A:∀x∈N,∀k,Blk x.2 k->¬T k):Ld U w' l i j aP cP P aN cN N:=
 ⟨g,h.lp,h.ln,h.gp.but hb n,h.gn.but hb p,h.op,h.on,h.ne,λt x d=>by
   obtain⟨y,e,f,s⟩:=h.pp t x d;exact⟨y,e,f,s.but hb g (q x (bB d))⟩,λt x d=>by
   obtain⟨y,e,f,s,m⟩:=h.nn t x d;exact⟨y,e,f,s.but2 hb (A x (bB d)),m⟩,h.dp,h.fp,h.fn⟩
theorem Ld.keep(h:Ld U w l i j aP cP P aN cN N)(hb:Below w.heap.size w w'):Ld U w' l i j aP cP P aN cN N:=h.but (T:=λ_=>False) (But.ofBelow hb) (bt h.b hb) (λ_ _ e=>e) (λ_ _ e=>e) (λ_ _ _ _ e=>e) (λ_ _ _ _ e=>e)
theorem xE{a:Option Addr}{g:Nat}(d:New w3 a (some ⟨g,0,none⟩)):Q.InA a g\/w3.heap.size<=g:=by
 rcases d ⟨g,0,none⟩ rfl with⟨y,hy,e⟩|h
 . exact .inl ⟨y,hy,e⟩
 . exact .inr h
theorem Ld.pushP(h:Ld U w l i j aP cP P aN cN N)(G:Below w.heap.size w w1){y:Int×Pv}{q:Pv}(Z:l[i]?=some y)(p:Sp w1 w2 y.2 q)(H:Below w2.heap.size w2 w3){g c:Nat}(I:Q.Gw 39 6 w5 (some ⟨g,0,none⟩) c (i+1) (nms P++nmc (y.1,q)))(Y:New w3 aP (some ⟨g,0,none⟩))(n:But (Q.InA aP) w3 w5):
 Ld U w5 l (i+1) j (some ⟨g,0,none⟩) c (P++[(y.1,q)]) aN cN N:=by
 have m:=h.keep (bt (bt G p.b) H);have s1:=G.size;have s2:=p.b.size;have s3:=H.size;have gn:=xE Y;have A:Below U.heap.size U w5:=((But.ofBelow (S:=λ_=>False) m.b).trans n (λk d ⟨z,f,e⟩=>by have:=h.op z f;omega)).below (λ_ _ e=>e)
 have R:Sp U w2 y.2 q:=Sp.pre (bt h.b G) p;have nq:∀k,Blk q k->w1.heap.size<=k/\k<w2.heap.size:=λk d=>p.blk d
 have L:∀{k:Nat},k<w.heap.size->¬Q.InA aP k->¬Q.InA (some (⟨g,0,none⟩:Addr)) k:=λ{k} d hn ⟨z,f,e⟩=>by
  cases f;have e:g=k:=e;rcases gn with gn|gn
  . rw[e] at gn;exact hn gn
  . omega
 have K:∀{k:Nat},Q.InA aP k->k<w.heap.size:=λ⟨z,f,e⟩=>e▸h.gp.lt f
 have ab:∀{k:Nat},Q.InA aN k->k<w.heap.size:=λ⟨z,f,e⟩=>e▸h.gn.lt f
 have ac:∀k,Blk q k->¬Q.InA (some (⟨g,0,none⟩:Addr)) k:=λk d ⟨z,f,e⟩=>by
  cases f;have e:g=k:=e;have:=nq k d;rcases gn with gn|gn
  . have:=K gn;omega
  . omega
 have ll:(P++[(y.1,q)]).length=i+1:=by rw[ae,h.lp];rfl
 have O:Sp U w5 y.2 q:=(R.keep H).but n A (λk d e=>by have:=K e;have:=nq k d;omega)
 refine⟨A,ll,h.ln,?_,m.gn.but n (λz f ⟨x,hx,e⟩=>h.ne x z hx f e),λz f=>?_,h.on,λx z hx f=>?_,λt x hx=>?_,λt x hx=>?_,?_,λx hx k d=>?_,λx hx k d=>?_⟩
 . unfold nms at I ⊢;rw[bP,gS];simpa using I
 . cases f;show U.heap.size<=g;rcases gn with⟨x,hx,e⟩|gn
   . rw[<-e];exact h.op x hx
   . have:=m.b.size;omega
 . cases hx;show g≠z.block;rcases gn with⟨x,hx,e⟩|gn
   . rw[<-e];exact h.ne x z hx f
   . have:=h.gn.lt f;omega
 . by_cases ht:t<i
   . rw[br (by rw[h.lp];exact ht)] at hx
     obtain⟨z,B,E,s⟩:=m.pp t x hx;exact⟨z,B,E,s.but n A (λk d=>(h.fp x (bB hx) k d).1)⟩
   . rw[bg (by rw[h.lp];omega),h.lp] at hx
     have aa:t-i=0:=by
      by_cases e:t-i=0
      . exact e
      . rw[cM (by simp;omega)] at hx;cases hx
     rw[aa] at hx;cases hx;have:t=i:=by omega
     subst this;exact⟨y,Z,rfl,O⟩
 . obtain⟨z,B,E,s,X⟩:=m.nn t x hx;exact⟨z,B,E,s.but2 n (λk d=>(h.fn x (bB hx) k d).1),X⟩
 . refine de.2 ⟨h.dp,dy _ _,λx hx z f k d J=>?_⟩
   rw[aQ.1 f] at J;have:=(h.bp hx d).2;have:=nq k J;omega
 . rcases bq.1 hx with hx|hx
   . exact⟨L (h.bp hx d).2 (h.fp x hx k d).1,(h.fp x hx k d).2⟩
   . rw[aQ.1 hx] at d;exact⟨ac k d,λe=>by have:=ab e;have:=nq k d;omega⟩
 . exact⟨L (h.bn hx d) (h.fn x hx k d).1,(h.fn x hx k d).2⟩
theorem Ld.pushN(h:Ld U w l i j aP cP P aN cN N)(H:Below w.heap.size w w1){y:Int×Pv}{q:Pv}(Y:l[j]?=some y)(E:Pn w1 w2 q)(hp:q.pg=y.2.pg)(I:Below w1.heap.size w1 w2)(B:Below w2.heap.size w2 w3){g c:Nat}(J:Q.Gw 39 6 w5 (some ⟨g,0,none⟩) c (j+1) (nms N++nmc (y.1,q)))(X:New w3 aN (some ⟨g,0,none⟩))(m:But (Q.InA aN) w3 w5):
 Ld U w5 l i (j+1) aP cP P (some ⟨g,0,none⟩) c (N++[(y.1,q)]):=by
 have n:=h.keep (bt (bt H I) B);have s0:=h.b.size;have s1:=H.size;have s2:=I.size;have s3:=B.size;have gn:=xE X;have G:Below U.heap.size U w5:=((But.ofBelow (S:=λ_=>False) n.b).trans m (λk d ⟨z,f,e⟩=>by have:=h.on z f;omega)).below (λ_ _ e=>e)
 have nq:∀k,Blk q k->w1.heap.size<=k/\k<w2.heap.size:=λk d=>⟨E.blk_new d,E.blk_lt d⟩
 have L:∀{k:Nat},k<w.heap.size->¬Q.InA aN k->¬Q.InA (some (⟨g,0,none⟩:Addr)) k:=λ{k} d Z ⟨z,f,e⟩=>by
  cases f;have e:g=k:=e;rcases gn with gn|gn
  . rw[e] at gn;exact Z gn
  . omega
 have K:∀{k:Nat},Q.InA aN k->k<w.heap.size:=λ⟨z,f,e⟩=>e▸h.gn.lt f
 have ab:∀{k:Nat},Q.InA aP k->k<w.heap.size:=λ⟨z,f,e⟩=>e▸h.gp.lt f
 have ac:∀k,Blk q k->¬Q.InA (some (⟨g,0,none⟩:Addr)) k:=λk d ⟨z,f,e⟩=>by
  cases f;have e:g=k:=e;have:=nq k d;rcases gn with gn|gn
  . have:=K gn;omega
  . omega
 have ll:(N++[(y.1,q)]).length=j+1:=by rw[ae,h.ln];rfl
 have O:Pn U w5 q:=((E.pre (by omega:U.heap.size<=w1.heap.size)).keep B).but2 m (λk d e=>by have:=K e;have:=nq k d;omega)
 refine⟨G,h.lp,ll,n.gp.but m (λz f ⟨x,hx,e⟩=>h.ne z x f hx e.symm),?_,h.op,λz f=>?_,λz x f hx=>?_,λt x hx=>?_,λt x hx=>?_,h.dp,λx hx k d=>?_,λx hx k d=>?_⟩
 . unfold nms at J ⊢;rw[bP,gS];simpa using J
 . cases f;show U.heap.size<=g;rcases gn with⟨x,hx,e⟩|gn
   . rw[<-e];exact h.on x hx
   . omega
 . cases hx;show z.block≠g;rcases gn with⟨x,hx,e⟩|gn
   . rw[<-e];exact h.ne z x f hx
   . have:=h.gp.lt f;omega
 . obtain⟨z,p,A,s⟩:=n.pp t x hx;exact⟨z,p,A,s.but m G (λk d=>(h.fp x (bB hx) k d).2)⟩
 . by_cases ht:t<j
   . rw[br (by rw[h.ln];exact ht)] at hx
     obtain⟨z,p,A,s,R⟩:=n.nn t x hx;exact⟨z,p,A,s.but2 m (λk d=>(h.fn x (bB hx) k d).2),R⟩
   . rw[bg (by rw[h.ln];omega),h.ln] at hx
     have aa:t-j=0:=by
      by_cases e:t-j=0
      . exact e
      . rw[cM (by simp;omega)] at hx;cases hx
     rw[aa] at hx;cases hx;have:t=j:=by omega
     subst this;exact⟨y,Y,rfl,O,hp⟩
 . exact⟨(h.fp x hx k d).1,L (h.bp hx d).2 (h.fp x hx k d).2⟩
 . rcases bq.1 hx with hx|hx
   . exact⟨(h.fn x hx k d).1,L (h.bn hx d) (h.fn x hx k d).2⟩
   . rw[aQ.1 hx] at d;exact⟨λe=>by have:=ab e;have:=nq k d;omega,ac k d⟩
end
end Go.Proofs.YtbdkogimlbnlmaaGreat
namespace Go.Proofs.YtbdkogimlbnlmaaGreat
open Go.Proofs.Tryz
section
open Go.ChangeShapes Go.WideShapes Go.ChangeAt Go.RowKit
theorem tO:prog.cellsOf 51=4:=by kernel_rfl
theorem yI:prog.cellsOf 28=1:=by kernel_rfl
theorem py:prog.cellsOf 31=5:=by kernel_rfl
theorem uy:prog.cellsOf 39=6:=by kernel_rfl
theorem qe{H:Type}{enc:TypeId×Value->H}{P:Program}{w:World}{g:Nat}{spare:Nat->Bool}{i:Bool}{t:TypeId}{b d e f:Field}{v:Nat}{cs:List Value}{x:DataW H×List MemPlace}(r:P.underlying t=some (.struct #[b,d,e,f]))(h:DataW.trod enc P w g spare i v t cs=some x):
 ∃k l m p n,x.1=.agg [k.1,l.1,m.1,p.1]/\cs.length=P.cellsOf t/\DataW.trod enc P w g spare i n b.type ((cs.drop b.offset).take (P.cellsOf b.type))=some k/\DataW.trod enc P w g spare i n d.type ((cs.drop d.offset).take (P.cellsOf d.type))=some l/\DataW.trod enc P w g spare i n e.type ((cs.drop e.offset).take (P.cellsOf e.type))=some m/\DataW.trod enc P w g spare i n f.type ((cs.drop f.offset).take (P.cellsOf f.type))=some p:=by
 obtain⟨s,n,_,rfl,q,y,j⟩:=DataW.trod_struct r h;match s,y with
 | [k,l,m,p],_=>exact⟨k,l,m,p,n,by simp,q,by simpa using j 0 b rfl,by simpa using j 1 d rfl,by simpa using j 2 e rfl,by simpa using j 3 f rfl⟩
theorem Ik{α:Type}{l:List α}(h:l.length=4):∃c0 c1 c2 c3,l=[c0,c1,c2,c3]:=by
 match l,h with
 | [c0,c1,c2,c3],_=>exact⟨c0,c1,c2,c3,rfl⟩
theorem vT{H:Type}{enc:TypeId×Value->H}{P:Program}{w:World}{b:Nat}{spare:Nat->Bool}{d:Bool}{t:TypeId}{e f g i j:Field}{A:Nat}{cs:List Value}{x:DataW H×List MemPlace}(v:P.underlying t=some (.struct #[e,f,g,i,j]))(h:DataW.trod enc P w b spare d A t cs=some x):
 ∃l m p q r n,x.1=.agg [l.1,m.1,p.1,q.1,r.1]/\cs.length=P.cellsOf t/\DataW.trod enc P w b spare d n e.type ((cs.drop e.offset).take (P.cellsOf e.type))=some l/\DataW.trod enc P w b spare d n f.type ((cs.drop f.offset).take (P.cellsOf f.type))=some m/\DataW.trod enc P w b spare d n g.type ((cs.drop g.offset).take (P.cellsOf g.type))=some p/\DataW.trod enc P w b spare d n i.type ((cs.drop i.offset).take (P.cellsOf i.type))=some q/\DataW.trod enc P w b spare d n j.type ((cs.drop j.offset).take (P.cellsOf j.type))=some r:=by
 obtain⟨y,n,_,rfl,s,B,k⟩:=DataW.trod_struct v h;match y,B with
 | [l,m,p,q,r],_=>exact⟨l,m,p,q,r,n,by simp,s,by simpa using k 0 e rfl,by simpa using k 1 f rfl,by simpa using k 2 g rfl,by simpa using k 3 i rfl,by simpa using k 4 j rfl⟩
theorem Ij{α:Type}{l:List α}(h:l.length=5):∃c0 c1 c2 c3 c4,l=[c0,c1,c2,c3,c4]:=by
 match l,h with
 | [c0,c1,c2,c3,c4],_=>exact⟨c0,c1,c2,c3,c4,rfl⟩
theorem wh{H:Type}{enc:TypeId×Value->H}{P:Program}{w:World}{g:Nat}{spare:Nat->Bool}{i:Bool}{t:TypeId}{b d:Field}{p:Nat}{cs:List Value}{x:DataW H×List MemPlace}(l:P.underlying t=some (.struct #[b,d]))(h:DataW.trod enc P w g spare i p t cs=some x):
 ∃e f n,x.1=.agg [e.1,f.1]/\cs.length=P.cellsOf t/\DataW.trod enc P w g spare i n b.type ((cs.drop b.offset).take (P.cellsOf b.type))=some e/\DataW.trod enc P w g spare i n d.type ((cs.drop d.offset).take (P.cellsOf d.type))=some f:=by
 obtain⟨m,n,_,rfl,k,q,j⟩:=DataW.trod_struct l h;match m,q with
 | [e,f],_=>exact⟨e,f,n,by simp,k,by simpa using j 0 b rfl,by simpa using j 1 d rfl⟩
theorem Hy{α:Type}{l:List α}(h:l.length=6):∃c0 c1 c2 c3 c4 c5,l=[c0,c1,c2,c3,c4,c5]:=by
 match l,h with
 | [c0,c1,c2,c3,c4,c5],_=>exact⟨c0,c1,c2,c3,c4,c5,rfl⟩
end
section
open Go.ChangeShapes Go.WideShapes Go.ChangeAt Go.RowKit
variable {H:Type} {enc:TypeId×Value->H} {W:World} {fuel:Nat} {cs:List Value} {a:Option Addr} {len cap:Nat} {d:DataW H} {p:List MemPlace}
theorem qu{α:Type}(z:α){t e:TypeId}{c:Nat}{E:α->List Value}{Y:α->Prop}(s:Nat)(O:prog.underlying t=some (.slice e))(J:prog.cellsOf e=c)(c0:0<c)(B:∀v,(E v).length=c)
 (N:∀(fuel:Nat)(cs:List Value)(d:DataW H)(p:List MemPlace),DataW.trod enc prog W 0 (λ_=>true) true fuel e cs=some (d,p)->Rows.uptoBulk d<=1048576->∃v,cs=E v/\s<=Rows.uptoBulk d/\Y v)
 (M:DataW.trod enc prog W 0 (λ_=>true) true fuel t cs=some (d,p)) (K:Rows.uptoBulk d<=1048576):
 ∃(a:Option Addr)(L:List α)(cap:Nat),cs=[.slice a L.length cap]/\L.length<=1048576/\s*L.length<=1048576/\L.length<=cap/\(∀v∈L,Y v)/\(L=[]\/∃b off,a=some ⟨b,off,none⟩/\∀r,r<L.length->∀k u,(E (L.getD r z))[k]?=some u->W.cell? ⟨b,off+r*c+k,none⟩=some u):=by
 rcases Deep.open_slice O M with⟨hcs,_⟩|⟨x,len,cap,m,n,D,Pl,hcs,_,hl,hm,hmm,q,hrows⟩
 . exact⟨none,[],0,hcs,az _,az _,ai _,by simp,.inl rfl⟩
 simp only[Prod.mk.injEq] at q;obtain⟨rfl,_⟩:=q;simp only[if_true] at hmm;subst hmm;simp only[Rows.uptoBulk] at K;have S:=qD ((List.range len).map D);rw[aZ,gA] at S
 have G:∀r,r<len->∃v:α,(∀k u,(E v)[k]?=some u->W.cell? ((x.add (r*c)).add k)=some u)/\s<=Rows.uptoBulk (D r)/\Y v:=by
  intro r f;obtain⟨cs,C,T⟩:=hrows r (by omega)
  have g:=uv (show D r∈(List.range len).map D from bH.2 ⟨r,cw.2 f,rfl⟩)
  obtain⟨v,rfl,g⟩:=N _ _ _ _ T (by omega)
  rw[J] at C;obtain⟨_,_,R⟩:=World.cells?_some C;exact⟨v,λj u i=>(R j (by rw[<-B v];exact(bz.1 i).1)).trans i,g⟩
 have hb:∀l:List Nat,(∀r∈l,r<len)->s*l.length<=Rows.uptoBulkAll (l.map D):=λl=>by
  induction l with
  |nil=>exact λ_=>az _
  |cons r l ih=>
   intro h;obtain⟨_,_,g,_⟩:=G r (h r da);have X:=ih (λx q=>h x (dJ _ q))
   simp only[bL,Rows.uptoBulkAll,bf,Nat.mul_add];omega
 have hb:=hb (List.range len) (λr f=>cw.1 f)
 rw[gA] at hb;haveI:Inhabited α:=⟨z⟩;obtain⟨F,A⟩:=Deep.choose_lt G;have y:((List.range len).map F).length=len:=by simp
 refine⟨some x,(List.range len).map F,_,by rw[y];exact hcs,by omega,by rw[y];omega,by rw[y];exact hl,λv P=>?_,?_⟩
 . obtain⟨r,f,rfl⟩:=bH.1 P;exact(A r (cw.1 f)).2.2
 by_cases I:len=0
 . exact .inl (by simp[I])
 obtain⟨b,off,U⟩:=x
 have V:U=none:=by
  have g:=World.cell?_spot ((A 0 (by omega)).1 0 _ (aR (by rw[B];exact c0)))
  simpa[Addr.add] using g
 subst V;refine .inr ⟨b,off,rfl,λr f k u i=>?_⟩
 rw[y] at f;rw[show((List.range len).map F).getD r z=F r by simp[f]] at i
 have:=(A r f).1 k u i;rwa [Deep.add_add,Addr.add_mid,<-fC] at this
theorem zb(h:DataW.trod enc prog W 0 (λ_=>true) true fuel 51 cs=some (d,p))(y:Rows.uptoBulk d<=1048576):
 ∃r:Iv,cs=r.cs.toList/\1<=Rows.uptoBulk d/\Ii W r/\r.key.length<=140737488355264/\r.val.length<=140737488355264:=by
 obtain⟨b,e,M,N,n,B,A,k,l,m,q⟩:=qe underlying51 h;obtain⟨c0,c1,c2,c3,rfl⟩:=Ik (A.trans tO);simp only[so,mz,fa,gW,gY,fR] at k l m q;obtain⟨O,i,_,C⟩:=DataW.trod_int underlying3 m;obtain⟨P,j,_,D⟩:=DataW.trod_int underlying3 q;obtain rfl:d=.agg [b.1,e.1,M.1,N.1]:=B;simp only[Rows.uptoBulk,Rows.uptoBulkAll] at y ⊢;obtain⟨s,E,K,f,v,R,I,_⟩:=mc (d:=b.1) (p:=b.2) k (.inr (by omega))
 obtain⟨t,G,L,g,x,S,J,_⟩:=mc (d:=e.1) (p:=e.2) l (.inr (by omega))
 simp only[fM,eH] at f g i j;subst f g i j;exact⟨⟨s,K,E,t,L,G,O,P⟩,rfl,by omega,⟨v,I,x,J,n64 C,n64 D⟩,by dsimp only;omega,by dsimp only;omega⟩
theorem sy(h:DataW.trod enc prog W 0 (λ_=>true) true fuel 31 cs=some (d,p))(f:Rows.uptoBulk d<=1048576):
 ∃r:Pv,cs=r.cs.toList/\Pi W r/\Smi r:=by
 obtain⟨y0,y1,i,k,y4,aa,O,K,x,y,A,B,C⟩:=vT underlying31 h;obtain⟨c0,c1,c2,c3,c4,rfl⟩:=Ij (K.trans py);simp only[yI,so,mz,fa,gW,gY,fR] at x y A B C;obtain⟨z0,l,_,P⟩:=DataW.trod_int underlying3 x;obtain⟨z1,m,_,R⟩:=DataW.trod_int underlying3 y;obtain⟨z4,t,_,S⟩:=DataW.trod_int underlying3 C;obtain rfl:d=.agg [y0.1,y1.1,i.1,k.1,y4.1]:=O;simp only[Rows.uptoBulk,Rows.uptoBulkAll] at f;obtain⟨G,L,Y,q,X,_,U,D,n⟩:=qu Iv.zero (E:=λv=>v.cs.toList) 1 underlying28 tO (by decide) (λ_=>rfl) (λ_ _ _ _ h f=>zb h f) (d:=i.1) (p:=i.2) A (by omega)
 obtain⟨I,T,Z,s,J,n3,V,_⟩:=mc (d:=k.1) (p:=k.2) B (.inr (by omega))
 simp only[fM,eH] at l m q s t;subst l m q s t;exact⟨⟨z0,z1,G,Y,L,I,Z,T,z4⟩,rfl,⟨⟨λv g=>(D v g).1,by dsimp only;omega,n.imp id λ⟨b,off,e,h⟩=>⟨b,off,e,λr M j u N=>h r M j u N⟩⟩,U,J,V,n64 P,n64 R,n64 S⟩,⟨by dsimp only;omega,λv g=>(D v g).2⟩,X⟩
end
section
open Go.ChangeShapes Go.WideShapes Go.ChangeAt Go.RowKit
theorem tU:prog.cellsOf 33=8:=by kernel_rfl
theorem Gg{α:Type}{l:List α}(h:l.length=8):∃c0 c1 c2 c3 c4 c5 b c7,l=[c0,c1,c2,c3,c4,c5,b,c7]:=by
 match l,h with
 | [c0,c1,c2,c3,c4,c5,b,c7],_=>exact⟨c0,c1,c2,c3,c4,c5,b,c7,rfl⟩
def Oq.zero:Oq:=⟨0,0,0,Pv.zero⟩
def Opi(W:World)(o:Oq):Prop:=Pi W o.p/\Smi o.p
structure Oss(W:World)(a:Option Addr)(L:List Oq):Prop where
 at':∀r,r<L.length->∃b off,a=some ⟨b,off,none⟩/\∀k u,(L.getD r Oq.zero).cs[k]?=some u->W.cell? ⟨b,off+r*8+k,none⟩=some u
 i:∀o∈L,Opi W o
variable {H:Type} {enc:TypeId×Value->H} {W:World} {fuel:Nat} {cs:List Value} {a:Option Addr} {len cap:Nat} {d:DataW H} {p:List MemPlace}
theorem AE(h:DataW.trod enc prog W 0 (λ_=>true) true fuel 33 cs=some (d,p))(q:Rows.uptoBulk d<=1048576):
 ∃o:Oq,cs=o.cs.toList/\0<=Rows.uptoBulk d/\Opi W o:=by
 obtain⟨x,y,A,b,n,v,s,i,j,k,l⟩:=qe underlying33 h;obtain⟨c0,c1,c2,c3,c4,c5,E,c7,rfl⟩:=Gg (s.trans tU);simp only[mz,py,fa,gW,gY,fR] at i j k l;obtain⟨B,e,_,G⟩:=DataW.trod_int underlying3 i;obtain⟨C,f,_,I⟩:=DataW.trod_int underlying3 j;obtain⟨D,g,_,J⟩:=DataW.trod_int underlying3 k;obtain rfl:d=.agg [x.1,y.1,A.1,b.1]:=v;simp only[Rows.uptoBulk,Rows.uptoBulkAll] at q;obtain⟨r,m,t⟩:=sy (d:=b.1) (p:=b.2) l (by omega)
 simp only[fM,eH] at e f g;subst e f g;exact⟨⟨B,C,D,r⟩,by rw[m];rfl,az _,t⟩
theorem yU(l:DataW.trod enc prog W 0 (λ_=>true) true fuel 22 cs=some (d,p))(g:Rows.uptoBulk d<=1048576):
 ∃(a:Option Addr)(f:List Oq)(cap:Nat),cs=[.slice a f.length cap]/\Oss W a f/\f.length<=1048576:=by
 obtain⟨a,L,q,e,n,_,_,j,m⟩:=qu Oq.zero (E:=λo=>o.cs.toList) 0 underlying22 tU (by decide) (λ_=>rfl) (λ_ _ _ _ h g=>AE h g) l g
 refine⟨a,L,q,e,⟨λr i=>?_,j⟩,n⟩
 rcases m with rfl|⟨b,off,e,h⟩
 . exact absurd i (dQ _)
 exact⟨b,off,e,λk u s=>h r i k u (by rw[<-s];simp)⟩
theorem open_script11(h:DataW.Trod enc prog W 0 (λ_=>true) true 22 (.slice a len cap) d p)(f:Rows.uptoBulk d<=1048576):∃L:List Oq,len=L.length/\Oss W a L/\L.length<=1048576:=by
 obtain⟨fuel,g⟩:=h;obtain⟨i,L,c2,e,b⟩:=yU g f;simp only[Value.cells,fM,eH,bM] at e;obtain⟨rfl,rfl,rfl⟩:=e;exact⟨L,rfl,b⟩
end
end Go.Proofs.YtbdkogimlbnlmaaGreat
namespace Go.Proofs.YtbdkogimlbnlmaaGreat
open Go.Proofs.Tryz
open Go.RowKit
section
variable {T:Nat->Prop} {U v w w':World} {wb b rb pb mb:Nat} {S:Vs} {D:Rd} {H:List Sn} {pc col colR:Nat->Nat} {aW:Option Addr} {cW:Nat} {W:List Wl} {K:Bkk} {M N:Nat}
end
section
variable {T A:Nat->Prop} {U v w w':World} {wb M N:Nat}
theorem Fm{b rb pb mb:Nat}{S:Vs}{D:Rd}{H:List Sn}{pc col colR:Nat->Nat}{p:Pv}(h:Va U w b rb pb mb S D H pc col colR)(i:Pi U p)(j:Smi p):Po2 w col colR p:=by
 refine⟨λV g=>i.keep (((But.ofBelow (S:=λ_=>False) h.bl).trans g (λk l e=>?_)).below (λ_ _ e=>e)),j⟩
 by_cases d:1<=col k/\col k<=5
 . have:=h.vn k (by omega);omega
 . by_cases f:1<=colR k/\colR k<=5
   . have:=h.rn k (by omega);omega
   . exact absurd ⟨d,f⟩ e
end
section
variable {U w w':World} {bS bX bA wb0 wb1:Nat} {vs:Array Value} {A0 A1 A':Nat->Prop} {p0 p1 M N:Nat}
end
def Chr(w:World)(g n:Nat):Prop:=∃cur:Array Value,w.heap[g]?=some (.cells cur 51 (0,0))/\∀t,t<n->∃c:Int,cur[t*4+2]?=some (.int .i64 c)
def Inr(w:World)(g n:Nat):Prop:=∃cur:Array Value,w.heap[g]?=some (.cells cur 3 (0,0))/\n<=cur.size
section
variable {S:Nat->Prop} {U v w w' w9 wx wP:World} {g n m:Nat} {p q:Pv}
theorem Chr.cell(h:Chr w g n){t:Nat}(f:t<n):∃c:Int,w.cell? ⟨g,t*4+2,none⟩=some (.int .i64 c)/\w.frozen? ⟨g,t*4+2,none⟩=false:=by
 obtain⟨i,e,d⟩:=h;obtain⟨c,d⟩:=d t f;exact⟨c,by rw[ay _ _ _ _ _ _ e];exact d,by simp[World.frozen?,e]⟩
theorem Chr.set(h:Chr w g n){k:Nat}(z:Int):Chr (w.setCell ⟨g,k*4+2,none⟩ (.int .i64 z)) g n:=by
 obtain⟨j,f,d⟩:=h;refine⟨j.setIfInBounds (k*4+2) (.int .i64 z),aY _ _ _ _ _ _ f,λt i=>?_⟩
 obtain⟨c,d⟩:=d t i;by_cases e:k*4+2=t*4+2
 . rw[<-e] at d ⊢;exact⟨z,gQ (af.1 d).1⟩
 . exact⟨c,by rw[fs e];exact d⟩
theorem Inr.cell(h:Inr w g n){t:Nat}(i:t<n):(∃u,w.cell? ⟨g,t,none⟩=some u)/\w.frozen? ⟨g,t,none⟩=false:=by
 obtain⟨e,d,f⟩:=h;exact⟨⟨e[t]'(by omega),by rw[ay _ _ _ _ _ _ d];exact Array.getElem?_eq_getElem (by omega)⟩,by simp[World.frozen?,d]⟩
theorem Inr.set(h:Inr w g n){k:Nat}(z:Value):Inr (w.setCell ⟨g,k,none⟩ z) g n:=by
 obtain⟨f,e,d⟩:=h;exact⟨f.setIfInBounds k z,aY _ _ _ _ _ _ e,by simpa using d⟩
theorem Inr.row{f:Nat->Value}(h:w.rowIs g 3 m f)(i:n<=m):Inr w g n:=by
 obtain⟨e,d,j,_⟩:=h;exact⟨e,d,by omega⟩
theorem Sp.chr(h:Sp v w p q):∃g,q.aI=some ⟨g,0,none⟩/\Chr w g q.items.length:=by
 obtain⟨g,D,f,_,d,_⟩:=h.it;refine⟨g,f,?_⟩;rcases d.cases with⟨e,_⟩|⟨g',cur,e,hg,_⟩
 . cases e
 cases e;refine⟨cur,hg,λt i=>?_⟩
 have c:=(d.item4 (k:=t) (by rw[ae];omega)).1.2.2.1
 rw[ay _ _ _ _ _ _ hg] at c;exact⟨_,c⟩
theorem Va.pre{b rb pb mb:Nat}{S:Vs}{D:Rd}{H:List Sn}{pc col colR:Nat->Nat}(h:Va v w b rb pb mb S D H pc col colR)(hb:Below U.heap.size U v):Va U w b rb pb mb S D H pc col colR:=by
 have e:=hb.size;exact⟨h.V,h.R,h.dj,λk d=>aO e (h.vn k d),λk d=>aO e (h.rn k d),bt hb h.bl⟩
structure Sxl(V2 wP w9 wx:World)(l:List (Int×Pv))(i m:Nat)(aP:Option Addr)(cP:Nat)(P:List (Int×Pv)):Prop where
 bt:But (λk=>V2.heap.size<=k/\k<wP.heap.size) w9 wx
 bl:Below V2.heap.size V2 wx
 gp:Q.Gw 39 6 wx aP cP m (nms P)
 pp:∀(t:Nat)(x:Int×Pv),i<=t->P[t]?=some x->∃y:Int×Pv,l[t]?=some y/\x.1=y.1/\Sp V2 wx y.2 x.2
section
variable {V2:World} {l P N:List (Int×Pv)} {i j:Nat} {a aP aN:Option Addr} {cP cN:Nat}
theorem Eh{a:Option Addr}{c:Nat}(h:Q.Gw 39 6 w a c P.length (nms P))(s:∀x∈P,Pi w x.2/\N64 x.1):Nm w a P:=by
 refine⟨λt y=>?_,s⟩
 obtain⟨g,e⟩:=h.addr (by omega)
 have r:=h;rw[e] at r;refine⟨g,0,e,λk u d=>?_⟩
 have f:k<6:=by
  have:=(bz.1 d).1;simpa[nmc,Pv.cs] using this
 rw[bN];exact r.cell (by rw[s8 P t k y f];exact d)
theorem Ld.mem(h:Ld U w l i j aP cP P aN cN N){x:Int×Pv}(k:x∈P):∃y∈l,x.1=y.1/\Sp U w y.2 x.2:=by
 obtain⟨t,f⟩:=e8 k;obtain⟨y,d,e,s⟩:=h.pp t x f;exact⟨y,bB d,e,s⟩
theorem Ld.nmP(h:Ld U w l i j aP cP P aN cN N)(k:∀x∈l,Smi x.2)(f:Nm U a l):Nm w aP P:=by
 have g:=h.gp;rw[<-h.lp] at g;refine Eh g (λx r=>?_)
 obtain⟨y,d,e,s⟩:=h.mem r;exact⟨s.pi (f.p y d).1 (k y d).2,by rw[e];exact(f.p y d).2⟩
theorem Ld.nmN(h:Ld U w l i j aP cP P aN cN N)(r:∀x∈l,Smi x.2)(C:Nm U a l):Nm w aN N:=by
 have g:=h.gn;rw[<-h.ln] at g;refine Eh g (λx E=>?_)
 obtain⟨t,B⟩:=e8 E;obtain⟨y,e,f,s,k⟩:=h.nn t x B;have d:=bB e;exact⟨s.pi (aO (qh (r y d) k).2 (by decide)),by rw[f];exact(C.p y d).2⟩
theorem Ld.same(h:Ld U w l i i aP cP P aN cN N):nmg P=nmg N:=by
 refine dX (λt=>?_)
 unfold nmg;rw[c9,c9];by_cases e:t<i
 . obtain⟨x,f⟩:∃x,P[t]?=some x:=⟨_,aR (by rw[h.lp];exact e)⟩
   obtain⟨z,k⟩:∃z,N[t]?=some z:=⟨_,aR (by rw[h.ln];exact e)⟩
   obtain⟨y,r,B,s⟩:=h.pp t x f;obtain⟨G,d,C,_,E⟩:=h.nn t z k;rw[r] at d;cases d;rw[f,k];show some (x.1,x.2.pg)=some (z.1,z.2.pg);rw[B,C,s.e,E]
 . rw[cM (by rw[h.lp];omega),cM (by rw[h.ln];omega)]
theorem Ld.sx(h:Ld V2 w l i j aP cP P aN cN N)(wP:World):Sxl V2 wP w w l 0 i aP cP P:=⟨But.refl _ _,h.b,h.gp,λt x _ d=>h.pp t x d⟩
theorem Sxl.keep{d:World}(h:Sxl V2 wP w9 d l i m aP cP P)(hb:Below d.heap.size d wx):Sxl V2 wP w9 wx l i m aP cP P:=⟨h.bt.trans (But.ofBelow (S:=λ_=>False) hb) (λ_ _ e=>e.elim),Go.Proofs.YtbdkogimlbnlmaaGreat.bt h.bl hb,h.gp.keep hb,λt x r B=>by
 obtain⟨y,f,k,s⟩:=h.pp t x r B;exact⟨y,f,k,s.keep hb⟩⟩
theorem Sp.u8d(h:Sp v w p q):U8r w q.aD q.data.length:=(h.s.s ⟨q.aD,q.cD,q.data⟩ da).u8
theorem Sp.ned{s r:Nat}(h:Sp v w p q)(t:q.aI=some ⟨s,0,none⟩)(x:q.aD=some ⟨r,0,none⟩):s≠r:=λe=>by
 obtain⟨g,f,B,d,_⟩:=h.chr;rw[t] at f;cases f;obtain⟨gk,C,k,y,_⟩:=h.u8d;rw[x] at k;cases k;rw[e,y] at d;simp only[aE,dU] at d;exact absurd d.2.1 (by decide)
theorem Sxl.next{C:World}(h:Sxl V2 wP w9 C l i m aP cP P){x:Int×Pv}(X:P[i]?=some x)(hb:But (Blk x.2) C wx)(r:∀k,Blk x.2 k->V2.heap.size<=k/\k<wP.heap.size)(O:∀k,Blk x.2 k->¬Q.InA aP k)(L:P.Pairwise (λx y=>Bdj x.2 y.2)):Sxl V2 wP w9 wx l (i+1) m aP cP P:=by
 have d:Below V2.heap.size V2 wx:=((But.ofBelow (S:=λ_=>False) h.bl).trans hb (λk f e=>by have:=r k e;omega)).below (λ_ _ e=>e)
 refine⟨h.bt.trans hb (λk _ e=>r k e),d,h.gp.but hb (λy Y e=>O _ e ⟨y,Y,rfl⟩),λt z Z B=>?_⟩
 obtain⟨y,E,G,s⟩:=h.pp t z (by omega) B
 refine⟨y,E,G,s.but hb d (λk f e=>?_)⟩
 obtain⟨R,I⟩:=bz.1 X;obtain⟨V,J⟩:=bz.1 B;have q:=fq.1 L i t R V (by omega)
 rw[I,J] at q;exact q k e f
end
end
theorem wR{W:World}{b o:Nat}{q:Oq}(h:∀k u,q.cs[k]?=some u->W.cell? ⟨b,o+k,none⟩=some u):W.cell? ⟨b,o,none⟩=some (.int .i64 q.kind)/\W.cell? ⟨b,o+1,none⟩=some (.int .i64 q.n)/\W.cell? ⟨b,o+2,none⟩=some (.int .i64 q.k)/\W.cell? ⟨b,o+3,none⟩=some (.int .i64 q.p.kind)/\W.cell? ⟨b,o+4,none⟩=some (.int .i64 q.p.level)/\W.cell? ⟨b,o+5,none⟩=some (.slice q.p.aI q.p.items.length q.p.cI)/\W.cell? ⟨b,o+6,none⟩=some (.slice q.p.aD q.p.data.length q.p.cD)/\W.cell? ⟨b,o+7,none⟩=some (.int .i64 q.p.next):=
 ⟨h 0 _ rfl,h 1 _ rfl,h 2 _ rfl,h 3 _ rfl,h 4 _ rfl,h 5 _ rfl,h 6 _ rfl,h 7 _ rfl⟩
end Go.Proofs.YtbdkogimlbnlmaaGreat
