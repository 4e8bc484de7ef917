import Derived.Test.YtbdkogimlbnlmaaGreatWtB35
set_option linter.unusedVariables false
set_option linter.unusedSimpArgs false
set_option maxHeartbeats 32000000
set_option maxRecDepth 8000
namespace Go.Proofs.YtbdkogimlbnlmaaGreat
open Go.RowKit
variable {gi gk x:Nat}{V:World}
def pvA(gk gi x:Nat):Pv:=⟨1,0,some ⟨gi,0,none⟩,1,[⟨some ⟨gk,0,none⟩,1,[x],none,0,[],0,0⟩],none,0,[],0⟩
def pvI(gk gi:Nat):Pv:=⟨2,1,some ⟨gi,0,none⟩,2,[⟨none,0,[],none,0,[],1,0⟩,⟨some ⟨gk,0,none⟩,1,[109],none,0,[],2,0⟩],none,0,[],0⟩
theorem mA(V:World)(a:Option Addr):Bs V a []:=⟨λx hx=>absurd hx (bB),by simp,.inl rfl⟩
theorem yZ{t:TypeId}(hx:x<256)(h:V.heap[gk]?=some (.cells #[.int .u8 ((x:Nat):Int)] t (1,2))):Bs V (some ⟨gk,0,none⟩) [x]:=by
 refine⟨λy hy=>by rw[aQ.1 hy];exact hx,by simp,.inr ⟨gk,0,rfl,λi hi=>?_⟩⟩
 have:i=0:=by simp at hi;exact hi
 subst this;rw[au _ _ _ _ _ _ h];rfl
theorem mI:N64 0:=⟨by decide,by decide⟩
theorem xL:N64 1:=⟨by decide,by decide⟩
theorem Ce:N64 2:=⟨by decide,by decide⟩
theorem vQ(hx:x<256)(h1:V.heap[gk]?=some (.cells #[.int .u8 ((x:Nat):Int)] 5 (1,2)))(h2:V.heap[gi]?=some (.cells #[.slice (some ⟨gk,0,none⟩) 1 1,.slice none 0 0,.int .i64 0,.int .i64 0] 51 (0,0))):Pi V (pvA gk gi x):=by
 refine⟨⟨λr hr=>?_,by simp[pvA],.inr ⟨gi,0,rfl,λr hr j u hu=>?_⟩⟩,by simp[pvA],mA _ _,by simp[pvA],xL,mI,mI⟩
 . have:r=⟨some ⟨gk,0,none⟩,1,[x],none,0,[],0,0⟩:=by simpa[pvA] using hr
   subst this;exact⟨yZ hx h1,by simp,mA _ _,by simp,mI,mI⟩
 . have:r=0:=by simp[pvA] at hr;exact hr
   subst this;rw[au _ _ _ _ _ _ h2];match j,hu with
   |0,hu=>exact hu
   |1,hu=>exact hu
   |2,hu=>exact hu
   |3,hu=>exact hu
   |j+4,hu=>simp[pvA,Iv.cs] at hu
theorem CG(h1:V.heap[gk]?=some (.cells #[.int .u8 ((109:Nat):Int)] 5 (1,2)))(h2:V.heap[gi]?=some (.cells #[.slice none 0 0,.slice none 0 0,.int .i64 1,.int .i64 0,.slice (some ⟨gk,0,none⟩) 1 1,.slice none 0 0,.int .i64 2,.int .i64 0] 51 (0,0))):Pi V (pvI gk gi):=by
 refine⟨⟨λr hr=>?_,by simp[pvI],.inr ⟨gi,0,rfl,λr hr j u hu=>?_⟩⟩,by simp[pvI],mA _ _,by simp[pvI],Ce,xL,mI⟩
 . have:r=⟨none,0,[],none,0,[],1,0⟩\/r=⟨some ⟨gk,0,none⟩,1,[109],none,0,[],2,0⟩:=by simpa[pvI] using hr
   rcases this with rfl|rfl
   . exact⟨mA _ _,by simp,mA _ _,by simp,xL,mI⟩
   . exact⟨yZ (by decide) h1,by simp,mA _ _,by simp,Ce,mI⟩
 . have:r=0\/r=1:=by simp[pvI] at hr;omega
   rw[au _ _ _ _ _ _ h2];rcases this with rfl|rfl
   all_goals
    match j,hu with
    |0,hu=>exact hu
    |1,hu=>exact hu
    |2,hu=>exact hu
    |3,hu=>exact hu
    |j+4,hu=>simp[pvI,Iv.cs] at hu
theorem vh(gk gi x:Nat):Smi (pvA gk gi x):=⟨⟨by simp[pvA],λy hy=>by
 have:y=⟨some ⟨gk,0,none⟩,1,[x],none,0,[],0,0⟩:=by simpa[pvA] using hy
 subst this;simp⟩,by simp[pvA]⟩
theorem Cv(gk gi:Nat):Smi (pvI gk gi):=⟨⟨by simp[pvI],λy hy=>by
 have:y=⟨none,0,[],none,0,[],1,0⟩\/y=⟨some ⟨gk,0,none⟩,1,[109],none,0,[],2,0⟩:=by simpa[pvI] using hy
 rcases this with rfl|rfl<;>simp⟩,by simp[pvI]⟩
def clr(wb:Nat)(col colR:Nat->Nat)(k:Nat):Prop:=¬(1<=col k/\col k<=5)/\¬(1<=colR k/\colR k<=5)/\k≠wb
structure Lvv(wb:Nat)(W:World)(col colR:Nat->Nat)(g5:Nat)(P:Pv):Prop where
 z:Pz (clr wb col colR) W P
 s:Smi P
 b:W.heap[g5]?=some (.cells #[.int .i64 P.kind,.int .i64 P.level,.slice P.aI P.items.length P.cI,.slice P.aD P.data.length P.cD,.int .i64 P.next] 31 (0,0))
 c:clr wb col colR g5
section
variable {wb g5:Nat} {W W':World} {col colR col' colR':Nat->Nat} {P:Pv}
theorem Lvv.keep(h:Lvv wb W col colR g5 P)(hb:Below W.heap.size W W'):Lvv wb W' col colR g5 P:=⟨h.z.keep hb,h.s,im h.b hb,h.c⟩
theorem Lvv.po(h:Lvv wb W col colR g5 P):Po2 W col colR P:=⟨h.z.mono (λk _ e=>⟨e.1,e.2.1⟩),h.s⟩
theorem Db{k:Nat}(h:nu wb none Bkk.nil k):k=wb:=by
 rcases h with(h|⟨y,hy,_⟩|⟨y,hy,_⟩)|⟨y,hy,_⟩|⟨p,hp,_⟩
 . exact h
 . cases hy
 . cases hy
 . cases hy
 . cases hp
theorem Lvv.fx(h:Lvv wb W col colR g5 P)(hf:Fx W col colR (nu wb none Bkk.nil) W' col' colR'):Lvv wb W' col' colR' g5 P:=by
 have off:∀k,clr wb col colR k->¬((1<=col k/\col k<=5)\/(1<=colR k/\colR k<=5)\/nu wb none Bkk.nil k):=λk hk e=>by
  rcases e with e|e|e
  . exact hk.1 e
  . exact hk.2.1 e
  . exact hk.2.2 (Db e)
 have hl:=(af.1 h.b).1;refine⟨(h.z.mono (C':=clr wb col' colR') (λk hk e=>?_)).but hf.b (λk hk e=>?_),h.s,hf.b.same h.b (off g5 h.c),?_⟩
 . unfold clr at e ⊢;rw[hf.c k hk,hf.r k hk];exact e
 . unfold clr at e;rw[hf.c k hk,hf.r k hk] at e;exact off k e
 . unfold clr;rw[hf.c g5 hl,hf.r g5 hl];exact h.c
end
theorem lv3(w0:World)(c1 c2 c3 c4:Array Value):∃w1:World,Hid (w1=(((w0.alloc (.cells c1 5 (1,2))).alloc (.cells c2 51)).alloc (.cells c3 31)).setRow (w0.heap.size+1+1) c4)/\Hid ((((w0.alloc (.cells c1 5 (1,2))).alloc (.cells c2 51)).alloc (.cells c3 31)).heap[w0.heap.size+1+1]?=some (.cells c3 31 (0,0)))/\Hid (Below w0.heap.size w0 w1)/\Hid (w1.heap[w0.heap.size]?=some (.cells c1 5 (1,2)))/\Hid (w1.heap[w0.heap.size+1]?=some (.cells c2 51 (0,0)))/\Hid (w1.heap[w0.heap.size+1+1]?=some (.cells c4 31 (0,0))):=by
 have e2:=aH (w0.alloc (.cells c1 5 (1,2))) (.cells c2 51);have e3:=aH ((w0.alloc (.cells c1 5 (1,2))).alloc (.cells c2 51)) (.cells c3 31);rw[size_alloc] at e2;rw[size_alloc,size_alloc] at e3;exact⟨_,rfl,e3,((But.ofBelow (S:=λ_=>False) (bt (bt (al w0 _) (al _ _)) (al _ _))).trans (iZ _ _ _) (λk hk e=>by omega)).below (λ_ _ e=>e),(iZ _ _ _).same (im (im (aH w0 _) (al _ _)) (al _ _)) (by omega),(iZ _ _ _).same (im e2 (al _ _)) (by omega),cY _ _ _ _ _ _ e3⟩
theorem lvz{v w:World}{wb b rb pb mb:Nat}{S:Vs}{D:Rd}{H:List Sn}{pc col colR:Nat->Nat}{aW:Option Addr}{cW:Nat}{W:List Wl}{K:Bkk}{M:Nat}(h:Wo v w wb b rb pb mb S D H pc col colR aW cW W K M){k:Nat}(hk:w.heap.size<=k):clr wb col colR k:=by
 have z:=h.va.z hk;have l:=h.bo.lb;exact⟨by omega,by omega,by omega⟩
theorem kB(w:World):Calls Tryz.prog 8 #[] w λe w'=>e=.returned (.bool true)/\Below w.heap.size w w':=by
 have hcv:∀(W:World)(C:Array Value)(n c g:Nat),W.heap.size=g->(convert 29 29 (.slice (some ⟨g,0,none⟩) n c)).run Tryz.prog (W.alloc (.cells C 5))=.ok (.slice (some ⟨g,0,none⟩) n c) (W.alloc (.cells C 5 (C.size,C.size+1))):=by
  intro W C n c g hg;subst hg;exact Lib.run_convert_bytes_const W 29 5 C n c Tryz.underlying29 Tryz.underlying5
 go_enter Tryz.func8,Tryz.ntmps8;go_wp2_with fail
 refine(qM w 6 3).mono ?_;rintro _ w1 ⟨hb1,⟨hf,_⟩|⟨_,wb,b,rb,pb,mb,D,pc,col,colR,rfl,hw⟩⟩
 . exact absurd hf (by decide)
 have B1:=ig hb1;have H1:Hid (Wo w w1 wb b rb pb mb liv0 D [] pc col colR none 0 [] Bkk.nil 4294967296):=hw;clear hw hb1;go_upto_region 4 with fail
 obtain⟨w2,HE,E3,B1,F1,F2,F3⟩:=lv3 w1 #[.int .u8 97] #[.slice (some ⟨w1.heap.size,0,none⟩) 1 1,.slice none 0 0,.int .i64 0,.int .i64 0] #[.int .i64 0,.int .i64 0,.slice none 0 0,.slice none 0 0,.int .i64 0] #[.int .i64 1,.int .i64 0,.slice (some ⟨w1.heap.size+1,0,none⟩) 1 1,.slice none 0 0,.int .i64 0];have L1:Hid (Lvv wb w2 col colR (w1.heap.size+1+1) (pvA w1.heap.size (w1.heap.size+1) 97)):=⟨λV hV=>vQ (by decide) (hV.same F1.o (λe=>e (lvz H1.o (ai _)))) (hV.same F2.o (λe=>e (lvz H1.o (by omega)))),vh _ _ _,F3.o,lvz H1.o (by omega)⟩
 have H2:=ig (H1.o.keep B1.o);have hc1:(convert 29 29 (.slice (some ⟨w1.heap.size,0,none⟩) 1 1)).run Tryz.prog (w1.alloc (.cells #[.int .u8 97] 5))=.ok (.slice (some ⟨w1.heap.size,0,none⟩) 1 1) (w1.alloc (.cells #[.int .u8 97] 5 (1,2))):=hcv w1 #[.int .u8 97] 1 1 w1.heap.size rfl;go_upto_region 5 with(first|(refine cu rfl 31 _ _ rfl (w1.heap.size+1+1) _ rfl rfl 31 _ E3.o iq rfl (by simp[Value.oneCell']) ?_)|fail)
 rw[<-HE.o];clear HE E3 F1 F2 F3 hc1;obtain⟨g1,hg1⟩:∃g,w1.heap.size+1+1=g:=⟨_,rfl⟩;obtain⟨P1,hp1⟩:∃k,(pvA w1.heap.size (w1.heap.size+1) 97)=k:=⟨_,rfl⟩;have Q1:Hid (P1.pg=rF 97):=by rw[<-hp1];rfl
 simp only[hg1,hp1] at L1;simp only[hg1];clear hg1 hp1;obtain⟨w3,HE,E3,B2,F1,F2,F3⟩:=lv3 w2 #[.int .u8 112] #[.slice (some ⟨w2.heap.size,0,none⟩) 1 1,.slice none 0 0,.int .i64 0,.int .i64 0] #[.int .i64 0,.int .i64 0,.slice none 0 0,.slice none 0 0,.int .i64 0] #[.int .i64 1,.int .i64 0,.slice (some ⟨w2.heap.size+1,0,none⟩) 1 1,.slice none 0 0,.int .i64 0];have L2:Hid (Lvv wb w3 col colR (w2.heap.size+1+1) (pvA w2.heap.size (w2.heap.size+1) 112)):=⟨λV hV=>vQ (by decide) (hV.same F1.o (λe=>e (lvz H2.o (ai _)))) (hV.same F2.o (λe=>e (lvz H2.o (by omega)))),vh _ _ _,F3.o,lvz H2.o (by omega)⟩
 have H3:=ig (H2.o.keep B2.o);have hc1:(convert 29 29 (.slice (some ⟨w2.heap.size,0,none⟩) 1 1)).run Tryz.prog (w2.alloc (.cells #[.int .u8 112] 5))=.ok (.slice (some ⟨w2.heap.size,0,none⟩) 1 1) (w2.alloc (.cells #[.int .u8 112] 5 (1,2))):=hcv w2 #[.int .u8 112] 1 1 w2.heap.size rfl;go_upto_region 6 with(first|(refine cu rfl 31 _ _ rfl (w2.heap.size+1+1) _ rfl rfl 31 _ E3.o iq rfl (by simp[Value.oneCell']) ?_)|fail)
 rw[<-HE.o];clear HE E3 F1 F2 F3 hc1;obtain⟨g2,hg2⟩:∃g,w2.heap.size+1+1=g:=⟨_,rfl⟩;obtain⟨P2,hp2⟩:∃k,(pvA w2.heap.size (w2.heap.size+1) 112)=k:=⟨_,rfl⟩;have Q2:Hid (P2.pg=rF 112):=by rw[<-hp2];rfl
 simp only[hg2,hp2] at L2;simp only[hg2];clear hg2 hp2;obtain⟨w4,HE,E3,B3,F1,F2,F3⟩:=lv3 w3 #[.int .u8 109] #[.slice none 0 0,.slice none 0 0,.int .i64 1,.int .i64 0,.slice (some ⟨w3.heap.size,0,none⟩) 1 1,.slice none 0 0,.int .i64 2,.int .i64 0] #[.int .i64 0,.int .i64 0,.slice none 0 0,.slice none 0 0,.int .i64 0] #[.int .i64 2,.int .i64 1,.slice (some ⟨w3.heap.size+1,0,none⟩) 2 2,.slice none 0 0,.int .i64 0];have L3:Hid (Lvv wb w4 col colR (w3.heap.size+1+1) (pvI w3.heap.size (w3.heap.size+1))):=⟨λV hV=>CG (hV.same F1.o (λe=>e (lvz H3.o (ai _)))) (hV.same F2.o (λe=>e (lvz H3.o (by omega)))),Cv _ _,F3.o,lvz H3.o (by omega)⟩
 have H4:=ig (H3.o.keep B3.o);have hc1:(convert 29 29 (.slice (some ⟨w3.heap.size,0,none⟩) 1 1)).run Tryz.prog (w3.alloc (.cells #[.int .u8 109] 5))=.ok (.slice (some ⟨w3.heap.size,0,none⟩) 1 1) (w3.alloc (.cells #[.int .u8 109] 5 (1,2))):=hcv w3 #[.int .u8 109] 1 1 w3.heap.size rfl;go_upto_region 7 with(first|(refine cu rfl 31 _ _ rfl (w3.heap.size+1+1) _ rfl rfl 31 _ E3.o iq rfl (by simp[Value.oneCell']) ?_)|fail)
 rw[<-HE.o];clear HE E3 F1 F2 F3 hc1;obtain⟨g3,hg3⟩:∃g,w3.heap.size+1+1=g:=⟨_,rfl⟩;obtain⟨P3,hp3⟩:∃k,(pvI w3.heap.size (w3.heap.size+1))=k:=⟨_,rfl⟩;have Q3:Hid (P3.pg=wR):=by rw[<-hp3];rfl
 simp only[hg3,hp3] at L3;simp only[hg3];clear hg3 hp3;have L1:=ig ((L1.o.keep B2.o).keep B3.o);have L2:=ig (L2.o.keep B3.o);clear H1 H2 H3 B2 B3;have DO:=ig (qD w w4 wb b rb pb mb liv0 _ _ _ _ _ none 0 [] Bkk.nil 4294967296 H4.o (by decide) ⟨0,0,0,P1⟩ (.inl rfl) L1.o.po)
 have OV:Hid ((⟨0,0,0,P1⟩:Oq).vl=.agg #[.int .i64 0,.int .i64 0,.int .i64 0,.int .i64 P1.kind,.int .i64 P1.level,.slice P1.aI P1.items.length P1.cI,.slice P1.aD P1.data.length P1.cD,.int .i64 P1.next]):=rfl;rw[OV.o] at DO;obtain⟨x0,x1,x2,x3,x4⟩:=iu L1.o.b;go_wp2_with fail
 refine DO.o.mono ?_;rintro _ w5 ⟨rfl,S1,D1,Hs1,pc1,col1,colR1,hQQ1,hw,hf⟩;obtain⟨q1,hq1,hS1⟩:=hQQ1 (by simp)
 subst hS1;clear hQQ1;have QQ1:=ig hq1;have H5:=ig hw;have L2:=ig (L2.o.fx hf);have L3:=ig (L3.o.fx hf);clear hq1 hw hf DO OV x0 x1 x2 x3 x4;have DO:=ig (qD w w5 wb b rb pb mb (liv0.makeS P1.pg q1) _ _ _ _ _ none 0 [] Bkk.nil (4294967296+20) H5.o (by decide) ⟨0,0,0,P2⟩ (.inl rfl) L2.o.po)
 have OV:Hid ((⟨0,0,0,P2⟩:Oq).vl=.agg #[.int .i64 0,.int .i64 0,.int .i64 0,.int .i64 P2.kind,.int .i64 P2.level,.slice P2.aI P2.items.length P2.cI,.slice P2.aD P2.data.length P2.cD,.int .i64 P2.next]):=rfl;rw[OV.o] at DO;obtain⟨x0,x1,x2,x3,x4⟩:=iu L2.o.b;go_wp2_with fail
 refine DO.o.mono ?_;rintro _ w6 ⟨rfl,S2,D2,Hs2,pc2,col2,colR2,hQQ2,hw,hf⟩;obtain⟨q2,hq2,hS2⟩:=hQQ2 (by simp)
 subst hS2;clear hQQ2;have QQ2:=ig hq2;have H6:=ig hw;have L3:=ig (L3.o.fx hf);clear hq2 hw hf DO OV x0 x1 x2 x3 x4;have DO:=ig (qD w w6 wb b rb pb mb ((liv0.makeS P1.pg q1).makeS P2.pg q2) _ _ _ _ _ none 0 [] Bkk.nil (4294967296+20+20) H6.o (by decide) ⟨0,0,0,P3⟩ (.inl rfl) L3.o.po)
 have OV:Hid ((⟨0,0,0,P3⟩:Oq).vl=.agg #[.int .i64 0,.int .i64 0,.int .i64 0,.int .i64 P3.kind,.int .i64 P3.level,.slice P3.aI P3.items.length P3.cI,.slice P3.aD P3.data.length P3.cD,.int .i64 P3.next]):=rfl;rw[OV.o] at DO;obtain⟨x0,x1,x2,x3,x4⟩:=iu L3.o.b;go_wp2_with fail
 refine DO.o.mono ?_;rintro _ w7 ⟨rfl,S3,D3,Hs3,pc3,col3,colR3,hQQ3,hw,hf⟩;obtain⟨q3,hq3,hS3⟩:=hQQ3 (by simp)
 subst hS3;clear hQQ3;have QQ3:=ig hq3;have H7:=ig hw;clear hq3 hw hf DO OV x0 x1 x2 x3 x4;have DO:=ig (Cd w w7 wb b rb pb mb (((liv0.makeS P1.pg q1).makeS P2.pg q2).makeS P3.pg q3) _ _ _ _ _ none 0 [] Bkk.nil (4294967296+20+20+20) H7.o (by decide) ⟨4,3,0,Pv.zero⟩ rfl)
 have OV:Hid ((⟨4,3,0,Pv.zero⟩:Oq).vl=.agg #[.int .i64 4,.int .i64 3,.int .i64 0,.int .i64 0,.int .i64 0,.slice none 0 0,.slice none 0 0,.int .i64 0]):=rfl;rw[OV.o] at DO;go_wp2_with fail
 refine DO.o.mono ?_;rintro _ w8 ⟨rfl,S4,D4,Hs4,pc4,col4,colR4,hS4,hw,hf⟩;subst hS4;have H8:=ig hw;clear hw hf DO OV;have DO:=ig (Cg w w8 wb b rb pb mb (Vs.keepS (((liv0.makeS P1.pg q1).makeS P2.pg q2).makeS P3.pg q3) 3) _ _ _ _ _ none 0 [] Bkk.nil (4294967296+20+20+20+20) H8.o (by decide) ⟨2,3,0,Pv.zero⟩ rfl)
 have OV:Hid ((⟨2,3,0,Pv.zero⟩:Oq).vl=.agg #[.int .i64 2,.int .i64 3,.int .i64 0,.int .i64 0,.int .i64 0,.slice none 0 0,.slice none 0 0,.int .i64 0]):=rfl;rw[OV.o] at DO;go_wp2_with fail
 refine DO.o.mono ?_;rintro _ w9 ⟨rfl,S5,D5,Hs5,pc5,col5,colR5,hS5,hw,hf⟩;subst hS5;have H9:=ig hw;clear hw hf DO OV;have CT:=ig (uQ q1 q2 q3 (QQ3.o.trans Q3.o))
 have CO:Hid ((Vs.shadow (Vs.keepS (((liv0.makeS P1.pg q1).makeS P2.pg q2).makeS P3.pg q3) 3) 3).2.X.P.count 1=2/\(Vs.shadow (Vs.keepS (((liv0.makeS P1.pg q1).makeS P2.pg q2).makeS P3.pg q3) 3) 3).2.X.P.count 4=1):=by
  have e:=CT.o;rw[<-Q1.o,<-Q2.o,<-Q3.o] at e;exact e
 have C1:=ig (Q.lz w9 pb _ pc5 H9.o.va.V.pl 1);have C4:=ig (Q.lz w9 pb _ pc5 H9.o.va.V.pl 4);rw[CO.o.1] at C1;rw[CO.o.2] at C4;have v0:=H9.o.ws.cells.1;have v1:=H9.o.va.V.c0;have AL:=ig (tV w w9 wb b rb pb mb _ _ _ _ _ _ _ _ _ _ _ H9.o (by decide))
 clear CT CO;go_wp2_with fail
 refine C1.o.mono ?_;rintro _ wq ⟨rfl,hq⟩;obtain rfl:=hq.symm;clear C1 hq;go_wp2_with fail
 refine C4.o.mono ?_;rintro _ wq ⟨rfl,hq⟩;obtain rfl:=hq.symm;clear C4 hq;go_wp2_with fail
 refine AL.o.mono ?_;rintro _ wz ⟨rfl,hz,_⟩;have BZ:=ig hz;clear hz AL;go_wp2_with fail
 go_ret;exact⟨rfl,BZ.o⟩
end Go.Proofs.YtbdkogimlbnlmaaGreat
namespace Go.Proofs.YtbdkogimlbnlmaaGreat
section
open Go.ChangeShapes Go.WideShapes Go.ChangeAt Go.RowKit
theorem oS:Tryz.prog.cellsOf 51=4:=by kernel_rfl
theorem qO:Tryz.prog.cellsOf 28=1:=by kernel_rfl
theorem sc:Tryz.prog.cellsOf 31=5:=by kernel_rfl
theorem oM{H:Type}{enc:TypeId×Value->H}{P:Program}{w:World}{base:Nat}{spare:Nat->Bool}{held:Bool}{t:TypeId}{f0 f1 f2 f3:Field}{fuel:Nat}{cs:List Value}{x:DataW H×List MemPlace}(ht:P.underlying t=some (.struct #[f0,f1,f2,f3]))(h:DataW.trod enc P w base spare held fuel t cs=some x):
 ∃y0 y1 y2 y3 n,x.1=.agg [y0.1,y1.1,y2.1,y3.1]/\cs.length=P.cellsOf t/\DataW.trod enc P w base spare held n f0.type ((cs.drop f0.offset).take (P.cellsOf f0.type))=some y0/\DataW.trod enc P w base spare held n f1.type ((cs.drop f1.offset).take (P.cellsOf f1.type))=some y1/\DataW.trod enc P w base spare held n f2.type ((cs.drop f2.offset).take (P.cellsOf f2.type))=some y2/\DataW.trod enc P w base spare held n f3.type ((cs.drop f3.offset).take (P.cellsOf f3.type))=some y3:=by
 obtain⟨xs,n,_,rfl,hl,hlen,hf⟩:=DataW.trod_struct ht h;match xs,hlen with
 | [y0,y1,y2,y3],_=>exact⟨y0,y1,y2,y3,n,by simp,hl,by simpa using hf 0 f0 rfl,by simpa using hf 1 f1 rfl,by simpa using hf 2 f2 rfl,by simpa using hf 3 f3 rfl⟩
theorem Fv{α:Type}{l:List α}(h:l.length=4):∃c0 c1 c2 c3,l=[c0,c1,c2,c3]:=by
 match l,h with
 | [c0,c1,c2,c3],_=>exact⟨c0,c1,c2,c3,rfl⟩
theorem nQ{H:Type}{enc:TypeId×Value->H}{P:Program}{w:World}{base:Nat}{spare:Nat->Bool}{held:Bool}{t:TypeId}{f0 f1 f2 f3 f4:Field}{fuel:Nat}{cs:List Value}{x:DataW H×List MemPlace}(ht:P.underlying t=some (.struct #[f0,f1,f2,f3,f4]))(h:DataW.trod enc P w base spare held fuel t cs=some x):
 ∃y0 y1 y2 y3 y4 n,x.1=.agg [y0.1,y1.1,y2.1,y3.1,y4.1]/\cs.length=P.cellsOf t/\DataW.trod enc P w base spare held n f0.type ((cs.drop f0.offset).take (P.cellsOf f0.type))=some y0/\DataW.trod enc P w base spare held n f1.type ((cs.drop f1.offset).take (P.cellsOf f1.type))=some y1/\DataW.trod enc P w base spare held n f2.type ((cs.drop f2.offset).take (P.cellsOf f2.type))=some y2/\DataW.trod enc P w base spare held n f3.type ((cs.drop f3.offset).take (P.cellsOf f3.type))=some y3/\DataW.trod enc P w base spare held n f4.type ((cs.drop f4.offset).take (P.cellsOf f4.type))=some y4:=by
 obtain⟨xs,n,_,rfl,hl,hlen,hf⟩:=DataW.trod_struct ht h;match xs,hlen with
 | [y0,y1,y2,y3,y4],_=>exact⟨y0,y1,y2,y3,y4,n,by simp,hl,by simpa using hf 0 f0 rfl,by simpa using hf 1 f1 rfl,by simpa using hf 2 f2 rfl,by simpa using hf 3 f3 rfl,by simpa using hf 4 f4 rfl⟩
theorem FC{α:Type}{l:List α}(h:l.length=5):∃c0 c1 c2 c3 c4,l=[c0,c1,c2,c3,c4]:=by
 match l,h with
 | [c0,c1,c2,c3,c4],_=>exact⟨c0,c1,c2,c3,c4,rfl⟩
theorem ym:Tryz.prog.bytesOf 51=64:=by kernel_rfl
theorem qH{H:Type}{enc:TypeId×Value->H}{W:World}{fuel:Nat}{cs:List Value}{d:DataW H}{p:List MemPlace}
 (h:DataW.trod enc Tryz.prog W 0 (λ_=>true) true fuel 51 cs=some (d,p)) (hd:nm 51 d):
 ∃r:Iv,cs=r.cs.toList/\Ii W r/\r.key.length<=140737488355264/\r.val.length<=140737488355264:=by
 obtain⟨y0,y1,y2,y3,n,hx,hl,h0,h1,h2,h3⟩:=oM Tryz.underlying51 h;obtain⟨c0,c1,c2,c3,rfl⟩:=Fv (hl.trans oS);simp only[qi,pU,fD,List.drop_succ_cons,List.take_succ_cons,fR] at h0 h1 h2 h3;obtain⟨z2,e2,_,k2⟩:=DataW.trod_int Tryz.underlying3 h2;obtain⟨z3,e3,_,k3⟩:=DataW.trod_int Tryz.underlying3 h3;have hd':d=.agg [y0.1,y1.1,y2.1,y3.1]:=hx
 have w0:nm 29 y0.1:=by
  rcases hd with hd|hd
  . refine .inl λx hx=>hd x ?_
    rw[hd'];simp only[DataW.weights,Tryz.underlying51,bC,cZ,DataW.weightsEach,bm];simp[hx]
  . refine .inr ?_;rw[hd'] at hd;simp only[Rows.uptoBulk,Rows.uptoBulkAll] at hd;omega
 have w1:nm 29 y1.1:=by
  rcases hd with hd|hd
  . refine .inl λx hx=>hd x ?_
    rw[hd'];simp only[DataW.weights,Tryz.underlying51,bC,cZ,DataW.weightsEach,bm];simp[hx]
  . refine .inr ?_;rw[hd'] at hd;simp only[Rows.uptoBulk,Rows.uptoBulkAll] at hd;omega
 obtain⟨a0,l0,q0,e0,b0,n0,m0,_⟩:=kS (d:=y0.1) (p:=y0.2) h0 w0;obtain⟨a1,l1,q1,e1,b1,n1,m1,_⟩:=kS (d:=y1.1) (p:=y1.2) h1 w1;simp only[ed,dL] at e0 e1 e2 e3;subst e0 e1 e2 e3;exact⟨⟨a0,q0,l0,a1,q1,l1,z2,z3⟩,rfl,⟨b0,m0,b1,m1,n64 k2,n64 k3⟩,by dsimp only;omega,by dsimp only;omega⟩
set_option maxRecDepth 100000 in
theorem uU{H:Type}{enc:TypeId×Value->H}{W:World}{fuel:Nat}{cs:List Value}{d:DataW H}{p:List MemPlace}
 (hf:DataW.trod enc Tryz.prog W 0 (λ_=>true) true fuel 28 cs=some (d,p)) (hd:nm 28 d):
 ∃(a:Option Addr)(L:List Iv)(cap:Nat),cs=[.slice a L.length cap]/\Js W a L/\L.length<=2199023255488/\L.length<=cap/\∀r∈L,r.key.length<=140737488355264/\r.val.length<=140737488355264:=by
 rcases Deep.open_slice Tryz.underlying28 hf with⟨hcs,_⟩|⟨x,len,cap,m,n,D,Pl,hcs,_,hl,hm,hmm,hx,hrows⟩
 . exact⟨none,[],0,hcs,⟨by simp,by simp,.inl rfl⟩,by simp,ai _,by simp⟩
 . simp only[fs] at hx;obtain⟨rfl,_⟩:=hx;simp only[if_true] at hmm;subst hmm
   have hlen:len<=2199023255488:=by
    rcases hd with hd|hd
    . have h2:=hd _ (by simp only[DataW.weights,Tryz.underlying28,bT];exact .inl rfl)
      rw[a7,eJ,ym] at h2;unfold reachBytes at h2;omega
    . simp only[Rows.uptoBulk] at hd;have h1:=jX ((List.range len).map D);rw[a7,eJ] at h1;omega
   by_cases h0:len=0
   . subst h0;exact⟨some x,[],m,hcs,⟨by simp,by simp,.inl rfl⟩,by simp,aF _,by simp⟩
   . have hmemD:∀r,r<len->D r∈(List.range len).map D:=λr hr=>bG.2 ⟨r,cQ.2 hr,rfl⟩
     have hbD:∀r,r<len->nm 51 (D r):=λr hr=>by
      rcases hd with hd|hd
      . refine .inl λx hx=>hd x ?_
        simp only[DataW.weights,Tryz.underlying28,bT,bm];exact .inr (.inl (mq (hmemD r hr) x hx))
      . have h1:=qf (hmemD r hr);simp only[Rows.uptoBulk] at hd;exact .inr (by omega)
     obtain⟨b,off,spot⟩:=x
     have hspot:spot=none:=by
      obtain⟨cs,hc,ht⟩:=hrows 0 (by omega)
      obtain⟨f,rfl,_⟩:=qH ht (hbD 0 (by omega))
      generalize hk:(0:Nat)=k0 at hc;rw[oS] at hc;obtain⟨_,_,hce⟩:=gG hc;have e0:=(hce 0 (by decide)).trans (show f.cs.toList[0]?=some (.slice f.aK f.key.length f.cK) from rfl)
      have hs0:=gN e0;subst hk;simpa[Addr.add] using hs0
     subst hspot
     have each:∀r,r<len->∃v:Iv,W.rangeAt b (off+r*4) v.cs.toList/\Ii W v/\v.key.length<=140737488355264/\v.val.length<=140737488355264:=by
      intro r hr;obtain⟨cs,hc,ht⟩:=hrows r (by omega)
      obtain⟨v,rfl,h1⟩:=qH ht (hbD r hr);rw[oS] at hc;obtain⟨_,_,hce⟩:=gG hc;refine⟨v,λj u hu=>?_,h1⟩
      have hj:j<4:=(bz.1 hu).1;have h:=hce j hj;rw[Deep.add_add,Addr.add_mid,<-eU] at h;exact h.trans hu
     haveI:Inhabited Iv:=⟨Iv.zero⟩;obtain⟨F,hF⟩:=Deep.choose_lt each;have hget:∀r,r<len->((List.range len).map F).getD r Iv.zero=F r:=λr hr=>by simp[hr]
     have hlenL:((List.range len).map F).length=len:=by simp
     refine⟨some ⟨b,off,none⟩,(List.range len).map F,m,by rw[hlenL];exact hcs,⟨λv hv=>?_,by rw[hlenL];omega,.inr ⟨b,off,rfl,λr hr=>?_⟩⟩,by rw[hlenL];exact hlen,by rw[hlenL];exact hl,λv hv=>?_⟩
     . obtain⟨r,hr,rfl⟩:=bG.1 hv;exact(hF r (cQ.1 hr)).2.1
     . rw[hlenL] at hr;rw[hget r hr];exact(hF r hr).1
     . obtain⟨r,hr,rfl⟩:=bG.1 hv;exact(hF r (cQ.1 hr)).2.2
theorem wF{H:Type}{enc:TypeId×Value->H}{W:World}{fuel:Nat}{cs:List Value}{d:DataW H}{p:List MemPlace}
 (h:DataW.trod enc Tryz.prog W 0 (λ_=>true) true fuel 31 cs=some (d,p)) (hd:nm 31 d):
 ∃r:Pv,cs=r.cs.toList/\Pi W r/\r.data.length<=140737488355264/\r.items.length<=2199023255488/\∀x∈r.items,x.key.length<=140737488355264/\x.val.length<=140737488355264:=by
 obtain⟨y0,y1,y2,y3,y4,n,hx,hl,h0,h1,h2,h3,h4⟩:=nQ Tryz.underlying31 h;obtain⟨c0,c1,c2,c3,c4,rfl⟩:=FC (hl.trans sc);simp only[qi,pU,qO,fD,List.drop_succ_cons,List.take_succ_cons,fR] at h0 h1 h2 h3 h4;obtain⟨z0,e0,_,k0⟩:=DataW.trod_int Tryz.underlying3 h0;obtain⟨z1,e1,_,k1⟩:=DataW.trod_int Tryz.underlying3 h1;obtain⟨z4,e4,_,k4⟩:=DataW.trod_int Tryz.underlying3 h4;have hd':d=.agg [y0.1,y1.1,y2.1,y3.1,y4.1]:=hx
 have w2:nm 28 y2.1:=by
  rcases hd with hd|hd
  . refine .inl λx hx=>hd x ?_
    rw[hd'];simp only[DataW.weights,Tryz.underlying31,bC,cZ,DataW.weightsEach,bm];simp[hx]
  . refine .inr ?_;rw[hd'] at hd;simp only[Rows.uptoBulk,Rows.uptoBulkAll] at hd;omega
 have w3:nm 29 y3.1:=by
  rcases hd with hd|hd
  . refine .inl λx hx=>hd x ?_
    rw[hd'];simp only[DataW.weights,Tryz.underlying31,bC,cZ,DataW.weightsEach,bm];simp[hx]
  . refine .inr ?_;rw[hd'] at hd;simp only[Rows.uptoBulk,Rows.uptoBulkAll] at hd;omega
 obtain⟨a2,l2,q2,e2,b2,n2,m2,s2⟩:=uU (d:=y2.1) (p:=y2.2) h2 w2;obtain⟨a3,l3,q3,e3,b3,n3,m3,_⟩:=kS (d:=y3.1) (p:=y3.2) h3 w3;simp only[ed,dL] at e0 e1 e2 e3 e4;subst e0 e1 e2 e3 e4;exact⟨⟨z0,z1,a2,q2,l2,a3,q3,l3,z4⟩,rfl,⟨b2,m2,b3,m3,n64 k0,n64 k1,n64 k4⟩,by dsimp only;omega,n2,s2⟩
end
section
open Go.ChangeShapes Go.WideShapes Go.ChangeAt Go.RowKit
theorem oK:Tryz.prog.cellsOf 33=8:=by kernel_rfl
theorem Ei{α:Type}{l:List α}(h:l.length=8):∃c0 c1 c2 c3 c4 c5 c6 c7,l=[c0,c1,c2,c3,c4,c5,c6,c7]:=by
 match l,h with
 | [c0,c1,c2,c3,c4,c5,c6,c7],_=>exact⟨c0,c1,c2,c3,c4,c5,c6,c7,rfl⟩
def Oq.zero:Oq:=⟨0,0,0,Pv.zero⟩
def Opi(W:World)(o:Oq):Prop:=Pi W o.p/\Smi o.p
structure Oss(W:World)(a:Option Addr)(L:List Oq):Prop where
 at':∀r,r<L.length->∃b off,a=some ⟨b,off,none⟩/\∀k u,(L.getD r Oq.zero).cs[k]?=some u->W.cell? ⟨b,off+r*8+k,none⟩=some u
 i:∀o∈L,Opi W o
theorem zd{H:Type}{enc:TypeId×Value->H}{W:World}{fuel:Nat}{a:Option Addr}{len cap:Nat}{d:DataW H}{p:List MemPlace}
 (hf:DataW.trod enc Tryz.prog W 0 (λ_=>true) true fuel 28 [.slice a len cap]=some (d,p)) (hd:Rows.uptoBulk d<=1048576):len<=1048576:=by
 rcases Deep.open_slice Tryz.underlying28 hf with⟨hcs,_⟩|⟨x,l2,c2,m,n',D,Pl,hcs,_,hl,hm,hmm,hx,hrows⟩
 . simp only[ed,dL,bE] at hcs;omega
 . simp only[ed,dL,bE] at hcs;simp only[fs] at hx;obtain⟨rfl,_⟩:=hx;simp only[Rows.uptoBulk] at hd;have h1:=jX ((List.range l2).map D);rw[a7,eJ] at h1;omega
theorem Aq{H:Type}{enc:TypeId×Value->H}{W:World}{fuel:Nat}{r:Pv}{d:DataW H}{p:List MemPlace}
 (h:DataW.trod enc Tryz.prog W 0 (λ_=>true) true fuel 31 r.cs.toList=some (d,p)) (hd:Rows.uptoBulk d<=1048576):r.items.length<=1048576:=by
 obtain⟨y0,y1,y2,y3,y4,n,hx,hl,h0,h1,h2,h3,h4⟩:=nQ Tryz.underlying31 h;have hd':d=.agg [y0.1,y1.1,y2.1,y3.1,y4.1]:=hx;rw[hd'] at hd;simp only[Rows.uptoBulk,Rows.uptoBulkAll] at hd;rw[qO] at h2;have h2:DataW.trod enc Tryz.prog W 0 (λ_=>true) true n 28 [.slice r.aI r.items.length r.cI]=some (y2.1,y2.2):=h2
 exact zd h2 (by omega)
theorem rO{H:Type}{enc:TypeId×Value->H}{W:World}{fuel:Nat}{cs:List Value}{d:DataW H}{p:List MemPlace}
 (h:DataW.trod enc Tryz.prog W 0 (λ_=>true) true fuel 33 cs=some (d,p)) (hd:Rows.uptoBulk d<=1048576):
 ∃o:Oq,cs=o.cs.toList/\Opi W o:=by
 obtain⟨y0,y1,y2,y3,n,hx,hl,h0,h1,h2,h3⟩:=oM Tryz.underlying33 h;obtain⟨c0,c1,c2,c3,c4,c5,c6,c7,rfl⟩:=Ei (hl.trans oK);simp only[pU,sc,fD,List.drop_succ_cons,List.take_succ_cons,fR] at h0 h1 h2 h3;obtain⟨z0,e0,_,k0⟩:=DataW.trod_int Tryz.underlying3 h0;obtain⟨z1,e1,_,k1⟩:=DataW.trod_int Tryz.underlying3 h1;obtain⟨z2,e2,_,k2⟩:=DataW.trod_int Tryz.underlying3 h2;have hd':d=.agg [y0.1,y1.1,y2.1,y3.1]:=hx
 have w3:Rows.uptoBulk y3.1<=1048576:=by
  rw[hd'] at hd;simp only[Rows.uptoBulk,Rows.uptoBulkAll] at hd;omega
 obtain⟨r,e3,hp,b1,b2,b3⟩:=wF (d:=y3.1) (p:=y3.2) h3 (.inr w3);rw[e3] at h3;have few:=Aq (d:=y3.1) (p:=y3.2) h3 w3;simp only[ed,dL] at e0 e1 e2;subst e0 e1 e2;refine⟨⟨z0,z1,z2,r⟩,?_,hp,⟨b1,b3⟩,few⟩;rw[e3];rfl
set_option maxRecDepth 100000 in
theorem qG{H:Type}{enc:TypeId×Value->H}{W:World}{fuel:Nat}{cs:List Value}{d:DataW H}{p:List MemPlace}
 (hf:DataW.trod enc Tryz.prog W 0 (λ_=>true) true fuel 22 cs=some (d,p)) (hd:Rows.uptoBulk d<=1048576):
 ∃(a:Option Addr)(NL:List Oq)(cap:Nat),cs=[.slice a NL.length cap]/\Oss W a NL:=by
 rcases Deep.open_slice Tryz.underlying22 hf with⟨hcs,_⟩|⟨x,len,cap,m,n,D,Pl,hcs,_,hl,hm,hmm,hx,hrows⟩
 . exact⟨none,[],0,hcs,⟨λj hj=>absurd hj (dO _),by simp⟩⟩
 . simp only[fs] at hx;obtain⟨rfl,_⟩:=hx;simp only[if_true] at hmm;subst hmm;by_cases h0:len=0
   . subst h0;exact⟨some x,[],m,hcs,⟨λj hj=>absurd hj (dO _),by simp⟩⟩
   . have hmemD:∀r,r<len->D r∈(List.range len).map D:=λr hr=>bG.2 ⟨r,cQ.2 hr,rfl⟩
     have hbD:∀r,r<len->Rows.uptoBulk (D r)<=1048576:=λr hr=>by
      have h1:=qf (hmemD r hr);simp only[Rows.uptoBulk] at hd;omega
     obtain⟨b,off,spot⟩:=x
     have hspot:spot=none:=by
      obtain⟨cs,hc,ht⟩:=hrows 0 (by omega)
      obtain⟨f,rfl,_⟩:=rO ht (hbD 0 (by omega))
      generalize hk:(0:Nat)=k0 at hc;rw[oK] at hc;obtain⟨_,_,hce⟩:=gG hc;have e0:=(hce 0 (by decide)).trans (show f.cs.toList[0]?=some (.int .i64 f.kind) from rfl)
      have hs0:=gN e0;subst hk;simpa[Addr.add] using hs0
     subst hspot
     have each:∀r,r<len->∃v:Oq,(∀k u,v.cs[k]?=some u->W.cell? ⟨b,off+r*8+k,none⟩=some u)/\Opi W v:=by
      intro r hr;obtain⟨cs,hc,ht⟩:=hrows r (by omega)
      obtain⟨v,rfl,h1⟩:=rO ht (hbD r hr);rw[oK] at hc;obtain⟨_,_,hce⟩:=gG hc;refine⟨v,λj u hu=>?_,h1⟩
      have hj:j<8:=(af.1 hu).1;have h:=hce j hj;rw[Deep.add_add,Addr.add_mid,<-eU] at h;exact h.trans (by rw[<-hu];simp)
     haveI:Inhabited Oq:=⟨Oq.zero⟩;obtain⟨F,hF⟩:=Deep.choose_lt each;have hget:∀r,r<len->((List.range len).map F).getD r Oq.zero=F r:=λr hr=>by simp[hr]
     have hlenL:((List.range len).map F).length=len:=by simp
     refine⟨some ⟨b,off,none⟩,(List.range len).map F,m,by rw[hlenL];exact hcs,⟨λr hr=>?_,λv hv=>?_⟩⟩
     . rw[hlenL] at hr;exact⟨b,off,rfl,by rw[hget r hr];exact(hF r hr).1⟩
     . obtain⟨r,hr,rfl⟩:=bG.1 hv;exact(hF r (cQ.1 hr)).2
theorem sH{H:Type}{enc:TypeId×Value->H}{W:World}{a:Option Addr}{len cap:Nat}{d:DataW H}{p:List MemPlace}
 (h:DataW.Trod enc Tryz.prog W 0 (λ_=>true) true 22 (.slice a len cap) d p) (hd:Rows.uptoBulk d<=1048576):∃L:List Oq,len=L.length/\Oss W a L/\L.length<=1048576:=by
 obtain⟨fuel,hf⟩:=h;have hf:DataW.trod enc Tryz.prog W 0 (λ_=>true) true fuel 22 [.slice a len cap]=some (d,p):=hf
 have hb:len<=1048576:=by
  rcases Deep.open_slice Tryz.underlying22 hf with⟨hcs,_⟩|⟨x,l2,c2,m,n',D,Pl,hcs,_,hl,hm,hmm,hx,hrows⟩
  . simp only[ed,dL,bE] at hcs;omega
  . simp only[ed,dL,bE] at hcs;simp only[fs] at hx;obtain⟨rfl,_⟩:=hx;simp only[Rows.uptoBulk] at hd;have h1:=jX ((List.range l2).map D);rw[a7,eJ] at h1;omega
 obtain⟨a2,L,c2,e,hO⟩:=qG hf hd;simp only[ed,dL,bE] at e;obtain⟨rfl,rfl,rfl⟩:=e;exact⟨L,rfl,hO,hb⟩
end
end Go.Proofs.YtbdkogimlbnlmaaGreat
namespace Go.Proofs.YtbdkogimlbnlmaaGreat
open Go.RowKit
section
variable {T:Nat->Prop} {U v w w':World} {wb b rb pb mb:Nat} {S:Vs} {D:Rd} {H:List Sn} {pc col colR:Nat->Nat} {aW:Option Addr} {cW:Nat} {W:List Wl} {K:Bkk} {M N:Nat}
theorem Wo.area(h:Wo v w wb b rb pb mb S D H pc col colR aW cW W K M){k:Nat}(hk:arW col colR wb aW W K k):v.heap.size<=k/\k<w.heap.size:=by
 rcases hk with hk|hk|(hk|⟨y,hy,rfl⟩|⟨p,hp,hk⟩)|⟨p,hp,hk⟩|⟨x,hx,rfl|⟨y,hy,rfl⟩|⟨y,hy,rfl⟩|⟨y,hy,hk⟩⟩
 . exact⟨h.va.vn k hk,Nat.lt_of_not_le λe=>hk (h.va.z e).1⟩
 . exact⟨h.va.rn k hk,Nat.lt_of_not_le λe=>hk (h.va.z e).2⟩
 . exact⟨(h.bo.own0 hk).2.2,h.bo.own_lt hk⟩
 . exact⟨(h.oW y hy).2.2,h.gw.lt hy⟩
 . exact⟨(h.bo.tp p hp).n.blk_new hk,(h.bo.tp p hp).n.blk_lt hk⟩
 . exact⟨(h.bo.xp p hp).n.blk_new hk,(h.bo.xp p hp).n.blk_lt hk⟩
 . exact⟨(h.wt x hx).tc.2.2,(h.wt x hx).lb⟩
 . exact⟨((h.wt x hx).la y hy).2.2,(h.wt x hx).lr.lt hy⟩
 . exact⟨((h.wn x hx).na y hy).2.2,(h.wn x hx).nr.lt hy⟩
 . exact⟨((h.wn x hx).np y hy).n.blk_new hk,((h.wn x hx).np y hy).n.blk_lt hk⟩
theorem Wo.far(h:Wo v w wb b rb pb mb S D H pc col colR aW cW W K M)(hb:But T w w')(hn:∀k,T k->¬arW col colR wb aW W K k/\v.heap.size<=k):Wo v w' wb b rb pb mb S D H pc col colR aW cW W K M:=by
 have z:∀k,T k->col k=0/\colR k=0/\v.heap.size<=k:=λk e=>⟨eE λc=>(hn k e).1 (.inl c),eE λc=>(hn k e).1 (.inr (.inl c)),(hn k e).2⟩
 have f:∀k,mP wb aW W K k->¬T k:=λk hk e=>(hn k e).1 (.inr (.inr hk))
 refine⟨h.va.but hb z,h.bo.but hb (λk hk=>f k (.inl (.inl hk))) (λp hp k hk=>f k (.inl (.inr (.inr ⟨p,hp,hk⟩)))) (λp hp k hk=>f k (.inr (.inl ⟨p,hp,hk⟩))),h.gw.but hb (λy hy=>f _ (.inl (.inr (.inl ⟨y,hy,rfl⟩)))),h.oW,λx hx=>(h.wt x hx).but hb (f _ (.inr (.inr ⟨x,hx,.inl rfl⟩))) (λy hy=>f _ (.inr (.inr ⟨x,hx,.inr (.inl ⟨y,hy,rfl⟩)⟩))) (λk hk e=>by have:=z k e;omega),λx hx=>(h.wn x hx).but hb (λy hy=>f _ (.inr (.inr ⟨x,hx,.inr (.inr (.inl ⟨y,hy,rfl⟩))⟩))) (λy hy k hk=>f k (.inr (.inr ⟨x,hx,.inr (.inr (.inr ⟨y,hy,hk⟩))⟩))),h.we,h.tn,h.tw,h.eq,h.l4,h.wl,h.sm⟩
theorem Ou.pre{a:Option Addr}(h:Ou v col colR a)(hv:U.heap.size<=v.heap.size):Ou U col colR a:=λy hy=>⟨(h y hy).1,(h y hy).2.1,aO hv (h y hy).2.2⟩
theorem Wo.pre(h:Wo v w wb b rb pb mb S D H pc col colR aW cW W K M)(hb:Below U.heap.size U v):Wo U w wb b rb pb mb S D H pc col colR aW cW W K M:=by
 have hv:=hb.size;exact⟨⟨h.va.V,h.va.R,h.va.dj,λk hk=>aO hv (h.va.vn k hk),λk hk=>aO hv (h.va.rn k hk),bt hb h.va.bl⟩,⟨h.bo.box,⟨h.bo.wc.1,h.bo.wc.2.1,aO hv h.bo.wc.2.2⟩,h.bo.gt,h.bo.gx,h.bo.oT.pre hv,h.bo.oX.pre hv,h.bo.nTX,λp hp=>(h.bo.tp p hp).pre hv,λp hp=>(h.bo.xp p hp).pre hv,h.bo.tt,h.bo.tx⟩,h.gw,h.oW.pre hv,λx hx=>⟨(h.wt x hx).bx,⟨(h.wt x hx).tc.1,(h.wt x hx).tc.2.1,aO hv (h.wt x hx).tc.2.2⟩,(h.wt x hx).lr,(h.wt x hx).la.pre hv,(h.wt x hx).lp,(h.wt x hx).ls⟩,λx hx=>⟨(h.wn x hx).nr,(h.wn x hx).na.pre hv,λy hy=>((h.wn x hx).np y hy).pre hv⟩,h.we,h.tn,h.tw,h.eq,h.l4,h.wl,h.sm⟩
end
def jg(v w:World)(wb:Nat)(A:Nat->Prop)(M:Nat):Prop:=∃b rb pb mb S D H pc col colR aW cW W K,Wo v w wb b rb pb mb S D H pc col colR aW cW W K M/\A=arW col colR wb aW W K
section
variable {T A:Nat->Prop} {U v w w':World} {wb M N:Nat}
theorem jg.area(h:jg v w wb A M){k:Nat}(hk:A k):v.heap.size<=k/\k<w.heap.size:=by
 obtain⟨b,rb,pb,mb,S,D,H,pc,col,colR,aW,cW,W,K,h,rfl⟩:=h;exact h.area hk
theorem jg.far(h:jg v w wb A M)(hb:But T w w')(hn:∀k,T k->¬A k/\v.heap.size<=k):jg v w' wb A M:=by
 obtain⟨b,rb,pb,mb,S,D,H,pc,col,colR,aW,cW,W,K,h,rfl⟩:=h;exact⟨b,rb,pb,mb,S,D,H,pc,col,colR,aW,cW,W,K,h.far hb hn,rfl⟩
theorem jg.keep(h:jg v w wb A M)(hb:Below w.heap.size w w'):jg v w' wb A M:=h.far (T:=λ_=>False) (But.ofBelow hb) (λ_ e=>e.elim)
theorem jg.pre(h:jg v w wb A M)(hb:Below U.heap.size U v):jg U w wb A M:=by
 obtain⟨b,rb,pb,mb,S,D,H,pc,col,colR,aW,cW,W,K,h,rfl⟩:=h;exact⟨b,rb,pb,mb,S,D,H,pc,col,colR,aW,cW,W,K,h.pre hb,rfl⟩
theorem jg.up(h:jg v w wb A M)(hN:M<=N):jg v w wb A N:=by
 obtain⟨b,rb,pb,mb,S,D,H,pc,col,colR,aW,cW,W,K,h,rfl⟩:=h;exact⟨b,rb,pb,mb,S,D,H,pc,col,colR,aW,cW,W,K,h.up hN,rfl⟩
theorem jg.bl(h:jg v w wb A M):Below v.heap.size v w:=by
 obtain⟨b,rb,pb,mb,S,D,H,pc,col,colR,aW,cW,W,K,h,rfl⟩:=h;exact h.va.bl
theorem Ct{b rb pb mb:Nat}{S:Vs}{D:Rd}{H:List Sn}{pc col colR:Nat->Nat}{p:Pv}(h:Va U w b rb pb mb S D H pc col colR)(hp:Pi U p)(hs:Smi p):Po2 w col colR p:=by
 refine⟨λV hV=>hp.keep (((But.ofBelow (S:=λ_=>False) h.bl).trans hV (λk hk e=>?_)).below (λ_ _ e=>e)),hs⟩
 by_cases e1:1<=col k/\col k<=5
 . have:=h.vn k (by omega);omega
 . by_cases e2:1<=colR k/\colR k<=5
   . have:=h.rn k (by omega);omega
   . exact absurd ⟨e1,e2⟩ e
theorem jg.do1(h:jg U w wb A M)(hM:M<=100000000000)(o:Oq)(hp:Opi U o):Calls Tryz.prog 10 #[.pointer (some ⟨wb,0,none⟩),o.vl] w λe w'=>e=.returned (.bool true)/\∃A',jg U w' wb A' (M+20)/\Fa w A w' A':=by
 obtain⟨b,rb,pb,mb,S,D,H,pc,col,colR,aW,cW,W,K,h,rfl⟩:=h;refine(vW U w wb b rb pb mb S D H pc col colR aW cW W K M h hM o (Ct h.va hp.1 hp.2)).mono ?_;rintro _ w' ⟨rfl,S',D',H',pc',col',colR',aW',cW',W',K',hw,hf,hs⟩;exact⟨rfl,_,⟨b,rb,pb,mb,S',D',H',pc',col',colR',aW',cW',W',K',hw,rfl⟩,Fa.fx hf hs⟩
theorem jg.all1(h:jg U w wb A M)(hM:M<=90000000000):Calls Tryz.prog 11 #[.pointer (some ⟨wb,0,none⟩)] w λe w'=>e=.returned (.bool true)/\But A w w':=by
 obtain⟨b,rb,pb,mb,S,D,H,pc,col,colR,aW,cW,W,K,h,rfl⟩:=h;refine(tV U w wb b rb pb mb S D H pc col colR aW cW W K M h hM).mono ?_;rintro _ w' ⟨rfl,_,hb⟩;exact⟨rfl,hb⟩
theorem yC(w:World)(n r:Int):Calls Tryz.prog 9 #[.int .i64 n,.int .i64 r] w λe w'=>Below w.heap.size w w'/\(e=.returned (.tuple #[.pointer none,.bool true])\/∃wb A,e=.returned (.tuple #[.pointer (some ⟨wb,0,none⟩),.bool true])/\jg w w' wb A 4294967296):=by
 refine(qM w n r).mono ?_;rintro e w' ⟨hb,⟨_,he⟩|⟨_,wb,b,rb,pb,mb,D,pc,col,colR,he,hw⟩⟩
 . exact⟨hb,.inl he⟩
 . exact⟨hb,.inr ⟨wb,_,he,b,rb,pb,mb,_,_,_,pc,col,colR,_,_,_,_,hw,rfl⟩⟩
end
structure T2(U w:World)(bS bX bA wb0 wb1:Nat)(vs:Array Value)(A0 A1:Nat->Prop)(p0 p1 M:Nat):Prop where
 a:jg U w wb0 A0 M
 b:jg U w wb1 A1 M
 d:∀k,A0 k->¬A1 k
 n0:¬A0 bS/\¬A0 bX/\¬A0 bA
 n1:¬A1 bS/\¬A1 bX/\¬A1 bA
 ne:bS≠bA/\bX≠bA/\U.heap.size<=bA
 s:w.heap[bS]?=some (.cells vs 63 (0,0))
 x:w.heap[bX]?=some (.cells #[.pointer (some ⟨wb0,0,none⟩),.pointer (some ⟨wb1,0,none⟩)] 65 (0,0))
 t:w.heap[bA]?=some (.cells #[.int .i64 (p0:Int),.int .i64 (p1:Int)] 62 (0,0))
section
variable {U w w':World} {bS bX bA wb0 wb1:Nat} {vs:Array Value} {A0 A1 A':Nat->Prop} {p0 p1 M N:Nat}
theorem T2.keep(h:T2 U w bS bX bA wb0 wb1 vs A0 A1 p0 p1 M)(hb:Below w.heap.size w w'):T2 U w' bS bX bA wb0 wb1 vs A0 A1 p0 p1 M:=
 ⟨h.a.keep hb,h.b.keep hb,h.d,h.n0,h.n1,h.ne,im h.s hb,im h.x hb,im h.t hb⟩
theorem T2.step0(h:T2 U w bS bX bA wb0 wb1 vs A0 A1 p0 p1 M)(h1:jg U w' wb0 A' N)(hf:Fa w A0 w' A')(hN:M<=N):T2 U w' bS bX bA wb0 wb1 vs A' A1 p0 p1 N:=by
 have l:∀{g:Nat}{o:Obj},w.heap[g]?=some o->g<w.heap.size:=λe=>(af.1 e).1
 exact⟨h1,(h.b.far hf.b (λk hk=>⟨h.d k hk,(h.a.area hk).1⟩)).up hN,λk hk e=>h.d k (hf.a k (h.b.area e).2 hk) e,⟨λe=>h.n0.1 (hf.a _ (l h.s) e),λe=>h.n0.2.1 (hf.a _ (l h.x) e),λe=>h.n0.2.2 (hf.a _ (l h.t) e)⟩,h.n1,h.ne,hf.b.same h.s h.n0.1,hf.b.same h.x h.n0.2.1,hf.b.same h.t h.n0.2.2⟩
theorem T2.step1(h:T2 U w bS bX bA wb0 wb1 vs A0 A1 p0 p1 M)(h1:jg U w' wb1 A' N)(hf:Fa w A1 w' A')(hN:M<=N):T2 U w' bS bX bA wb0 wb1 vs A0 A' p0 p1 N:=by
 have l:∀{g:Nat}{o:Obj},w.heap[g]?=some o->g<w.heap.size:=λe=>(af.1 e).1
 exact⟨(h.a.far hf.b (λk hk=>⟨λe=>h.d k e hk,(h.b.area hk).1⟩)).up hN,h1,λk hk e=>h.d k hk (hf.a k (h.a.area hk).2 e),h.n0,⟨λe=>h.n1.1 (hf.a _ (l h.s) e),λe=>h.n1.2.1 (hf.a _ (l h.x) e),λe=>h.n1.2.2 (hf.a _ (l h.t) e)⟩,h.ne,hf.b.same h.s h.n1.1,hf.b.same h.x h.n1.2.1,hf.b.same h.t h.n1.2.2⟩
theorem T2.set(h:T2 U w bS bX bA wb0 wb1 vs A0 A1 p0 p1 M){i q0 q1:Nat}{u:Value}(e:(w.setCell ⟨bA,i,none⟩ u).heap[bA]?=some (.cells #[.int .i64 (q0:Int),.int .i64 (q1:Int)] 62 (0,0))):T2 U (w.setCell ⟨bA,i,none⟩ u) bS bX bA wb0 wb1 vs A0 A1 q0 q1 M:=by
 have b:But (λk=>k=bA) w (w.setCell ⟨bA,i,none⟩ u):=(But.refl (λk=>k=bA) w).setCell (p:=⟨bA,i,none⟩) (λ_=>rfl) u
 exact⟨h.a.far b (λk e=>by rw[e];exact⟨h.n0.2.2,h.ne.2.2⟩),h.b.far b (λk e=>by rw[e];exact⟨h.n1.2.2,h.ne.2.2⟩),h.d,h.n0,h.n1,h.ne,b.same h.s h.ne.1,b.same h.x h.ne.2.1,e⟩
theorem T2.set0(h:T2 U w bS bX bA wb0 wb1 vs A0 A1 p0 p1 M):T2 U (w.setCell ⟨bA,0,none⟩ (.int .i64 ((p0+1:Nat):Int))) bS bX bA wb0 wb1 vs A0 A1 (p0+1) p1 M:=h.set (by rw[aM _ _ _ _ _ _ h.t];rfl)
theorem T2.set1(h:T2 U w bS bX bA wb0 wb1 vs A0 A1 p0 p1 M):T2 U (w.setCell ⟨bA,1,none⟩ (.int .i64 ((p1+1:Nat):Int))) bS bX bA wb0 wb1 vs A0 A1 p0 (p1+1) M:=h.set (by rw[aM _ _ _ _ _ _ h.t];rfl)
end
end Go.Proofs.YtbdkogimlbnlmaaGreat
