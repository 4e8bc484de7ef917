import Derived.Test.YtbdkogimlbnlmaaGreatWqB35
set_option linter.unusedVariables false
set_option linter.unusedSimpArgs false
set_option maxHeartbeats 32000000
set_option maxRecDepth 8000
namespace Go.Proofs.YtbdkogimlbnlmaaGreat
open Go.RowKit
variable {gi gk x:Nat}{V:World}
def pvA(gk gi x:Nat):Pv:=⟨1,0,some ⟨gi,0,none⟩,1,[⟨some ⟨gk,0,none⟩,1,[x],none,0,[],0,0⟩],none,0,[],0⟩
def pvI(gk gi:Nat):Pv:=⟨2,1,some ⟨gi,0,none⟩,2,[⟨none,0,[],none,0,[],1,0⟩,⟨some ⟨gk,0,none⟩,1,[109],none,0,[],2,0⟩],none,0,[],0⟩
theorem lY(V:World)(a:Option Addr):Bs V a []:=⟨λx hx=>absurd hx (bu),by simp,.inl rfl⟩
theorem x8{t:TypeId}(hx:x<256)(h:V.heap[gk]?=some (.cells #[.int .u8 ((x:Nat):Int)] t (1,2))):Bs V (some ⟨gk,0,none⟩) [x]:=by
 refine⟨λy hy=>by rw[aQ.1 hy];exact hx,by simp,.inr ⟨gk,0,rfl,λi hi=>?_⟩⟩
 have:i=0:=by simp at hi;exact hi
 subst this;rw[ax _ _ _ _ _ _ h];rfl
theorem mH:N64 0:=⟨by decide,by decide⟩
theorem wJ:N64 1:=⟨by decide,by decide⟩
theorem Bq:N64 2:=⟨by decide,by decide⟩
theorem vS(hx:x<256)(h1:V.heap[gk]?=some (.cells #[.int .u8 ((x:Nat):Int)] 5 (1,2)))(h2:V.heap[gi]?=some (.cells #[.slice (some ⟨gk,0,none⟩) 1 1,.slice none 0 0,.int .i64 0,.int .i64 0] 51 (0,0))):Pi V (pvA gk gi x):=by
 refine⟨⟨λr hr=>?_,by simp[pvA],.inr ⟨gi,0,rfl,λr hr j u hu=>?_⟩⟩,by simp[pvA],lY _ _,by simp[pvA],wJ,mH,mH⟩
 . have:r=⟨some ⟨gk,0,none⟩,1,[x],none,0,[],0,0⟩:=by simpa[pvA] using hr
   subst this;exact⟨x8 hx h1,by simp,lY _ _,by simp,mH,mH⟩
 . have:r=0:=by simp[pvA] at hr;exact hr
   subst this;rw[ax _ _ _ _ _ _ h2];match j,hu with
   |0,hu=>exact hu
   |1,hu=>exact hu
   |2,hu=>exact hu
   |3,hu=>exact hu
   |j+4,hu=>simp[pvA,Iv.cs] at hu
theorem Cv(h1:V.heap[gk]?=some (.cells #[.int .u8 ((109:Nat):Int)] 5 (1,2)))(h2:V.heap[gi]?=some (.cells #[.slice none 0 0,.slice none 0 0,.int .i64 1,.int .i64 0,.slice (some ⟨gk,0,none⟩) 1 1,.slice none 0 0,.int .i64 2,.int .i64 0] 51 (0,0))):Pi V (pvI gk gi):=by
 refine⟨⟨λr hr=>?_,by simp[pvI],.inr ⟨gi,0,rfl,λr hr j u hu=>?_⟩⟩,by simp[pvI],lY _ _,by simp[pvI],Bq,wJ,mH⟩
 . have:r=⟨none,0,[],none,0,[],1,0⟩\/r=⟨some ⟨gk,0,none⟩,1,[109],none,0,[],2,0⟩:=by simpa[pvI] using hr
   rcases this with rfl|rfl
   . exact⟨lY _ _,by simp,lY _ _,by simp,wJ,mH⟩
   . exact⟨x8 (by decide) h1,by simp,lY _ _,by simp,Bq,mH⟩
 . have:r=0\/r=1:=by simp[pvI] at hr;omega
   rw[ax _ _ _ _ _ _ h2];rcases this with rfl|rfl
   all_goals
    match j,hu with
    |0,hu=>exact hu
    |1,hu=>exact hu
    |2,hu=>exact hu
    |3,hu=>exact hu
    |j+4,hu=>simp[pvI,Iv.cs] at hu
theorem vN(gk gi x:Nat):Smi (pvA gk gi x):=⟨⟨by simp[pvA],λy hy=>by
 have:y=⟨some ⟨gk,0,none⟩,1,[x],none,0,[],0,0⟩:=by simpa[pvA] using hy
 subst this;simp⟩,by simp[pvA]⟩
theorem Cj(gk gi:Nat):Smi (pvI gk gi):=⟨⟨by simp[pvI],λy hy=>by
 have:y=⟨none,0,[],none,0,[],1,0⟩\/y=⟨some ⟨gk,0,none⟩,1,[109],none,0,[],2,0⟩:=by simpa[pvI] using hy
 rcases this with rfl|rfl<;>simp⟩,by simp[pvI]⟩
def clr(wb:Nat)(col colR:Nat->Nat)(k:Nat):Prop:=¬(1<=col k/\col k<=5)/\¬(1<=colR k/\colR k<=5)/\k≠wb
structure Lvv(wb:Nat)(W:World)(col colR:Nat->Nat)(g5:Nat)(P:Pv):Prop where
 z:Pz (clr wb col colR) W P
 s:Smi P
 b:W.heap[g5]?=some (.cells #[.int .i64 P.kind,.int .i64 P.level,.slice P.aI P.items.length P.cI,.slice P.aD P.data.length P.cD,.int .i64 P.next] 31 (0,0))
 c:clr wb col colR g5
section
variable {wb g5:Nat} {W W':World} {col colR col' colR':Nat->Nat} {P:Pv}
theorem Lvv.keep(h:Lvv wb W col colR g5 P)(hb:Below W.heap.size W W'):Lvv wb W' col colR g5 P:=⟨h.z.keep hb,h.s,ig h.b hb,h.c⟩
theorem Lvv.po(h:Lvv wb W col colR g5 P):Po2 W col colR P:=⟨h.z.mono (λk _ e=>⟨e.1,e.2.1⟩),h.s⟩
theorem Dc{k:Nat}(h:pV wb none Bkk.nil k):k=wb:=by
 rcases h with(h|⟨y,hy,_⟩|⟨y,hy,_⟩)|⟨y,hy,_⟩|⟨p,hp,_⟩
 . exact h
 . cases hy
 . cases hy
 . cases hy
 . cases hp
theorem Lvv.fx(h:Lvv wb W col colR g5 P)(hf:Fx W col colR (pV wb none Bkk.nil) W' col' colR'):Lvv wb W' col' colR' g5 P:=by
 have off:∀k,clr wb col colR k->¬((1<=col k/\col k<=5)\/(1<=colR k/\colR k<=5)\/pV wb none Bkk.nil k):=λk hk e=>by
  rcases e with e|e|e
  . exact hk.1 e
  . exact hk.2.1 e
  . exact hk.2.2 (Dc e)
 have hl:=(af.1 h.b).1;refine⟨(h.z.mono (C':=clr wb col' colR') (λk hk e=>?_)).but hf.b (λk hk e=>?_),h.s,hf.b.same h.b (off g5 h.c),?_⟩
 . unfold clr at e ⊢;rw[hf.c k hk,hf.r k hk];exact e
 . unfold clr at e;rw[hf.c k hk,hf.r k hk] at e;exact off k e
 . unfold clr;rw[hf.c g5 hl,hf.r g5 hl];exact h.c
end
theorem lv3(w0:World)(c1 c2 c3 c4:Array Value):∃w1:World,Hid (w1=(((w0.alloc (.cells c1 5 (1,2))).alloc (.cells c2 51)).alloc (.cells c3 31)).setRow (w0.heap.size+1+1) c4)/\Hid ((((w0.alloc (.cells c1 5 (1,2))).alloc (.cells c2 51)).alloc (.cells c3 31)).heap[w0.heap.size+1+1]?=some (.cells c3 31 (0,0)))/\Hid (Below w0.heap.size w0 w1)/\Hid (w1.heap[w0.heap.size]?=some (.cells c1 5 (1,2)))/\Hid (w1.heap[w0.heap.size+1]?=some (.cells c2 51 (0,0)))/\Hid (w1.heap[w0.heap.size+1+1]?=some (.cells c4 31 (0,0))):=by
 have e2:=aH (w0.alloc (.cells c1 5 (1,2))) (.cells c2 51);have e3:=aH ((w0.alloc (.cells c1 5 (1,2))).alloc (.cells c2 51)) (.cells c3 31);rw[size_alloc] at e2;rw[size_alloc,size_alloc] at e3;exact⟨_,rfl,e3,((But.ofBelow (S:=λ_=>False) (bt (bt (al w0 _) (al _ _)) (al _ _))).trans (iT _ _ _) (λk hk e=>by omega)).below (λ_ _ e=>e),(iT _ _ _).same (ig (ig (aH w0 _) (al _ _)) (al _ _)) (by omega),(iT _ _ _).same (ig e2 (al _ _)) (by omega),cO _ _ _ _ _ _ e3⟩
theorem lvz{v w:World}{wb b rb pb mb:Nat}{S:Vs}{D:Rd}{H:List Sn}{pc col colR:Nat->Nat}{aW:Option Addr}{cW:Nat}{W:List Wl}{K:Bkk}{M:Nat}(h:Wo v w wb b rb pb mb S D H pc col colR aW cW W K M){k:Nat}(hk:w.heap.size<=k):clr wb col colR k:=by
 have z:=h.va.z hk;have l:=h.bo.lb;exact⟨by omega,by omega,by omega⟩
theorem wD(w:World):Calls Tryz.prog 8 #[] w λe w'=>e=.returned (.bool true)/\Below w.heap.size w w':=by
 have hcv:∀(W:World)(C:Array Value)(n c g:Nat),W.heap.size=g->(convert 29 29 (.slice (some ⟨g,0,none⟩) n c)).run Tryz.prog (W.alloc (.cells C 5))=.ok (.slice (some ⟨g,0,none⟩) n c) (W.alloc (.cells C 5 (C.size,C.size+1))):=by
  intro W C n c g hg;subst hg;exact Lib.run_convert_bytes_const W 29 5 C n c Tryz.underlying29 Tryz.underlying5
 go_enter Tryz.func8,Tryz.ntmps8;go_wp2_with fail
 refine(pZ w 6 3).mono ?_;rintro _ w1 ⟨hb1,⟨hf,_⟩|⟨_,wb,b,rb,pb,mb,D,pc,col,colR,rfl,hw⟩⟩
 . exact absurd hf (by decide)
 have B1:=gZ hb1;have H1:Hid (Wo w w1 wb b rb pb mb liv0 D [] pc col colR none 0 [] Bkk.nil 4294967296):=hw;clear hw hb1;go_upto_region 4 with fail
 obtain⟨w2,HE,E3,B1,F1,F2,F3⟩:=lv3 w1 #[.int .u8 97] #[.slice (some ⟨w1.heap.size,0,none⟩) 1 1,.slice none 0 0,.int .i64 0,.int .i64 0] #[.int .i64 0,.int .i64 0,.slice none 0 0,.slice none 0 0,.int .i64 0] #[.int .i64 1,.int .i64 0,.slice (some ⟨w1.heap.size+1,0,none⟩) 1 1,.slice none 0 0,.int .i64 0];have L1:Hid (Lvv wb w2 col colR (w1.heap.size+1+1) (pvA w1.heap.size (w1.heap.size+1) 97)):=⟨λV hV=>vS (by decide) (hV.same F1.o (λe=>e (lvz H1.o (ai _)))) (hV.same F2.o (λe=>e (lvz H1.o (by omega)))),vN _ _ _,F3.o,lvz H1.o (by omega)⟩
 have H2:=gZ (H1.o.keep B1.o);have hc1:(convert 29 29 (.slice (some ⟨w1.heap.size,0,none⟩) 1 1)).run Tryz.prog (w1.alloc (.cells #[.int .u8 97] 5))=.ok (.slice (some ⟨w1.heap.size,0,none⟩) 1 1) (w1.alloc (.cells #[.int .u8 97] 5 (1,2))):=hcv w1 #[.int .u8 97] 1 1 w1.heap.size rfl;go_upto_region 5 with(first|(refine bU rfl 31 _ _ rfl (w1.heap.size+1+1) _ rfl rfl 31 _ E3.o ie rfl (by simp[Value.oneCell']) ?_)|fail)
 rw[<-HE.o];clear HE E3 F1 F2 F3 hc1;obtain⟨g1,hg1⟩:∃g,w1.heap.size+1+1=g:=⟨_,rfl⟩;obtain⟨P1,hp1⟩:∃k,(pvA w1.heap.size (w1.heap.size+1) 97)=k:=⟨_,rfl⟩;have Q1:Hid (P1.pg=qH 97):=by rw[<-hp1];rfl
 simp only[hg1,hp1] at L1;simp only[hg1];clear hg1 hp1;obtain⟨w3,HE,E3,B2,F1,F2,F3⟩:=lv3 w2 #[.int .u8 112] #[.slice (some ⟨w2.heap.size,0,none⟩) 1 1,.slice none 0 0,.int .i64 0,.int .i64 0] #[.int .i64 0,.int .i64 0,.slice none 0 0,.slice none 0 0,.int .i64 0] #[.int .i64 1,.int .i64 0,.slice (some ⟨w2.heap.size+1,0,none⟩) 1 1,.slice none 0 0,.int .i64 0];have L2:Hid (Lvv wb w3 col colR (w2.heap.size+1+1) (pvA w2.heap.size (w2.heap.size+1) 112)):=⟨λV hV=>vS (by decide) (hV.same F1.o (λe=>e (lvz H2.o (ai _)))) (hV.same F2.o (λe=>e (lvz H2.o (by omega)))),vN _ _ _,F3.o,lvz H2.o (by omega)⟩
 have H3:=gZ (H2.o.keep B2.o);have hc1:(convert 29 29 (.slice (some ⟨w2.heap.size,0,none⟩) 1 1)).run Tryz.prog (w2.alloc (.cells #[.int .u8 112] 5))=.ok (.slice (some ⟨w2.heap.size,0,none⟩) 1 1) (w2.alloc (.cells #[.int .u8 112] 5 (1,2))):=hcv w2 #[.int .u8 112] 1 1 w2.heap.size rfl;go_upto_region 6 with(first|(refine bU rfl 31 _ _ rfl (w2.heap.size+1+1) _ rfl rfl 31 _ E3.o ie rfl (by simp[Value.oneCell']) ?_)|fail)
 rw[<-HE.o];clear HE E3 F1 F2 F3 hc1;obtain⟨g2,hg2⟩:∃g,w2.heap.size+1+1=g:=⟨_,rfl⟩;obtain⟨P2,hp2⟩:∃k,(pvA w2.heap.size (w2.heap.size+1) 112)=k:=⟨_,rfl⟩;have Q2:Hid (P2.pg=qH 112):=by rw[<-hp2];rfl
 simp only[hg2,hp2] at L2;simp only[hg2];clear hg2 hp2;obtain⟨w4,HE,E3,B3,F1,F2,F3⟩:=lv3 w3 #[.int .u8 109] #[.slice none 0 0,.slice none 0 0,.int .i64 1,.int .i64 0,.slice (some ⟨w3.heap.size,0,none⟩) 1 1,.slice none 0 0,.int .i64 2,.int .i64 0] #[.int .i64 0,.int .i64 0,.slice none 0 0,.slice none 0 0,.int .i64 0] #[.int .i64 2,.int .i64 1,.slice (some ⟨w3.heap.size+1,0,none⟩) 2 2,.slice none 0 0,.int .i64 0];have L3:Hid (Lvv wb w4 col colR (w3.heap.size+1+1) (pvI w3.heap.size (w3.heap.size+1))):=⟨λV hV=>Cv (hV.same F1.o (λe=>e (lvz H3.o (ai _)))) (hV.same F2.o (λe=>e (lvz H3.o (by omega)))),Cj _ _,F3.o,lvz H3.o (by omega)⟩
 have H4:=gZ (H3.o.keep B3.o);have hc1:(convert 29 29 (.slice (some ⟨w3.heap.size,0,none⟩) 1 1)).run Tryz.prog (w3.alloc (.cells #[.int .u8 109] 5))=.ok (.slice (some ⟨w3.heap.size,0,none⟩) 1 1) (w3.alloc (.cells #[.int .u8 109] 5 (1,2))):=hcv w3 #[.int .u8 109] 1 1 w3.heap.size rfl;go_upto_region 7 with(first|(refine bU rfl 31 _ _ rfl (w3.heap.size+1+1) _ rfl rfl 31 _ E3.o ie rfl (by simp[Value.oneCell']) ?_)|fail)
 rw[<-HE.o];clear HE E3 F1 F2 F3 hc1;obtain⟨g3,hg3⟩:∃g,w3.heap.size+1+1=g:=⟨_,rfl⟩;obtain⟨P3,hp3⟩:∃k,(pvI w3.heap.size (w3.heap.size+1))=k:=⟨_,rfl⟩;have Q3:Hid (P3.pg=xD):=by rw[<-hp3];rfl
 simp only[hg3,hp3] at L3;simp only[hg3];clear hg3 hp3;have L1:=gZ ((L1.o.keep B2.o).keep B3.o);have L2:=gZ (L2.o.keep B3.o);clear H1 H2 H3 B2 B3;have DO:=gZ (qk w w4 wb b rb pb mb liv0 _ _ _ _ _ none 0 [] Bkk.nil 4294967296 H4.o (by decide) ⟨0,0,0,P1⟩ (.inl rfl) L1.o.po)
 have OV:Hid ((⟨0,0,0,P1⟩:Oq).vl=.agg #[.int .i64 0,.int .i64 0,.int .i64 0,.int .i64 P1.kind,.int .i64 P1.level,.slice P1.aI P1.items.length P1.cI,.slice P1.aD P1.data.length P1.cD,.int .i64 P1.next]):=rfl;rw[OV.o] at DO;obtain⟨x0,x1,x2,x3,x4⟩:=ij L1.o.b;go_wp2_with fail
 refine DO.o.mono ?_;rintro _ w5 ⟨rfl,S1,D1,Hs1,pc1,col1,colR1,hQQ1,hw,hf⟩;obtain⟨q1,hq1,hS1⟩:=hQQ1 (by simp)
 subst hS1;clear hQQ1;have QQ1:=gZ hq1;have H5:=gZ hw;have L2:=gZ (L2.o.fx hf);have L3:=gZ (L3.o.fx hf);clear hq1 hw hf DO OV x0 x1 x2 x3 x4;have DO:=gZ (qk w w5 wb b rb pb mb (liv0.makeS P1.pg q1) _ _ _ _ _ none 0 [] Bkk.nil (4294967296+20) H5.o (by decide) ⟨0,0,0,P2⟩ (.inl rfl) L2.o.po)
 have OV:Hid ((⟨0,0,0,P2⟩:Oq).vl=.agg #[.int .i64 0,.int .i64 0,.int .i64 0,.int .i64 P2.kind,.int .i64 P2.level,.slice P2.aI P2.items.length P2.cI,.slice P2.aD P2.data.length P2.cD,.int .i64 P2.next]):=rfl;rw[OV.o] at DO;obtain⟨x0,x1,x2,x3,x4⟩:=ij L2.o.b;go_wp2_with fail
 refine DO.o.mono ?_;rintro _ w6 ⟨rfl,S2,D2,Hs2,pc2,col2,colR2,hQQ2,hw,hf⟩;obtain⟨q2,hq2,hS2⟩:=hQQ2 (by simp)
 subst hS2;clear hQQ2;have QQ2:=gZ hq2;have H6:=gZ hw;have L3:=gZ (L3.o.fx hf);clear hq2 hw hf DO OV x0 x1 x2 x3 x4;have DO:=gZ (qk w w6 wb b rb pb mb ((liv0.makeS P1.pg q1).makeS P2.pg q2) _ _ _ _ _ none 0 [] Bkk.nil (4294967296+20+20) H6.o (by decide) ⟨0,0,0,P3⟩ (.inl rfl) L3.o.po)
 have OV:Hid ((⟨0,0,0,P3⟩:Oq).vl=.agg #[.int .i64 0,.int .i64 0,.int .i64 0,.int .i64 P3.kind,.int .i64 P3.level,.slice P3.aI P3.items.length P3.cI,.slice P3.aD P3.data.length P3.cD,.int .i64 P3.next]):=rfl;rw[OV.o] at DO;obtain⟨x0,x1,x2,x3,x4⟩:=ij L3.o.b;go_wp2_with fail
 refine DO.o.mono ?_;rintro _ w7 ⟨rfl,S3,D3,Hs3,pc3,col3,colR3,hQQ3,hw,hf⟩;obtain⟨q3,hq3,hS3⟩:=hQQ3 (by simp)
 subst hS3;clear hQQ3;have QQ3:=gZ hq3;have H7:=gZ hw;clear hq3 hw hf DO OV x0 x1 x2 x3 x4;have DO:=gZ (Bu w w7 wb b rb pb mb (((liv0.makeS P1.pg q1).makeS P2.pg q2).makeS P3.pg q3) _ _ _ _ _ none 0 [] Bkk.nil (4294967296+20+20+20) H7.o (by decide) ⟨4,3,0,Pv.zero⟩ rfl)
 have OV:Hid ((⟨4,3,0,Pv.zero⟩:Oq).vl=.agg #[.int .i64 4,.int .i64 3,.int .i64 0,.int .i64 0,.int .i64 0,.slice none 0 0,.slice none 0 0,.int .i64 0]):=rfl;rw[OV.o] at DO;go_wp2_with fail
 refine DO.o.mono ?_;rintro _ w8 ⟨rfl,S4,D4,Hs4,pc4,col4,colR4,hS4,hw,hf⟩;subst hS4;have H8:=gZ hw;clear hw hf DO OV;have DO:=gZ (Bw w w8 wb b rb pb mb (Vs.keepS (((liv0.makeS P1.pg q1).makeS P2.pg q2).makeS P3.pg q3) 3) _ _ _ _ _ none 0 [] Bkk.nil (4294967296+20+20+20+20) H8.o (by decide) ⟨2,3,0,Pv.zero⟩ rfl)
 have OV:Hid ((⟨2,3,0,Pv.zero⟩:Oq).vl=.agg #[.int .i64 2,.int .i64 3,.int .i64 0,.int .i64 0,.int .i64 0,.slice none 0 0,.slice none 0 0,.int .i64 0]):=rfl;rw[OV.o] at DO;go_wp2_with fail
 refine DO.o.mono ?_;rintro _ w9 ⟨rfl,S5,D5,Hs5,pc5,col5,colR5,hS5,hw,hf⟩;subst hS5;have H9:=gZ hw;clear hw hf DO OV;have CT:=gZ (uH q1 q2 q3 (QQ3.o.trans Q3.o))
 have CO:Hid ((Vs.shadow (Vs.keepS (((liv0.makeS P1.pg q1).makeS P2.pg q2).makeS P3.pg q3) 3) 3).2.X.P.count 1=2/\(Vs.shadow (Vs.keepS (((liv0.makeS P1.pg q1).makeS P2.pg q2).makeS P3.pg q3) 3) 3).2.X.P.count 4=1):=by
  have e:=CT.o;rw[<-Q1.o,<-Q2.o,<-Q3.o] at e;exact e
 have C1:=gZ (Q.kZ w9 pb _ pc5 H9.o.va.V.pl 1);have C4:=gZ (Q.kZ w9 pb _ pc5 H9.o.va.V.pl 4);rw[CO.o.1] at C1;rw[CO.o.2] at C4;have v0:=H9.o.ws.cells.1;have v1:=H9.o.va.V.c0;have AL:=gZ (sQ w w9 wb b rb pb mb _ _ _ _ _ _ _ _ _ _ _ H9.o (by decide))
 clear CT CO;go_wp2_with fail
 refine C1.o.mono ?_;rintro _ wq ⟨rfl,hq⟩;obtain rfl:=hq.symm;clear C1 hq;go_wp2_with fail
 refine C4.o.mono ?_;rintro _ wq ⟨rfl,hq⟩;obtain rfl:=hq.symm;clear C4 hq;go_wp2_with fail
 refine AL.o.mono ?_;rintro _ wz ⟨rfl,hz⟩;have BZ:=gZ hz;clear hz AL;go_wp2_with fail
 go_ret;exact⟨rfl,BZ.o⟩
end Go.Proofs.YtbdkogimlbnlmaaGreat
namespace Go.Proofs.YtbdkogimlbnlmaaGreat
section
open Go.ChangeShapes Go.WideShapes Go.ChangeAt Go.RowKit
theorem oE:Tryz.prog.cellsOf 33=8:=by kernel_rfl
theorem DG{α:Type}{l:List α}(h:l.length=8):∃c0 c1 c2 c3 c4 c5 c6 c7,l=[c0,c1,c2,c3,c4,c5,c6,c7]:=by
 match l,h with
 | [c0,c1,c2,c3,c4,c5,c6,c7],_=>exact⟨c0,c1,c2,c3,c4,c5,c6,c7,rfl⟩
def Oq.zero:Oq:=⟨0,0,0,Pv.zero⟩
def Opi(W:World)(o:Oq):Prop:=Pi W o.p/\Smi o.p
structure Oss(W:World)(a:Option Addr)(L:List Oq):Prop where
 at':∀r,r<L.length->∃b off,a=some ⟨b,off,none⟩/\∀k u,(L.getD r Oq.zero).cs[k]?=some u->W.cell? ⟨b,off+r*8+k,none⟩=some u
 i:∀o∈L,Opi W o
theorem yf{H:Type}{enc:TypeId×Value->H}{W:World}{fuel:Nat}{a:Option Addr}{len cap:Nat}{d:DataW H}{p:List MemPlace}
 (hf:DataW.trod enc Tryz.prog W 0 (λ_=>true) true fuel 28 [.slice a len cap]=some (d,p)) (hd:Rows.uptoBulk d<=1048576):len<=1048576:=by
 rcases Deep.open_slice Tryz.underlying28 hf with⟨hcs,_⟩|⟨x,l2,c2,m,n',D,Pl,hcs,_,hl,hm,hmm,hx,hrows⟩
 . simp only[eO,dT,bB] at hcs;omega
 . simp only[eO,dT,bB] at hcs;simp only[fT] at hx;obtain⟨rfl,_⟩:=hx;simp only[Rows.uptoBulk] at hd;have h1:=kz ((List.range l2).map D);rw[a7,eU] at h1;omega
theorem Ak{H:Type}{enc:TypeId×Value->H}{W:World}{fuel:Nat}{r:Pv}{d:DataW H}{p:List MemPlace}
 (h:DataW.trod enc Tryz.prog W 0 (λ_=>true) true fuel 31 r.cs.toList=some (d,p)) (hd:Rows.uptoBulk d<=1048576):r.items.length<=1048576:=by
 obtain⟨y0,y1,y2,y3,y4,n,hx,hl,h0,h1,h2,h3,h4⟩:=nv Tryz.underlying31 h;have hd':d=.agg [y0.1,y1.1,y2.1,y3.1,y4.1]:=hx;rw[hd'] at hd;simp only[Rows.uptoBulk,Rows.uptoBulkAll] at hd;rw[qB] at h2;have h2:DataW.trod enc Tryz.prog W 0 (λ_=>true) true n 28 [.slice r.aI r.items.length r.cI]=some (y2.1,y2.2):=h2
 exact yf h2 (by omega)
theorem rZ{H:Type}{enc:TypeId×Value->H}{W:World}{fuel:Nat}{cs:List Value}{d:DataW H}{p:List MemPlace}
 (h:DataW.trod enc Tryz.prog W 0 (λ_=>true) true fuel 33 cs=some (d,p)) (hd:Rows.uptoBulk d<=1048576):
 ∃o:Oq,cs=o.cs.toList/\Opi W o:=by
 obtain⟨y0,y1,y2,y3,n,hx,hl,h0,h1,h2,h3⟩:=nK Tryz.underlying33 h;obtain⟨c0,c1,c2,c3,c4,c5,c6,c7,rfl⟩:=DG (hl.trans oE);simp only[pW,rC,fs,List.drop_succ_cons,List.take_succ_cons,fK] at h0 h1 h2 h3;obtain⟨z0,e0,_,k0⟩:=DataW.trod_int Tryz.underlying3 h0;obtain⟨z1,e1,_,k1⟩:=DataW.trod_int Tryz.underlying3 h1;obtain⟨z2,e2,_,k2⟩:=DataW.trod_int Tryz.underlying3 h2;have hd':d=.agg [y0.1,y1.1,y2.1,y3.1]:=hx
 have w3:Rows.uptoBulk y3.1<=1048576:=by
  rw[hd'] at hd;simp only[Rows.uptoBulk,Rows.uptoBulkAll] at hd;omega
 obtain⟨r,e3,hp,b1,b2,b3⟩:=vT (d:=y3.1) (p:=y3.2) h3 (.inr w3);rw[e3] at h3;have few:=Ak (d:=y3.1) (p:=y3.2) h3 w3;simp only[eO,dT] at e0 e1 e2;subst e0 e1 e2;refine⟨⟨z0,z1,z2,r⟩,?_,hp,⟨b1,b3⟩,few⟩;rw[e3];rfl
set_option maxRecDepth 100000 in
theorem wg{H:Type}{enc:TypeId×Value->H}{W:World}{fuel:Nat}{cs:List Value}{d:DataW H}{p:List MemPlace}
 (hf:DataW.trod enc Tryz.prog W 0 (λ_=>true) true fuel 22 cs=some (d,p)) (hd:Rows.uptoBulk d<=1048576):
 ∃(a:Option Addr)(NL:List Oq)(cap:Nat),cs=[.slice a NL.length cap]/\Oss W a NL:=by
 rcases Deep.open_slice Tryz.underlying22 hf with⟨hcs,_⟩|⟨x,len,cap,m,n,D,Pl,hcs,_,hl,hm,hmm,hx,hrows⟩
 . exact⟨none,[],0,hcs,⟨λj hj=>absurd hj (dH _),by simp⟩⟩
 . simp only[fT] at hx;obtain⟨rfl,_⟩:=hx;simp only[if_true] at hmm;subst hmm;by_cases h0:len=0
   . subst h0;exact⟨some x,[],m,hcs,⟨λj hj=>absurd hj (dH _),by simp⟩⟩
   . have hmemD:∀r,r<len->D r∈(List.range len).map D:=λr hr=>bC.2 ⟨r,cH.2 hr,rfl⟩
     have hbD:∀r,r<len->Rows.uptoBulk (D r)<=1048576:=λr hr=>by
      have h1:=pT (hmemD r hr);simp only[Rows.uptoBulk] at hd;omega
     obtain⟨b,off,spot⟩:=x
     have hspot:spot=none:=by
      obtain⟨cs,hc,ht⟩:=hrows 0 (by omega)
      obtain⟨f,rfl,_⟩:=rZ ht (hbD 0 (by omega))
      generalize hk:(0:Nat)=k0 at hc;rw[oE] at hc;obtain⟨_,_,hce⟩:=gu hc;have e0:=(hce 0 (by decide)).trans (show f.cs.toList[0]?=some (.int .i64 f.kind) from rfl)
      have hs0:=World.cell?_spot e0;subst hk;simpa[Addr.add] using hs0
     subst hspot
     have each:∀r,r<len->∃v:Oq,(∀k u,v.cs[k]?=some u->W.cell? ⟨b,off+r*8+k,none⟩=some u)/\Opi W v:=by
      intro r hr;obtain⟨cs,hc,ht⟩:=hrows r (by omega)
      obtain⟨v,rfl,h1⟩:=rZ ht (hbD r hr);rw[oE] at hc;obtain⟨_,_,hce⟩:=gu hc;refine⟨v,λj u hu=>?_,h1⟩
      have hj:j<8:=(af.1 hu).1;have h:=hce j hj;rw[Deep.add_add,Addr.add_mid,<-eE] at h;exact h.trans (by rw[<-hu];simp)
     haveI:Inhabited Oq:=⟨Oq.zero⟩;obtain⟨F,hF⟩:=Deep.choose_lt each;have hget:∀r,r<len->((List.range len).map F).getD r Oq.zero=F r:=λr hr=>by simp[hr]
     have hlenL:((List.range len).map F).length=len:=by simp
     refine⟨some ⟨b,off,none⟩,(List.range len).map F,m,by rw[hlenL];exact hcs,⟨λr hr=>?_,λv hv=>?_⟩⟩
     . rw[hlenL] at hr;exact⟨b,off,rfl,by rw[hget r hr];exact(hF r hr).1⟩
     . obtain⟨r,hr,rfl⟩:=bC.1 hv;exact(hF r (cH.1 hr)).2
theorem open_script11{H:Type}{enc:TypeId×Value->H}{W:World}{a:Option Addr}{len cap:Nat}{d:DataW H}{p:List MemPlace}
 (h:DataW.Trod enc Tryz.prog W 0 (λ_=>true) true 22 (.slice a len cap) d p) (hd:Rows.uptoBulk d<=1048576):∃L:List Oq,len=L.length/\Oss W a L/\L.length<=1048576:=by
 obtain⟨fuel,hf⟩:=h;have hf:DataW.trod enc Tryz.prog W 0 (λ_=>true) true fuel 22 [.slice a len cap]=some (d,p):=hf
 have hb:len<=1048576:=by
  rcases Deep.open_slice Tryz.underlying22 hf with⟨hcs,_⟩|⟨x,l2,c2,m,n',D,Pl,hcs,_,hl,hm,hmm,hx,hrows⟩
  . simp only[eO,dT,bB] at hcs;omega
  . simp only[eO,dT,bB] at hcs;simp only[fT] at hx;obtain⟨rfl,_⟩:=hx;simp only[Rows.uptoBulk] at hd;have h1:=kz ((List.range l2).map D);rw[a7,eU] at h1;omega
 obtain⟨a2,L,c2,e,hO⟩:=wg hf hd;simp only[eO,dT,bB] at e;obtain⟨rfl,rfl,rfl⟩:=e;exact⟨L,rfl,hO,hb⟩
end
end Go.Proofs.YtbdkogimlbnlmaaGreat
namespace Go.Proofs.YtbdkogimlbnlmaaGreat
open Go.RowKit
variable {b:Nat}
theorem Ea{U v w:World}{rb pb mb:Nat}{S:Vs}{D:Rd}{H:List Sn}{pc col colR:Nat->Nat}{p:Pv}(hU:Below U.heap.size U v)(h:Va v w b rb pb mb S D H pc col colR)(hp:Pi U p)(hs:Smi p):Po2 w col colR p:=by
 refine⟨λV hV=>hp.keep (bt hU (((But.ofBelow (S:=λ_=>False) h.bl).trans hV (λk hk e=>?_)).below (λ_ _ e=>e))),hs⟩
 by_cases e1:1<=col k/\col k<=5
 . have:=h.vn k (by omega);omega
 . by_cases e2:1<=colR k/\colR k<=5
   . have:=h.rn k (by omega);omega
   . exact absurd ⟨e1,e2⟩ e
theorem uz{W:World}{o:Nat}{q:Oq}(h:∀k u,q.cs[k]?=some u->W.cell? ⟨b,o+k,none⟩=some u):W.cell? ⟨b,o,none⟩=some (.int .i64 q.kind)/\W.cell? ⟨b,o+1,none⟩=some (.int .i64 q.n)/\W.cell? ⟨b,o+2,none⟩=some (.int .i64 q.k)/\W.cell? ⟨b,o+3,none⟩=some (.int .i64 q.p.kind)/\W.cell? ⟨b,o+4,none⟩=some (.int .i64 q.p.level)/\W.cell? ⟨b,o+5,none⟩=some (.slice q.p.aI q.p.items.length q.p.cI)/\W.cell? ⟨b,o+6,none⟩=some (.slice q.p.aD q.p.data.length q.p.cD)/\W.cell? ⟨b,o+7,none⟩=some (.int .i64 q.p.next):=
 ⟨h 0 _ rfl,h 1 _ rfl,h 2 _ rfl,h 3 _ rfl,h 4 _ rfl,h 5 _ rfl,h 6 _ rfl,h 7 _ rfl⟩
theorem vaultPlays_any(U:World)(pages refs:Int)(a:Option Addr)(cap:Nat)(L:List Oq)(hO:Oss U a L)(hN:L.length<=1048576):
 Calls Tryz.prog 3 #[.int .i64 pages,.int .i64 refs,.slice a L.length cap] U λe w'=>e=.returned (.bool true)/\Below U.heap.size U w':=by
 obtain⟨n,hn⟩:∃n,L.length=n:=⟨_,rfl⟩;have NL:=gZ hn;have OS:=gZ hO;rw[hn] at hN;rw[hn];clear hn hO;go_enter Tryz.func3,Tryz.ntmps3;go_wp2_with fail
 refine(wD U).mono ?_;rintro _ w1 ⟨rfl,hb1⟩;have B1:=gZ hb1;clear hb1;by_cases h3:300<pages
 all_goals
  first
  |have d3:decide (300<pages)=true:=ay h3
  |have d3:decide (300<pages)=false:=au h3
  go_wp2_with fail
  refine(pZ w1 _ refs).mono ?_;rintro _ w2 ⟨hb2,⟨hf,he⟩|⟨_,wb,b,rb,pb,mb,D,pc,col,colR,he,hw⟩⟩
  . have B2:=gZ (bt B1.o hb2);subst he;clear hb2 hf;go_wp2_with fail
    go_ret;exact⟨rfl,B2.o⟩
  subst he;have H2:=gZ hw;clear hw hb2;go_wp2_with fail
  go_loopw [9] (λvi wx=>∃(i:Nat)(S:Vs)(D:Rd)(H:List Sn)(pc col colR:Nat->Nat)(aW:Option Addr)(cW:Nat)(W:List Wl)(K:Bkk)(M:Nat),i<=n/\vi=.int .i64 (i:Int)/\M<=4294967296+20*i/\Wo w1 wx wb b rb pb mb S D H pc col colR aW cW W K M) (λvi _=>n-(intOf vi).toNat)
  case atStart=>exact⟨0,_,_,_,_,_,_,_,_,_,_,_,aF _,rfl,ai _,H2.o⟩
  case round=>
   clear H2;obtain⟨i,S,D,H,pc,col,colR,aW,cW,W,K,M,hi,rfl,hM,hw⟩:=hrel;have H1:=gZ hw;clear hw;by_cases hlt:i<n
   . have hiI:(i:Int)<(n:Int):=by omega
     obtain⟨bA,oA,ea,hc⟩:=OS.o.at' i (by rw[NL.o];exact hlt)
     obtain⟨o,ho⟩:∃o,L.getD i Oq.zero=o:=⟨_,rfl⟩
     have om:o∈L:=by
      have:=NL.o;rw[<-ho];simp only[aq];rw[aS (by omega)]
      exact dX _
     have oi:=OS.o.i o om;rw[ho] at hc;have bw:=bt B1.o H1.o.va.bl;obtain⟨d0,d1,d2,d3,d4,d5,d6,d7⟩:=uz (W:=wr) (b:=bA) (o:=oA+i*8) (q:=o) (λk u hu=>(bw.cell (p:=⟨bA,oA+i*8+k,none⟩) (block_lt_of_cell (hc k u hu))).trans (hc k u hu))
     have DO:=gZ (vg w1 wr wb b rb pb mb S D H pc col colR aW cW W K M H1.o (by omega) o (Ea B1.o H1.o.va oi.1 oi.2))
     have OV:Hid (o.vl=.agg #[.int .i64 o.kind,.int .i64 o.n,.int .i64 o.k,.int .i64 o.p.kind,.int .i64 o.p.level,.slice o.p.aI o.p.items.length o.p.cI,.slice o.p.aD o.p.data.length o.p.cD,.int .i64 o.p.next]):=rfl;rw[OV.o] at DO;subst ea;clear hc ho om oi bw OV;go_wp2_with fail
     refine DO.o.mono ?_;rintro _ w3 ⟨rfl,S',D',H',pc',col',colR',aW',cW',W',K',hw,_⟩;have H3:=gZ hw;clear hw DO d0 d1 d2 d3 d4 d5 d6 d7;go_wp2_with fail
     go_roundw
     case rel=>exact⟨i+1,S',D',H',pc',col',colR',aW',cW',W',K',M+20,by omega,by go_num,by omega,H3.o⟩
     case measure=>simp[intOf];omega
   . obtain rfl:i=n:=by omega
     have AL:=gZ (sQ w1 wr wb b rb pb mb S D H pc col colR aW cW W K M H1.o (by omega))
     go_wp2_with fail
     refine AL.o.mono ?_;rintro _ w4 ⟨rfl,hb4⟩;have B4:=gZ (bt B1.o hb4);clear hb4 AL;go_wp2_with fail
     go_ret;exact⟨rfl,B4.o⟩
end Go.Proofs.YtbdkogimlbnlmaaGreat
