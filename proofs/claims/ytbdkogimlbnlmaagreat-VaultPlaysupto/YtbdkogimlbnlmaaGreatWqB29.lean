import Derived.Test.YtbdkogimlbnlmaaGreatWqB28
set_option linter.unusedVariables false
set_option linter.unusedSimpArgs false
set_option maxHeartbeats 32000000
set_option maxRecDepth 8000
namespace Go.Proofs.YtbdkogimlbnlmaaGreat
open Go.RowKit
theorem Tw.up{S:Vs}{D:Rd}{H:List Sn}{M N:Nat}(h:Tw S D H M)(hN:M<=N):Tw S D H N:=h.same (Rd.Al.refl _) hN
section
variable (v w:World) (wb b rb pb mb:Nat) (S:Vs) (D:Rd) (H:List Sn) (pc col colR:Nat->Nat) (aW:Option Addr) (cW:Nat) (W:List Wl) (K:Bkk) (M:Nat)
theorem E7(h:Wo v w wb b rb pb mb S D H pc col colR aW cW W K M)(hM:M<=100000000000)(o:Oq)(hk:o.kind=7):
 Calls Tryz.prog 10 #[.pointer (some ⟨wb,0,none⟩),o.vl] w λe w'=>NxV v w wb b rb pb mb col colR aW cW W K M (λS'=>S'=S) e w':=by
 have OV:Hid (o.vl=.agg o.cs):=rfl;rw[OV.o];have A0:=gZ (al w (.cells o.cs 33));have X0:=gZ (aH w (.cells o.cs 33));have Z0:=gZ (h.va.z (ai w.heap.size));have H1:=gZ (h.ws.keep A0.o);have HW:=gZ h;have hM2:M<=1000000000000:=by omega
 clear h;go_enter Tryz.func10,Tryz.ntmps10;obtain⟨c0,c1,c2,c3,c4,c5,c6,c7⟩:=g7 X0.o;rw[hk] at c0;go_upto_region 24 with fail
 generalize w.alloc (.cells o.cs 33)=w1 at *;clear hk;obtain⟨gi,hgi⟩:∃gi,w.heap.size=gi:=⟨_,rfl⟩;simp only[hgi] at X0 Z0 c0 c1 c2 c3 c4 c5 c6 c7 ⊢;clear hgi;have DR:=gZ (dr2 w1);have SS:Hid (∀W:World,Below w1.heap.size w1 W->W.cell? ⟨wb,0,none⟩=some (.pointer (some ⟨b,0,none⟩))/\W.cell? ⟨b,0,none⟩=some (.pointer (some ⟨pb,0,none⟩))/\W.cell? ⟨gi,1,none⟩=some (.int .i64 o.n)/\W.cell? ⟨wb,1,none⟩=some (.pointer (some ⟨rb,0,none⟩))):=λW hb=>⟨((H1.o.keep hb).cells).1,(H1.o.keep hb).va.V.c0,(g7 (ig X0.o hb)).2.1,((H1.o.keep hb).cells).2.1⟩
 clear c0 c1 c2 c3 c4 c5 c6 c7;have CA:=gZ λ(W:World)(hb:Below w1.heap.size w1 W)=>show Calls _ _ _ _ λe w2=>e=.returned (.int .i64 (S.X.P.count o.n))/\Below W.heap.size W w2 from(Q.kZ W pb S.X.P pc ((H1.o.keep hb).va.V.pl) o.n).mono (λ_ _ h=>⟨h.1,by rw[h.2];exact Below.refl _ _⟩)
 have CB:=gZ λ(W:World)(hb:Below w1.heap.size w1 W)=>Dw HW.o.tw W rb colR ((H1.o.keep hb).va.R) o.n
 have CC:=gZ λ(W:World)(hb:Below w1.heap.size w1 W)=>Q.mT W pb S.X.P pc ((H1.o.keep hb).va.V.pl) o.n
 have CD:=gZ λ(W:World)(hb:Below w1.heap.size w1 W)=>Ds HW.o.tw W rb colR ((H1.o.keep hb).va.R) o.n
 obtain⟨x,hx⟩:∃x:Int,S.X.P.count o.n=x:=⟨_,rfl⟩;simp only[hx] at CA CB;obtain⟨y,hy⟩:∃y:Int,((S.X.P.state o.n:Nat):Int)=y:=⟨_,rfl⟩;simp only[hy] at CC CD;have eq1:(x==x)=true:=by simp
 have eq2:(y==y)=true:=by simp
 have B0:=gZ DR.o;refine wrd SS DR.o λhHeld=>?_
 refine tkd 0 1 2 3 ?_;refine tkd 4 5 6 7 ?_;refine tkd 8 10 11 12 ?_;refine tkb 13 14 ?_;refine tk 15 ?_;refine tw 9 λKx hK=>?_
 go_simp;refine(CA.o _ B0.o).mono ?_;rintro _ w2 ⟨rfl,hb1⟩;have B1:=gZ (bt B0.o hb1);clear hb1;go_wp2_with fail
 refine hK.o _ _ (SS.o _ B1.o) (λhHeld=>?_)
 refine tw 16 λKx hK=>?_
 go_simp;refine(CB.o _ B1.o).mono ?_;rintro _ w3 ⟨rfl,hb2⟩;have B2:=gZ (bt B1.o hb2);clear hb2;go_wp2_with fail
 refine hK.o _ _ (SS.o _ B2.o) (λhHeld=>?_)
 refine tkd 17 18 19 20 ?_;refine tkd 21 22 23 24 ?_;refine tkd 25 26 27 29 ?_;refine tkd 30 31 32 33 ?_;refine tk 34 ?_;refine tw 28 λKx hK=>?_
 go_simp;refine(CC.o _ B2.o).mono ?_;rintro _ w4 ⟨rfl,hb3⟩;have B3:=gZ (bt B2.o hb3);clear hb3;go_wp2_with fail
 refine hK.o _ _ (SS.o _ B3.o) (λhHeld=>?_)
 refine tw 35 λKx hK=>?_
 go_simp;refine(CD.o _ B3.o).mono ?_;rintro _ w5 ⟨rfl,hb4⟩;have B4:=gZ (bt B3.o hb4);clear hb4;go_wp2_with fail
 refine hK.o _ _ (SS.o _ B4.o) (λhHeld=>?_)
 refine tkb 36 37 ?_;refine tk 38 ?_;refine td ?_;clear hHeld SS;go_wp2_with fail
 go_ret;exact⟨rfl,S,D,H,pc,col,colR,rfl,(H1.o.keep B4.o).wo HW.o (HW.o.tw.up (by omega)) (by omega),Fx.keep (bt A0.o B4.o)⟩
theorem EY(h:Wo v w wb b rb pb mb S D H pc col colR aW cW W K M)(hM:M<=100000000000)(o:Oq)(hk:o.kind=8):
 Calls Tryz.prog 10 #[.pointer (some ⟨wb,0,none⟩),o.vl] w λe w'=>NxV v w wb b rb pb mb col colR aW cW W K M (λS'=>S'=S) e w':=by
 have OV:Hid (o.vl=.agg o.cs):=rfl;rw[OV.o];have A0:=gZ (al w (.cells o.cs 33));have X0:=gZ (aH w (.cells o.cs 33));have Z0:=gZ (h.va.z (ai w.heap.size));have H1:=gZ (h.ws.keep A0.o);have HW:=gZ h;have hM2:M<=1000000000000:=by omega
 clear h;go_enter Tryz.func10,Tryz.ntmps10;obtain⟨c0,c1,c2,c3,c4,c5,c6,c7⟩:=g7 X0.o;rw[hk] at c0;go_upto_region 26 with fail
 generalize w.alloc (.cells o.cs 33)=w1 at *;clear hk;obtain⟨gi,hgi⟩:∃gi,w.heap.size=gi:=⟨_,rfl⟩;simp only[hgi] at X0 Z0 c0 c1 c2 c3 c4 c5 c6 c7 ⊢;clear hgi;have DR:=gZ (dr2 w1);have SS:Hid (∀W:World,Below w1.heap.size w1 W->W.cell? ⟨wb,0,none⟩=some (.pointer (some ⟨b,0,none⟩))/\W.cell? ⟨b,0,none⟩=some (.pointer (some ⟨pb,0,none⟩))/\W.cell? ⟨gi,1,none⟩=some (.int .i64 o.n)/\W.cell? ⟨wb,1,none⟩=some (.pointer (some ⟨rb,0,none⟩))):=λW hb=>⟨((H1.o.keep hb).cells).1,(H1.o.keep hb).va.V.c0,(g7 (ig X0.o hb)).2.1,((H1.o.keep hb).cells).2.1⟩
 clear c0 c1 c2 c3 c4 c5 c6 c7;have CA:=gZ λ(W:World)(hb:Below w1.heap.size w1 W)=>Q.yl W pb S.X.P pc ((H1.o.keep hb).va.V.pl) o.n
 have CB:=gZ λ(W:World)(hb:Below w1.heap.size w1 W)=>Cg HW.o.tw W rb colR ((H1.o.keep hb).va.R) o.n
 obtain⟨x,hx⟩:∃x:Int,(((S.X.P.pages o.n).length:Nat):Int)=x:=⟨_,rfl⟩;simp only[hx] at CA CB;have eq1:(x==x)=true:=by simp
 have B0:=gZ DR.o;refine wrd SS DR.o λhHeld=>?_
 refine tkd 0 1 2 3 ?_;refine tkd 4 5 6 7 ?_;refine tkd 8 10 11 12 ?_;refine tkb 13 14 ?_;refine tk 15 ?_;refine tw 9 λKx hK=>?_
 go_simp;refine(CA.o _ B0.o).mono ?_;rintro _ w2 ⟨rfl,hb1⟩;have B1:=gZ (bt B0.o hb1);clear hb1;go_wp2_with fail
 refine hK.o _ _ (SS.o _ B1.o) (λhHeld=>?_)
 refine tw 16 λKx hK=>?_
 go_simp;refine(CB.o _ B1.o).mono ?_;rintro _ w3 ⟨rfl,hb2⟩;have B2:=gZ (bt B1.o hb2);clear hb2;go_wp2_with fail
 refine hK.o _ _ (SS.o _ B2.o) (λhHeld=>?_)
 refine tkb 17 18 ?_;refine td ?_;clear hHeld SS;go_wp2_with fail
 go_ret;exact⟨rfl,S,D,H,pc,col,colR,rfl,(H1.o.keep B2.o).wo HW.o (HW.o.tw.up (by omega)) (by omega),Fx.keep (bt A0.o B2.o)⟩
theorem DX(h:Wo v w wb b rb pb mb S D H pc col colR aW cW W K M)(hM:M<=100000000000)(o:Oq)(hk:o.kind=11):
 Calls Tryz.prog 10 #[.pointer (some ⟨wb,0,none⟩),o.vl] w λe w'=>NxV v w wb b rb pb mb col colR aW cW W K M (λS'=>S'=S) e w':=by
 have OV:Hid (o.vl=.agg o.cs):=rfl;rw[OV.o];have A0:=gZ (al w (.cells o.cs 33));have X0:=gZ (aH w (.cells o.cs 33));have Z0:=gZ (h.va.z (ai w.heap.size));have H1:=gZ (h.ws.keep A0.o);have HW:=gZ h;have hM2:M<=1000000000000:=by omega
 clear h;go_enter Tryz.func10,Tryz.ntmps10;obtain⟨c0,c1,c2,c3,c4,c5,c6,c7⟩:=g7 X0.o;rw[hk] at c0;go_upto_region 38 with fail
 generalize w.alloc (.cells o.cs 33)=w1 at *;clear hk;obtain⟨gi,hgi⟩:∃gi,w.heap.size=gi:=⟨_,rfl⟩;simp only[hgi] at X0 Z0 c0 c1 c2 c3 c4 c5 c6 c7 ⊢;clear hgi;have DR:=gZ (dr2 w1);have SS:Hid (∀W:World,Below w1.heap.size w1 W->W.cell? ⟨wb,0,none⟩=some (.pointer (some ⟨b,0,none⟩))/\W.cell? ⟨wb,1,none⟩=some (.pointer (some ⟨rb,0,none⟩))):=λW hb=>⟨((H1.o.keep hb).cells).1,((H1.o.keep hb).cells).2.1⟩
 clear c0 c1 c2 c3 c4 c5 c6 c7;have CA:=gZ λ(W:World)(hb:Below w1.heap.size w1 W)=>yd HW.o.tw hM2 W b pb mb pc col (H1.o.keep hb).va.V
 have CB:=gZ λ(W:World)(hb:Below w1.heap.size w1 W)=>tF HW.o.tw hM2 W rb colR ((H1.o.keep hb).va.R)
 obtain⟨x,hx⟩:∃x:Int,((S.fl+S.al.length:Nat):Int)=x:=⟨_,rfl⟩;simp only[hx] at CA CB;have eq1:(x==x)=true:=by simp
 have B0:=gZ DR.o;refine wrd SS DR.o λhHeld=>?_
 refine tkd 0 1 2 3 ?_;refine tkd 5 6 7 8 ?_;refine tw 4 λKx hK=>?_
 go_simp;refine(CA.o _ B0.o).mono ?_;rintro _ w2 ⟨rfl,hb1⟩;have B1:=gZ (bt B0.o hb1);clear hb1;go_wp2_with fail
 refine hK.o _ _ (SS.o _ B1.o) (λhHeld=>?_)
 refine tw 9 λKx hK=>?_
 go_simp;refine(CB.o _ B1.o).mono ?_;rintro _ w3 ⟨rfl,hb2⟩;have B2:=gZ (bt B1.o hb2);clear hb2;go_wp2_with fail
 refine hK.o _ _ (SS.o _ B2.o) (λhHeld=>?_)
 refine tkb 10 11 ?_;refine td ?_;clear hHeld SS;go_wp2_with fail
 go_ret;exact⟨rfl,S,D,H,pc,col,colR,rfl,(H1.o.keep B2.o).wo HW.o (HW.o.tw.up (by omega)) (by omega),Fx.keep (bt A0.o B2.o)⟩
theorem Eg(h:Wo v w wb b rb pb mb S D H pc col colR aW cW W K M)(hM:M<=100000000000)(o:Oq)(hk:o.kind=13):
 Calls Tryz.prog 10 #[.pointer (some ⟨wb,0,none⟩),o.vl] w λe w'=>NxV v w wb b rb pb mb col colR aW cW W K M (λS'=>S'=S.settle) e w':=by
 have OV:Hid (o.vl=.agg o.cs):=rfl;rw[OV.o];have A0:=gZ (al w (.cells o.cs 33));have X0:=gZ (aH w (.cells o.cs 33));have Z0:=gZ (h.va.z (ai w.heap.size));have H1:=gZ (h.ws.keep A0.o);have HW:=gZ h;have hM2:M<=1000000000000:=by omega
 clear h;go_enter Tryz.func10,Tryz.ntmps10;obtain⟨c0,c1,c2,c3,c4,c5,c6,c7⟩:=g7 X0.o;rw[hk] at c0;go_upto_region 42 with fail
 generalize w.alloc (.cells o.cs 33)=w1 at *;clear hk;obtain⟨gi,hgi⟩:∃gi,w.heap.size=gi:=⟨_,rfl⟩;simp only[hgi] at X0 Z0 c0 c1 c2 c3 c4 c5 c6 c7 ⊢;clear hgi;have DR:=gZ (dr2 w1);clear c1 c2 c3 c4 c5 c6 c7;have CV:=((H1.o).cells).1;have CA:=gZ (Ac HW.o.tw hM2 w1 b pb mb pc col H1.o.va.V);have CD:=gZ λ(w2:World)(hR:Ra w2 rb D H colR)=>zY HW.o.tw hM2 w2 rb colR hR
 go_wp2_with fail
 refine CA.o.mono ?_;rintro _ w2 ⟨rfl,pc2,col2,hV2,hF2⟩;have F2:=gZ hF2;have H2:=gZ (H1.o.prog hV2 hF2);clear hV2 hF2 CA CV c0;have CR:=(H2.o.cells).2.1;have CE:=gZ (CD.o w2 H2.o.va.R);go_wp2_with fail
 refine CE.o.mono ?_;rintro _ w3 ⟨rfl,D3,colR3,hR3,hF3,hT3⟩;have F3:=gZ hF3;have H3:=gZ (H2.o.doc hR3 hF3);have TW:=gZ hT3;clear hR3 hF3 hT3 CE CD CR;go_wp2_with fail
 go_ret;exact⟨rfl,_,D3,_,pc2,col2,colR3,rfl,H3.o.wo HW.o (TW.o.up (by omega)) (by omega),((Fx.keep A0.o).trans (Fx.vf F2.o) (λ_ _ e=>e)).trans (Fx.vfR F3.o) (λ_ _ e=>e)⟩
theorem Ed(h:Wo v w wb b rb pb mb S D H pc col colR aW cW W K M)(hM:M<=100000000000)(o:Oq)(hk:o.kind<0\/15<o.kind):
 Calls Tryz.prog 10 #[.pointer (some ⟨wb,0,none⟩),o.vl] w λe w'=>NxV v w wb b rb pb mb col colR aW cW W K M (λS'=>S'=S) e w':=by
 have OV:Hid (o.vl=.agg o.cs):=rfl;rw[OV.o];have A0:=gZ (al w (.cells o.cs 33));have X0:=gZ (aH w (.cells o.cs 33));have Z0:=gZ (h.va.z (ai w.heap.size));have H1:=gZ (h.ws.keep A0.o);have HW:=gZ h;have hM2:M<=1000000000000:=by omega
 have k0:(o.kind==0)=false:=by simp;omega
 have k1:(o.kind==1)=false:=by simp;omega
 have k2:(o.kind==2)=false:=by simp;omega
 have k3:(o.kind==3)=false:=by simp;omega
 have k4:(o.kind==4)=false:=by simp;omega
 have k5:(o.kind==5)=false:=by simp;omega
 have k6:(o.kind==6)=false:=by simp;omega
 have k7:(o.kind==7)=false:=by simp;omega
 have k8:(o.kind==8)=false:=by simp;omega
 have k9:(o.kind==9)=false:=by simp;omega
 have k10:(o.kind==10)=false:=by simp;omega
 have k11:(o.kind==11)=false:=by simp;omega
 have k12:(o.kind==12)=false:=by simp;omega
 have k13:(o.kind==13)=false:=by simp;omega
 have k14:(o.kind==14)=false:=by simp;omega
 have k15:(o.kind==15)=false:=by simp;omega
 clear h hk;go_enter Tryz.func10,Tryz.ntmps10;obtain⟨c0,c1,c2,c3,c4,c5,c6,c7⟩:=g7 X0.o;go_upto_region 53 with fail
 generalize w.alloc (.cells o.cs 33)=w1 at *;obtain⟨gi,hgi⟩:∃gi,w.heap.size=gi:=⟨_,rfl⟩;simp only[hgi] at X0 Z0 c0 c1 c2 c3 c4 c5 c6 c7 ⊢;clear hgi;have DR:=gZ (dr2 w1);obtain⟨mC,hmC⟩:∃mC,D.C.length=mC:=⟨_,rfl⟩;have HMC:=gZ hmC;clear hmC;have SS:Hid (∀W:World,Below w1.heap.size w1 W->W.cell? ⟨wb,0,none⟩=some (.pointer (some ⟨b,0,none⟩))/\W.cell? ⟨b,0,none⟩=some (.pointer (some ⟨pb,0,none⟩))/\W.cell? ⟨wb,1,none⟩=some (.pointer (some ⟨rb,0,none⟩))/\W.cell? ⟨rb,1,none⟩=some (.slice D.aC mC D.cC)/\W.cell? ⟨rb,0,none⟩=some (.int .i64 D.R)):=λW hb=>⟨((H1.o.keep hb).cells).1,(H1.o.keep hb).va.V.c0,((H1.o.keep hb).cells).2.1,(by rw[<-HMC.o];exact((H1.o.keep hb).va.R.q.cells).2.1),((H1.o.keep hb).va.R.q.cells).1⟩
 clear c0 c1 c2 c3 c4 c5 c6 c7;have CA:=gZ λ(W:World)(hb:Below w1.heap.size w1 W)=>show Calls _ _ _ _ λe w2=>e=.returned (.int .i64 ((mC:Nat):Int))/\Below W.heap.size W w2 from((Q.D9 W pb S.X.P pc ((H1.o.keep hb).va.V.pl)).mono (λ_ _ h=>⟨by rw[h.1,HW.o.tw.now.r.rel.len,HMC.o],by rw[h.2];exact Below.refl _ _⟩))
 have CB:=gZ λ(W:World)(hb:Below w1.heap.size w1 W)=>show Calls _ _ _ _ λe w2=>e=.returned (.int .i64 D.R)/\Below W.heap.size W w2 from((Q.Cc W pb S.X.P pc ((H1.o.keep hb).va.V.pl)).mono (λ_ _ h=>⟨by rw[h.1,HW.o.tw.now.r.rel.rf],by rw[h.2];exact Below.refl _ _⟩))
 have eq1:(((mC:Nat):Int)==(mC:Int))=true:=by simp
 have eq3:(mC==mC)=true:=by simp
 obtain⟨x,hx⟩:∃x:Int,D.R=x:=⟨_,rfl⟩;simp only[hx] at SS CB ⊢;have eq2:(x==x)=true:=by simp
 have B0:=gZ DR.o;refine wrd SS DR.o λhHeld=>?_
 refine tkd 0 1 2 3 ?_;refine tkd 4 5 6 8 ?_;refine tkd 9 10 11 12 ?_;refine tkb 13 14 ?_;refine tk 15 ?_;refine tw 7 λKx hK=>?_
 go_simp;refine(CA.o _ B0.o).mono ?_;rintro _ w2 ⟨rfl,hb1⟩;have B1:=gZ (bt B0.o hb1);clear hb1;go_wp2_with fail
 refine hK.o _ _ (SS.o _ B1.o) (λhHeld=>?_)
 refine tkd 16 17 18 19 ?_;refine tkd 20 21 22 23 ?_;refine tkd 24 26 27 28 ?_;refine tkd 29 30 31 32 ?_;refine tw 25 λKx hK=>?_
 go_simp;refine(CB.o _ B1.o).mono ?_;rintro _ w3 ⟨rfl,hb2⟩;have B2:=gZ (bt B1.o hb2);clear hb2;go_wp2_with fail
 refine hK.o _ _ (SS.o _ B2.o) (λhHeld=>?_)
 refine tkb 33 34 ?_;refine tk 35 ?_;refine td ?_;clear hHeld SS;go_wp2_with fail
 go_ret;exact⟨rfl,S,D,H,pc,col,colR,rfl,(H1.o.keep B2.o).wo HW.o (HW.o.tw.up (by omega)) (by omega),Fx.keep (bt A0.o B2.o)⟩
end
theorem jU{w:World}{e e2:TypeId}{sz sz2:Nat}{a a2:Option Addr}{c c2 n n2:Nat}{C C2:List Value}(hg:Q.Gw e sz w a c n C)(hh:Q.Gw e2 sz2 w a2 c2 n2 C2)(h1:e≠e2):∀y,a=some y->¬Q.InA a2 y.block:=λy hy ⟨z,hz,e⟩=>by
 obtain⟨cur,hc⟩:=hh.blk hz;exact iO hg hc h1 y hy e.symm
section
variable {v w w' w1 wd w2 w3:World} {wb b rb pb mb:Nat} {S S':Vs} {D D':Rd} {H H':List Sn} {pc pc' pc2 col col' col2 colR colR' colR2:Nat->Nat} {aW:Option Addr} {cW:Nat} {W:List Wl} {K K':Bkk} {M N:Nat} {g:Pg} {gj:Nat} {q:Pv} {zs:Array Value}
def kE(wb:Nat)(K:Bkk)(k:Nat):Prop:=K.own wb k\/∃p∈K.T,Blk p k
theorem Bo.row_off{e:TypeId}{sz:Nat}{a:Option Addr}{c n:Nat}{C:List Value}{vw:Value}(h:Bo v w wb b rb col colR vw K)(hg:Q.Gw e sz w a c n C)(h1:e≠55)(h2:e≠31)(h3:e≠5)(h4:e≠51):∀y,a=some y->¬kE wb K y.block:=λy hy e=>by
 rcases e with(e|e|e)|⟨p,hp,e⟩
 . exact iO hg h.box h1 y hy e
 . exact jU hg h.gt h2 y hy e
 . exact jU hg h.gx h2 y hy e
 . exact(h.tp p hp).n.ne_row e hg h3 h4 ⟨y,hy,rfl⟩
theorem Bo.box_off{t:TypeId}{g:Nat}{cs:Array Value}{vw:Value}(h:Bo v w wb b rb col colR vw K)(hg:w.heap[g]?=some (.cells cs t (0,0)))(h1:t≠55)(h2:31≠t)(h3:t≠5)(h4:t≠51):¬kE wb K g:=λe=>by
 rcases e with(e|⟨y,hy,e⟩|⟨y,hy,e⟩)|⟨p,hp,e⟩
 . have b:=h.box;rw[<-e,hg] at b;simp only[aE,dJ] at b;exact h1 b.2.1
 . exact iO h.gt hg h2 y hy e
 . exact iO h.gx hg h2 y hy e
 . exact(h.tp p hp).n.ne e hg h3 h4 rfl
theorem Bo.col_off{vw:Value}(h:Bo v w wb b rb col colR vw K){k:Nat}(hk:kE wb K k):col k=0/\colR k=0/\v.heap.size<=k:=by
 rcases hk with e|⟨p,hp,e⟩
 . exact h.own0 e
 . have:=(h.tp p hp).c k e;exact⟨this.1,this.2,(h.tp p hp).n.blk_new e⟩
theorem Wo.booked(h:Wo v w wb b rb pb mb S D H pc col colR aW cW W K M)(hb:But (kE wb K) w w')(hB:Bo v w' wb b rb col colR (.slice aW W.length cW) K')(h4:K'.T.length<=40)(he:K'.T.map Pv.pg=K'.X.map Pv.pg)(ht:∀q∈K'.T,q∈K.T\/Smi q/\∀k∈W,∀x∈k.N,Bdj q x.2):Wo v w' wb b rb pb mb S D H pc col colR aW cW W K' M:=by
 have o:=h.bo;refine⟨h.va.but hb (λk e=>o.col_off e),hB,h.gw.but hb (o.row_off h.gw (by decide) (by decide) (by decide) (by decide)),h.oW,λk hk=>?_,λk hk=>?_,h.we,λp hp k hk x hx=>?_,h.tw,he,h4,h.wl,λp hp=>(ht p hp).elim (h.sm p) And.left⟩
 . have t:=h.wt k hk;exact t.but hb (o.box_off t.bx (by decide) (by decide) (by decide) (by decide)) (o.row_off t.lr (by decide) (by decide) (by decide) (by decide)) (λk e1 e2=>by have:=o.col_off e2;omega)
 . have t:=h.wn k hk;refine t.but hb (o.row_off t.nr (by decide) (by decide) (by decide) (by decide)) (λx hx j hj e=>?_)
   rcases e with(e|e|e)|⟨p,hp,e⟩
   . exact(t.np x hx).n.ne hj o.box (by decide) (by decide) e
   . exact(t.np x hx).n.ne_row hj o.gt (by decide) (by decide) e
   . exact(t.np x hx).n.ne_row hj o.gx (by decide) (by decide) e
   . exact h.tn p hp k hk x hx j e hj
 . rcases ht p hp with hp|hp
   . exact h.tn p hp k hk x hx
   . exact hp.2 k hk x hx
theorem Fx.booked(hb:But (kE wb K) w w'):Fx w col colR (pV wb aW K) w' col colR:=⟨hb.mono (λk _ e=>.inr (.inr (by
 rcases e with e|e
 . exact .inl e
 . exact .inr (.inr e)))),λ_ _=>rfl,λ_ _=>rfl⟩
def PTl(w:World)(b pb mb:Nat)(col:Nat->Nat)(er:Int)(g:Pg)(S':Vs)(e:Ending)(w':World):Prop:=∃q:Pv,e=.returned (.tuple #[q.vl,.int .i64 er])/\q.pg=g/\Pn w w' q/\q.items.length<=1048576/\∃pc' col',Vw w' b S' pb mb pc' col'/\Vf w col w' col'/\∀k,Blk q k->col' k=0
def DTl(w:World)(rb:Nat)(col:Nat->Nat)(er:Int)(g:Pg)(S':Vs)(N:Nat)(e:Ending)(w':World):Prop:=∃q:Pv,e=.returned (.tuple #[q.vl,.int .i64 er])/\q.pg=g/\Pn w w' q/\q.items.length<=1048576/\∃D' H' col',Ra w' rb D' H' col'/\Vf w col w' col'/\(∀k,Blk q k->col' k=0)/\Tw S' D' H' N
theorem Dx(ht:Tw S D H M)(w:World)(b pb mb:Nat)(pc col:Nat->Nat)(h:Vw w b S pb mb pc col)(z:Int):Calls Tryz.prog 44 #[.pointer (some ⟨b,0,none⟩),.int .i64 z] w λe w'=>PTl w b pb mb col (if 0<S.X.P.count z then 0 else 15) (if 0<S.X.P.count z then (S.X.on z).pg else Pv.zero.pg) S e w':=by
 refine(DV ht w b pb mb pc col h z).mono ?_;rintro e w' ⟨q,he,hn,hl,hg,hb⟩;exact⟨q,he,hg,hn,hl,pc,col,h.keep hb,Vf.keep hb,λk hk=>h.z (hn.blk_new hk)⟩
theorem Dy(ht:Tw S D H M)(w:World)(rb:Nat)(col:Nat->Nat)(h:Ra w rb D H col)(z:Int):Calls Tryz.prog 45 #[.pointer (some ⟨rb,0,none⟩),.int .i64 z] w λe w'=>DTl w rb col (if 0<S.X.P.count z then 0 else 15) (if 0<S.X.P.count z then (S.X.on z).pg else Pv.zero.pg) S (M+20) e w':=by
 refine(EK ht w rb col h z).mono ?_;rintro e w' ⟨q,he,hn,hl,hg,hb⟩;refine⟨q,he,hg,hn,hl,D,H,col,h.keep hb,Vf.keep hb,λk hk=>?_,ht.same (Rd.Al.refl _) (by omega)⟩
 have:=hn.blk_new hk;by_cases e:col k=0
 . exact e
 . have:=h.q.lt k e;omega
theorem Es(ht:Tw S D H M)(hM:M<=1000000000000)(w:World)(b pb mb:Nat)(pc col:Nat->Nat)(h:Vw w b S pb mb pc col)(z:Int):Calls Tryz.prog 37 #[.pointer (some ⟨b,0,none⟩),.int .i64 z] w λe w'=>PTl w b pb mb col (S.X.leave z).1.2 (S.X.leave z).1.1.pg (S.done (S.X.leave z).1.2 (S.X.leave z).2) e w':=
 Em ht hM w b pb mb pc col h z
theorem DK(ht:Tw S D H M)(hM:M<=1000000000000)(w:World)(rb:Nat)(col:Nat->Nat)(h:Ra w rb D H col)(z:Int):Calls Tryz.prog 38 #[.pointer (some ⟨rb,0,none⟩),.int .i64 z] w λe w'=>DTl w rb col (S.X.leave z).1.2 (S.X.leave z).1.1.pg (S.done (S.X.leave z).1.2 (S.X.leave z).2) (M+20) e w':=
 Ei ht hM w rb col h z
theorem pC:Smi Pv.zero:=⟨⟨aF _,λx hx=>absurd hx (bu)⟩,aF _⟩
theorem zV(ht:Tw S D H M)(z:Int):∃r,Smi r/\r.pg=(if 0<S.X.P.count z then (S.X.on z).pg else Pv.zero.pg):=by
 split
 . exact⟨_,ht.now.sm z,rfl⟩
 . exact⟨_,pC,rfl⟩
theorem zP(ht:Tw S D H M)(z:Int):∃r,Smi r/\r.pg=(S.X.leave z).1.1.pg:=by
 refine⟨(S.X.leave z).1.1,?_,rfl⟩;show Smi (if (S.X.left z).1=0 then S.X.on z else Pv.zero)
 split
 . exact ht.now.sm z
 . exact pC
structure Tk1(v w1 wx:World)(wb b rb pb mb:Nat)(S':Vs)(D:Rd)(H:List Sn)(pc2 col col2 colR:Nat->Nat)(aW:Option Addr)(cW:Nat)(W:List Wl)(K:Bkk)(g:Pg)(gj:Nat)(q:Pv):Prop where
 ws:Ws v wx wb b rb pb mb S' D H pc2 col2 colR aW cW W K
 f:Vf w1 col wx col2
 bx:wx.heap[gj]?=some (.cells #[.int .i64 q.kind,.int .i64 q.level,.slice q.aI q.items.length q.cI,.slice q.aD q.data.length q.cD,.int .i64 q.next] 31 (0,0))
 gc:col2 gj=0/\colR gj=0/\w1.heap.size<=gj
 pn:Pw1 w1 wx col2 colR q
 pg:q.pg=g
theorem tq(hA:Below w1.heap.size w1 wd)(h:Ws v w1 wb b rb pb mb S D H pc col colR aW cW W K)(hV:Vw w2 b S' pb mb pc2 col2)(hF:Vf wd col w2 col2)(hq:Pn wd w2 q)(hg:q.pg=g)(hl:q.items.length<=1048576)(hc:∀k,Blk q k->col2 k=0)(hB:Below w2.heap.size w2 w3)(hx:w3.heap[gj]?=some (.cells zs 31 (0,0)))(hz:zs.size=5)(h1:w1.heap.size<=gj)(h2:col2 gj=0):
 Tk1 v w1 (w3.setRow gj #[.int .i64 q.kind,.int .i64 q.level,.slice q.aI q.items.length q.cI,.slice q.aD q.data.length q.cD,.int .i64 q.next]) wb b rb pb mb S' D H pc2 col col2 colR aW cW W K g gj q:=by
 have sB:=iT w3 gj #[.int .i64 q.kind,.int .i64 q.level,.slice q.aI q.items.length q.cI,.slice q.aD q.data.length q.cD,.int .i64 q.next];have f13:Vf w1 col w3 col2:=((Vf.keep (c:=col) hA).trans hF).trans (Vf.keep (c:=col2) hB);have f:Vf w1 col (w3.setRow gj #[.int .i64 q.kind,.int .i64 q.level,.slice q.aI q.items.length q.cI,.slice q.aD q.data.length q.cD,.int .i64 q.next]) col2:=⟨f13.b.trans sB (λk hk e=>by omega),f13.c⟩
 have hV3:Vw (w3.setRow gj #[.int .i64 q.kind,.int .i64 q.level,.slice q.aI q.items.length q.cI,.slice q.aD q.data.length q.cD,.int .i64 q.next]) b S' pb mb pc2 col2:=(hV.keep hB).but13 sB (λk hk e=>hk (by rw[e];exact h2))
 have hq3:=hq.keep hB;refine⟨h.prog hV3 f,f,cO _ _ _ _ _ _ hx,⟨h2,(h.va.z h1).2,h1⟩,⟨(hq3.but2 sB (λk hk e=>hq3.ne hk hx (by decide) (by decide) e)).pre hA.size,hl,λk hk=>⟨hc k hk,(h.va.z (aU hA.size (hq.blk_new hk))).2⟩⟩,hg⟩
structure Tk2(v w1 wx:World)(wb b rb pb mb:Nat)(S':Vs)(D':Rd)(H':List Sn)(pc col colR colR2:Nat->Nat)(aW:Option Addr)(cW:Nat)(W:List Wl)(K:Bkk)(g:Pg)(N:Nat)(gj:Nat)(q:Pv):Prop where
 ws:Ws v wx wb b rb pb mb S' D' H' pc col colR2 aW cW W K
 f:Vf w1 colR wx colR2
 bx:wx.heap[gj]?=some (.cells #[.int .i64 q.kind,.int .i64 q.level,.slice q.aI q.items.length q.cI,.slice q.aD q.data.length q.cD,.int .i64 q.next] 31 (0,0))
 gc:col gj=0/\colR2 gj=0/\w1.heap.size<=gj
 pn:Pw1 w1 wx col colR2 q
 pg:q.pg=g
 tw:Tw S' D' H' N
theorem rI(hA:Below w1.heap.size w1 wd)(h:Ws v w1 wb b rb pb mb S D H pc col colR aW cW W K)(hR:Ra w2 rb D' H' colR2)(hF:Vf wd colR w2 colR2)(hq:Pn wd w2 q)(hg:q.pg=g)(hl:q.items.length<=1048576)(hc:∀k,Blk q k->colR2 k=0)(ht:Tw S D' H' N)(hB:Below w2.heap.size w2 w3)(hx:w3.heap[gj]?=some (.cells zs 31 (0,0)))(hz:zs.size=5)(h1:w1.heap.size<=gj)(h2:colR2 gj=0):
 Tk2 v w1 (w3.setRow gj #[.int .i64 q.kind,.int .i64 q.level,.slice q.aI q.items.length q.cI,.slice q.aD q.data.length q.cD,.int .i64 q.next]) wb b rb pb mb S D' H' pc col colR colR2 aW cW W K g N gj q:=by
 have sB:=iT w3 gj #[.int .i64 q.kind,.int .i64 q.level,.slice q.aI q.items.length q.cI,.slice q.aD q.data.length q.cD,.int .i64 q.next];have f13:Vf w1 colR w3 colR2:=((Vf.keep (c:=colR) hA).trans hF).trans (Vf.keep (c:=colR2) hB);have f:Vf w1 colR (w3.setRow gj #[.int .i64 q.kind,.int .i64 q.level,.slice q.aI q.items.length q.cI,.slice q.aD q.data.length q.cD,.int .i64 q.next]) colR2:=⟨f13.b.trans sB (λk hk e=>by omega),f13.c⟩
 have hR0:=hR.keep hB;have hR3:Ra (w3.setRow gj #[.int .i64 q.kind,.int .i64 q.level,.slice q.aI q.items.length q.cI,.slice q.aD q.data.length q.cD,.int .i64 q.next]) rb D' H' colR2:=⟨hR0.q.but sB (λk hk e=>hk (by rw[e];exact h2)),hR0.a.but sB (λk hk e=>hk (by rw[e];exact h2))⟩
 have hq3:=hq.keep hB;refine⟨h.doc hR3 f,f,cO _ _ _ _ _ _ hx,⟨(h.va.z h1).1,h2,h1⟩,⟨(hq3.but2 sB (λk hk e=>hq3.ne hk hx (by decide) (by decide) e)).pre hA.size,hl,λk hk=>⟨(h.va.z (aU hA.size (hq.blk_new hk))).1,hc k hk⟩⟩,hg,ht⟩
theorem Pw1.vfR(h:Pw1 v w col colR q)(hf:Vf w colR w' colR'):Pw1 v w' col colR' q:=by
 refine⟨h.n.but2 hf.b (λk hk e=>by have:=h.c k hk;omega),h.l,λk hk=>?_⟩
 have hl:=h.n.blk_lt hk;rw[hf.c k hl];exact h.c k hk
theorem Pw1.pre(h:Pw1 v w col colR q)(hv:w1.heap.size<=v.heap.size):Pw1 w1 w col colR q:=⟨h.n.pre hv,h.l,h.c⟩
theorem BQ{w5 w9:World}{y:Pv}{D0:Rd}{S0:Vs}{H0:List Sn}{pc0 col0 colR0:Nat->Nat}{gk:Nat}(h0:Ws v w1 wb b rb pb mb S0 D0 H0 pc0 col0 colR0 aW cW W K)(h1:Tk1 v w1 w5 wb b rb pb mb S D H pc col0 col colR aW cW W K g gj q)(h2:Tk2 v w5 w9 wb b rb pb mb S' D' H' pc col colR colR2 aW cW W K g N gk y)(hs:∃r,Smi r/\r.pg=g):Kd v w9 col colR2 K q y/\Smi q/\(∀k∈W,∀x∈k.N,Bdj q x.2):=by
 have s1:=h1.f.b.size;have s2:=h2.f.b.size;have sv:=h0.va.bl.size;have qw:Pw1 w1 w9 col colR2 q:=h1.pn.vfR h2.f;refine⟨⟨qw.pre sv,h2.pn.pre (by omega),h1.pg.trans h2.pg.symm,λp hp k hk e=>?_,λp hp k e hk=>?_,λp hp k hk e=>?_,λk e hk=>?_,λk hk=>h2.ws.va.z hk,by omega⟩,(by obtain⟨r,h3,h4⟩:=hs;exact sL h3 (h1.pg.trans h4.symm)),λk hk x hx j e hj=>?_⟩
 . have:=(h0.wr.bo.tp p hp).n.blk_lt hk;have:=h1.pn.n.blk_new e;omega
 . have:=(h0.wr.bo.xp p hp).n.blk_lt hk;have:=h1.pn.n.blk_new e;omega
 . have:=(h0.wr.bo.tp p hp).n.blk_lt hk;have:=h2.pn.n.blk_new e;omega
 . have:=h1.pn.n.blk_lt e;have:=h2.pn.n.blk_new hk;omega
 . have:=((h0.wr.wn k hk).np x hx).n.blk_lt hj;have:=h1.pn.n.blk_new e;omega
end
section
variable (v w:World) (wb b rb pb mb:Nat) (S:Vs) (D:Rd) (H:List Sn) (pc col colR:Nat->Nat) (aW:Option Addr) (cW:Nat) (W:List Wl) (K:Bkk) (M:Nat)
theorem DJ(h:Wo v w wb b rb pb mb S D H pc col colR aW cW W K M)(hM:M<=100000000000)(o:Oq)(hk:o.kind=3\/o.kind=6):
 Calls Tryz.prog 10 #[.pointer (some ⟨wb,0,none⟩),o.vl] w λe w'=>Nx v w wb b rb pb mb col colR aW K M e w':=by
 have OV:Hid (o.vl=.agg o.cs):=rfl;rw[OV.o];have A0:=gZ (al w (.cells o.cs 33));have X0:=gZ (aH w (.cells o.cs 33));have Z0:=gZ (h.va.z (ai w.heap.size));have H1:=gZ (h.ws.keep A0.o);have HW:=gZ h;have hM2:M<=1000000000000:=by omega
 clear h;rcases hk with hk|hk
 all_goals
  go_enter Tryz.func10,Tryz.ntmps10;obtain⟨c0,c1,c2,c3,c4,c5,c6,c7⟩:=g7 X0.o;rw[hk] at c0;have HK:=gZ hk;first
  |have e0:o.kind=3:=HK.o
   clear e0;go_upto_region 10 with fail
  |go_upto_region 20 with fail
  clear hk;generalize w.alloc (.cells o.cs 33)=w1 at *;obtain⟨gi,hgi⟩:∃gi,w.heap.size=gi:=⟨_,rfl⟩;simp only[hgi] at X0 Z0 c0 c1 c2 c3 c4 c5 c6 c7 ⊢;clear hgi;have DR:=gZ (dr2 w1);clear DR c0 c1 c2 c3 c4 c5 c6 c7;first
  |have e0:o.kind=3:=HK.o
   clear e0;have PA:=gZ λ(W:World)(hV:Vw W b S pb mb pc col)=>Es HW.o.tw hM2 W b pb mb pc col hV o.n
   have PD:=gZ λ(W:World)(hR:Ra W rb D H colR)=>DK HW.o.tw hM2 W rb colR hR o.n
   obtain⟨S2,hS2⟩:∃S2,S.done (S.X.leave o.n).1.2 (S.X.leave o.n).2=S2:=⟨_,rfl⟩;simp only[hS2] at PA PD;clear hS2;have SG:=gZ (zP HW.o.tw o.n);obtain⟨er,her⟩:∃er:Int,(S.X.leave o.n).1.2=er:=⟨_,rfl⟩;obtain⟨gg,hgg⟩:∃gg,(S.X.leave o.n).1.1.pg=gg:=⟨_,rfl⟩;simp only[her,hgg] at PA PD SG;clear her hgg;go_cut [9,10] from 63 to 72 (λp9 v10 wx=>∃(gj:Nat)(q:Pv)(pc2 col2:Nat->Nat),p9=.pointer (some ⟨gj,0,none⟩)/\v10=.int .i64 er/\Tk1 v w1 wx wb b rb pb mb S2 D H pc2 col col2 colR aW cW W K gg gj q)
  |have PA:=gZ λ(W:World)(hV:Vw W b S pb mb pc col)=>Dx HW.o.tw W b pb mb pc col hV o.n
   have PD:=gZ λ(W:World)(hR:Ra W rb D H colR)=>Dy HW.o.tw W rb colR hR o.n
   have SG:=gZ (zV HW.o.tw o.n);obtain⟨er,her⟩:∃er:Int,(if 0<S.X.P.count o.n then 0 else 15)=er:=⟨_,rfl⟩
   obtain⟨gg,hgg⟩:∃gg,(if 0<S.X.P.count o.n then (S.X.on o.n).pg else Pv.zero.pg)=gg:=⟨_,rfl⟩
   simp only[her,hgg] at PA PD SG;clear her hgg;obtain⟨S2,rfl⟩:∃S2,S2=S:=⟨_,rfl⟩;go_cut [15,16] from 130 to 139 (λp9 v10 wx=>∃(gj:Nat)(q:Pv)(pc2 col2:Nat->Nat),p9=.pointer (some ⟨gj,0,none⟩)/\v10=.int .i64 er/\Tk1 v w1 wx wb b rb pb mb S2 D H pc2 col col2 colR aW cW W K gg gj q)
  case first=>
   have DR:=gZ (dr2 w1);have SS:Hid (∀W:World,Below w1.heap.size w1 W->W.cell? ⟨wb,0,none⟩=some (.pointer (some ⟨b,0,none⟩))/\W.cell? ⟨gi,1,none⟩=some (.int .i64 o.n)):=λW hb=>⟨(H1.o.keep hb).cells.1,(g7 (ig X0.o hb)).2.1⟩
   refine wrd SS DR.o λhHeld=>?_
   refine tkd 0 1 2 3 ?_;refine tkb 4 5 ?_;refine eu (rs:=[6,10]) (by kernel_rfl) (by simp) ?_
   refine(AllReadyH.cons rfl (λKx hK=>?_) (AllReadyH.cons rfl (λKx hK=>?_) AllReadyH.nil))
   all_goals
    first
    |go_simp
     refine(PA.o _ (H1.o.keep DR.o).va.V).mono ?_;rintro _ w2 ⟨q,rfl,hg2,hn2,hl2,pc2,col2,hR2,hF2,hc2⟩;have F2:=gZ ((Vf.keep (c:=col) DR.o).trans hF2);have H2:=gZ (H1.o.prog hR2 F2.o);have X2:=gZ (F2.o.b.same X0.o (λe=>by have:=Z0.o.1;omega))
     have Z2:Hid (col2 w2.heap.size=0):=(hR2.z (ai w2.heap.size));have L2:=gZ (F2.o.b.size);have AL:=gZ (al w2 (.cells #[.int .i64 0,.int .i64 0,.slice none 0 0,.slice none 0 0,.int .i64 0] 31));have XJ:=gZ (aH w2 (.cells #[.int .i64 0,.int .i64 0,.slice none 0 0,.slice none 0 0,.int .i64 0] 31));have RR:=gZ (tq DR.o H1.o hR2 hF2 hn2 hg2 hl2 hc2 AL.o XJ.o rfl L2.o Z2.o);clear hg2 hn2 hl2 hR2 hF2 hc2;have YV:Hid (q.vl=.agg #[.int .i64 q.kind,.int .i64 q.level,.slice q.aI q.items.length q.cI,.slice q.aD q.data.length q.cD,.int .i64 q.next]):=rfl;rw[YV.o];go_wp2_with fail
     refine hK.o _ _ ⟨(H2.o).cells.1,(g7 (X2.o)).2.1⟩ (λhHeld=>?_)
     refine tkb 7 8 ?_;refine tk 9 ?_;refine tw 10 λKx hK=>?_
     go_simp;refine hK.o _ _ ⟨(H2.o.keep AL.o).cells.1,(g7 (ig X2.o AL.o)).2.1⟩ (λhHeld=>?_)
     try simp only[pt]
     clear H2 X2 F2 AL YV;generalize w2.alloc (.cells #[.int .i64 0,.int .i64 0,.slice none 0 0,.slice none 0 0,.int .i64 0] 31)=w3 at *;generalize w2.heap.size=gj at*
    |go_simp
     have AL:=gZ (bt (al w1 (.cells #[.int .i64 0,.int .i64 0,.slice none 0 0,.slice none 0 0,.int .i64 0] 31)) (dr2 (w1.alloc (.cells #[.int .i64 0,.int .i64 0,.slice none 0 0,.slice none 0 0,.int .i64 0] 31))));have XJ0:Hid ((w1.alloc (.cells #[.int .i64 0,.int .i64 0,.slice none 0 0,.slice none 0 0,.int .i64 0] 31)).drew.heap[w1.heap.size]?=some (.cells #[.int .i64 0,.int .i64 0,.slice none 0 0,.slice none 0 0,.int .i64 0] 31 (0,0))):=aH w1 (.cells #[.int .i64 0,.int .i64 0,.slice none 0 0,.slice none 0 0,.int .i64 0] 31);refine hK.o _ _ (SS.o _ AL.o) (λhHeld=>?_)
     try simp only[pt]
     generalize (w1.alloc (.cells #[.int .i64 0,.int .i64 0,.slice none 0 0,.slice none 0 0,.int .i64 0] 31)).drew=wd at *;obtain⟨gj,hgj⟩:∃gj,w1.heap.size=gj:=⟨_,rfl⟩;have GJ:Hid (w1.heap.size<=gj):=gR hgj;rw[hgj] at XJ0;rw[hgj];clear hgj;have CJ:Hid (col gj=0):=(H1.o.va.z GJ.o).1;refine tw 6 λKx hK=>?_
     go_simp;refine(PA.o _ (H1.o.keep AL.o).va.V).mono ?_;rintro _ w2 ⟨q,rfl,hg2,hn2,hl2,pc2,col2,hR2,hF2,hc2⟩;have F2:=gZ ((Vf.keep (c:=col) AL.o).trans hF2);have H2:=gZ (H1.o.prog hR2 F2.o);have X2:=gZ (F2.o.b.same X0.o (λe=>by have:=Z0.o.1;omega))
     have XJ:=gZ (hF2.box XJ0.o CJ.o);have C2:Hid (col2 gj=0):=(hF2.c _ (af.1 XJ0.o).1).trans CJ.o;have RR:=gZ (tq AL.o H1.o hR2 hF2 hn2 hg2 hl2 hc2 (Below.refl _ _) XJ.o rfl GJ.o C2.o);clear hg2 hn2 hl2 hR2 hF2 hc2;have YV:Hid (q.vl=.agg #[.int .i64 q.kind,.int .i64 q.level,.slice q.aI q.items.length q.cI,.slice q.aD q.data.length q.cD,.int .i64 q.next]):=rfl;rw[YV.o];go_wp2_with fail
     refine hK.o _ _ ⟨(H2.o).cells.1,(g7 (X2.o)).2.1⟩ (λhHeld=>?_)
     refine tkb 7 8 ?_;refine tk 9 ?_
    refine tw 11 λKx hK=>?_
    rw[if_pos (by rfl)]
    refine gW 31 _ _ rfl gj _ rfl rfl 31 _ XJ.o ie rfl (by simp[Value.oneCell']) ?_
    have XI:=gZ (RR.o.f.b.same X0.o (λe=>by have:=Z0.o.1;omega))
    refine hK.o _ _ ⟨(RR.o.ws).cells.1,(g7 (XI.o)).2.1⟩ (λhHeld=>?_)
    refine tk 12 ?_;refine td ?_;clear hHeld;go_wp2_with fail
    go_meet
    case rel=>exact⟨gj,q,pc2,col2,rfl,rfl,RR.o⟩
  case rest=>
   obtain⟨gj,q,pc2,col2,rfl,rfl,hQ⟩:=hcut;have Q1:=gZ hQ;clear hQ PA;generalize wc=w5 at *;have X5:=gZ (Q1.o.f.b.same X0.o (λe=>by have:=Z0.o.1;omega))
   have H5:=gZ Q1.o.ws;first
   |have e0:o.kind=3:=HK.o
    clear e0;go_upto_region 11 with fail
    go_cut [11,12] from 73 to 82 (λp9 v10 wx=>∃(gk:Nat)(y:Pv)(D3:Rd)(Hs3:List Sn)(colR3:Nat->Nat),p9=.pointer (some ⟨gk,0,none⟩)/\v10=.int .i64 er/\Tk2 v w5 wx wb b rb pb mb S2 D3 Hs3 pc2 col2 colR colR3 aW cW W K gg (M+20) gk y)
   |go_upto_region 21 with fail
    go_cut [17,18] from 140 to 149 (λp9 v10 wx=>∃(gk:Nat)(y:Pv)(D3:Rd)(Hs3:List Sn)(colR3:Nat->Nat),p9=.pointer (some ⟨gk,0,none⟩)/\v10=.int .i64 er/\Tk2 v w5 wx wb b rb pb mb S2 D3 Hs3 pc2 col2 colR colR3 aW cW W K gg (M+20) gk y)
   case first=>
    have DR:=gZ (dr2 w5);have SS:Hid (∀W:World,Below w5.heap.size w5 W->W.cell? ⟨wb,1,none⟩=some (.pointer (some ⟨rb,0,none⟩))/\W.cell? ⟨gi,1,none⟩=some (.int .i64 o.n)):=λW hb=>⟨(H5.o.keep hb).cells.2.1,(g7 (ig X5.o hb)).2.1⟩
    refine wrd SS DR.o λhHeld=>?_
    refine tkd 0 1 2 3 ?_;refine tkb 4 5 ?_;refine eu (rs:=[6,10]) (by kernel_rfl) (by simp) ?_
    refine(AllReadyH.cons rfl (λKx hK=>?_) (AllReadyH.cons rfl (λKx hK=>?_) AllReadyH.nil))
    all_goals
     first
     |go_simp
      refine(PD.o _ (H5.o.keep DR.o).va.R).mono ?_;rintro _ w2 ⟨y,rfl,hg2,hn2,hl2,D3,Hs3,colR3,hR2,hF2,hc2,ht2⟩;have F2:=gZ ((Vf.keep (c:=colR) DR.o).trans hF2);have H2:=gZ (H5.o.doc hR2 F2.o);have X2:=gZ (F2.o.b.same X5.o (λe=>by have:=Z0.o.2;omega))
      have Z2:Hid (colR3 w2.heap.size=0):=(fq λe=>by have:=hR2.q.lt _ e;omega)
      have L2:=gZ (F2.o.b.size);have AL:=gZ (al w2 (.cells #[.int .i64 0,.int .i64 0,.slice none 0 0,.slice none 0 0,.int .i64 0] 31));have XJ:=gZ (aH w2 (.cells #[.int .i64 0,.int .i64 0,.slice none 0 0,.slice none 0 0,.int .i64 0] 31));have RR:=gZ (rI DR.o H5.o hR2 hF2 hn2 hg2 hl2 hc2 ht2 AL.o XJ.o rfl L2.o Z2.o);clear hg2 hn2 hl2 hR2 hF2 hc2 ht2;have YV:Hid (y.vl=.agg #[.int .i64 y.kind,.int .i64 y.level,.slice y.aI y.items.length y.cI,.slice y.aD y.data.length y.cD,.int .i64 y.next]):=rfl;rw[YV.o];go_wp2_with fail
      refine hK.o _ _ ⟨(H2.o).cells.2.1,(g7 (X2.o)).2.1⟩ (λhHeld=>?_)
      refine tkb 7 8 ?_;refine tk 9 ?_;refine tw 10 λKx hK=>?_
      go_simp;refine hK.o _ _ ⟨(H2.o.keep AL.o).cells.2.1,(g7 (ig X2.o AL.o)).2.1⟩ (λhHeld=>?_)
      try simp only[pt]
      clear H2 X2 F2 AL YV;generalize w2.alloc (.cells #[.int .i64 0,.int .i64 0,.slice none 0 0,.slice none 0 0,.int .i64 0] 31)=w3 at *;generalize w2.heap.size=gk at*
     |go_simp
      have AL:=gZ (bt (al w5 (.cells #[.int .i64 0,.int .i64 0,.slice none 0 0,.slice none 0 0,.int .i64 0] 31)) (dr2 (w5.alloc (.cells #[.int .i64 0,.int .i64 0,.slice none 0 0,.slice none 0 0,.int .i64 0] 31))));have XJ0:Hid ((w5.alloc (.cells #[.int .i64 0,.int .i64 0,.slice none 0 0,.slice none 0 0,.int .i64 0] 31)).drew.heap[w5.heap.size]?=some (.cells #[.int .i64 0,.int .i64 0,.slice none 0 0,.slice none 0 0,.int .i64 0] 31 (0,0))):=aH w5 (.cells #[.int .i64 0,.int .i64 0,.slice none 0 0,.slice none 0 0,.int .i64 0] 31);refine hK.o _ _ (SS.o _ AL.o) (λhHeld=>?_)
      try simp only[pt]
      generalize (w5.alloc (.cells #[.int .i64 0,.int .i64 0,.slice none 0 0,.slice none 0 0,.int .i64 0] 31)).drew=wd at *;obtain⟨gk,hgj⟩:∃gj,w5.heap.size=gj:=⟨_,rfl⟩;have GJ:Hid (w5.heap.size<=gk):=gR hgj;rw[hgj] at XJ0;rw[hgj];clear hgj;have CJ:Hid (colR gk=0):=(H5.o.va.z GJ.o).2;refine tw 6 λKx hK=>?_
      go_simp;refine(PD.o _ (H5.o.keep AL.o).va.R).mono ?_;rintro _ w2 ⟨y,rfl,hg2,hn2,hl2,D3,Hs3,colR3,hR2,hF2,hc2,ht2⟩;have F2:=gZ ((Vf.keep (c:=colR) AL.o).trans hF2);have H2:=gZ (H5.o.doc hR2 F2.o);have X2:=gZ (F2.o.b.same X5.o (λe=>by have:=Z0.o.2;omega))
      have XJ:=gZ (hF2.box XJ0.o CJ.o);have C2:Hid (colR3 gk=0):=(hF2.c _ (af.1 XJ0.o).1).trans CJ.o;have RR:=gZ (rI AL.o H5.o hR2 hF2 hn2 hg2 hl2 hc2 ht2 (Below.refl _ _) XJ.o rfl GJ.o C2.o);clear hg2 hn2 hl2 hR2 hF2 hc2 ht2;have YV:Hid (y.vl=.agg #[.int .i64 y.kind,.int .i64 y.level,.slice y.aI y.items.length y.cI,.slice y.aD y.data.length y.cD,.int .i64 y.next]):=rfl;rw[YV.o];go_wp2_with fail
      refine hK.o _ _ ⟨(H2.o).cells.2.1,(g7 (X2.o)).2.1⟩ (λhHeld=>?_)
      refine tkb 7 8 ?_;refine tk 9 ?_
     refine tw 11 λKx hK=>?_
     rw[if_pos (by rfl)]
     refine gW 31 _ _ rfl gk _ rfl rfl 31 _ XJ.o ie rfl (by simp[Value.oneCell']) ?_
     have XI:=gZ (RR.o.f.b.same X5.o (λe=>by have:=Z0.o.2;omega))
     refine hK.o _ _ ⟨(RR.o.ws).cells.2.1,(g7 (XI.o)).2.1⟩ (λhHeld=>?_)
     refine tk 12 ?_;refine td ?_;clear hHeld;go_wp2_with fail
     go_meet
     case rel=>exact⟨gk,y,D3,Hs3,colR3,rfl,rfl,RR.o⟩
   case rest=>
    obtain⟨gk,y,D3,Hs3,colR3,rfl,rfl,hQ⟩:=hcut;have Q2:=gZ hQ;clear hQ PD;generalize wc=w9 at *;have BJ:=gZ (Q2.o.f.box Q1.o.bx Q1.o.gc.2.1);obtain⟨p0,p1,p2,p3,p4⟩:=ij BJ.o;obtain⟨x0,x1,x2,x3,x4⟩:=ij Q2.o.bx;have KD:=gZ (BQ H1.o Q1.o Q2.o SG.o);have LK:=gZ (r8 v w9 wb b rb col2 colR3 (.slice aW W.length cW) K Q2.o.ws.wr.bo HW.o.eq HW.o.l4 q y KD.o.1);unfold Pv.vl at LK;simp only[Pv.cs] at LK;have eq1:(er==er)=true:=by simp
    go_wp2_with fail
    refine LK.o.mono ?_;rintro _ w10 ⟨rfl,K',hB,h4,he,ht,hx,hb,ho⟩;have wo:=(Q2.o.ws.wo HW.o Q2.o.tw (by omega)).booked (hb.mono (λ_ _ e=>.inl e)) hB h4 he (λq' hq'=>(ht q' hq').imp id (λe=>by rw[e];exact KD.o.2))
    have WO:=gZ wo;have FX:=gZ ((((Fx.keep A0.o).trans (Fx.vf Q1.o.f) (λ_ _ e=>e)).trans (Fx.vfR Q2.o.f) (λ_ _ e=>e)).trans (Fx.booked (aW:=aW) (hb.mono (λ_ _ e=>.inl e))) (λ_ _ e=>e))
    clear wo hB h4 he ht hx hb ho LK;go_wp2_with fail
    go_ret;exact⟨rfl,_,D3,Hs3,pc2,col2,colR3,aW,cW,W,K',WO.o,FX.o⟩
end
end Go.Proofs.YtbdkogimlbnlmaaGreat
