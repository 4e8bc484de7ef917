import Derived.Test.YtbdkogimlbnlmaaGreatWtB8
set_option linter.unusedVariables false
set_option linter.unusedSimpArgs false
set_option maxHeartbeats 8000000
set_option maxRecDepth 8000
namespace Go.Proofs.YtbdkogimlbnlmaaGreat
open Go.RowKit
variable {cs:Array Value}{e g kb:Nat}{t:TypeId}{W w w' w0:World}
theorem rD(L:List (Int×Pv)){m i:Nat}(h1:m<=i)(h2:i<L.length):(L.take (i+1)).drop m=(L.take i).drop m++[L.getD i iA]:=by
 rw[Q.jt L iA h2,List.drop_append_of_le_length (by rw[bi];omega)]
theorem Vq.pooled_box{w1:World}{b:Nat}{P P1:Q.Po}{fl:Nat}{D:Vd}{pc pc1 col:Nat->Nat}(h:Vq w b P fl D pc col)(hW:Below w.heap.size w W){x:Nat}{o:Obj}(hx:w.heap.size<=x)(ho:W.heap[x]?=some o)(hp:Q.Pl w1 D.pb P1 pc1)(hf:Q.Fr W pc w1 pc1):
 ∃col1,Vq w1 b P1 fl D pc1 col1/\Vf w col w1 col1/\col1 x=0/\w1.heap[x]?=some o:=by
 have cx:col x=0:=by
  cases e:col x with
  |zero=>rfl
  |succ n=>have:=h.lt x (by omega);omega
 have xl:x<W.heap.size:=(af.1 ho).1;obtain⟨v1,f1⟩:=(h.keep hW).pooled hp hf;exact⟨_,v1,(Vf.keep hW).trans f1,(iR xl).trans cx,hf.b.same ho (λhk=>by have:=h.cp x hk;omega)⟩
theorem iz{v0 v1:Value}(h:W.heap[g]?=some (.cells #[v0,v1] t (0,0))):W.cell? ⟨g,0,none⟩=some v0/\W.cell? ⟨g,1,none⟩=some v1:=by
 rw[au _ _ _ _ _ _ h,au _ _ _ _ _ _ h];exact⟨rfl,rfl⟩
theorem tP(w:World)(b:Nat)(P:Q.Po)(fl:Nat)(D:Vd)(pc col:Nat->Nat)(h:Vq w b P fl D pc col)(k m:Nat)(hm:m<=D.ch.length)(hk:P.mark<=9223372036854775807):
 Calls Tryz.prog 143 #[.pointer (some ⟨b,0,none⟩),.agg #[.int .i64 ((k:Nat):Int),.int .i64 ((m:Nat):Int)]] w λe w'=>e=.returned (.tuple #[])/\∃pc' col',Vq w' b (P.undo ((k:Nat):Int)) fl {D with f:=unl D.f (D.ch.drop m),ch:=D.ch.take m} pc' col'/\Vf w col w' col':=by
 have A1:=ig (bt (al w (.cells #[.int .i64 ((k:Nat):Int),.int .i64 ((m:Nat):Int)] 137)) (Q.drw _));have HX:=ig (az w (.cells #[.int .i64 ((k:Nat):Int),.int .i64 ((m:Nat):Int)] 137));have UN:=ig λ(W:World)(hb:Below w.heap.size w W)=>Q.AQ W D.pb P pc (h.pool.keep hb) ((k:Nat):Int) hk
 have HV:=ig h;have HM:=ig hm;have HL:=ig (h.chr.capLe);have S1:=ig (show(w.alloc (.cells #[.int .i64 ((k:Nat):Int),.int .i64 ((m:Nat):Int)] 137)).drew.cell? ⟨b,0,none⟩=some (.pointer (some ⟨D.pb,0,none⟩))/\(w.alloc (.cells #[.int .i64 ((k:Nat):Int),.int .i64 ((m:Nat):Int)] 137)).drew.cell? ⟨w.heap.size,0,none⟩=some (.int .i64 ((k:Nat):Int)) from⟨(h.keep A1.o).cells.1,(iz HX.o).1⟩)
 clear h hm;go_enter Tryz.func143,Tryz.ntmps143;go_wp2_with fail
 refine bu (S:=λW=>W.cell? ⟨b,0,none⟩=some (.pointer (some ⟨D.pb,0,none⟩))/\W.cell? ⟨w.heap.size,0,none⟩=some (.int .i64 ((k:Nat):Int))) (by kernel_rfl) (S1.o) (λhHeld=>?_)
 refine tkd 0 1 2 3 ?_;refine tkb 4 5 ?_;refine tw 6 λK hK=>?_
 go_simp;refine(UN.o _ A1.o).mono ?_;rintro _ w1 ⟨rfl,pc1,hp,hf⟩;obtain⟨col1,v1,f1,cx,hx1⟩:=HV.o.pooled_box A1.o (ai _) HX.o hp hf;have V1:=ig v1;have F1:=ig f1;have CX:=ig cx;have HX1:=ig hx1;have e2:=v1.cells.2.2.1;clear hp hf v1 f1 cx hx1;go_wp2_with fail
 refine hK.o _ _ (⟨V1.o.cells.1,(iz HX1.o).1⟩) (λhHeld=>?_)
 clear hK K;try simp only[pt]
 refine td ?_;clear hHeld S1 UN;obtain⟨nn,hnn⟩:∃nn,D.ch.length=nn:=⟨_,rfl⟩;have HN:=ig hnn;rw[hnn] at e2 HM HL;have hmn:=HM.o;have hl64:nn<=9223372036854775807:=by have:=HL.o.1;have:=HL.o.2;unfold maxLen at this;omega
 have s0:IntKind.i64.wrap ((nn:Int)-1)=(nn:Int)-1:=iw (by omega) (by omega)
 clear hnn;go_wp2_with fail
 clear s0 e2;obtain⟨P1,hP1⟩:∃P1,P.undo ((k:Nat):Int)=P1:=⟨_,rfl⟩;have HP1:=ig hP1;rw[hP1] at V1;clear hP1;go_loopw [4] (λi wr=>∃(j:Nat)(f':Int->Option Pv),m<=j/\j<=nn/\i=.int .i64 ((j:Int)-1)/\Vq wr b P1 fl {D with f:=f'} pc1 col1/\Vf w1 col1 wr col1/\unl f' ((D.ch.take j).drop m)=unl D.f (D.ch.drop m)) (λi _=>(intOf i+1).toNat)
 case atStart=>exact⟨nn,D.f,HM.o,ai _,rfl,V1.o,Vf.refl _ _,by rw[<-HN.o,cU]⟩
 case round=>
  obtain⟨j,f',hj1,hj2,rfl,hV,hF,hU⟩:=hrel;have HV2:=ig hV;have HF2:=ig hF;have HU:=ig hU;have HX2:=ig (hF.b.same HX1.o (λe=>by rw[CX.o] at e;omega))
  obtain⟨x0,x1⟩:=iz HX2.o;clear hV hF hU;by_cases hjm:j=m
  . subst hjm;have d1:decide ((j:Int)<=(j:Int)-1)=false:=ax (by omega)
    have FIN:=ig (show ∀W:World,Vq W b P1 fl {D with f:=f',ch:=D.ch.take j} pc1 col1->Vf w1 col1 W col1->∃pc' col',Vq W b P1 fl {D with f:=unl D.f (D.ch.drop j),ch:=D.ch.take j} pc' col'/\Vf w col W col' from λW hv hf=>⟨pc1,col1,by
     have e:f'=unl D.f (D.ch.drop j):=by
      rw[<-HU.o,dC (by rw[bi];omega)];rfl
     rw[<-e];exact hv,F1.o.trans hf⟩)
    have hjc:(j:Int)<=(D.cc:Int):=by have:=HL.o.1;omega
    by_cases hjn:j=nn
    . subst hjn;have hcl:∀(X:Option Addr)(c:Nat),(Builtin.clear_ #[82] 0 #[.slice X 0 c]).run Tryz.prog wr.drew=.ok (.tuple #[]) wr.drew:=λX c=>by cases X<;>simp[Builtin.clear_,de Tryz.underlying82]
      obtain⟨v5,f5⟩:=HV2.o.cut (m:=j) (by show j<=D.ch.length;rw[HN.o];exact ai _)
      have V5:=ig (FIN.o _ (v5.keep (bt (Q.drw _) (Q.drw _))) (HF2.o.trans (f5.trans (Vf.keep (bt (Q.drw _) (Q.drw _))))));have fS:=HV2.o.free 2;have e2:=HV2.o.cells.2.2.1
      have hac:D.ac=none\/∃g,D.ac=some ⟨g,0,none⟩:=by
       rcases HV2.o.chr.cases with⟨h0,_⟩|⟨g,_,h0,_⟩
       . exact .inl h0
       . exact .inr ⟨g,h0⟩
      simp only at e2 V5;rw[HN.o] at e2;clear v5 f5 HV2 HF2 HU FIN HV V1 F1 HM HL;obtain⟨a,ha⟩:∃a,D.ac=a:=⟨_,rfl⟩;obtain⟨c,hc⟩:∃c,D.cc=c:=⟨_,rfl⟩;have HA:=ig ha;have HC:=ig hc;rw[ha] at e2 V5 hac;rw[hc] at e2 V5 hjc;clear ha hc;rcases hac with rfl|⟨g,rfl⟩
      . go_wp2_with fail
        go_region
        all_goals
         go_wp2;go_region
         all_goals
          go_wp2;go_end0
          refine⟨rfl,?_⟩;rw[HP1.o,HA.o,HC.o];exact V5.o
      . by_cases hcj:c=j
        . subst hcj;go_wp2_with fail
          go_region
          all_goals
           go_wp2;go_region
           all_goals
            go_wp2;go_end0
            refine⟨rfl,?_⟩;rw[HP1.o,HA.o,HC.o];exact V5.o
        . go_wp2_with fail
          go_region
          all_goals
           go_wp2;go_region
           all_goals
            go_wp2;go_end0
            refine⟨rfl,?_⟩;rw[HP1.o,HA.o,HC.o];exact V5.o
    . have hjlt:j<D.ch.length:=by rw[HN.o];omega
      obtain⟨g,ha,gb,c3,w4,hr,v4,b4⟩:=(HV2.o.keep (Q.drw wr)).cleared hjlt;obtain⟨v5,f5⟩:=v4.cut (m:=j) (by show j<=(D.ch.take j++List.replicate (D.ch.length-j) iA).length;simp;omega)
      have et:(D.ch.take j++List.replicate (D.ch.length-j) iA).take j=D.ch.take j:=by rw[dJ (by rw[bi];omega),df (by rw[bi];omega)]
      simp only[et] at v5;have V5:=ig (FIN.o _ (v5.keep (Q.drw _)) (HF2.o.trans ((Vf.keep (Q.drw wr)).trans ((⟨b4.mono (λx _ e=>by rw[e,c3];decide),λ_ _=>rfl⟩:Vf wr.drew col1 w4 col1).trans (f5.trans (Vf.keep (Q.drw _)))))))
      have e2:=HV2.o.cells.2.2.1;have e4:=v4.cells.2.2.1;have fS:=v4.free 2;have x4:=b4.same (show wr.drew.heap[w.heap.size]?=_ from HX2.o) (λe=>by rw[<-e,CX.o] at c3;cases c3)
      obtain⟨y0,y1⟩:=iz x4;simp only at e2 e4 ha hr V5;rw[show(D.ch.take j++List.replicate (D.ch.length-j) iA).length=nn by have:=HN.o;simp;omega] at e4
      rw[HN.o] at e2 hr;have hcj:¬(D.cc=j):=by have:=HL.o.1;omega
      clear v4 v5 f5 b4 x4 c3 HV2 HF2 HU FIN HV V1 F1 HM HL et hjlt;obtain⟨c,hc⟩:∃c,D.cc=c:=⟨_,rfl⟩;have HA:=ig ha;have HC:=ig hc;rw[ha] at e2 e4 V5;rw[hc] at e2 e4 V5 hjc hcj hr;clear ha hc;go_wp2_with fail
      go_region
      all_goals
       go_wp2;go_region
       all_goals
        go_wp2;go_end0
        refine⟨rfl,?_⟩;rw[HP1.o,HA.o,HC.o];exact V5.o
  . obtain⟨i,rfl⟩:∃i,j=i+1:=⟨j-1,by omega⟩
    have ei:((i+1:Nat):Int)-1=(i:Int):=by omega
    rw[ei];have d1:decide ((m:Int)<=(i:Int))=true:=ay (by omega)
    have hil:i<D.ch.length:=by rw[HN.o];omega
    have hiI:(i:Int)<(nn:Int):=by omega
    obtain⟨g,ha,k0,k1,k2,k3,k4,k5⟩:=HV2.o.change (D:={D with f:=f'}) hil;have CZ:=ig (HV2.o.cz (D.ch.getD i iA) (by show _∈D.ch;rw[aq,aU hil];exact dZ hil))
    have TL:=ig (rD D.ch (m:=m) (i:=i) (by omega) hil)
    have S6:=ig λ(W:World)(f2:Int->Option Pv)(hv:Vq W b P1 fl {D with f:=f2} pc1 col1)=>(show W.cell? ⟨b,2,none⟩=some (.slice (some ⟨g,0,none⟩) nn D.cc)/\W.cell? ⟨g,i*6,none⟩=some (.int .i64 (D.ch.getD i iA).1)/\W.cell? ⟨g,i*6+1,none⟩=some (.int .i64 (D.ch.getD i iA).2.kind)/\W.cell? ⟨g,i*6+2,none⟩=some (.int .i64 (D.ch.getD i iA).2.level)/\
     W.cell? ⟨g,i*6+3,none⟩=some (.slice (D.ch.getD i iA).2.aI (D.ch.getD i iA).2.items.length (D.ch.getD i iA).2.cI)/\W.cell? ⟨g,i*6+4,none⟩=some (.slice (D.ch.getD i iA).2.aD (D.ch.getD i iA).2.data.length (D.ch.getD i iA).2.cD)/\W.cell? ⟨g,i*6+5,none⟩=some (.int .i64 (D.ch.getD i iA).2.next) from by
      obtain⟨g2,ha2,y0,y1,y2,y3,y4,y5⟩:=hv.change (D:={D with f:=f2}) hil;have ha2:D.ac=some ⟨g2,0,none⟩:=ha2;rw[show D.ac=some ⟨g,0,none⟩ from ha] at ha2
      cases ha2;have e:=hv.cells.2.2.1;rw[show D.ac=some ⟨g,0,none⟩ from ha,HN.o] at e
      exact⟨e,y0,y1,y2,y3,y4,y5⟩)
    clear k0 k1 k2 k3 k4 k5 ha;have S5:=ig (S6.o _ _ (HV2.o.keep (Q.drw wr)));have VS:=ig (uB wr.drew b P1 fl {D with f:=f'} pc1 col1 (HV2.o.keep (Q.drw wr)) (D.ch.getD i iA).1 (D.ch.getD i iA).2 (CZ.o.keep (Q.drw wr)));have G1:=ig (show ∀W:World,Vq W b P1 fl {D with f:=iQ f' (D.ch.getD i iA).1 (D.ch.getD i iA).2} pc1 col1->Vf wr.drew col1 W col1->∃(j2:Nat)(f2:Int->Option Pv),m<=j2/\j2<=nn/\Value.int .i64 ((i:Int)-1)=.int .i64 ((j2:Int)-1)/\Vq W b P1 fl {D with f:=f2} pc1 col1/\Vf w1 col1 W col1/\unl f2 ((D.ch.take j2).drop m)=unl D.f (D.ch.drop m) from λW hv hf=>⟨i,_,by omega,by omega,rfl,hv,HF2.o.trans ((Vf.keep (Q.drw wr)).trans hf),by rw[<-HU.o,TL.o,Be]⟩)
    have s1:IntKind.i64.wrap ((i:Int)-1)=(i:Int)-1:=iw (by omega) (by omega)
    have WN:=ig s1;clear s1 HU HF2 TL CZ;obtain⟨c,hc⟩:∃c,D.ch.getD i iA=c:=⟨_,rfl⟩;rw[hc] at VS G1 S5;simp only[hc] at S6;clear hc;obtain⟨cn,ck,cl,caI,ccI,cit,caD,ccD,cda,cnx⟩:=c;unfold Pv.vl at VS;simp only[Pv.cs] at VS S5 S6 G1;have hi0:(0:Int)<=(i:Int):=by omega
    go_wp2_with fail
    refine bu (S:=λW=>W.cell? ⟨b,2,none⟩=some (.slice (some ⟨g,0,none⟩) nn D.cc)/\W.cell? ⟨g,i*6,none⟩=some (.int .i64 cn)/\W.cell? ⟨g,i*6+1,none⟩=some (.int .i64 ck)/\W.cell? ⟨g,i*6+2,none⟩=some (.int .i64 cl)/\W.cell? ⟨g,i*6+3,none⟩=some (.slice caI cit.length ccI)/\W.cell? ⟨g,i*6+4,none⟩=some (.slice caD cda.length ccD)/\W.cell? ⟨g,i*6+5,none⟩=some (.int .i64 cnx)) (by kernel_rfl) (S5.o) (λhHeld=>?_)
    refine tkd 0 1 2 3 ?_;refine tkd 4 5 6 7 ?_;refine tkd 8 9 10 11 ?_;refine tkd 12 13 14 15 ?_;refine tk 16 ?_;refine tw 17 λK hK=>?_
    go_simp;refine VS.o.mono ?_;rintro _ w3 ⟨rfl,hv,hf⟩;have V3:=ig hv;have F3:=ig hf;clear hv hf;go_wp2_with fail
    refine hK.o _ _ (S6.o _ _ V3.o) (λhHeld=>?_)
    clear hK K;try simp only[pt]
    refine td ?_;clear hHeld S5 S6 VS;have s1:=WN.o;go_wp2;go_roundw
    case rel=>exact G1.o _ V3.o F3.o
    case measure=>simp[intOf]
theorem ma(a b:Int):(a==b)=decide (a=b):=by
 by_cases h:a=b
 . subst h;simp
 . simp[h]
theorem iV(w:World)(n:Int):Calls Tryz.prog 159 #[.int .i64 n] w λe w'=>e=.returned (.bool (j6 n))/\w'=w:=by
 unfold j6;by_cases h1:1<=n
 . have h1':decide (1<=n)=true:=by simpa using h1
   go_enter Tryz.func159,Tryz.ntmps159;go_wp2;go_ret;exact⟨by simp[h1],rfl⟩
 . have h1':decide (1<=n)=false:=by simpa using h1
   go_enter Tryz.func159,Tryz.ntmps159;go_wp2;go_ret;exact⟨by simp,rfl⟩
theorem ry(w:World)(r:Iv):Calls Tryz.prog 200 #[r.vl] w λe w'=>e=.returned (.bool (decide (r.size<=32)))/\∃o,w'=w.alloc o:=by
 unfold Iv.vl Iv.cs;go_enter Tryz.func200,Tryz.ntmps200;go_wp2;go_ret;exact⟨rfl,_,rfl⟩
def Kp(w:World)(kb:Nat)(e:Nat):Prop:=w.heap[kb]?=some (.cells #[.int .i64 (e:Int)] 42 (0,0))
theorem Kp.cell{w:World}{kb e:Nat}(h:Kp w kb e):w.cell? ⟨kb,0,none⟩=some (.int .i64 (e:Int)):=by rw[au _ _ _ _ _ _ h];rfl
theorem Kp.frozen(h:Kp w kb e):w.frozen? ⟨kb,0,none⟩=false:=bq w kb 0 _ _ h
theorem Kp.lt(h:Kp w kb e):kb<w.heap.size:=(af.1 h).1
theorem Kp.set(h:Kp w kb e)(x:Nat):Kp (w.setCell ⟨kb,0,none⟩ (.int .i64 (x:Int))) kb x:=aM w kb 0 _ _ _ h
theorem Kp.keep(h:Kp w kb e)(hb:Below w.heap.size w w'):Kp w' kb e:=(hb.block kb h.lt).trans h
def tel(e:Nat)(wrong:Bool)(x:Nat):Nat:=if wrong=true/\e=0 then x else e
def tv(kb:Nat):Value:=.func (.func 179) #[] #[.pointer (some ⟨kb,0,none⟩)]
def fv(kb:Nat):Value:=.func (.func 180) #[] #[.pointer (some ⟨kb,0,none⟩)]
theorem x9(w:World):Calls Tryz.prog 156 #[] w λe w'=>e=.returned (.tuple #[tv w.heap.size,fv w.heap.size])/\w'=w.alloc (.cells #[.int .i64 0] 42):=by
 go_enter Tryz.func156,Tryz.ntmps156;go_wp2;go_ret2
 exact⟨rfl,rfl⟩
theorem lS(w:World)(kb e:Nat)(h:Kp w kb e):Calls Tryz.prog 180 #[.pointer (some ⟨kb,0,none⟩)] w λx w'=>x=.returned (.int .i64 (e:Int))/\w'=w:=by
 have c:=h.cell;clear h;go_enter Tryz.func180,Tryz.ntmps180;go_wp2;go_ret;exact⟨rfl,rfl⟩
theorem Ad(w:World)(kb e:Nat)(h:Kp w kb e)(wrong:Bool)(x:Nat):Calls Tryz.prog 179 #[.bool wrong,.int .i64 (x:Int),.pointer (some ⟨kb,0,none⟩)] w λy w'=>y=.returned (.tuple #[])/\Kp w' kb (tel e wrong x)/\But (λk=>k=kb) w w':=by
 have c:=h.cell;have f:=h.frozen;have H:=ig h;clear h;cases wrong with
 |false=>
  go_enter Tryz.func179,Tryz.ntmps179;go_wp2;go_end0
  exact⟨rfl,by simpa[tel] using H.o,But.refl _ _⟩
 |true=>
  by_cases he:e=0
  . subst he;rw[show((0:Nat):Int)=0 from rfl] at c
    go_enter Tryz.func179,Tryz.ntmps179;go_wp2;go_end0
    exact⟨rfl,by simpa[tel] using H.o.set x,(But.refl (λk=>k=kb) w).setCell (p:=⟨kb,0,none⟩) (λ_=>rfl) _⟩
  . have he':(((e:Nat):Int)==0)=false:=by simpa using he
    go_enter Tryz.func179,Tryz.ntmps179;go_wp2;go_end0
    exact⟨rfl,by simpa[tel,he] using H.o,But.refl _ _⟩
structure Kt(w0:World)(kb:Nat)(w:World)(e:Nat):Prop where
 c:Kp w kb e
 b:Below w0.heap.size w0 w
 l:w0.heap.size<=kb
theorem Kt.keep(h:Kt w0 kb w e)(hb:Below w.heap.size w w'):Kt w0 kb w' e:=⟨h.c.keep hb,bt h.b hb,h.l⟩
theorem Kt.but{e':Nat}(h:Kt w0 kb w e)(hb:But (λk=>k=kb) w w')(hc:Kp w' kb e'):Kt w0 kb w' e':=
 ⟨hc,((But.ofBelow (S:=λ_=>False) h.b).trans hb λx hx e=>by have:=h.l;omega).below λ_ _ h=>h,h.l⟩
def Bx(w:World)(t:TypeId)(g:Nat)(cs:Array Value):Prop:=w.heap[g]?=some (.cells cs t (0,0))
theorem Bx.cell{w:World}{t:TypeId}{g:Nat}{cs:Array Value}(h:Bx w t g cs)(i:Nat){v:Value}(hv:cs[i]?=some v):w.cell? ⟨g,i,none⟩=some v:=by rw[au _ _ _ _ _ _ h];exact hv
theorem Bx.lt(h:Bx w t g cs):g<w.heap.size:=(af.1 h).1
theorem Bx.keep(h:Bx w t g cs)(hb:Below w.heap.size w w'):Bx w' t g cs:=(hb.block g h.lt).trans h
theorem Bx.but{S:Nat->Prop}(h:Bx w t g cs)(hb:But S w w')(hn:¬S g):Bx w' t g cs:=(hb.block g h.lt hn).trans h
theorem Bx.new(w:World)(t:TypeId)(cs:Array Value):Bx (w.alloc (.cells cs t)) t w.heap.size cs:=aH _ _
theorem Bx.page{p:Pv}(h:Bx w 31 g p.cs):w.cell? ⟨g,0,none⟩=some (.int .i64 p.kind)/\w.cell? ⟨g,1,none⟩=some (.int .i64 p.level)/\w.cell? ⟨g,2,none⟩=some (.slice p.aI p.items.length p.cI)/\w.cell? ⟨g,3,none⟩=some (.slice p.aD p.data.length p.cD)/\w.cell? ⟨g,4,none⟩=some (.int .i64 p.next):=
 ⟨h.cell 0 rfl,h.cell 1 rfl,h.cell 2 rfl,h.cell 3 rfl,h.cell 4 rfl⟩
theorem Bx.item{p:Iv}(h:Bx w 51 g p.cs):w.cell? ⟨g,0,none⟩=some (.slice p.aK p.key.length p.cK)/\w.cell? ⟨g,1,none⟩=some (.slice p.aV p.val.length p.cV)/\w.cell? ⟨g,2,none⟩=some (.int .i64 p.child)/\w.cell? ⟨g,3,none⟩=some (.int .i64 p.size):=
 ⟨h.cell 0 rfl,h.cell 1 rfl,h.cell 2 rfl,h.cell 3 rfl⟩
theorem no(w0:World)(w:World)(kb e:Nat)(t:TypeId)(g:Nat)(cs:Array Value)(h:Kt w0 kb w e)(hg:Bx w t g cs)(ne:g≠kb)(wrong:Bool)(xi:Int)(x:Nat)(hx:xi=x):
 Calls Tryz.prog 179 #[.bool wrong,.int .i64 xi,.pointer (some ⟨kb,0,none⟩)] w λy w'=>y=.returned (.tuple #[])/\Kt w0 kb w' (tel e wrong x)/\Bx w' t g cs/\But (λk=>k=kb) w w':=by
 subst hx;refine(Ad w kb e h.c wrong x).mono ?_;rintro y w' ⟨rfl,h1,h2⟩;exact⟨rfl,h.but h2 h1,hg.but h2 ne,h2⟩
theorem pm(w:World)(p:Pv)(f:Int):Calls Tryz.prog 181 #[p.vl,.int .i64 f] w λe w'=>e=.returned (.bool (decide (f<=p.items.length)&&decide (p.items.length<=8)&&decide (p.data.length=0)&&decide (p.next=0)))/\Below w.heap.size w w':=by
 unfold Pv.vl Pv.cs;obtain⟨kind,level,aI,cI,items,aD,cD,data,next⟩:=p
 dsimp only;generalize items.length=n;generalize data.length=d;by_cases h1:f<=(n:Int)
 . by_cases h2:(n:Int)<=8
   . by_cases h3:d=0
     . subst h3;have h1':decide (f<=(n:Int))=true:=by simpa using h1
       have h2':decide ((n:Int)<=8)=true:=by simpa using h2
       have h2n:decide (n<=8)=true:=by simp;omega
       go_enter Tryz.func181,Tryz.ntmps181;go_wp2;go_ret;exact⟨by simp[h1',h2n,ma],al _ _⟩
     . have h1':decide (f<=(n:Int))=true:=by simpa using h1
       have h2':decide ((n:Int)<=8)=true:=by simpa using h2
       have h3':(((d:Nat):Int)==0)=false:=by simpa using h3
       go_enter Tryz.func181,Tryz.ntmps181;go_wp2;go_ret;exact⟨by simp[h3],al _ _⟩
   . have h1':decide (f<=(n:Int))=true:=by simpa using h1
     have h2':decide ((n:Int)<=8)=false:=by simpa using h2
     have h2n:decide (n<=8)=false:=by simp;omega
     go_enter Tryz.func181,Tryz.ntmps181;go_wp2;go_ret;exact⟨by simp,al _ _⟩
 . have h1':decide (f<=(n:Int))=false:=by simpa using h1
   go_enter Tryz.func181,Tryz.ntmps181;go_wp2;go_ret;exact⟨by simp,al _ _⟩
theorem mo(h:Kt w0 kb w e):w.heap.size≠kb:=by have:=h.c.lt;omega
def Pg.formE(p:Pg):Nat:=if p.kindOk=false then 22 else if p.form=false then 5 else 0
theorem sR(w0 w:World)(kb:Nat)(p:Pv)(h:Kt w0 kb w 0):Calls Tryz.prog 157 #[p.vl,tv kb] w λx w'=>x=.returned (.tuple #[])/\Kt w0 kb w' p.pg.formE:=by
 have hne:=mo h;have H:=ig (h.keep (al w (.cells p.cs 31)));have B:=ig (Bx.new w 31 p.cs);have TN:=ig λ(w1:World)(e:Nat)(hk:Kt w0 kb w1 e)(hB:Bx w1 31 w.heap.size p.cs)(wrong:Bool)(xi:Int)(x:Nat)(hx:xi=x)=>no w0 w1 kb e 31 w.heap.size p.cs hk hB hne wrong xi x hx
 have HA:=ig λ(w1:World)(f:Int)=>pm w1 p f
 have PG:=ig λ(w1:World)(hB:Bx w1 31 w.heap.size p.cs)=>Bx.page hB
 clear h;obtain⟨kind,level,aI,cI,items,aD,cD,data,next⟩:=p
 unfold Pv.vl tv;simp only[Pv.cs,Pv.vl] at *;by_cases k1:kind=1
 . subst k1;go_enter Tryz.func157,Tryz.ntmps157;go_wp2_with (first|(go_at_call 179;refine(TN.o _ _ H.o B.o _ _ 5 rfl).mono ?_;rintro y w1 ⟨rfl,hk,hb,_⟩;have H:=ig hk;have B:=ig hb;obtain⟨c0,c1,c2,c3,c4⟩:=PG.o _ hb;clear hk hb)|(go_at_call 181;refine(HA.o _ _).mono ?_;rintro y w1 ⟨rfl,hbl⟩;have H:=ig (H.o.keep hbl);have B:=ig (B.o.keep hbl);obtain⟨c0,c1,c2,c3,c4⟩:=PG.o _ B.o;clear hbl))
   all_goals (go_end0;refine⟨rfl,(aY (Kt w0 kb _) ?_).mp H.o⟩;simp[tel,Pg.formE,Pg.kindOk,Pg.form,Pv.pg];grind)
 . by_cases k2:kind=2
   . subst k2;go_enter Tryz.func157,Tryz.ntmps157;go_wp2_with (first|(go_at_call 179;refine(TN.o _ _ H.o B.o _ _ 5 rfl).mono ?_;rintro y w1 ⟨rfl,hk,hb,_⟩;have H:=ig hk;have B:=ig hb;obtain⟨c0,c1,c2,c3,c4⟩:=PG.o _ hb;clear hk hb)|(go_at_call 181;refine(HA.o _ _).mono ?_;rintro y w1 ⟨rfl,hbl⟩;have H:=ig (H.o.keep hbl);have B:=ig (B.o.keep hbl);obtain⟨c0,c1,c2,c3,c4⟩:=PG.o _ B.o;clear hbl))
     all_goals (go_end0;refine⟨rfl,(aY (Kt w0 kb _) ?_).mp H.o⟩;simp[tel,Pg.formE,Pg.kindOk,Pg.form,Pv.pg];grind)
   . by_cases k3:kind=3
     . subst k3;go_enter Tryz.func157,Tryz.ntmps157;go_wp2_with (first|(go_at_call 179;refine(TN.o _ _ H.o B.o _ _ 5 rfl).mono ?_;rintro y w1 ⟨rfl,hk,hb,_⟩;have H:=ig hk;have B:=ig hb;obtain⟨c0,c1,c2,c3,c4⟩:=PG.o _ hb;clear hk hb)|(go_at_call 181;refine(HA.o _ _).mono ?_;rintro y w1 ⟨rfl,hbl⟩;have H:=ig (H.o.keep hbl);have B:=ig (B.o.keep hbl);obtain⟨c0,c1,c2,c3,c4⟩:=PG.o _ B.o;clear hbl))
       all_goals (go_end0;refine⟨rfl,(aY (Kt w0 kb _) ?_).mp H.o⟩;clear H B TN HA PG;have hi:(0<items.length)=¬items=[]:=(by rw[bN]);simp[tel,Pg.formE,Pg.kindOk,Pg.form,Pv.pg];grind)
     . have k1':(kind==1)=false:=by simpa using k1
       have k2':(kind==2)=false:=by simpa using k2
       have k3':(kind==3)=false:=by simpa using k3
       go_enter Tryz.func157,Tryz.ntmps157;go_wp2_with (go_at_call 179;refine(TN.o _ _ H.o B.o _ _ 22 rfl).mono ?_;rintro y w1 ⟨rfl,hk,hb,_⟩;have H:=ig hk)
       all_goals (go_end0;refine⟨rfl,(aY (Kt w0 kb _) ?_).mp H.o⟩;simp[tel,Pg.formE,Pg.kindOk,Pg.form,Pv.pg];grind)
def It.leafE(x:It):Nat:=if x.valOk 1=false then 8 else if x.kidOk 1=false then 15 else 0
def els(e x:Nat):Nat:=if e≠0 then e else x
theorem jV(w0 w:World)(kb e:Nat)(p:Iv)(h:Kt w0 kb w e):Calls Tryz.prog 183 #[p.vl,tv kb] w λx w'=>x=.returned (.tuple #[])/\Kt w0 kb w' (els e p.it.leafE)/\But (λk=>k=kb) w w':=by
 have hne:=mo h;have H:=ig (h.keep (al w (.cells p.cs 51)));have B:=ig (Bx.new w 51 p.cs);have U:=ig (But.ofBelow (S:=λk=>k=kb) (al w (.cells p.cs 51)))
 have TN:=ig λ(w1:World)(e:Nat)(hk:Kt w0 kb w1 e)(hB:Bx w1 51 w.heap.size p.cs)(wrong:Bool)(xi:Int)(hx:0<=xi)=>no w0 w1 kb e 51 w.heap.size p.cs hk hB hne wrong xi xi.toNat (by omega)
 have SH:=ig λ(w1:World)=>ry w1 p
 have PG:=ig λ(w1:World)(hB:Bx w1 51 w.heap.size p.cs)=>Bx.item hB
 clear h;obtain⟨aK,cK,key,aV,cV,val,child,size⟩:=p;unfold Iv.vl tv;simp only[Iv.cs,Iv.vl] at *;by_cases h32:size<=32
 . have h32':decide (size<=32)=true:=by simpa using h32
   rw[h32'] at SH;go_enter Tryz.func183,Tryz.ntmps183;go_wp2_with (first|(go_at_call 179;refine(TN.o _ _ H.o B.o _ _ (by decide)).mono ?_;rintro y w1 ⟨rfl,hk,hb,UU⟩;have U:=ig (U.o.trans UU (λ_ _ h=>h));have H:=ig hk;have B:=ig hb;obtain⟨c0,c1,c2,c3⟩:=PG.o _ hb;clear hk hb)|(go_at_call 200;refine(SH.o _).mono ?_;rintro y w1 ⟨rfl,o1,rfl⟩;have U:=ig (U.o.andBelow (al _ o1));have H:=ig (H.o.keep (al _ o1));have B:=ig (B.o.keep (al _ o1));obtain⟨c0,c1,c2,c3⟩:=PG.o _ B.o)|(go_at_call 159;refine(iV _ _).mono ?_;rintro y w1 ⟨rfl,hww⟩;obtain rfl:=hww.symm))
   all_goals (go_end0;refine⟨rfl,(aY (Kt w0 kb _) ?_).mp H.o,U.o⟩;clear H B TN SH PG;have hi:(0<val.length)=¬val=[]:=(by rw[bN]);simp[tel,els,It.leafE,It.valOk,It.kidOk,Iv.it,h32];grind)
 . have h32':decide (size<=32)=false:=by simpa using h32
   rw[h32'] at SH;go_enter Tryz.func183,Tryz.ntmps183;go_wp2_with (first|(go_at_call 179;refine(TN.o _ _ H.o B.o _ _ (by decide)).mono ?_;rintro y w1 ⟨rfl,hk,hb,UU⟩;have U:=ig (U.o.trans UU (λ_ _ h=>h));have H:=ig hk;have B:=ig hb;obtain⟨c0,c1,c2,c3⟩:=PG.o _ hb;clear hk hb)|(go_at_call 200;refine(SH.o _).mono ?_;rintro y w1 ⟨rfl,o1,rfl⟩;have U:=ig (U.o.andBelow (al _ o1));have H:=ig (H.o.keep (al _ o1));have B:=ig (B.o.keep (al _ o1));obtain⟨c0,c1,c2,c3⟩:=PG.o _ B.o)|(go_at_call 159;refine(iV _ _).mono ?_;rintro y w1 ⟨rfl,hww⟩;obtain rfl:=hww.symm))
   all_goals (go_end0;refine⟨rfl,(aY (Kt w0 kb _) ?_).mp H.o,U.o⟩;clear H B TN SH PG;have hi:(0<val.length)=¬val=[]:=(by rw[bN]);simp[tel,els,It.leafE,It.valOk,It.kidOk,Iv.it];grind)
end Go.Proofs.YtbdkogimlbnlmaaGreat
