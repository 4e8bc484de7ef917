import Derived.Test.YtbdkogimlbnlmaaGreatWtB13
set_option linter.unusedVariables false
set_option linter.unusedSimpArgs false
set_option maxHeartbeats 8000000
set_option maxRecDepth 8000
namespace Go.Proofs.YtbdkogimlbnlmaaGreat
open Go.RowKit
variable {L:List Iv}{cap g k mb pb x:Nat}{col col' pc:Nat->Nat}{D:Vd}{W w w':World}
theorem iJ{P:Program}{fn:Func}{p q:Tmp}{ty:TypeId}(h:fn.results=#[.cell p ty,.tmp q])(tmps:Array Value)(w:World)(g:Nat)(t:TypeId)(cs:Array Value)(fr:Nat×Nat)(d:TypeDesc)
 (hp:tmps.getD p undef=.pointer (some ⟨g,0,none⟩)) (hg:w.heap[g]?=some (.cells cs t fr))
 (hu:P.underlying ty=some d) (hd:(match d with| .struct _| .array _ _=>true|_=>false)=true) (hi:(P.info? ty).map (·.size)=some cs.size):
 (results fn tmps).run P w=.ok (.tuple #[.agg cs,tmps.getD q undef]) w:=by
 have hp':tmps[p]?.getD undef=.pointer (some ⟨g,0,none⟩):=by simpa using hp
 simp[results,h,hp',asAddr,run_loadVar_row w g t ty cs fr d hg hu hd hi]
def Vm.more(X:Vm)(L:List Int):Int×Vm:=((incAll X.P L).1,{X with P:=(incAll X.P L).2})
theorem Cm(w:World)(b:Nat)(X:Vm)(fl:Nat)(D:Vd)(pc col:Nat->Nat)(h:Vx w b X fl D pc col)(p:Pv)(hp:Pi w p)(hm:X.P.ac.length+p.pg.kids.length<=17592186044416):
 Calls Tryz.prog 146 #[.pointer (some ⟨b,0,none⟩),p.vl] w λe w'=>e=.returned (.int .i64 (X.more p.pg.kids).1)/\∃pc' col',Vx w' b (X.more p.pg.kids).2 fl D pc' col'/\Vf w col w' col':=by
 obtain⟨ac,cc,h⟩:=h;refine(AO w b X.P fl (D.st X ac cc) pc col h p hp hm).mono ?_;rintro _ w' ⟨rfl,pc',col',hv,hf⟩;exact⟨rfl,pc',col',⟨ac,cc,hv⟩,hf⟩
theorem Vx.but{S:Nat->Prop}{b:Nat}{X:Vm}{fl:Nat}(h:Vx w b X fl D pc col)(hb:But S w w')(hn:∀k,col k≠0->¬S k):Vx w' b X fl D pc col:=by
 obtain⟨ac,cc,h⟩:=h;exact⟨ac,cc,h.but hb hn⟩
theorem Vx.row{b:Nat}{X:Vm}{fl:Nat}(h:Vx w b X fl D pc col)(hx:col x=0)(cs:Array Value):Vx (w.setRow x cs) b X fl D pc col:=h.but (Q.iK w x cs) (λk hk e=>hk (by rw[e];exact hx))
theorem Vf.row(h:Vf w col W col')(hx:w.heap.size<=x)(cs:Array Value):Vf w col (W.setRow x cs) col':=
 ⟨h.b.trans (Q.iK W x cs) (λk hk e=>by omega),h.c⟩
def Vm.left(X:Vm)(z:Int):Int×Vm:=if (X.P.dec z).1.2=0/\0<(X.P.dec z).1.1 then (X.less z).more (X.on z).pg.kids else ((X.P.dec z).1.2,X.less z)
def Vm.leave(X:Vm)(z:Int):(Pv×Int)×Vm:=((if (X.left z).1=0 then X.on z else Pv.zero,(X.left z).1),(X.left z).2)
theorem sA(w:World)(b:Nat)(X:Vm)(fl:Nat)(D:Vd)(pc col:Nat->Nat)(z:Int)(h:Vx w b X fl D pc col)(hm:X.P.ac.length+(X.on z).pg.kids.length+1<=17592186044416)(hc:X.ch.length+1<=1759218604441):
 Calls Tryz.prog 106 #[.pointer (some ⟨b,0,none⟩),.int .i64 z] w λe w'=>e=.returned (.tuple #[(X.leave z).1.1.vl,.int .i64 (X.leave z).1.2])/\∃pc' col',Vx w' b (X.leave z).2 fl D pc' col'/\Vf w col w' col':=by
 have aB:=al w (.cells Pv.zero.cs 31);have h0:=h.keep aB;obtain⟨c0,c1⟩:=h.c01;have hl:=h0.look z;have HZ:=ig (h.on_z z);obtain⟨q,hq⟩:∃q,X.on z=q:=⟨_,rfl⟩;have aC:=bt aB (al (w.alloc (.cells Pv.zero.cs 31)) (.cells q.cs 31));have HX:Hid (((w.alloc (.cells Pv.zero.cs 31)).alloc (.cells q.cs 31)).heap[w.heap.size]?=some (.cells Pv.zero.cs 31 (0,0))):=((al (w.alloc (.cells Pv.zero.cs 31)) (.cells q.cs 31)).block w.heap.size (by rw[size_alloc];omega)).trans (az w _)
 have HY:Hid (((w.alloc (.cells Pv.zero.cs 31)).alloc (.cells q.cs 31)).heap[w.heap.size+1]?=some (.cells q.cs 31 (0,0))):=by
  show _=_;have k:=az (w.alloc (.cells Pv.zero.cs 31)) (.cells q.cs 31);rwa [size_alloc] at k
 have SZ:Hid (((w.alloc (.cells Pv.zero.cs 31)).alloc (.cells q.cs 31)).heap.size=w.heap.size+2):=by show _=_;rw[size_alloc,size_alloc]
 have LS:=ig (vg _ b X fl D pc col (h.keep aC) z (by omega) hc)
 have AC:=ig aC;have CX:Hid (col w.heap.size=0):=h.z (ai _);have CY:Hid (col (w.heap.size+1)=0):=h.z (eb _);have hbl:=h.lb;have LP:=X.less_P z
 have dac:(X.less z).P.ac.length<=X.P.ac.length+1:=by
  rw[LP];obtain⟨d1,d2⟩:=ro h.ok z;by_cases e0:(X.P.dec z).1.2=0
  . rw[(d1 e0).2];exact ai _
  . rw[d2 e0];exact eb _
 have LV:X.leave z=((if (X.left z).1=0 then q else Pv.zero,(X.left z).1),(X.left z).2):=by rw[<-hq];rfl
 have LF:X.left z=if (X.P.dec z).1.2=0/\0<(X.P.dec z).1.1 then (X.less z).more q.pg.kids else ((X.P.dec z).1.2,X.less z):=by rw[<-hq];rfl
 have HQ:=ig (show ∀(W:World)(col':Nat->Nat),Vf w col W col'->Pi W q from λW col' hf=>((by rw[hq] at HZ;exact HZ.o:Pz (λk=>col k=6) w q).but hf.b (λk _ e hk=>by omega)).pi)
 have MO:=ig λ(W:World)(pc' col':Nat->Nat)(hv:Vx W b (X.less z) fl D pc' col')(hp:Pi W q)=>Cm W b (X.less z) fl D pc' col' hv q hp (by rw[hq] at hm;omega)
 rw[hq] at hl;obtain⟨X1,hX1⟩:∃X1,X.less z=X1:=⟨_,rfl⟩;rw[hX1] at LF LS MO;obtain⟨c,hcc⟩:∃c,(X.P.dec z).1.1=c:=⟨_,rfl⟩;obtain⟨e,hee⟩:∃e,(X.P.dec z).1.2=e:=⟨_,rfl⟩;rw[hcc,hee] at LF LS;obtain⟨r,hr⟩:∃r,X1.more q.pg.kids=r:=⟨_,rfl⟩;rw[hr] at LF MO;obtain⟨e2,X2⟩:=r;rw[LF] at LV;rw[LV];simp only at MO;clear h h0 LP dac LV LF hX1 hcc hee hr hq aB aC hm hc HZ;obtain⟨kp,lp,aIp,cIp,itp,aDp,cDp,dap,nxp⟩:=q;unfold Pv.vl at *;simp only[Pv.cs] at hl MO LS HX HY SZ AC;simp only[Pv.zero,bh] at hl LS HX HY SZ AC;by_cases h0:e=0
 . subst h0;by_cases hc0:0<c
   . rw[show(if (0:Int)=0/\0<c then (e2,X2) else (0,X1))=(e2,X2) from if_pos ⟨rfl,hc0⟩]
     have d0:decide (0<c)=true:=ay hc0;by_cases h2:e2=0
     all_goals
      first
      |subst h2
       simp only[if_pos]
      |have e20:(e2==0)=false:=by simp[h2]
       simp only[if_neg h2]
      go_enter Tryz.func106,Tryz.ntmps106;go_wp2_with fail
      refine LS.o.mono ?_;rintro _ w1 ⟨rfl,pc1,col1,v1,f1⟩;have V1:=ig v1;have F1:=ig ((Vf.keep AC.o).trans f1);have HX1:=ig (f1.b.same HX.o (λe=>by rw[CX.o] at e;omega))
      have hy1:=f1.b.same HY.o (λe=>by rw[CY.o] at e;omega)
      have CX1:Hid (col1 w.heap.size=0):=(f1.c _ (by rw[SZ.o];omega)).trans CX.o
      have CY1:Hid (col1 (w.heap.size+1)=0):=(f1.c _ (by rw[SZ.o];omega)).trans CY.o
      have SZ1:Hid (w.heap.size+2<=w1.heap.size):=by have:=f1.b.size;rw[SZ.o] at this;exact this
      obtain⟨x0,x1,x2,x3,x4⟩:=iv hy1;have HY1:=ig hy1;clear v1 f1 LS hl c0 c1 hy1 HX HY SZ AC CX CY;go_wp2_with fail
      refine(MO.o _ _ _ V1.o (HQ.o _ _ F1.o)).mono ?_;rintro _ w2 ⟨rfl,pc2,col2,v2,f2⟩;have V1:=ig v2;have F1:=ig (F1.o.trans f2);have HX1:=ig (f2.b.same HX1.o (λe=>by rw[CX1.o] at e;omega))
      have hy2:=f2.b.same HY1.o (λe=>by rw[CY1.o] at e;omega)
      have CX1:Hid (col2 w.heap.size=0):=(f2.c _ (by have:=SZ1.o;omega)).trans CX1.o
      clear x0 x1 x2 x3 x4;obtain⟨x0,x1,x2,x3,x4⟩:=iv hy2;clear v2 f2 hy2;go_wp2_with (first|(refine cu rfl 31 _ _ rfl w.heap.size _ rfl rfl 31 _ HX1.o iq rfl (by simp[Value.oneCell']) ?_)|fail)
      refine bU (v:=.tuple #[.agg _,_]) (iJ Tryz.results106 _ _ w.heap.size 31 _ (0,0) _ rfl (cY _ _ _ _ _ _ HX1.o) Tryz.underlying31 rfl iq) rfl ?_;exact⟨rfl,_,_,V1.o.row CX1.o _,F1.o.row (ai _) _⟩
   . rw[show(if (0:Int)=0/\0<c then (e2,X2) else (0,X1))=(0,X1) from if_neg (λhh=>hc0 hh.2)]
     have d0:decide (0<c)=false:=ax hc0;simp only[if_pos];go_enter Tryz.func106,Tryz.ntmps106;go_wp2_with fail
     refine LS.o.mono ?_;rintro _ w1 ⟨rfl,pc1,col1,v1,f1⟩;have V1:=ig v1;have F1:=ig ((Vf.keep AC.o).trans f1);have HX1:=ig (f1.b.same HX.o (λe=>by rw[CX.o] at e;omega))
     have hy1:=f1.b.same HY.o (λe=>by rw[CY.o] at e;omega)
     have CX1:Hid (col1 w.heap.size=0):=(f1.c _ (by rw[SZ.o];omega)).trans CX.o
     have CY1:Hid (col1 (w.heap.size+1)=0):=(f1.c _ (by rw[SZ.o];omega)).trans CY.o
     have SZ1:Hid (w.heap.size+2<=w1.heap.size):=by have:=f1.b.size;rw[SZ.o] at this;exact this
     obtain⟨x0,x1,x2,x3,x4⟩:=iv hy1;have HY1:=ig hy1;clear v1 f1 LS hl c0 c1 hy1 HX HY SZ AC CX CY;go_wp2_with (first|(refine cu rfl 31 _ _ rfl w.heap.size _ rfl rfl 31 _ HX1.o iq rfl (by simp[Value.oneCell']) ?_)|fail)
     refine bU (v:=.tuple #[.agg _,_]) (iJ Tryz.results106 _ _ w.heap.size 31 _ (0,0) _ rfl (cY _ _ _ _ _ _ HX1.o) Tryz.underlying31 rfl iq) rfl ?_;exact⟨rfl,_,_,V1.o.row CX1.o _,F1.o.row (ai _) _⟩
 . rw[show(if e=0/\0<c then (e2,X2) else (e,X1))=(e,X1) from if_neg (λhh=>h0 hh.1)]
   have e0:(e==0)=false:=by simp[h0]
   simp only[if_neg h0];go_enter Tryz.func106,Tryz.ntmps106;go_wp2_with fail
   refine LS.o.mono ?_;rintro _ w1 ⟨rfl,pc1,col1,v1,f1⟩;have V1:=ig v1;have F1:=ig ((Vf.keep AC.o).trans f1);have HX1:=ig (f1.b.same HX.o (λe=>by rw[CX.o] at e;omega))
   have hy1:=f1.b.same HY.o (λe=>by rw[CY.o] at e;omega)
   have CX1:Hid (col1 w.heap.size=0):=(f1.c _ (by rw[SZ.o];omega)).trans CX.o
   have CY1:Hid (col1 (w.heap.size+1)=0):=(f1.c _ (by rw[SZ.o];omega)).trans CY.o
   have SZ1:Hid (w.heap.size+2<=w1.heap.size):=by have:=f1.b.size;rw[SZ.o] at this;exact this
   obtain⟨x0,x1,x2,x3,x4⟩:=iv hy1;have HY1:=ig hy1;clear v1 f1 LS hl c0 c1 hy1 HX HY SZ AC CX CY;go_wp2_with (first|(refine cu rfl 31 _ _ rfl w.heap.size _ rfl rfl 31 _ HX1.o iq rfl (by simp[Value.oneCell']) ?_)|fail)
   refine bU (v:=.tuple #[.agg _,_]) (iJ Tryz.results106 _ _ w.heap.size 31 _ (0,0) _ rfl (cY _ _ _ _ _ _ HX1.o) Tryz.underlying31 rfl iq) rfl ?_;exact⟨rfl,_,_,V1.o.row CX1.o _,F1.o.row (ai _) _⟩
def Vm.lay(X:Vm)(n:Int)(p:Pv):Vm:={X with f:=iQ X.f n p,ch:=X.ch++[(n,X.on n)]}
theorem tF(w:World)(b:Nat)(X:Vm)(fl:Nat)(D:Vd)(pc col:Nat->Nat)(h:Vx w b X fl D pc col)(n:Int)(p:Pv)(hp:Pz (λk=>col k=6) w p)(hlen:X.ch.length+1<=1759218604441):
 Calls Tryz.prog 131 #[.pointer (some ⟨b,0,none⟩),.int .i64 n,p.vl] w λe w'=>e=.returned (.tuple #[])/\∃pc' col',Vx w' b (X.lay n p) fl D pc' col'/\Vf w col w' col':=by
 obtain⟨ac,cc,h⟩:=h;refine(vz w b X.P fl (D.st X ac cc) pc col h n p hp hlen).mono ?_;rintro _ w' ⟨rfl,ac',cc',col',hv,hf⟩;exact⟨rfl,pc,col',⟨ac',cc',hv⟩,hf⟩
theorem Vx.pz{b:Nat}{X:Vm}{fl:Nat}(h:Vx w b X fl D pc col)(hf:Vf w col w' col'){p:Pv}(hp:Pz (λk=>col k=6) w p):Pz (λk=>col' k=6) w' p:=
 (hp.but hf.b (λk _ e hk=>by omega)).mono (λk _ e=>by
   have e:col k=6:=e;show col' k=6
   rw[hf.c k (by
    by_cases hk:k<w.heap.size
    . exact hk
    . have:=h.z (k:=k) (by omega);omega)]
   exact e)
theorem tE(w:World)(b:Nat)(X:Vm)(fl:Nat)(D:Vd)(pc col:Nat->Nat)(h:Vx w b X fl D pc col)(hm:X.P.ac.length+1<=17592186044416):
 Calls Tryz.prog 130 #[.pointer (some ⟨D.pb,0,none⟩)] w λe w'=>e=.returned (.tuple #[.int .i64 X.P.alloc.1.1,.int .i64 X.P.alloc.1.2])/\∃pc' col',Vx w' b {X with P:=X.P.alloc.2} fl D pc' col'/\Vf w col w' col':=by
 obtain⟨ac,cc,h⟩:=h;refine(Q.yp w D.pb X.P pc h.pool hm).mono ?_;rintro _ w' ⟨rfl,pc',hp,hf⟩;obtain⟨v,f⟩:=h.pooled hp hf;exact⟨rfl,pc',_,⟨ac,cc,v⟩,f⟩
theorem E9(w:World)(b:Nat)(X:Vm)(fl:Nat)(D:Vd)(pc col:Nat->Nat)(h:Vx w b X fl D pc col)(z:Int)(hm:X.P.ac.length+1<=17592186044416):
 Calls Tryz.prog 108 #[.pointer (some ⟨D.pb,0,none⟩),.int .i64 z] w λe w'=>e=.returned (.int .i64 (X.P.inc z).1)/\∃pc' col',Vx w' b {X with P:=(X.P.inc z).2} fl D pc' col'/\Vf w col w' col':=by
 obtain⟨ac,cc,h⟩:=h;refine(Q.vM w D.pb X.P pc h.pool z hm).mono ?_;rintro _ w' ⟨rfl,pc',hp,hf⟩;obtain⟨v,f⟩:=h.pooled hp hf;exact⟨rfl,pc',_,⟨ac,cc,v⟩,f⟩
theorem pZ(P:Q.Po):P.alloc.2.ac.length<=P.ac.length+1:=by
 unfold Q.Po.alloc;split
 . exact eb _
 . simp[Q.Po.act]
theorem Vm.left_ch(X:Vm)(z:Int):(X.left z).2.ch.length<=X.ch.length+1:=by
 unfold Vm.left;split
 all_goals
  exact X.less_ch z
def Vm.shadow(X:Vm)(z:Int):(Int×Int)×Vm:=
 if X.P.alloc.1.2=0 then
  (if ((⟨X.P.alloc.2,X.f,X.ch⟩:Vm).leave z).1.2=0 then ((X.P.alloc.1.1,0),((⟨X.P.alloc.2,X.f,X.ch⟩:Vm).leave z).2.lay X.P.alloc.1.1 (X.on z))
  else ((0,((⟨X.P.alloc.2,X.f,X.ch⟩:Vm).leave z).1.2),((⟨X.P.alloc.2,X.f,X.ch⟩:Vm).leave z).2))
 else ((0,X.P.alloc.1.2),⟨X.P.alloc.2,X.f,X.ch⟩)
theorem x8(w:World)(b:Nat)(X:Vm)(fl:Nat)(D:Vd)(pc col:Nat->Nat)(z:Int)(h:Vx w b X fl D pc col)(hm:X.P.ac.length+(X.on z).pg.kids.length+2<=17592186044416)(hc:X.ch.length+2<=1759218604441):
 Calls Tryz.prog 98 #[.pointer (some ⟨b,0,none⟩),.int .i64 z] w λe w'=>e=.returned (.tuple #[.int .i64 (X.shadow z).1.1,.int .i64 (X.shadow z).1.2])/\∃pc' col',Vx w' b (X.shadow z).2 fl D pc' col'/\Vf w col w' col':=by
 obtain⟨c0,c1⟩:=h.c01;have AL:=ig (tE w b X fl D pc col h (by omega))
 have HZ:=ig (h.on_z z);have HV:=ig h;have PZ:=ig λ(W:World)(col':Nat->Nat)(hf:Vf w col W col')=>h.pz hf (h.on_z z)
 have aac:=pZ X.P;have LE:=ig λ(W:World)(pc' col':Nat->Nat)(hv:Vx W b ⟨X.P.alloc.2,X.f,X.ch⟩ fl D pc' col')=>sA W b ⟨X.P.alloc.2,X.f,X.ch⟩ fl D pc' col' z hv (by show X.P.alloc.2.ac.length+(X.on z).pg.kids.length+1<=_;omega) (by show X.ch.length+1<=_;omega)
 have LCH:((⟨X.P.alloc.2,X.f,X.ch⟩:Vm).leave z).2.ch.length<=X.ch.length+1:=Vm.left_ch _ z
 have LPG:((⟨X.P.alloc.2,X.f,X.ch⟩:Vm).leave z).1.2=0->((⟨X.P.alloc.2,X.f,X.ch⟩:Vm).leave z).1.1=X.on z:=λe=>by
  have e:((⟨X.P.alloc.2,X.f,X.ch⟩:Vm).left z).1=0:=e;unfold Vm.leave;rw[if_pos e];rfl
 unfold Vm.shadow;obtain⟨r,hr⟩:∃r,X.P.alloc=r:=⟨_,rfl⟩;rw[hr] at AL LE LCH LPG ⊢;obtain⟨⟨s,e⟩,P1⟩:=r;simp only at AL LE LCH LPG ⊢;obtain⟨q,hq⟩:∃q,X.on z=q:=⟨_,rfl⟩;rw[hq] at PZ LPG ⊢;obtain⟨l,hl⟩:∃l,(⟨P1,X.f,X.ch⟩:Vm).leave z=l:=⟨_,rfl⟩;rw[hl] at LE LCH LPG ⊢;obtain⟨⟨p,e2⟩,X2⟩:=l;simp only at LE LCH LPG ⊢;clear h hr hl hq aac hm HZ;by_cases h0:e=0
 . subst h0;rw[if_pos rfl];by_cases h2:e2=0
   . subst h2;rw[if_pos rfl];obtain rfl:=LPG rfl;have LY:=ig λ(W:World)(pc' col':Nat->Nat)(hv:Vx W b X2 fl D pc' col')(hp:Pz (λk=>col' k=6) W p)=>tF W b X2 fl D pc' col' hv s p hp (by omega)
     clear LPG LCH hc;obtain⟨kp,lp,aIp,cIp,itp,aDp,cDp,dap,nxp⟩:=p;unfold Pv.vl at LE LY;simp only[Pv.cs] at LE LY;go_enter Tryz.func98,Tryz.ntmps98;go_wp2_with fail
     refine AL.o.mono ?_;rintro _ w1 ⟨rfl,pc1,col1,v1,f1⟩;have V1:=ig v1;have F1:=ig f1;clear v1 f1 AL c0 c1;go_wp2_with fail
     refine(LE.o _ _ _ V1.o).mono ?_;rintro _ w2 ⟨rfl,pc2,col2,v2,f2⟩;have V2:=ig v2;have F2:=ig (F1.o.trans f2);clear v2 f2 LE V1 F1;have a2:=al w2 (.cells (Pv.cs ⟨kp,lp,aIp,cIp,itp,aDp,cDp,dap,nxp⟩) 31);obtain⟨x0,x1,x2,x3,x4⟩:=iv (az w2 (.cells (Pv.cs ⟨kp,lp,aIp,cIp,itp,aDp,cDp,dap,nxp⟩) 31));have F3:=ig (F2.o.trans (Vf.keep a2));have LY2:=ig (LY.o _ _ _ (V2.o.keep a2) (PZ.o _ _ F3.o));clear a2;simp only[Pv.cs] at x0 x1 x2 x3 x4 LY2 F3;go_wp2_with fail
     refine LY2.o.mono ?_;rintro _ w3 ⟨rfl,pc3,col3,v3,f3⟩;have V4:=ig v3;have F4:=ig (F3.o.trans f3);clear v3 f3 x0 x1 x2 x3 x4;go_wp2;go_ret2
     exact⟨rfl,_,_,V4.o,F4.o⟩
   . rw[if_neg h2];have e20:(e2==0)=false:=by simp[h2]
     obtain⟨kp,lp,aIp,cIp,itp,aDp,cDp,dap,nxp⟩:=p;unfold Pv.vl at LE;simp only[Pv.cs] at LE;clear LPG LCH hc;go_enter Tryz.func98,Tryz.ntmps98;go_wp2_with fail
     refine AL.o.mono ?_;rintro _ w1 ⟨rfl,pc1,col1,v1,f1⟩;have V1:=ig v1;have F1:=ig f1;clear v1 f1 AL c0 c1;go_wp2_with fail
     refine(LE.o _ _ _ V1.o).mono ?_;rintro _ w2 ⟨rfl,pc2,col2,v2,f2⟩;have a2:=al w2 (.cells (Pv.cs ⟨kp,lp,aIp,cIp,itp,aDp,cDp,dap,nxp⟩) 31);have V2:=ig (v2.keep a2);have F2:=ig ((F1.o.trans f2).trans (Vf.keep a2));simp only[Pv.cs] at V2 F2;clear v2 f2 LE V1 F1 a2;go_wp2;go_ret2
     exact⟨rfl,_,_,V2.o,F2.o⟩
 . rw[if_neg h0];have e0:(e==0)=false:=by simp[h0]
   clear LPG LCH hc LE;go_enter Tryz.func98,Tryz.ntmps98;go_wp2_with fail
   refine AL.o.mono ?_;rintro _ w1 ⟨rfl,pc1,col1,v1,f1⟩;have V1:=ig v1;have F1:=ig f1;clear v1 f1 AL c0 c1;go_wp2;go_ret2
   exact⟨rfl,_,_,V1.o,F1.o⟩
structure Vs where
 X:Vm
 al:List (Nat×Nat)
 fl:Nat
def Vw(w:World)(b:Nat)(S:Vs)(pb mb:Nat)(pc col:Nat->Nat):Prop:=∃ac cc aa ca,Vq w b S.X.P S.fl ⟨pb,mb,S.X.f,ac,cc,S.X.ch,aa,ca,S.al⟩ pc col
theorem Vw.keep{b:Nat}{S:Vs}(h:Vw w b S pb mb pc col)(hb:Below w.heap.size w w'):Vw w' b S pb mb pc col:=by
 obtain⟨ac,cc,aa,ca,h⟩:=h;exact⟨ac,cc,aa,ca,h.keep hb⟩
def vd0(pb mb:Nat)(aa:Option Addr)(ca:Nat)(al:List (Nat×Nat)):Vd:=⟨pb,mb,λ_=>none,none,0,[],aa,ca,al⟩
theorem Vw.vx{b:Nat}{S:Vs}(h:Vw w b S pb mb pc col):∃aa ca,Vx w b S.X S.fl (vd0 pb mb aa ca S.al) pc col:=by
 obtain⟨ac,cc,aa,ca,h⟩:=h;exact⟨aa,ca,ac,cc,h⟩
theorem Vw.c0{b:Nat}{S:Vs}(h:Vw w b S pb mb pc col):w.cell? ⟨b,0,none⟩=some (.pointer (some ⟨pb,0,none⟩)):=by
 obtain⟨ac,cc,aa,ca,h⟩:=h;exact h.cells.1
theorem Vw.z{b:Nat}{S:Vs}(h:Vw w b S pb mb pc col)(hk:w.heap.size<=k):col k=0:=by
 obtain⟨aa,ca,h⟩:=h.vx;exact h.z hk
def Vm.back(X:Vm)(k m:Nat):Vm:=⟨X.P.undo ((k:Nat):Int),unl X.f (X.ch.drop m),X.ch.take m⟩
def Vs.done(S:Vs)(e:Int)(X:Vm):Vs:=if e=0 then ⟨X,S.al++[(S.X.P.mark,S.X.ch.length)],S.fl⟩ else ⟨X.back S.X.P.mark S.X.ch.length,S.al,S.fl⟩
theorem lj(w:World)(b:Nat)(S:Vs)(pb mb:Nat)(pc col:Nat->Nat)(h:Vw w b S pb mb pc col)(hm:S.X.P.mark<=9223372036854775807):
 Calls Tryz.prog 97 #[.pointer (some ⟨b,0,none⟩)] w λe w'=>e=.returned (.agg #[.int .i64 ((S.X.P.mark:Nat):Int),.int .i64 ((S.X.ch.length:Nat):Int)])/\Below w.heap.size w w':=by
 obtain⟨ac,cc,aa,ca,h⟩:=h;exact zt w b S.X.P S.fl _ pc col h hm
theorem lD(w:World)(b:Nat)(S:Vs)(X:Vm)(pb mb:Nat)(aa:Option Addr)(ca:Nat)(pc col:Nat->Nat)(h:Vx w b X S.fl (vd0 pb mb aa ca S.al) pc col)(e:Int)(hc:S.X.ch.length<=X.ch.length)(hm:X.P.mark<=9223372036854775807)(hl:S.al.length+1<=8796093022208):
 Calls Tryz.prog 99 #[.pointer (some ⟨b,0,none⟩),.agg #[.int .i64 ((S.X.P.mark:Nat):Int),.int .i64 ((S.X.ch.length:Nat):Int)],.int .i64 e] w λx w'=>x=.returned (.int .i64 e)/\∃pc' col',Vw w' b (S.done e X) pb mb pc' col'/\Vf w col w' col':=by
 obtain⟨ac,cc,h⟩:=h;unfold Vs.done;by_cases h0:e=0
 . subst h0;rw[if_pos rfl];refine(Fe w b X.P S.fl _ pc col h (S.X.P.mark,S.X.ch.length) hl).mono ?_;rintro _ w' ⟨rfl,aa',ca',col',hv,hf⟩;exact⟨rfl,pc,col',⟨ac,cc,aa',ca',hv⟩,hf⟩
 . rw[if_neg h0];refine(Fg w b X.P S.fl _ pc col h S.X.P.mark S.X.ch.length hc hm e h0).mono ?_;rintro _ w' ⟨rfl,pc',col',hv,hf⟩;exact⟨rfl,pc',col',⟨ac,cc,aa,ca,hv⟩,hf⟩
theorem qa(P:Q.Po)(z:Int):(P.inc z).2.mark<=P.mark+1:=by
 unfold Q.Po.inc;split
 . exact eb _
 . split
   . exact eb _
   . simp[Q.Po.act,Q.Po.mark];omega
def Cf(w w':World)(b:Nat)(S:Vs):Prop:=∃pb mb pc col,Vw w' b S pb mb pc col/\Below w.heap.size w w'/\∀k,col k≠0->w.heap.size<=k
def Vs.start(P:Q.Po):Vs:=⟨⟨P,λ_=>none,[]⟩,[],0⟩
theorem wM{w1:World}{P:Q.Po}(h:Q.zP w w1 pb P):
 Cf w ((w1.alloc (.map #[] 0)).alloc (.cells #[.pointer (some ⟨pb,0,none⟩),.map (some w1.heap.size),.slice none 0 0,.slice none 0 0,.int .i64 0] 85)) (w1.heap.size+1) (Vs.start P):=by
 obtain⟨pc,hp,hb,hn⟩:=h;have a1:=al w1 (.map #[] 0);have a2:=al (w1.alloc (.map #[] 0)) (.cells #[.pointer (some ⟨pb,0,none⟩),.map (some w1.heap.size),.slice none 0 0,.slice none 0 0,.int .i64 0] 85);have s1:(w1.alloc (.map #[] 0)).heap.size=w1.heap.size+1:=size_alloc _ _;have s2:((w1.alloc (.map #[] 0)).alloc (.cells #[.pointer (some ⟨pb,0,none⟩),.map (some w1.heap.size),.slice none 0 0,.slice none 0 0,.int .i64 0] 85)).heap.size=w1.heap.size+2:=by rw[size_alloc,s1]
 have hbox:=az (w1.alloc (.map #[] 0)) (.cells #[.pointer (some ⟨pb,0,none⟩),.map (some w1.heap.size),.slice none 0 0,.slice none 0 0,.int .i64 0] 85);rw[s1] at hbox;have hs:=hb.size;refine⟨pb,w1.heap.size,pc,λk=>if k=w1.heap.size+1 then 1 else if k=w1.heap.size then 2 else if pc k≠0 then 5 else 0,⟨none,0,none,0,⟨hbox,((Mp.made w1).keep a2).congr (λ_=>rfl),Q.Gw.nil _ _ _,Q.Gw.nil _ _ _,hp.keep (bt a1 a2),λk p e=>(by cases e),λx hx=>absurd hx (bB),if_pos rfl,?_,λx hx=>(by cases hx),λx hx=>(by cases hx),λk hk=>?_,λk hk=>?_⟩⟩,bt hb (bt a1 a2),λk hk=>?_⟩
 . show(if w1.heap.size=w1.heap.size+1 then 1 else if w1.heap.size=w1.heap.size then 2 else _)=2
   rw[if_neg (by omega),if_pos rfl]
 . have:=hp.lt k hk;show(if k=w1.heap.size+1 then 1 else if k=w1.heap.size then 2 else if pc k≠0 then 5 else 0)=5
   rw[if_neg (by omega),if_neg (by omega),if_pos hk]
 . rw[s2];by_cases h1:k=w1.heap.size+1
   . omega
   . by_cases h2:k=w1.heap.size
     . omega
     . by_cases h3:pc k≠0
       . have:=hp.lt k h3;omega
       . exact absurd (show(if k=w1.heap.size+1 then 1 else if k=w1.heap.size then 2 else if pc k≠0 then 5 else 0)=0 by rw[if_neg h1,if_neg h2,if_neg h3]) hk
 . by_cases h1:k=w1.heap.size+1
   . omega
   . by_cases h2:k=w1.heap.size
     . omega
     . by_cases h3:pc k≠0
       . exact hn k h3
       . exact absurd (show(if k=w1.heap.size+1 then 1 else if k=w1.heap.size then 2 else if pc k≠0 then 5 else 0)=0 by rw[if_neg h1,if_neg h2,if_neg h3]) hk
theorem Ec(w:World)(n r:Int)(h:Q.jL n r=false):Calls Tryz.prog 19 #[.int .i64 n,.int .i64 r] w λe w'=>e=.returned (.tuple #[.pointer none,.int .i64 1])/\w'=w:=by
 have C:=ig (Q.Ef w n r h);clear h;go_enter Tryz.func19,Tryz.ntmps19;go_wp2_with fail
 refine C.o.mono ?_;rintro _ wq ⟨rfl,hwq⟩;obtain rfl:=hwq.symm;go_wp2;go_ret2
 exact⟨rfl,rfl⟩
theorem zK(w:World)(n r:Int)(h:Q.jL n r=true):Calls Tryz.prog 19 #[.int .i64 n,.int .i64 r] w λe w'=>∃b,e=.returned (.tuple #[.pointer (some ⟨b,0,none⟩),.int .i64 0])/\Cf w w' b (Vs.start (Q.Po.start r (List.replicate n.toNat 0))):=by
 have C:=ig (Q.Dc w n r h);clear h;go_enter Tryz.func19,Tryz.ntmps19;go_wp2_with fail
 refine C.o.mono ?_;rintro _ w1 ⟨pb,rfl,hM⟩;have HM:=ig (wM hM);have hmm:= @run_makeMap Tryz.prog;clear hM C;go_wp2;go_ret2
 exact⟨_,rfl,HM.o⟩
theorem Ej(L:List Iv):∀u∈Jc L,u.oneCell'=true:=by
 intro u hu;unfold Jc at hu;obtain⟨l,hl,hu⟩:=fW.1 hu;obtain⟨v,hv,rfl⟩:=bG.1 hl;exact(Array.all_eq_true_iff_forall_mem.1 (yI v)) u (by simpa using hu)
theorem Js.all{a:Option Addr}(h:Js w a L)(h0:0<L.length):∃ad,a=some ad/\∀j u,(Jc L)[j]?=some u->w.cell? (ad.add j)=some u:=by
 obtain⟨b,off,rfl,_⟩:=h.at h0;refine⟨_,rfl,λj u hj=>?_⟩
 have hjl:j<L.length*4:=by
  rw[<-jQ];exact(bz.1 hj).1
 obtain⟨b2,off2,e,hr⟩:=h.at (r:=j/4) (by omega)
 cases e;have k:=lG L (j/4) (j%4) (by omega) (by omega)
 rw[show j/4*4+j%4=j by omega,hj] at k
 have:=hr (j%4) u k.symm;rw[Addr.add_mid,show off+j=off+j/4*4+j%4 by omega]
 exact this
theorem Ae(w:World)(ty:TypeId)(ad:Addr)(c:Nat)(L:List Iv)(hc:∀j u,(Jc L)[j]?=some u->w.cell? (ad.add j)=some u)(h0:0<L.length)(hlen:L.length<=2199023255489):
 ∃g cap' w',(Builtin.append_ #[28,28] ty #[.slice none 0 0,.slice (some ad) L.length c]).run Tryz.prog w=.ok (.slice (some ⟨g,0,none⟩) L.length cap') w'/\
  Jw w' (some ⟨g,0,none⟩) cap' L/\w.heap.size<=g/\Below w.heap.size w w':=by
 obtain⟨i0,hi,hz0,hz1,hz2⟩:=dc lu
 obtain⟨g,cap',w',hr,h1,h2,h3,h4⟩:=dE (P:=Tryz.prog) w 28 ty 0 51 i0 (.agg Iv.zero.cs) 4 64 Tryz.underlying28 hi hz0 hz1 hz2 rfl (by decide) (.slice none 0 0) 0 [] (e7 w 0 51 4) ad L.length c (Jc L) (jQ L)
  hc (Ej L) h0 (by unfold maxLen;omega) (by omega) (aF _) w.heap.size rfl
 rw[bH] at hr h1;rw[cO] at h1
 have hg:g=w.heap.size:=by
  rcases h3 with h3|h3
  . cases h3
  . exact h3
 exact⟨g,cap',w',hr,h1,by omega,(But.inA (a:=none) h2).below (λk _ ⟨x,hx,_⟩=>by cases hx)⟩
theorem vV:∀(L:List Iv)(k:Nat),k<L.length->∀(aK:Option Addr)(cK:Nat)(aV:Option Addr)(cV:Nat),((Jc L).set (k*4) (.slice aK (L.getD k Iv.zero).key.length cK)).set (k*4+1) (.slice aV (L.getD k Iv.zero).val.length cV)=Jc (L.set k {L.getD k Iv.zero with aK:=aK,cK:=cK,aV:=aV,cV:=cV})
 | [],k,h,_,_,_,_=>absurd h (by simp)
 |x::L,0,h,aK,cK,aV,cV=>by simp[Jc,Iv.cs]
 |x::L,k+1,h,aK,cK,aV,cV=>by
  have ih:=vV L k (by simpa using h) aK cK aV cV
  have e:∀(y:Iv)(M:List Iv),Jc (y::M)=y.cs.toList++Jc M:=λy M=>by simp[Jc]
  have hl:x.cs.toList.length=4:=rfl;rw[e,List.getD_cons_succ,gq,e,<-ih,show(k+1)*4=k*4+4 by omega,d9 _ _ (by omega),d9 _ _ (by omega),hl,show k*4+4-4=k*4 by omega,show k*4+4+1-4=k*4+1 by omega]
theorem Jw.set2(h:Jw w (some ⟨g,0,none⟩) cap L)(hk:k<L.length)(aK:Option Addr)(cK:Nat)(aV:Option Addr)(cV:Nat):
 Jw ((w.setCell ⟨g,k*4,none⟩ (.slice aK (L.getD k Iv.zero).key.length cK)).setCell ⟨g,k*4+1,none⟩ (.slice aV (L.getD k Iv.zero).val.length cV)) (some ⟨g,0,none⟩) cap (L.set k {L.getD k Iv.zero with aK:=aK,cK:=cK,aV:=aV,cV:=cV}):=by
 rcases h.cases with⟨h0,_⟩|⟨g',cur,ha,hg,h1,h2,h3,h4⟩
 . cases h0
 . cases ha;refine Jw.mk (aM _ _ _ _ _ _ (aM _ _ _ _ _ _ hg)) (by rw[aS];exact h1) h2 (by simpa using h3) ?_
   rw[dW,dW,aS,fH,fH,h4];exact vV L k hk aK cK aV cV
structure Co(w W:World)(g cap i:Nat)(M L:List Iv):Prop where
 j:Jw W (some ⟨g,0,none⟩) cap (M++L.drop i)
 len:M.length=i
 e:M.map Iv.it=(L.take i).map Iv.it
 f:Fam w W (iB M)
 n:∀r∈M,N64 r.child/\N64 r.size
 b:Below w.heap.size w W
 gn:w.heap.size<=g
theorem Co.keep{W':World}{i:Nat}{M:List Iv}(h:Co w W g cap i M L)(hb:Below W.heap.size W W'):Co w W' g cap i M L:=⟨h.j.keep hb,h.len,h.e,h.f.keep hb,h.n,bt h.b hb,h.gn⟩
theorem Cu(W:World)(g o1 o2:Nat)(a b:Value):But (λk=>k=g) W ((W.setCell ⟨g,o1,none⟩ a).setCell ⟨g,o2,none⟩ b):=((But.refl (λk=>k=g) W).setCell (p:=⟨g,o1,none⟩) (λ_=>rfl) a).setCell (p:=⟨g,o2,none⟩) (λ_=>rfl) b
theorem Co.round{w W W1 W2:World}{g cap i:Nat}{M L:List Iv}(h:Co w W g cap i M L)(hi:i<L.length)(hn:N64 (L.getD i Iv.zero).child/\N64 (L.getD i Iv.zero).size)(h8:B8 (L.getD i Iv.zero).key)(h9:B8 (L.getD i Iv.zero).val)
 {aK aV:Option Addr} {cK cV:Nat} (k1:Own W W1 aK cK (L.getD i Iv.zero).key) (k2:Own W1 W2 aV cV (L.getD i Iv.zero).val):
 Co w ((W2.setCell ⟨g,i*4,none⟩ (.slice aK (L.getD i Iv.zero).key.length cK)).setCell ⟨g,i*4+1,none⟩ (.slice aV (L.getD i Iv.zero).val.length cV)) g cap (i+1) (M++[{L.getD i Iv.zero with aK:=aK,cK:=cK,aV:=aV,cV:=cV}]) L:=by
 have b2:Below W.heap.size W W2:=bt k1.b k2.b;have hB:=Cu W2 g (i*4) (i*4+1) (.slice aK (L.getD i Iv.zero).key.length cK) (.slice aV (L.getD i Iv.zero).val.length cV);have j2:=h.j.keep b2
 have hg:(M++L.drop i).getD i Iv.zero=L.getD i Iv.zero:=by
  rw[aq,bj (by rw[h.len];exact ai _),h.len,dv,List.getElem?_drop,cE,<-aq]
 have j3:=j2.set2 (k:=i) (by rw[ae,h.len,di];omega) aK cK aV cV
 rw[hg] at j3
 have hset:(M++L.drop i).set i {L.getD i Iv.zero with aK:=aK,cK:=cK,aV:=aV,cV:=cV}=(M++[{L.getD i Iv.zero with aK:=aK,cK:=cK,aV:=aV,cV:=cV}])++L.drop (i+1):=by
  rw[d9 _ _ (by rw[h.len];exact ai _),h.len,dv,cM hi,eY,aR]
  rfl
 rw[hset] at j3
 have io:Io W W2 {L.getD i Iv.zero with aK:=aK,cK:=cK,aV:=aV,cV:=cV}:=⟨k1.keep k2.b,⟨k2.r,λx hx=>(by
  rcases k2.n x hx with⟨y,hy,_⟩|h2
  . cases hy
  . exact .inr (aO k1.b.size h2)),b2⟩,λx y hx hy e=>(by
  have e1:=k1.r.lt hx;rcases k2.n y hy with⟨z,hz,_⟩|h2
  . cases hz
  . have h2:W1.heap.size<=y.block:=h2;omega),h8,h9⟩
 have fm:Fam w W2 (iB M++Iv.rows {L.getD i Iv.zero with aK:=aK,cK:=cK,aV:=aV,cV:=cV}):=h.f.add io.fam b2 h.b;have hbw:Below w.heap.size w ((W2.setCell ⟨g,i*4,none⟩ (.slice aK (L.getD i Iv.zero).key.length cK)).setCell ⟨g,i*4+1,none⟩ (.slice aV (L.getD i Iv.zero).val.length cV)):=((But.ofBelow (S:=λ_=>False) (bt h.b b2)).trans hB (λk hk e=>by have:=h.gn;omega)).below (λ_ _ h=>h)
 refine⟨j3,by rw[ae,h.len];rfl,?_,?_,λr hr=>?_,hbw,h.gn⟩
 . rw[bL,h.e,Q.jt L Iv.zero hi,bL];rfl
 . rw[iW,kT];exact fm.but hB hbw (λt ht x hx e=>j2.ne (fm.own t ht).1.r rfl hx e.symm)
 . rcases bm.1 hr with hr|hr
   . exact h.n r hr
   . rw[aQ.1 hr];exact hn
theorem xr(w:World)(aa:Option Addr)(n capa:Nat)(p:List Nat)(hB:Bs w aa p)(hn:n=p.length)(hlen:p.length<=140737488355328):
 Calls Tryz.prog 132 #[.slice aa n capa] w λx w'=>∃a' cap',x=.returned (.slice a' n cap')/\Rw w' a' cap' p/\New w none a'/\Below w.heap.size w w':=by
 subst hn;cases aa with
 |none=>
  obtain rfl:p=[]:=by
   rcases hB.2.2 with h|⟨b,off,h,_⟩
   . exact h
   . cases h
  clear hB;have hq:=run_eql_slice_nil none;go_enter Tryz.func132,Tryz.ntmps132;go_wp2;go_ret;exact⟨none,0,rfl,Rw.nil _,New.none _ _,Below.refl _ _⟩
 |some x=>
  have HB:=ig hB;clear hB;have hq:=run_eql_slice_nil (some x);go_enter Tryz.func132,Tryz.ntmps132;go_wp2_with (at_builtin;refine xI rfl _ _ rfl (some ⟨w.heap.size,0,none⟩) 0 0 [] rfl rfl (Rw.mk (cur:=#[]) (aH _ _) (ai _) (aF _) rfl rfl) (some x) p.length capa p rfl rfl (HB.o.keep ((Below.refl _ _).alloc (ai _) _)) (by simpa using hlen) ?_)
  intro a' cap' w2 hR hN hg _;have hb:Below w.heap.size w w2:=(But.grown (S:=λk=>k=w.heap.size) ((But.refl _ w).alloc _) hg (by intro k hk _;simpa using hk.symm)).below (by intro k hk e;omega)
  have hN2:New w none a':=by
   intro y hy;rcases hN y hy with⟨z,hz,e⟩|h
   . simp only[aE] at hz;subst hz;exact .inr (by show _<=y.block;rw[<-e];exact ai _)
   . rw[size_alloc] at h;exact .inr (by omega)
  have HR:=ig hR;clear hR hN hg;go_wp2;go_ret;exact⟨a',cap',by simp,HR.o,hN2,hb⟩
theorem lL(w:World)(aa:Option Addr)(capa:Nat)(p:List Nat)(hB:Bs w aa p)(hlen:p.length<=140737488355328):
 Calls Tryz.prog 132 #[.slice aa p.length capa] w λx w'=>∃a' cap',x=.returned (.slice a' p.length cap')/\Own w w' a' cap' p:=
 (xr w aa p.length capa p hB rfl hlen).mono λ_ _ ⟨a',c',h1,h2,h3,h4⟩=>⟨a',c',h1,h2,h3,h4⟩
end Go.Proofs.YtbdkogimlbnlmaaGreat
