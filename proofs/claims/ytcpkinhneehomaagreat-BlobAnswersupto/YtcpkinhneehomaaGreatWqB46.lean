import Derived.Test.YtcpkinhneehomaaGreatWqB43
set_option linter.unusedVariables false
set_option linter.unusedSimpArgs false
namespace Go.Proofs.YtcpkinhneehomaaGreat
section
open Go.ChangeShapes Go.WideShapes Go.ChangeAt Go.RowKit
theorem cellsItem:Tryz.prog.cellsOf 51=4:=by kernel_rfl
theorem cellsItems:Tryz.prog.cellsOf 28=1:=by kernel_rfl
theorem cellsPage:Tryz.prog.cellsOf 31=5:=by kernel_rfl
theorem cellsNum:Tryz.prog.cellsOf 39=6:=by kernel_rfl
theorem cellsInts:Tryz.prog.cellsOf 35=1:=by kernel_rfl
theorem cellsNums:Tryz.prog.cellsOf 36=1:=by kernel_rfl
theorem cellsBegin:Tryz.prog.cellsOf 68=4:=by kernel_rfl
theorem trod_struct4{H:Type}{enc:TypeId×Value->H}{P:Program}{w:World}{base:Nat}{spare:Nat->Bool}{held:Bool}{t:TypeId}{f0 f1 f2 f3:Field}{fuel:Nat}{cs:List Value}{x:DataW H×List MemPlace}(ht:P.underlying t=some (.struct #[f0,f1,f2,f3]))(h:DataW.trod enc P w base spare held fuel t cs=some x):
 ∃y0 y1 y2 y3 n,x.1=.agg [y0.1,y1.1,y2.1,y3.1]/\cs.length=P.cellsOf t/\DataW.trod enc P w base spare held n f0.type ((cs.drop f0.offset).take (P.cellsOf f0.type))=some y0/\DataW.trod enc P w base spare held n f1.type ((cs.drop f1.offset).take (P.cellsOf f1.type))=some y1/\DataW.trod enc P w base spare held n f2.type ((cs.drop f2.offset).take (P.cellsOf f2.type))=some y2/\DataW.trod enc P w base spare held n f3.type ((cs.drop f3.offset).take (P.cellsOf f3.type))=some y3:=by
 obtain⟨xs,n,_,rfl,hl,hlen,hf⟩:=DataW.trod_struct ht h;match xs,hlen with
 | [y0,y1,y2,y3],_=>exact⟨y0,y1,y2,y3,n,by simp,hl,by simpa using hf 0 f0 rfl,by simpa using hf 1 f1 rfl,by simpa using hf 2 f2 rfl,by simpa using hf 3 f3 rfl⟩
theorem list4{α:Type}{l:List α}(h:l.length=4):∃c0 c1 c2 c3,l=[c0,c1,c2,c3]:=by
 match l,h with
 | [c0,c1,c2,c3],_=>exact⟨c0,c1,c2,c3,rfl⟩
theorem trod_struct5{H:Type}{enc:TypeId×Value->H}{P:Program}{w:World}{base:Nat}{spare:Nat->Bool}{held:Bool}{t:TypeId}{f0 f1 f2 f3 f4:Field}{fuel:Nat}{cs:List Value}{x:DataW H×List MemPlace}(ht:P.underlying t=some (.struct #[f0,f1,f2,f3,f4]))(h:DataW.trod enc P w base spare held fuel t cs=some x):
 ∃y0 y1 y2 y3 y4 n,x.1=.agg [y0.1,y1.1,y2.1,y3.1,y4.1]/\cs.length=P.cellsOf t/\DataW.trod enc P w base spare held n f0.type ((cs.drop f0.offset).take (P.cellsOf f0.type))=some y0/\DataW.trod enc P w base spare held n f1.type ((cs.drop f1.offset).take (P.cellsOf f1.type))=some y1/\DataW.trod enc P w base spare held n f2.type ((cs.drop f2.offset).take (P.cellsOf f2.type))=some y2/\DataW.trod enc P w base spare held n f3.type ((cs.drop f3.offset).take (P.cellsOf f3.type))=some y3/\DataW.trod enc P w base spare held n f4.type ((cs.drop f4.offset).take (P.cellsOf f4.type))=some y4:=by
 obtain⟨xs,n,_,rfl,hl,hlen,hf⟩:=DataW.trod_struct ht h;match xs,hlen with
 | [y0,y1,y2,y3,y4],_=>exact⟨y0,y1,y2,y3,y4,n,by simp,hl,by simpa using hf 0 f0 rfl,by simpa using hf 1 f1 rfl,by simpa using hf 2 f2 rfl,by simpa using hf 3 f3 rfl,by simpa using hf 4 f4 rfl⟩
theorem list5{α:Type}{l:List α}(h:l.length=5):∃c0 c1 c2 c3 c4,l=[c0,c1,c2,c3,c4]:=by
 match l,h with
 | [c0,c1,c2,c3,c4],_=>exact⟨c0,c1,c2,c3,c4,rfl⟩
theorem bytesItem:Tryz.prog.bytesOf 51=64:=by kernel_rfl
theorem open_item7{H:Type}{enc:TypeId×Value->H}{W:World}{fuel:Nat}{cs:List Value}{d:DataW H}{p:List MemPlace}
 (h:DataW.trod enc Tryz.prog W 0 (fun _=>true) true fuel 51 cs=some (d,p)) (hd:Lit' 51 d):
 ∃r:Iv,cs=r.cs.toList/\Ii W r/\r.key.length<=140737488355264/\r.val.length<=140737488355264:=by
 obtain⟨y0,y1,y2,y3,n,hx,hl,h0,h1,h2,h3⟩:=trod_struct4 Tryz.underlying51 h;obtain⟨c0,c1,c2,c3,rfl⟩:=list4 (hl.trans cellsItem);simp only[cellsBytes,cellsInt,List.drop_zero,List.drop_succ_cons,List.take_succ_cons,List.take_zero] at h0 h1 h2 h3;obtain⟨z2,e2,_,k2⟩:=DataW.trod_int Tryz.underlying3 h2;obtain⟨z3,e3,_,k3⟩:=DataW.trod_int Tryz.underlying3 h3;have hd':d=.agg [y0.1,y1.1,y2.1,y3.1]:=hx
 have w0:Lit' 29 y0.1:=by
  rcases hd with hd|hd
  · refine .inl fun x hx=>hd x ?_
    rw[hd'];simp only[DataW.weights,Tryz.underlying51,List.map_cons,List.map_nil,DataW.weightsEach,List.mem_append];simp[hx]
  · refine .inr ?_;rw[hd'] at hd;simp only[Rows.uptoBulk,Rows.uptoBulkAll] at hd;omega
 have w1:Lit' 29 y1.1:=by
  rcases hd with hd|hd
  · refine .inl fun x hx=>hd x ?_
    rw[hd'];simp only[DataW.weights,Tryz.underlying51,List.map_cons,List.map_nil,DataW.weightsEach,List.mem_append];simp[hx]
  · refine .inr ?_;rw[hd'] at hd;simp only[Rows.uptoBulk,Rows.uptoBulkAll] at hd;omega
 obtain⟨a0,l0,q0,e0,b0,n0,m0,_⟩:=open_bytes_cs (d:=y0.1) (p:=y0.2) h0 w0;obtain⟨a1,l1,q1,e1,b1,n1,m1,_⟩:=open_bytes_cs (d:=y1.1) (p:=y1.2) h1 w1;simp only[List.cons.injEq,and_true] at e0 e1 e2 e3;subst e0 e1 e2 e3;exact⟨⟨a0,q0,l0,a1,q1,l1,z2,z3⟩,rfl,⟨b0,m0,b1,m1,n64 k2,n64 k3⟩,by dsimp only;omega,by dsimp only;omega⟩
set_option maxRecDepth 100000 in
theorem open_items7{H:Type}{enc:TypeId×Value->H}{W:World}{fuel:Nat}{cs:List Value}{d:DataW H}{p:List MemPlace}
 (hf:DataW.trod enc Tryz.prog W 0 (fun _=>true) true fuel 28 cs=some (d,p)) (hd:Lit' 28 d):
 ∃(a:Option Addr)(L:List Iv)(cap:Nat),cs=[.slice a L.length cap]/\Js W a L/\L.length<=2199023255488/\L.length<=cap/\∀r∈L,r.key.length<=140737488355264/\r.val.length<=140737488355264:=by
 rcases Deep.open_slice Tryz.underlying28 hf with⟨hcs,_⟩|⟨x,len,cap,m,n,D,Pl,hcs,_,hl,hm,hmm,hx,hrows⟩
 · exact⟨none,[],0,hcs,⟨by simp,by simp,.inl rfl⟩,by simp,Nat.le_refl _,by simp⟩
 · simp only[Prod.mk.injEq] at hx;obtain⟨rfl,_⟩:=hx;simp only[if_true] at hmm;subst hmm
   have hlen:len<=2199023255488:=by
    rcases hd with hd|hd
    · have h2:=hd _ (by simp only[DataW.weights,Tryz.underlying28,List.mem_cons];exact .inl rfl)
      rw[List.length_map,List.length_range,bytesItem] at h2;unfold reachBytes at h2;omega
    · simp only[Rows.uptoBulk] at hd;have h1:=bulk_length ((List.range len).map D);rw[List.length_map,List.length_range] at h1;omega
   by_cases h0:len=0
   · subst h0;exact⟨some x,[],m,hcs,⟨by simp,by simp,.inl rfl⟩,by simp,Nat.zero_le _,by simp⟩
   · have hmemD:∀r,r<len->D r∈(List.range len).map D:=fun r hr=>List.mem_map.2 ⟨r,List.mem_range.2 hr,rfl⟩
     have hbD:∀r,r<len->Lit' 51 (D r):=fun r hr=>by
      rcases hd with hd|hd
      · refine .inl fun x hx=>hd x ?_
        simp only[DataW.weights,Tryz.underlying28,List.mem_cons,List.mem_append];exact .inr (.inl (weightsAll_mem (hmemD r hr) x hx))
      · have h1:=bulk_mem (hmemD r hr);simp only[Rows.uptoBulk] at hd;exact .inr (by omega)
     obtain⟨b,off,spot⟩:=x
     have hspot:spot=none:=by
      obtain⟨cs,hc,ht⟩:=hrows 0 (by omega)
      obtain⟨f,rfl,_⟩:=open_item7 ht (hbD 0 (by omega))
      generalize hk:(0:Nat)=k0 at hc;rw[cellsItem] at hc;obtain⟨_,_,hce⟩:=World.cells?_some hc;have e0:=(hce 0 (by decide)).trans (show f.cs.toList[0]?=some (.slice f.aK f.key.length f.cK) from rfl)
      have hs0:=World.cell?_spot e0;subst hk;simpa[Addr.add] using hs0
     subst hspot
     have each:∀r,r<len->∃v:Iv,W.rangeAt b (off+r*4) v.cs.toList/\Ii W v/\v.key.length<=140737488355264/\v.val.length<=140737488355264:=by
      intro r hr;obtain⟨cs,hc,ht⟩:=hrows r (by omega)
      obtain⟨v,rfl,h1⟩:=open_item7 ht (hbD r hr);rw[cellsItem] at hc;obtain⟨_,_,hce⟩:=World.cells?_some hc;refine⟨v,fun j u hu=>?_,h1⟩
      have hj:j<4:=(List.getElem?_eq_some_iff.1 hu).1;have h:=hce j hj;rw[Deep.add_add,Addr.add_mid,<-Nat.add_assoc] at h;exact h.trans hu
     haveI:Inhabited Iv:=⟨Iv.zero⟩;obtain⟨F,hF⟩:=Deep.choose_lt each;have hget:∀r,r<len->((List.range len).map F).getD r Iv.zero=F r:=fun r hr=>by simp[hr]
     have hlenL:((List.range len).map F).length=len:=by simp
     refine⟨some ⟨b,off,none⟩,(List.range len).map F,m,by rw[hlenL];exact hcs,⟨fun v hv=>?_,by rw[hlenL];omega,.inr ⟨b,off,rfl,fun r hr=>?_⟩⟩,by rw[hlenL];exact hlen,by rw[hlenL];exact hl,fun v hv=>?_⟩
     · obtain⟨r,hr,rfl⟩:=List.mem_map.1 hv;exact(hF r (List.mem_range.1 hr)).2.1
     · rw[hlenL] at hr;rw[hget r hr];exact(hF r hr).1
     · obtain⟨r,hr,rfl⟩:=List.mem_map.1 hv;exact(hF r (List.mem_range.1 hr)).2.2
theorem open_page7{H:Type}{enc:TypeId×Value->H}{W:World}{fuel:Nat}{cs:List Value}{d:DataW H}{p:List MemPlace}
 (h:DataW.trod enc Tryz.prog W 0 (fun _=>true) true fuel 31 cs=some (d,p)) (hd:Lit' 31 d):
 ∃r:Pv,cs=r.cs.toList/\Pi W r/\r.data.length<=140737488355264/\r.items.length<=2199023255488/\∀x∈r.items,x.key.length<=140737488355264/\x.val.length<=140737488355264:=by
 obtain⟨y0,y1,y2,y3,y4,n,hx,hl,h0,h1,h2,h3,h4⟩:=trod_struct5 Tryz.underlying31 h;obtain⟨c0,c1,c2,c3,c4,rfl⟩:=list5 (hl.trans cellsPage);simp only[cellsBytes,cellsInt,cellsItems,List.drop_zero,List.drop_succ_cons,List.take_succ_cons,List.take_zero] at h0 h1 h2 h3 h4;obtain⟨z0,e0,_,k0⟩:=DataW.trod_int Tryz.underlying3 h0;obtain⟨z1,e1,_,k1⟩:=DataW.trod_int Tryz.underlying3 h1;obtain⟨z4,e4,_,k4⟩:=DataW.trod_int Tryz.underlying3 h4;have hd':d=.agg [y0.1,y1.1,y2.1,y3.1,y4.1]:=hx
 have w2:Lit' 28 y2.1:=by
  rcases hd with hd|hd
  · refine .inl fun x hx=>hd x ?_
    rw[hd'];simp only[DataW.weights,Tryz.underlying31,List.map_cons,List.map_nil,DataW.weightsEach,List.mem_append];simp[hx]
  · refine .inr ?_;rw[hd'] at hd;simp only[Rows.uptoBulk,Rows.uptoBulkAll] at hd;omega
 have w3:Lit' 29 y3.1:=by
  rcases hd with hd|hd
  · refine .inl fun x hx=>hd x ?_
    rw[hd'];simp only[DataW.weights,Tryz.underlying31,List.map_cons,List.map_nil,DataW.weightsEach,List.mem_append];simp[hx]
  · refine .inr ?_;rw[hd'] at hd;simp only[Rows.uptoBulk,Rows.uptoBulkAll] at hd;omega
 obtain⟨a2,l2,q2,e2,b2,n2,m2,s2⟩:=open_items7 (d:=y2.1) (p:=y2.2) h2 w2;obtain⟨a3,l3,q3,e3,b3,n3,m3,_⟩:=open_bytes_cs (d:=y3.1) (p:=y3.2) h3 w3;simp only[List.cons.injEq,and_true] at e0 e1 e2 e3 e4;subst e0 e1 e2 e3 e4;exact⟨⟨z0,z1,a2,q2,l2,a3,q3,l3,z4⟩,rfl,⟨b2,m2,b3,m3,n64 k0,n64 k1,n64 k4⟩,by dsimp only;omega,n2,s2⟩
theorem trod_struct2{H:Type}{enc:TypeId×Value->H}{P:Program}{w:World}{base:Nat}{spare:Nat->Bool}{held:Bool}{t:TypeId}{f0 f1:Field}{fuel:Nat}{cs:List Value}{x:DataW H×List MemPlace}(ht:P.underlying t=some (.struct #[f0,f1]))(h:DataW.trod enc P w base spare held fuel t cs=some x):
 ∃y0 y1 n,x.1=.agg [y0.1,y1.1]/\cs.length=P.cellsOf t/\DataW.trod enc P w base spare held n f0.type ((cs.drop f0.offset).take (P.cellsOf f0.type))=some y0/\DataW.trod enc P w base spare held n f1.type ((cs.drop f1.offset).take (P.cellsOf f1.type))=some y1:=by
 obtain⟨xs,n,_,rfl,hl,hlen,hf⟩:=DataW.trod_struct ht h;match xs,hlen with
 | [y0,y1],_=>exact⟨y0,y1,n,by simp,hl,by simpa using hf 0 f0 rfl,by simpa using hf 1 f1 rfl⟩
theorem list6{α:Type}{l:List α}(h:l.length=6):∃c0 c1 c2 c3 c4 c5,l=[c0,c1,c2,c3,c4,c5]:=by
 match l,h with
 | [c0,c1,c2,c3,c4,c5],_=>exact⟨c0,c1,c2,c3,c4,c5,rfl⟩
theorem open_num{H:Type}{enc:TypeId×Value->H}{W:World}{fuel:Nat}{cs:List Value}{d:DataW H}{p:List MemPlace}
 (h:DataW.trod enc Tryz.prog W 0 (fun _=>true) true fuel 39 cs=some (d,p)) (hd:Lit' 39 d):
 ∃x:Int×Pv,cs=nmc x/\Pi W x.2/\N64 x.1:=by
 obtain⟨y0,y1,n,hx,hl,h0,h1⟩:=trod_struct2 Tryz.underlying39 h;obtain⟨c0,c1,c2,c3,c4,c5,rfl⟩:=list6 (hl.trans cellsNum);simp only[cellsPage,cellsInt,List.drop_zero,List.drop_succ_cons,List.take_succ_cons,List.take_zero] at h0 h1;obtain⟨z0,e0,_,k0⟩:=DataW.trod_int Tryz.underlying3 h0;have hd':d=.agg [y0.1,y1.1]:=hx
 have w1:Lit' 31 y1.1:=by
  rcases hd with hd|hd
  · refine .inl fun x hx=>hd x ?_
    rw[hd'];simp only[DataW.weights,Tryz.underlying39,List.map_cons,List.map_nil,DataW.weightsEach,List.mem_append];simp[hx]
  · refine .inr ?_;rw[hd'] at hd;simp only[Rows.uptoBulk,Rows.uptoBulkAll] at hd;omega
 obtain⟨q,e1,hP,_⟩:=open_page7 (d:=y1.1) (p:=y1.2) h1 w1;simp only[List.cons.injEq,and_true] at e0;subst e0;exact⟨(z0,q),by rw[e1];rfl,hP,n64 k0⟩
set_option maxRecDepth 100000 in
theorem open_nms{H:Type}{enc:TypeId×Value->H}{W:World}{fuel:Nat}{cs:List Value}{d:DataW H}{p:List MemPlace}
 (hf:DataW.trod enc Tryz.prog W 0 (fun _=>true) true fuel 36 cs=some (d,p)) (hd:Lit' 36 d):
 ∃(a:Option Addr)(NL:List (Int×Pv))(cap:Nat),cs=[.slice a NL.length cap]/\Nm W a NL:=by
 rcases Deep.open_slice Tryz.underlying36 hf with⟨hcs,_⟩|⟨x,len,cap,m,n,D,Pl,hcs,_,hl,hm,hmm,hx,hrows⟩
 · exact⟨none,[],0,hcs,⟨fun j hj=>absurd hj (Nat.not_lt_zero _),by simp⟩⟩
 · simp only[Prod.mk.injEq] at hx;obtain⟨rfl,_⟩:=hx;simp only[if_true] at hmm;subst hmm;by_cases h0:len=0
   · subst h0;exact⟨some x,[],m,hcs,⟨fun j hj=>absurd hj (Nat.not_lt_zero _),by simp⟩⟩
   · have hmemD:∀r,r<len->D r∈(List.range len).map D:=fun r hr=>List.mem_map.2 ⟨r,List.mem_range.2 hr,rfl⟩
     have hbD:∀r,r<len->Lit' 39 (D r):=fun r hr=>by
      rcases hd with hd|hd
      · refine .inl fun x hx=>hd x ?_
        simp only[DataW.weights,Tryz.underlying36,List.mem_cons,List.mem_append];exact .inr (.inl (weightsAll_mem (hmemD r hr) x hx))
      · have h1:=bulk_mem (hmemD r hr);simp only[Rows.uptoBulk] at hd;exact .inr (by omega)
     obtain⟨b,off,spot⟩:=x
     have hspot:spot=none:=by
      obtain⟨cs,hc,ht⟩:=hrows 0 (by omega)
      obtain⟨f,rfl,_⟩:=open_num ht (hbD 0 (by omega))
      generalize hk:(0:Nat)=k0 at hc;rw[cellsNum] at hc;obtain⟨_,_,hce⟩:=World.cells?_some hc;have e0:=(hce 0 (by decide)).trans (show(nmc f)[0]?=some (.int .i64 f.1) from rfl)
      have hs0:=World.cell?_spot e0;subst hk;simpa[Addr.add] using hs0
     subst hspot
     have each:∀r,r<len->∃v:Int×Pv,(∀k u,(nmc v)[k]?=some u->W.cell? ⟨b,off+r*6+k,none⟩=some u)/\Pi W v.2/\N64 v.1:=by
      intro r hr;obtain⟨cs,hc,ht⟩:=hrows r (by omega)
      obtain⟨v,rfl,h1⟩:=open_num ht (hbD r hr);rw[cellsNum] at hc;obtain⟨_,_,hce⟩:=World.cells?_some hc;refine⟨v,fun j u hu=>?_,h1⟩
      have hj:j<6:=(List.getElem?_eq_some_iff.1 hu).1;have h:=hce j hj;rw[Deep.add_add,Addr.add_mid,<-Nat.add_assoc] at h;exact h.trans hu
     haveI:Inhabited (Int×Pv):=⟨nm0⟩;obtain⟨F,hF⟩:=Deep.choose_lt each;have hget:∀r,r<len->((List.range len).map F).getD r nm0=F r:=fun r hr=>by simp[hr]
     have hlenL:((List.range len).map F).length=len:=by simp
     refine⟨some ⟨b,off,none⟩,(List.range len).map F,m,by rw[hlenL];exact hcs,⟨fun r hr=>?_,fun v hv=>?_⟩⟩
     · rw[hlenL] at hr;exact⟨b,off,rfl,by rw[hget r hr];exact(hF r hr).1⟩
     · obtain⟨r,hr,rfl⟩:=List.mem_map.1 hv;exact(hF r (List.mem_range.1 hr)).2
set_option maxRecDepth 100000 in
theorem open_ints_cs{H:Type}{enc:TypeId×Value->H}{W:World}{fuel:Nat}{cs:List Value}{d:DataW H}{p:List MemPlace}
 (hf:DataW.trod enc Tryz.prog W 0 (fun _=>true) true fuel 35 cs=some (d,p)):
 ∃(a:Option Addr)(C:List Int)(cap:Nat),cs=[.slice a C.length cap]/\Q.Ir W a C:=by
 rcases Deep.open_slice Tryz.underlying35 hf with⟨hcs,_⟩|⟨x,len,cap,m,n,D,Pl,hcs,_,hl,hm,hmm,hx,hrows⟩
 · exact⟨none,[],0,hcs,.inl rfl⟩
 · simp only[if_true] at hmm;subst hmm;by_cases h0:len=0
   · subst h0;exact⟨some x,[],m,hcs,.inl rfl⟩
   · obtain⟨b,off,spot⟩:=x
     have hspot:spot=none:=by
      obtain⟨cs,hc,ht⟩:=hrows 0 (by omega)
      obtain⟨f,rfl,_,_⟩:=DataW.trod_int Tryz.underlying3 ht;generalize hk:(0:Nat)=k0 at hc;rw[cellsInt] at hc;obtain⟨_,_,hce⟩:=World.cells?_some hc;have e0:=(hce 0 (by decide)).trans (show[Value.int .i64 f][0]?=some (.int .i64 f) from rfl)
      have hs0:=World.cell?_spot e0;subst hk;simpa[Addr.add] using hs0
     subst hspot
     have each:∀r,r<len->∃v:Int,W.cell? ⟨b,off+r,none⟩=some (.int .i64 v):=by
      intro r hr;obtain⟨cs,hc,ht⟩:=hrows r (by omega)
      obtain⟨v,rfl,_,wk⟩:=DataW.trod_int Tryz.underlying3 ht;rw[cellsInt] at hc;obtain⟨_,_,hce⟩:=World.cells?_some hc;have h:=hce 0 (by omega)
      rw[Deep.add_add,Addr.add_mid,Nat.mul_one,Nat.add_zero] at h;exact⟨v,h.trans rfl⟩
     obtain⟨F,hF⟩:=Deep.choose_lt each;have hget:∀r,r<len->((List.range len).map F).getD r 0=F r:=fun r hr=>by simp[hr]
     have hlenL:((List.range len).map F).length=len:=by simp
     refine⟨some ⟨b,off,none⟩,(List.range len).map F,m,by rw[hlenL];exact hcs,.inr ⟨b,off,rfl,fun r hr=>?_⟩⟩
     rw[hlenL] at hr;rw[hget r hr];exact hF r hr
theorem open_begin{H:Type}{enc:TypeId×Value->H}{W:World}{cs:Array Value}{d:DataW H}{p:List MemPlace}
 (h:DataW.Trod enc Tryz.prog W 0 (fun _=>true) true 68 (.agg cs) d p) (hd:Lit' 68 d):
 ∃(z0 z1:Int)(a2:Option Addr)(C:List Int)(q2:Nat)(a3:Option Addr)(NL:List (Int×Pv))(q3:Nat),cs=#[.int .i64 z0,.int .i64 z1,.slice a2 C.length q2,.slice a3 NL.length q3]/\Q.Ir W a2 C/\Nm W a3 NL:=by
 obtain⟨fuel,hf⟩:=h;obtain⟨y0,y1,y2,y3,n,hx,hl,h0,h1,h2,h3⟩:=trod_struct4 Tryz.underlying68 hf;obtain⟨c0,c1,c2,c3,hcs⟩:=list4 (hl.trans cellsBegin);rw[hcs] at h0 h1 h2 h3;simp only[cellsInts,cellsInt,cellsNums,List.drop_zero,List.drop_succ_cons,List.take_succ_cons,List.take_zero] at h0 h1 h2 h3;obtain⟨z0,e0,_,k0⟩:=DataW.trod_int Tryz.underlying3 h0;obtain⟨z1,e1,_,k1⟩:=DataW.trod_int Tryz.underlying3 h1;have hd':d=.agg [y0.1,y1.1,y2.1,y3.1]:=hx
 have w3:Lit' 36 y3.1:=by
  rcases hd with hd|hd
  · refine .inl fun x hx=>hd x ?_
    rw[hd'];simp only[DataW.weights,Tryz.underlying68,List.map_cons,List.map_nil,DataW.weightsEach,List.mem_append];simp[hx]
  · refine .inr ?_;rw[hd'] at hd;simp only[Rows.uptoBulk,Rows.uptoBulkAll] at hd;omega
 obtain⟨a2,C,q2,e2,b2⟩:=open_ints_cs (d:=y2.1) (p:=y2.2) h2;obtain⟨a3,NL,q3,e3,b3⟩:=open_nms (d:=y3.1) (p:=y3.2) h3 w3;simp only[List.cons.injEq,and_true] at e0 e1 e2 e3;subst e0 e1 e2 e3;refine⟨z0,z1,a2,C,q2,a3,NL,q3,?_,b2,b3⟩;exact Array.ext' (by simpa[Value.cells] using hcs)
end
section
open Go.ChangeShapes Go.WideShapes Go.ChangeAt Go.RowKit
theorem cellsOp13:Tryz.prog.cellsOf 75=8:=by kernel_rfl
theorem list8{α:Type}{l:List α}(h:l.length=8):∃c0 c1 c2 c3 c4 c5 c6 c7,l=[c0,c1,c2,c3,c4,c5,c6,c7]:=by
 match l,h with
 | [c0,c1,c2,c3,c4,c5,c6,c7],_=>exact⟨c0,c1,c2,c3,c4,c5,c6,c7,rfl⟩
theorem open_op13{H:Type}{enc:TypeId×Value->H}{W:World}{fuel:Nat}{cs:List Value}{d:DataW H}{p:List MemPlace}
 (h:DataW.trod enc Tryz.prog W 0 (fun _=>true) true fuel 75 cs=some (d,p)) (hd:Lit' 75 d):
 ∃o:Ov,cs=o.cs.toList/\Oi W o:=by
 obtain⟨y0,y1,y2,y3,y4,n,hx,hl,h0,h1,h2,h3,h4⟩:=trod_struct5 Tryz.underlying75 h;obtain⟨c0,c1,c2,c3,c4,c5,c6,c7,rfl⟩:=list8 (hl.trans cellsOp13);simp only[cellsBytes,cellsInt,cellsItem,List.drop_zero,List.drop_succ_cons,List.take_succ_cons,List.take_zero] at h0 h1 h2 h3 h4;obtain⟨z0,e0,_,k0⟩:=DataW.trod_int Tryz.underlying3 h0;obtain⟨z1,e1,_,k1⟩:=DataW.trod_int Tryz.underlying3 h1;have hd':d=.agg [y0.1,y1.1,y2.1,y3.1,y4.1]:=hx
 have w2:Lit' 29 y2.1:=by
  rcases hd with hd|hd
  · refine .inl fun x hx=>hd x ?_
    rw[hd'];simp only[DataW.weights,Tryz.underlying75,List.map_cons,List.map_nil,DataW.weightsEach,List.mem_append];simp[hx]
  · refine .inr ?_;rw[hd'] at hd;simp only[Rows.uptoBulk,Rows.uptoBulkAll] at hd;omega
 have w3:Lit' 29 y3.1:=by
  rcases hd with hd|hd
  · refine .inl fun x hx=>hd x ?_
    rw[hd'];simp only[DataW.weights,Tryz.underlying75,List.map_cons,List.map_nil,DataW.weightsEach,List.mem_append];simp[hx]
  · refine .inr ?_;rw[hd'] at hd;simp only[Rows.uptoBulk,Rows.uptoBulkAll] at hd;omega
 have w4:Lit' 51 y4.1:=by
  rcases hd with hd|hd
  · refine .inl fun x hx=>hd x ?_
    rw[hd'];simp only[DataW.weights,Tryz.underlying75,List.map_cons,List.map_nil,DataW.weightsEach,List.mem_append];simp[hx]
  · refine .inr ?_;rw[hd'] at hd;simp only[Rows.uptoBulk,Rows.uptoBulkAll] at hd;omega
 obtain⟨a2,l2,q2,e2,b2,n2,m2,_⟩:=open_bytes_cs (d:=y2.1) (p:=y2.2) h2 w2;obtain⟨a3,l3,q3,e3,b3,n3,m3,_⟩:=open_bytes_cs (d:=y3.1) (p:=y3.2) h3 w3;obtain⟨it,e4,i4,n4,n5⟩:=open_item7 (d:=y4.1) (p:=y4.2) h4 w4;simp only[List.cons.injEq,and_true] at e0 e1 e2 e3;subst e0 e1 e2 e3;refine⟨⟨z0,z1,a2,q2,l2,a3,q3,l3,it⟩,?_,⟨b2,m2,b3,m3,i4,n64 k1,n2,n3,by dsimp only;omega,by dsimp only;omega⟩⟩
 rw[e4];rfl
set_option maxRecDepth 100000 in
theorem open_ops13{H:Type}{enc:TypeId×Value->H}{W:World}{fuel:Nat}{cs:List Value}{d:DataW H}{p:List MemPlace}
 (hf:DataW.trod enc Tryz.prog W 0 (fun _=>true) true fuel 69 cs=some (d,p)) (hd:Lit' 69 d):
 ∃(a:Option Addr)(NL:List Ov)(cap:Nat),cs=[.slice a NL.length cap]/\Os W a NL:=by
 rcases Deep.open_slice Tryz.underlying69 hf with⟨hcs,_⟩|⟨x,len,cap,m,n,D,Pl,hcs,_,hl,hm,hmm,hx,hrows⟩
 · exact⟨none,[],0,hcs,⟨fun j hj=>absurd hj (Nat.not_lt_zero _),by simp⟩⟩
 · simp only[Prod.mk.injEq] at hx;obtain⟨rfl,_⟩:=hx;simp only[if_true] at hmm;subst hmm;by_cases h0:len=0
   · subst h0;exact⟨some x,[],m,hcs,⟨fun j hj=>absurd hj (Nat.not_lt_zero _),by simp⟩⟩
   · have hmemD:∀r,r<len->D r∈(List.range len).map D:=fun r hr=>List.mem_map.2 ⟨r,List.mem_range.2 hr,rfl⟩
     have hbD:∀r,r<len->Lit' 75 (D r):=fun r hr=>by
      rcases hd with hd|hd
      · refine .inl fun x hx=>hd x ?_
        simp only[DataW.weights,Tryz.underlying69,List.mem_cons,List.mem_append];exact .inr (.inl (weightsAll_mem (hmemD r hr) x hx))
      · have h1:=bulk_mem (hmemD r hr);simp only[Rows.uptoBulk] at hd;exact .inr (by omega)
     obtain⟨b,off,spot⟩:=x
     have hspot:spot=none:=by
      obtain⟨cs,hc,ht⟩:=hrows 0 (by omega)
      obtain⟨f,rfl,_⟩:=open_op13 ht (hbD 0 (by omega))
      generalize hk:(0:Nat)=k0 at hc;rw[cellsOp13] at hc;obtain⟨_,_,hce⟩:=World.cells?_some hc;have e0:=(hce 0 (by decide)).trans (show f.cs.toList[0]?=some (.int .i64 f.kind) from rfl)
      have hs0:=World.cell?_spot e0;subst hk;simpa[Addr.add] using hs0
     subst hspot
     have each:∀r,r<len->∃v:Ov,(∀k u,v.cs[k]?=some u->W.cell? ⟨b,off+r*8+k,none⟩=some u)/\Oi W v:=by
      intro r hr;obtain⟨cs,hc,ht⟩:=hrows r (by omega)
      obtain⟨v,rfl,h1⟩:=open_op13 ht (hbD r hr);rw[cellsOp13] at hc;obtain⟨_,_,hce⟩:=World.cells?_some hc;refine⟨v,fun j u hu=>?_,h1⟩
      have hj:j<8:=(Array.getElem?_eq_some_iff.1 hu).1;have h:=hce j hj;rw[Deep.add_add,Addr.add_mid,<-Nat.add_assoc] at h;exact h.trans (by rw[<-hu];simp)
     haveI:Inhabited Ov:=⟨Ov.zero⟩;obtain⟨F,hF⟩:=Deep.choose_lt each;have hget:∀r,r<len->((List.range len).map F).getD r Ov.zero=F r:=fun r hr=>by simp[hr]
     have hlenL:((List.range len).map F).length=len:=by simp
     refine⟨some ⟨b,off,none⟩,(List.range len).map F,m,by rw[hlenL];exact hcs,⟨fun r hr=>?_,fun v hv=>?_⟩⟩
     · rw[hlenL] at hr;exact⟨b,off,rfl,by rw[hget r hr];exact(hF r hr).1⟩
     · obtain⟨r,hr,rfl⟩:=List.mem_map.1 hv;exact(hF r (List.mem_range.1 hr)).2
theorem open_script{H:Type}{enc:TypeId×Value->H}{W:World}{a:Option Addr}{len cap:Nat}{d:DataW H}{p:List MemPlace}
 (h:DataW.Trod enc Tryz.prog W 0 (fun _=>true) true 69 (.slice a len cap) d p) (hd:Rows.uptoBulk d<=1048576):∃L:List Ov,len=L.length/\Os W a L/\L.length<=1048576:=by
 obtain⟨fuel,hf⟩:=h;have hf:DataW.trod enc Tryz.prog W 0 (fun _=>true) true fuel 69 [.slice a len cap]=some (d,p):=hf
 have hb:len<=1048576:=by
  rcases Deep.open_slice Tryz.underlying69 hf with⟨hcs,_⟩|⟨x,l2,c2,m,n',D,Pl,hcs,_,hl,hm,hmm,hx,hrows⟩
  · simp only[List.cons.injEq,and_true,Value.slice.injEq] at hcs;omega
  · simp only[List.cons.injEq,and_true,Value.slice.injEq] at hcs;simp only[Prod.mk.injEq] at hx;obtain⟨rfl,_⟩:=hx;simp only[Rows.uptoBulk] at hd;have h1:=bulk_length ((List.range l2).map D);rw[List.length_map,List.length_range] at h1;omega
 obtain⟨a2,L,c2,e,hO⟩:=open_ops13 hf (.inr hd);simp only[List.cons.injEq,and_true,Value.slice.injEq] at e;obtain⟨rfl,rfl,rfl⟩:=e;exact⟨L,rfl,hO,hb⟩
end
end Go.Proofs.YtcpkinhneehomaaGreat
