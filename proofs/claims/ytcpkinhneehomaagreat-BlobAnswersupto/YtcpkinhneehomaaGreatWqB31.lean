import Derived.Test.YtcpkinhneehomaaGreatWqB30
set_option linter.unusedVariables false
set_option linter.unusedSimpArgs false
set_option maxHeartbeats 16000000
set_option maxRecDepth 8000
namespace Go.Proofs.YtcpkinhneehomaaGreat
open Go.RowKit
variable {k rb:Nat}{col:Nat->Nat}{D D':Rd}{w:World}
theorem low_at{P:List Q.Pg}(h:lowOf P≠0):∃i:Nat,i<P.length/\lowOf P=(i:Int)+1/\Q.stt (P.getD i Q.Pg.zero)=1:=by
 unfold lowOf at h ⊢;cases e:Q.pagesOf P 1 with
 |nil=>rw[e] at h;exact absurd rfl h
 |cons n T=>
  have hm:n∈Q.pagesOf P 1:=by rw[e];exact List.mem_cons_self
  unfold Q.pagesOf at hm;obtain⟨i,hi,rfl⟩:=List.mem_map.1 hm;obtain⟨h1,h2⟩:=List.mem_filter.1 hi;exact⟨i,List.mem_range.1 h1,rfl,by simpa using h2⟩
def Rd.makeR(D:Rd)(p:Pg):Int×Int:=if p.check=0 then (if lowOf D.pg=0 then (0,12) else (lowOf D.pg,0)) else (0,(p.check:Int))
def Rd.makeD(D:Rd)(p:Pg)(q:Pv):Rd:=if p.check=0/\lowOf D.pg≠0 then {D with C:=D.C.set (lowOf D.pg-1).toNat 1,P:=D.P.set (lowOf D.pg-1).toNat q} else D
def RMd(w:World)(rb:Nat)(D:Rd)(col:Nat->Nat)(p:Pg)(e:Ending)(w':World):Prop:=∃(q:Pv)(col':Nat->Nat),q.pg=p/\e=.returned (.tuple #[.int .i64 (D.makeR p).1,.int .i64 (D.makeR p).2])/\Rq w' rb (D.makeD p q) col'/\Vf w col w' col'
theorem rMake_any(w:World)(rb:Nat)(D:Rd)(col:Nat->Nat)(h:Rq w rb D col)(hh:D.hush=true)(p:Pv)(hP:Pf col w p):
 Calls Tryz.prog 92 #[.pointer (some ⟨rb,0,none⟩),p.vl] w fun e w'=>RMd w rb D col p.pg e w':=by
 have HQ:=hide h;have HP:=hide hP;have A0:=hide (al w (.cells p.cs 31));have X0:=hide (heap_alloc_new w (.cells p.cs 31));have PVL:Hid (p.vl=.agg #[.int .i64 p.kind,.int .i64 p.level,.slice p.aI p.items.length p.cI,.slice p.aD p.data.length p.cD,.int .i64 p.next]):=rfl;have PCS:Hid (p.cs=#[.int .i64 p.kind,.int .i64 p.level,.slice p.aI p.items.length p.cI,.slice p.aD p.data.length p.cD,.int .i64 p.next]):=rfl;have CK:=hide fun(W:World)(hb:Below w.heap.size w W)=>iCheck_any W p (hP.pi.keep hb)
 have LO:=hide fun(W:World)(hb:Below w.heap.size w W)=>rlowest_any W rb D col (h.keep hb)
 have AC:=hide fun(W:World)(hb:Below w.heap.size w W)=>rAct_hush W rb D col (h.keep hb) hh
 simp only[PVL.out] at CK ⊢;simp only[PCS.out] at A0 X0;by_cases hck:p.pg.check=0
 · rw[hck] at CK;have HCK:=hide hck;by_cases hl:lowOf D.pg=0
   · simp only[hl] at LO
     have MK:Hid (D.makeR p.pg=(0,12)/\∀q,D.makeD p.pg q=D):=by
      unfold Rd.makeR Rd.makeD;exact⟨by rw[if_pos hck,if_pos hl],fun q=>if_neg (fun hx=>hx.2 hl)⟩
     clear h hP hck hl;go_enter Tryz.func92,Tryz.ntmps92;go_wp2_with fail
     refine(CK.out _ A0.out).mono ?_;rintro _ w1 ⟨rfl,hb1⟩;have B1:=hide (bt A0.out hb1);clear hb1;go_wp2_with fail
     refine(LO.out _ B1.out).mono ?_;rintro _ w2 ⟨rfl,hw2⟩;rw[hw2];clear hw2;go_wp2_with fail
     go_ret2
     exact⟨p,col,rfl,by rw[MK.out.1];rfl,by rw[MK.out.2];exact HQ.out.keep B1.out,Vf.keep B1.out⟩
   · have MK:Hid (D.makeR p.pg=(lowOf D.pg,0)/\∀q,D.makeD p.pg q={D with C:=D.C.set (lowOf D.pg-1).toNat 1,P:=D.P.set (lowOf D.pg-1).toNat q}):=by
      unfold Rd.makeR Rd.makeD;exact⟨by rw[if_pos hck,if_neg hl],fun q=>if_pos ⟨hck,hl⟩⟩
     obtain⟨i,hi,hlo,_⟩:=low_at hl;rw[Rd.pg_len h.nL] at hi;have ei:(lowOf D.pg-1).toNat=i:=by rw[hlo];omega
     rw[ei,hlo] at MK;rw[hlo] at LO;obtain⟨g,eg,_⟩:=h.cAt hi;obtain⟨gP,egP⟩:∃gg,D.aP=some ⟨gg,0,none⟩:=h.pr.addr (by rw[h.nP];omega)
     have GX:Hid (w.heap.size≠g):=fun e=>by
      have h1:=h.lt g (by rw[h.cc _ eg];decide)
      rw[<-e] at h1;exact absurd h1 (Nat.lt_irrefl _)
     have EG:=hide eg;have EGP:=hide egP;have NP:=hide h.nP;have h6:=h.n6;have hs:(i:Int)+1-1=(i:Int):=by omega
     have WKK:Hid (IntKind.i64.wrap ((i:Nat):Int)=(i:Int)):=wrapI (by omega) (by omega)
     have hii:(i:Int)<(D.C.length:Int):=by omega
     have n0:(((i:Int)+1)==0)=false:=by simp;omega
     have HI:=hide hi;clear h hP hck hl hlo ei eg egP;go_enter Tryz.func92,Tryz.ntmps92;go_wp2_with fail
     refine(CK.out _ A0.out).mono ?_;rintro _ w1 ⟨rfl,hb1⟩;have B1:=hide (bt A0.out hb1);have X1:=hide (blk13 X0.out hb1);clear hb1 A0 X0;go_wp2_with fail
     refine(LO.out _ B1.out).mono ?_;rintro _ wq ⟨rfl,hwq⟩;rw[hwq];clear hwq;go_wp2_with fail
     refine(AC.out _ B1.out).mono ?_;rintro _ wq ⟨rfl,hwq⟩;rw[hwq];clear hwq;have R1:=hide (HQ.out.keep B1.out);obtain⟨y0,y1,y2,y3,y6⟩:=R1.out.cells;rw[EG.out] at y1;obtain⟨g',eg',cA⟩:=R1.out.cAt HI.out;obtain rfl:g'=g:=by have:=eg'.symm.trans EG.out;simpa using this
     have fA:w1.frozen? ⟨g',i,none⟩=false:=by
      have k:=R1.out.cr;rw[EG.out] at k;exact Q.Gw.free k i
     obtain⟨R2,F2⟩:Hid (Rq (w1.setCell ⟨g',i,none⟩ (.int .i64 1)) rb {D with C:=D.C.set i 1} col)/\Hid (Vf w1 col (w1.setCell ⟨g',i,none⟩ (.int .i64 1)) col):=R1.out.setC EG.out i 1;have X2:Hid ((w1.setCell ⟨g',i,none⟩ (.int .i64 1)).heap[w.heap.size]?=_):=((But.refl (fun k=>k=g') w1).setCell (p:=⟨g',i,none⟩) (fun _=>rfl) (.int .i64 1)).same X1.out GX.out
     have V2:=hide ((Vf.keep (c:=col) B1.out).trans F2.out);have P2:=hide (HP.out.vf V2.out);have CX:Hid (D.C.length=D.P.length):=NP.out.symm;obtain⟨m,hm⟩:∃m,D.C.length=m:=⟨_,rfl⟩;have NPM:Hid (D.P.length=m):=NP.out.trans hm;rw[hm] at y1 hii h6;clear R1 eg' X1 CX NP hm y0 y2 y3 y6;go_upto_region 9 with fail
     generalize w1.setCell ⟨g',i,none⟩ (.int .i64 1)=w2 at *;clear cA fA y1 F2 LO AC CK;obtain⟨y0,y1,y2,y3,y6⟩:=R2.out.cells;dsimp only at y3;rw[EGP.out,NPM.out] at y3;clear y0 y1 y2 y6;have DR:=hide (dr2 w2)
     have SS:Hid (∀W:World,Below w2.heap.size w2 W->W.cell? ⟨rb,3,none⟩=some (.slice (some ⟨gP,0,none⟩) m D.cP)/\W.cell? ⟨w.heap.size,0,none⟩=some (.int .i64 p.kind)/\W.cell? ⟨w.heap.size,1,none⟩=some (.int .i64 p.level)/\W.cell? ⟨w.heap.size,2,none⟩=some (.slice p.aI p.items.length p.cI)/\W.cell? ⟨w.heap.size,3,none⟩=some (.slice p.aD p.data.length p.cD)/\W.cell? ⟨w.heap.size,4,none⟩=some (.int .i64 p.next)):=fun W hb=>by
      have hx:=blk13 X2.out hb;refine⟨(hb.cell (p:=⟨rb,3,none⟩) (block_lt_of_cell y3)).trans y3,?_,?_,?_,?_,?_⟩<;>(rw[cell_of_row _ _ _ _ _ _ hx];rfl)
     obtain⟨sm,si⟩:=sml_ps (p:=p) (.inl HCK.out);have CP:=hide (CopyPage_pn w2.drew p (P2.out.keep DR.out) sm.1 (by omega) sm.2)
     rw[PVL.out] at CP;clear y3 sm si;refine wp_region_held_drew (S:=fun W=>W.cell? ⟨rb,3,none⟩=some (.slice (some ⟨gP,0,none⟩) m D.cP)/\W.cell? ⟨w.heap.size,0,none⟩=some (.int .i64 p.kind)/\W.cell? ⟨w.heap.size,1,none⟩=some (.int .i64 p.level)/\W.cell? ⟨w.heap.size,2,none⟩=some (.slice p.aI p.items.length p.cI)/\W.cell? ⟨w.heap.size,3,none⟩=some (.slice p.aD p.data.length p.cD)/\W.cell? ⟨w.heap.size,4,none⟩=some (.int .i64 p.next)) (by kernel_rfl) (SS.out _ DR.out) (fun hHeld=>?_)
     refine tk 0 ?_;refine tk 1 ?_;refine tk 2 ?_;refine tk 3 ?_;refine tk 4 ?_;refine tk 5 ?_;refine tk 6 ?_;rw[WKK.out];refine tw 7 fun K hK=>?_
     go_simp;refine CP.out.mono ?_;rintro _ w5 ⟨qq,rfl,hP5,hl5,hg5,hb5⟩;have N5:=hide (hP5.pre (v':=w2) (Nat.le_refl _));have L5:=hide hl5;have G5:=hide hg5;have B5:=hide (bt DR.out hb5);clear hP5 hl5 hg5 hb5;go_wp2_with fail
     refine hK.out _ _ (SS.out _ B5.out) (fun hHeld=>?_)
     clear hK K;try simp only[pt]
     refine tk 8 ?_;obtain⟨R5,F5⟩:Hid (Rq w5 rb _ (paint col w2 w5 6))/\Hid (Vf w2 col w5 (paint col w2 w5 6)):=R2.out.page B5.out;have CQ:Hid (qq.pg.check=0):=by show _=_;rw[G5.out];exact HCK.out
     have Z5:=hide (N5.out.pz (col:=col) (Nat.le_trans (sml_ps (p:=qq) (.inl CQ.out)).2 (by decide)))
     have TH5:Hid (w5.there gP (i*5) 5):=by
      have hr:=R5.out.pr;dsimp only at hr;rw[EGP.out] at hr;exact hr.there5 (by rw[NPM.out];omega)
     obtain⟨R6,F6⟩:Hid (Rq (w5.setCells gP (i*5) qq.cs.toList) rb _ (paint col w2 w5 6))/\Hid (Vf w5 (paint col w2 w5 6) (w5.setCells gP (i*5) qq.cs.toList) (paint col w2 w5 6)):=R5.out.setP (g:=gP) EGP.out i qq Z5.out (.inl CQ.out);refine tw 9 fun K hK=>?_
     rw[if_pos (by rfl)]
     refine wp_store_mid (P:=Tryz.prog) 31 _ _ rfl gP (i*5) qq.cs ?hxs ?hys TH5.out sizePage (by simp[Pv.cs,Value.oneCell']) ?_
     case hxs=>simp[Act.eval]
     case hys=>rfl
     have S6:Hid ((w5.setCells gP (i*5) qq.cs.toList).cell? ⟨rb,3,none⟩=some (.slice (some ⟨gP,0,none⟩) m D.cP)/\(w5.setCells gP (i*5) qq.cs.toList).heap[w.heap.size]?=some (.cells #[.int .i64 p.kind,.int .i64 p.level,.slice p.aI p.items.length p.cI,.slice p.aD p.data.length p.cD,.int .i64 p.next] 31 (0,0))):=by
      refine⟨?_,?_⟩
      · obtain⟨z0,z1,z2,z3,z6⟩:=R6.out.cells;dsimp only at z3;rw[List.length_set,EGP.out,NPM.out] at z3;exact z3
      · refine(but_setCells gP qq.cs.toList w5 (i*5)).same (blk13 X2.out B5.out) (fun e=>?_)
        have h1:=R2.out.lt gP (by rw[R2.out.cp _ EGP.out];decide)
        have h2:col gP≠0:=by rw[R2.out.cp _ EGP.out];decide
        have h3:=HQ.out.lt gP h2;rw[<-e] at h3;exact absurd h3 (Nat.lt_irrefl _)
     refine hK.out _ _ ⟨S6.out.1,?t0,?t1,?t2,?t3,?t4⟩ (fun hHeld=>?_)
     case t0=>rw[cell_of_row _ _ _ _ _ _ S6.out.2];rfl
     case t1=>rw[cell_of_row _ _ _ _ _ _ S6.out.2];rfl
     case t2=>rw[cell_of_row _ _ _ _ _ _ S6.out.2];rfl
     case t3=>rw[cell_of_row _ _ _ _ _ _ S6.out.2];rfl
     case t4=>rw[cell_of_row _ _ _ _ _ _ S6.out.2];rfl
     clear hK K S6;try simp only[pt]
     refine td ?_;have V6:=hide (V2.out.trans (F5.out.trans F6.out));clear hHeld SS TH5 R5 F5 F6 DR CP Z5 N5 B5 X2 P2 R2 V2;generalize w5.setCells gP (i*5) qq.cs.toList=w6 at *;generalize paint col w2 w5 6=col6 at *;go_wp2_with fail
     go_ret2
     exact⟨qq,col6,G5.out,by rw[MK.out.1];rfl,by rw[MK.out.2];exact R6.out,V6.out⟩
 · have MK:Hid (D.makeR p.pg=(0,(p.pg.check:Int))/\∀q,D.makeD p.pg q=D):=by
    unfold Rd.makeR Rd.makeD;exact⟨if_neg hck,fun q=>if_neg (fun hx=>hck hx.1)⟩
   obtain⟨ck0,hck0⟩:∃c,p.pg.check=c:=⟨_,rfl⟩;simp only[hck0] at CK hck MK;have cn0:((ck0:Int) != 0)=true:=by simpa using hck
   clear h hP hck;go_enter Tryz.func92,Tryz.ntmps92;go_wp2_with fail
   refine(CK.out _ A0.out).mono ?_;rintro _ w1 ⟨rfl,hb1⟩;have B1:=hide (bt A0.out hb1);clear hb1 hck0;go_wp2_with fail
   go_ret2
   exact⟨p,col,rfl,by rw[MK.out.1];rfl,by rw[MK.out.2];exact HQ.out.keep B1.out,Vf.keep B1.out⟩
def talOf(P:List Q.Pg)(s k:Nat):Nat:=((List.range k).filter fun i=>decide (Q.stt (P.getD i Q.Pg.zero)=s)).length
theorem talOf_succ(P:List Q.Pg)(s k:Nat):talOf P s (k+1)=talOf P s k+(if Q.stt (P.getD k Q.Pg.zero)=s then 1 else 0):=by
 unfold talOf;rw[List.range_succ,List.filter_append,List.length_append];congr 1
 by_cases h:Q.stt (P.getD k Q.Pg.zero)=s
 · rw[if_pos h,List.filter_cons,if_pos (decide_eq_true h)];rfl
 · rw[if_neg h,List.filter_cons,if_neg (by rw[decide_eq_false h];decide)];rfl
theorem talOf_all(P:List Q.Pg)(s:Nat):talOf P s P.length=(Q.pagesOf P s).length:=by unfold talOf Q.pagesOf;rw[List.length_map]
theorem talOf_le(P:List Q.Pg)(s k:Nat):talOf P s k<=k:=by
 unfold talOf;exact Nat.le_trans (List.length_filter_le _ _) (by rw[List.length_range];exact Nat.le_refl _)
theorem rTally_any(w:World)(rb:Nat)(D:Rd)(col:Nat->Nat)(h:Rq w rb D col)(s:Nat):
 Calls Tryz.prog 50 #[.pointer (some ⟨rb,0,none⟩),.int .i64 (s:Int)] w fun e w'=>e=.returned (.int .i64 (((Q.pagesOf D.pg s).length:Nat):Int))/\w'=w:=by
 obtain⟨c0,c1,c2,c3,c6⟩:=h.cells;have ST:=hide fun(z:Int)=>rState_any w rb D col h z
 have PK:Hid (∀k:Nat,k<D.C.length->D.state ((k:Int)+1)=Q.stt (D.pg.getD k Q.Pg.zero)):=fun k hk=>by
  have ez:((k:Int)+1-1).toNat=k:=by omega
  unfold Rd.state;rw[if_pos (Rd.has_iff.2 ⟨by omega,by omega⟩),Rd.pg_get h.nL hk]
  unfold Rd.lasts;rw[ez]
 have TL:Hid ((Q.pagesOf D.pg s).length=talOf D.pg s D.C.length):=by show _=_;rw[<-talOf_all,Rd.pg_len h.nL]
 have h6:=h.n6;clear h c0 c2 c3 c6;obtain⟨m,hm⟩:∃m,D.C.length=m:=⟨_,rfl⟩;simp only[hm] at c1 PK TL h6;clear hm;rw[TL.out];clear TL;go_enter Tryz.func50,Tryz.ntmps50;go_wp2_with fail
 go_loopw [5,6] (fun vn vk wx=>∃k:Nat,k<=m/\vn=.int .i64 ((talOf D.pg s k:Nat):Int)/\vk=.int .i64 ((k:Int)+1)/\wx=w) (fun _ vk _=>m+1-(intOf vk).toNat)
 case atStart=>exact⟨0,Nat.zero_le _,rfl,rfl,rfl⟩
 case round=>
  obtain⟨k,hk,rfl,rfl,rfl⟩:=hrel;have hT:=talOf_le D.pg s k;have TS:=hide (talOf_succ D.pg s k);by_cases hlt:k<m
  · have dki:decide ((k:Int)+1<=(m:Int))=true:=decide_eq_true (by omega)
    have hki:(k:Int)+1<=(m:Int):=by omega
    have SK:=hide (ST.out ((k:Int)+1));rw[PK.out k hlt] at SK;obtain⟨x,hx⟩:∃x,Q.stt (D.pg.getD k Q.Pg.zero)=x:=⟨_,rfl⟩;rw[hx] at SK TS;clear hx;by_cases hs:x=s
    · subst hs;rw[if_pos rfl] at TS;obtain⟨t,ht⟩:∃t,talOf D.pg x k=t:=⟨_,rfl⟩;simp only[ht] at TS hT ⊢;clear ht;have dd:((x:Int)==(x:Int))=true:=by simp
      go_wp2_with fail
      refine SK.out.mono ?_;rintro _ wq ⟨rfl,hwq⟩;rw[hwq];clear hwq;go_wp2_with fail
      go_roundw
      case rel=>exact⟨k+1,by omega,by rw[TS.out];go_num,by go_num,trivial⟩
      case measure=>simp[intOf];omega
    · rw[if_neg hs] at TS;have dd:((x:Int)==(s:Int))=false:=by simp;omega
      clear hs;go_wp2_with fail
      refine SK.out.mono ?_;rintro _ wq ⟨rfl,hwq⟩;rw[hwq];clear hwq;go_wp2_with fail
      go_roundw
      case rel=>exact⟨k+1,by omega,by rw[TS.out];rfl,by go_num,trivial⟩
      case measure=>simp[intOf];omega
  · have hki:¬((k:Int)+1<=(m:Int)):=by omega
    have dki:decide ((k:Int)+1<=(m:Int))=false:=decide_eq_false hki;have hkm:k=m:=by omega
    have HKM:=hide hkm;clear hkm;go_wp2_with fail
    go_ret;rw[<-HKM.out];exact⟨rfl,rfl⟩
structure Rd.Set(D D':Rd)(k:Nat):Prop where
 e:D'={D with L:=D'.L,P:=D'.P}
 nl:D'.L.length=D.L.length
 np:D'.P.length=D.P.length
 l:∀i,D'.L.getD i false=if i<k/\i<D.L.length then decide (0<D.C.getD i 0) else D.L.getD i false
 p:∀i,D'.P.getD i Pv.zero=if i<k/\D.C.getD i 0=0 then Pv.zero else D.P.getD i Pv.zero
theorem Rd.Set.start(D:Rd):D.Set D 0:=⟨rfl,rfl,rfl,fun i=>by simp,fun i=>by simp⟩
theorem getD_set{α:Type}(L:List α)(k i:Nat)(x d:α):(L.set k x).getD i d=if i=k/\k<L.length then x else L.getD i d:=by
 by_cases h:i=k
 · subst h;by_cases hk:i<L.length
   · rw[if_pos ⟨rfl,hk⟩];simp[hk]
   · rw[if_neg (fun e=>hk e.2)]
     rw[List.set_eq_of_length_le (Nat.le_of_not_lt hk)]
 · rw[if_neg (fun e=>h e.1)]
   have h2:¬k=i:=fun e=>h e.symm
   simp[List.getElem?_set,h2]
theorem Rd.Set.step0(h:D.Set D' k)(hk:k<D.L.length)(hc:D.C.getD k 0≠0):D.Set {D' with L:=D'.L.set k (decide (0<D.C.getD k 0))} (k+1):=by
 refine⟨?_,by show(D'.L.set _ _).length=_;rw[List.length_set];exact h.nl,h.np,fun i=>?_,fun i=>?_⟩
 · have e:=h.e;rw[e]
 · show(D'.L.set _ _).getD i false=_;rw[getD_set,h.l i,h.nl];by_cases e:i=k
   · subst e;rw[if_pos ⟨rfl,hk⟩,if_pos ⟨by omega,hk⟩]
   · rw[if_neg (fun x=>e x.1)]
     by_cases e2:i<k/\i<D.L.length
     · rw[if_pos e2,if_pos ⟨by omega,e2.2⟩]
     · rw[if_neg e2,if_neg (fun x=>e2 ⟨by omega,x.2⟩)]
 · show D'.P.getD i Pv.zero=_;rw[h.p i];by_cases e:i=k
   · subst e;rw[if_neg (fun x=>hc x.2),if_neg (fun x=>hc x.2)]
   · by_cases e2:i<k/\D.C.getD i 0=0
     · rw[if_pos e2,if_pos ⟨by omega,e2.2⟩]
     · rw[if_neg e2,if_neg (fun x=>e2 ⟨by omega,x.2⟩)]
theorem Rd.Set.step1(h:D.Set D' k)(hk:k<D.L.length)(hp:k<D.P.length)(hc:D.C.getD k 0=0):D.Set {D' with L:=D'.L.set k (decide (0<D.C.getD k 0)),P:=D'.P.set k Pv.zero} (k+1):=by
 refine⟨?_,by show(D'.L.set _ _).length=_;rw[List.length_set];exact h.nl,by show(D'.P.set _ _).length=_;rw[List.length_set];exact h.np,fun i=>?_,fun i=>?_⟩
 · have e:=h.e;rw[e]
 · show(D'.L.set _ _).getD i false=_;rw[getD_set,h.l i,h.nl];by_cases e:i=k
   · subst e;rw[if_pos ⟨rfl,hk⟩,if_pos ⟨by omega,hk⟩]
   · rw[if_neg (fun x=>e x.1)]
     by_cases e2:i<k/\i<D.L.length
     · rw[if_pos e2,if_pos ⟨by omega,e2.2⟩]
     · rw[if_neg e2,if_neg (fun x=>e2 ⟨by omega,x.2⟩)]
 · show(D'.P.set _ _).getD i Pv.zero=_;rw[getD_set,h.p i,h.np];by_cases e:i=k
   · subst e;rw[if_pos ⟨rfl,hp⟩,if_pos ⟨by omega,hc⟩]
   · rw[if_neg (fun x=>e x.1)]
     by_cases e2:i<k/\D.C.getD i 0=0
     · rw[if_pos e2,if_pos ⟨by omega,e2.2⟩]
     · rw[if_neg e2,if_neg (fun x=>e2 ⟨by omega,x.2⟩)]
theorem rq_again(h:Rq w rb D col)(h0:D.aA=none/\D.nA=0/\D.cA=0/\D.fl=0):Rq ((w.setCell ⟨rb,5,none⟩ (.int .i64 0)).setCell ⟨rb,4,none⟩ (.slice none 0 0)) rb D col:=by
 have b1:But (fun k=>k=rb) w (w.setCell ⟨rb,5,none⟩ (.int .i64 0)):=(But.refl (fun k=>k=rb) w).setCell (p:=⟨rb,5,none⟩) (fun _=>rfl) _
 have bs:But (fun k=>k=rb) w ((w.setCell ⟨rb,5,none⟩ (.int .i64 0)).setCell ⟨rb,4,none⟩ (.slice none 0 0)):=b1.setCell (p:=⟨rb,4,none⟩) (fun _=>rfl) _
 have ne:∀{j c:Nat},col j=c->c≠1->¬j=rb:=fun e n e2=>n (by rw[<-e,e2,h.cb])
 refine⟨?_,h.cr.but bs (fun y hy=>ne (h.cc y hy) (by decide)),h.lr.but bs (fun y hy=>ne (h.cl y hy) (by decide)),h.pr.but bs (fun y hy=>ne (h.cp y hy) (by decide)),fun p hp=>(h.pz p hp).but bs (fun k _ e=>ne e (by decide)),h.ps,h.cb,h.cc,h.cl,h.cp,fun j hj=>Nat.lt_of_lt_of_le (h.lt j hj) bs.size,h.nL,h.nP,h.n6⟩
 have x1:=heap_setCell_same w rb 5 _ 99 (.int .i64 0) h.box;rw[heap_setCell_same _ rb 4 _ 99 (.slice none 0 0) x1];unfold Rd.box;rw[h0.1,h0.2.1,h0.2.2.1,h0.2.2.2];rfl
theorem vf_again(h:Rq w rb D col):Vf w col ((w.setCell ⟨rb,5,none⟩ (.int .i64 0)).setCell ⟨rb,4,none⟩ (.slice none 0 0)) col:=by
 have b1:But (fun k=>k=rb) w (w.setCell ⟨rb,5,none⟩ (.int .i64 0)):=(But.refl (fun k=>k=rb) w).setCell (p:=⟨rb,5,none⟩) (fun _=>rfl) _
 exact vf_one (by have:=h.cb;omega) (b1.setCell (p:=⟨rb,4,none⟩) (fun _=>rfl) _)
theorem rMark_hush(w:World)(rb:Nat)(D:Rd)(col:Nat->Nat)(h:Rq w rb D col)(h0:D.aA=none/\D.nA=0/\D.cA=0/\D.fl=0):Calls Tryz.prog 55 #[.pointer (some ⟨rb,0,none⟩)] w fun e w'=>e=.returned (.int .i64 0)/\Below w.heap.size w w':=by
 have c4:w.cell? ⟨rb,4,none⟩=some (.slice none 0 0):=by
  rw[cell_of_row _ _ _ _ _ _ h.box];show some (Value.slice D.aA D.nA D.cA)=_;rw[h0.1,h0.2.1,h0.2.2.1]
 have c5:w.cell? ⟨rb,5,none⟩=some (.int .i64 0):=by
  rw[cell_of_row _ _ _ _ _ _ h.box];show some (Value.int .i64 D.fl)=_;rw[h0.2.2.2]
 clear h h0;go_enter Tryz.func55,Tryz.ntmps55;go_wp2_with fail
 go_quiet (fail)
 go_wp2_with fail
 go_ret;exact⟨rfl,drN _ _⟩
theorem rSettle_hush(w:World)(rb:Nat)(D:Rd)(col:Nat->Nat)(h:Rq w rb D col)(h0:D.aA=none/\D.nA=0/\D.cA=0/\D.fl=0):
 Calls Tryz.prog 58 #[.pointer (some ⟨rb,0,none⟩)] w fun e w'=>e=.returned (.tuple #[])/\∃D',D.Set D' D.C.length/\Rq w' rb D' col/\Vf w col w' col:=by
 have HQ:=hide h;have H0:=hide h0;have hL:=h.nL;have hP:=h.nP;have h6:=h.n6;obtain⟨m,hm⟩:∃m,D.C.length=m:=⟨_,rfl⟩;rw[hm] at hL hP h6 ⊢;have HM:=hide hm;clear h h0 hm;go_enter Tryz.func58,Tryz.ntmps58;go_wp2_with fail
 go_loopw [2] (fun vk wx=>∃(k:Nat)(D':Rd),k<=m/\vk=.int .i64 (k:Int)/\D.Set D' k/\Rq wx rb D' col/\Vf w col wx col) (fun vk _=>m-(intOf vk).toNat)
 case atStart=>exact⟨0,D,Nat.zero_le _,rfl,Rd.Set.start D,HQ.out,Vf.refl _ _⟩
 case round=>
  obtain⟨k,D',hk,rfl,hS,hR,hF⟩:=hrel;have SE:=hide hS;have RR:=hide hR;have FF:=hide hF;have eC:D'.C=D.C:=by rw[hS.e]
  have eL:D'.L.length=m:=hS.nl.trans hL;have eP:D'.P.length=m:=hS.np.trans hP;have EC:=hide eC;obtain⟨y0,y1,y2,y3,y6⟩:=hR.cells;rw[eC,HM.out] at y1;rw[eL] at y2;rw[eP] at y3;have EL:=hide eL;have EP:=hide eP;clear hS hR hF eC eL eP;by_cases hlt:k<m
  · have hki:(k:Int)<(m:Int):=by omega
    have hkC:k<D'.C.length:=by rw[EC.out,HM.out];exact hlt
    obtain⟨g,eg,cA⟩:=RR.out.cAt hkC;obtain⟨g2,eg2,lA⟩:=RR.out.lAt hkC;obtain⟨gP,egP⟩:∃gg,D'.aP=some ⟨gg,0,none⟩:=RR.out.pr.addr (by rw[EP.out];omega)
    rw[eg] at y1;rw[eg2] at y2;rw[egP] at y3;have EG:=hide eg;have EG2:=hide eg2;have EGP:=hide egP;rw[EC.out] at cA;obtain⟨x,hx⟩:∃x,D.C.getD k 0=x:=⟨_,rfl⟩;rw[hx] at cA;have HX:=hide hx
    have fL:Hid (∀W:World,Below wr.heap.size wr W->W.frozen? ⟨g2,k,none⟩=false/\W.cell? ⟨g2,k,none⟩=some (.bool (D'.L.getD k false))):=fun W hb=>by
     obtain⟨g3,eg3,lA3⟩:=(RR.out.keep hb).lAt hkC;obtain rfl:g3=g2:=by have:=eg3.symm.trans EG2.out;simpa using this
     have kk:=(RR.out.keep hb).lr;rw[EG2.out] at kk;exact⟨kk.free k,lA3⟩
    have DR:=hide (dr2 wr);have SS:Hid (∀W:World,Below wr.heap.size wr W->W.cell? ⟨rb,1,none⟩=some (.slice (some ⟨g,0,none⟩) m D'.cC)/\W.cell? ⟨rb,2,none⟩=some (.slice (some ⟨g2,0,none⟩) m D'.cL)/\W.cell? ⟨g,k,none⟩=some (.int .i64 x)):=fun W hb=>⟨(hb.cell (p:=⟨rb,1,none⟩) (block_lt_of_cell y1)).trans y1,(hb.cell (p:=⟨rb,2,none⟩) (block_lt_of_cell y2)).trans y2,(hb.cell (p:=⟨g,k,none⟩) (block_lt_of_cell cA)).trans cA⟩
    clear eg eg2 egP hx lA hkC;go_wp2_with fail
    refine wp_region_held_drew (S:=fun W=>W.cell? ⟨rb,1,none⟩=some (.slice (some ⟨g,0,none⟩) m D'.cC)/\W.cell? ⟨rb,2,none⟩=some (.slice (some ⟨g2,0,none⟩) m D'.cL)/\W.cell? ⟨g,k,none⟩=some (.int .i64 x)) (by kernel_rfl) (SS.out _ DR.out) (fun hHeld=>?_)
    refine tk 0 ?_;refine tk 1 ?_;refine tk 2 ?_;refine tk 3 ?_;refine tk 4 ?_;refine tk 5 ?_;refine tk 6 ?_;refine tk 7 ?_;refine tk 8 ?_;refine tk 9 ?_;refine tk 10 ?_;refine tk 11 ?_;refine tk 12 ?_;refine tk 13 ?_;have Rd0:=hide (RR.out.keep DR.out);obtain⟨R2,F2⟩:Hid (Rq (wr.drew.setCell ⟨g2,k,none⟩ (.bool (decide (0<x)))) rb _ col)/\Hid (Vf wr.drew col (wr.drew.setCell ⟨g2,k,none⟩ (.bool (decide (0<x)))) col):=Rd0.out.setL EG2.out k (decide (0<x))
    have S2:Hid ((wr.drew.setCell ⟨g2,k,none⟩ (.bool (decide (0<x)))).cell? ⟨rb,1,none⟩=some (.slice (some ⟨g,0,none⟩) m D'.cC)/\(wr.drew.setCell ⟨g2,k,none⟩ (.bool (decide (0<x)))).cell? ⟨rb,2,none⟩=some (.slice (some ⟨g2,0,none⟩) m D'.cL)/\(wr.drew.setCell ⟨g2,k,none⟩ (.bool (decide (0<x)))).cell? ⟨g,k,none⟩=some (.int .i64 x)):=by
     obtain⟨z0,z1,z2,z3,z6⟩:=R2.out.cells;dsimp only at z1 z2;rw[List.length_set,EL.out,EG2.out] at z2;rw[EC.out,HM.out,EG.out] at z1;obtain⟨g3,eg3,cA3⟩:=R2.out.cAt (i:=k) (by dsimp only;rw[EC.out,HM.out];exact hlt)
     dsimp only at eg3 cA3;obtain rfl:g3=g:=by have:=eg3.symm.trans EG.out;simpa using this
     rw[EC.out,HX.out] at cA3;exact⟨z1,z2,cA3⟩
    refine tw 14 fun K hK=>?_
    obtain⟨f0,c0⟩:=fL.out wr.drew DR.out;go_simp;refine hK.out _ _ S2.out (fun hHeld=>?_)
    clear hK K f0 c0;try simp only[pt]
    refine td ?_;have EW:wr.drew.setCell ⟨g2,k,none⟩ (.bool (decide (0<x)))=(wr.setCell ⟨g2,k,none⟩ (.bool (decide (0<x)))).drew:=rfl;rw[<-EW];clear EW;obtain⟨y1,y2,cA⟩:=S2.out;have F3:=hide ((FF.out.trans (Vf.keep DR.out)).trans F2.out);clear hHeld SS S2 fL F2 FF Rd0;generalize wr.drew.setCell ⟨g2,k,none⟩ (.bool (decide (0<x)))=w2 at *;by_cases hx0:x=0
    · subst hx0;have D2S:=hide (SE.out.step1 (by rw[hL];exact hlt) (by rw[hP];exact hlt) HX.out)
      rw[HX.out] at D2S
      have y3:w2.cell? ⟨rb,3,none⟩=some (.slice (some ⟨gP,0,none⟩) m D'.cP):=by
       obtain⟨z0,z1,z2,z3,z6⟩:=R2.out.cells;dsimp only at z3;rw[EP.out,EGP.out] at z3;exact z3
      have TH5:Hid (w2.there gP (k*5) 5):=by
       have hr:=R2.out.pr;dsimp only at hr;rw[EGP.out] at hr;exact hr.there5 (by rw[EP.out];omega)
      obtain⟨R6,F6⟩:Hid (Rq (w2.setCells gP (k*5) Pv.zero.cs.toList) rb _ col)/\Hid (Vf w2 col (w2.setCells gP (k*5) Pv.zero.cs.toList) col):=R2.out.setP (g:=gP) EGP.out k Pv.zero (Pz.zero _ _) (.inr rfl);rw[show Pv.zero.cs=#[.int .i64 0,.int .i64 0,.slice none 0 0,.slice none 0 0,.int .i64 0] from rfl] at R6 F6
      have F7:=hide (F3.out.trans F6.out);clear R2 F3 F6 SE;go_wp2_with (refine wpList_store_mid (P:=Tryz.prog) rfl 31 _ _ rfl gP (k*5) #[.int .i64 0,.int .i64 0,.slice none 0 0,.slice none 0 0,.int .i64 0] ?hx1 ?hy1 ?ht1 sizePage ?ho1 ?_)
      try case hx1=>rfl
      try case hy1=>rfl
      try case ht1=>exact TH5.out
      try case ho1=>simp[Value.oneCell']
      generalize w2.setCells gP (k*5) #[.int .i64 0,.int .i64 0,.slice none 0 0,.slice none 0 0,.int .i64 0].toList=w6 at *;clear TH5 y1 y2 y3 cA;go_roundw
      case rel=>exact⟨k+1,_,by omega,by go_num,D2S.out,R6.out,F7.out⟩
      case measure=>simp[intOf];omega
    · have D2S:=hide (SE.out.step0 (by rw[hL];exact hlt) (by rw[HX.out];exact hx0))
      rw[HX.out] at D2S;have dx:(x==0)=false:=by simp[hx0]
      clear hx0 SE;go_wp2_with fail
      go_roundw
      case rel=>exact⟨k+1,_,by omega,by go_num,D2S.out,R2.out,F3.out⟩
      case measure=>simp[intOf];omega
  · have hki:¬((k:Int)<(m:Int)):=by omega
    have hkm:k=m:=by omega
    subst hkm;have eA:D'.aA=none/\D'.nA=0/\D'.cA=0/\D'.fl=0:=by rw[SE.out.e];exact H0.out
    have MK:=hide (rMark_hush wr rb D' col RR.out eA)
    have bx:Hid (∀W:World,Below wr.heap.size wr W->W.heap[rb]?=some (.cells #[.int .i64 D'.R,.slice D'.aC D'.C.length D'.cC,.slice D'.aL D'.L.length D'.cL,.slice D'.aP D'.P.length D'.cP,.slice none 0 0,.int .i64 0,.bool D'.hush] 99 (0,0))):=fun W hb=>by
     show _=_;rw[blk13 RR.out.box hb];unfold Rd.box;rw[eA.1,eA.2.1,eA.2.2.1,eA.2.2.2]
    have EA:=hide eA;clear eA;go_wp2_with fail
    refine MK.out.mono ?_;rintro _ w2 ⟨rfl,hb2⟩;have B2:=hide hb2;have R2:=hide (RR.out.keep hb2);have F2:=hide (FF.out.trans (Vf.keep hb2));have X2:=hide (bx.out w2 hb2);clear hb2 y1 y2 y3 y0 y6;have c5:w2.cell? ⟨rb,5,none⟩=some (.int .i64 0):=by rw[cell_of_row _ _ _ _ _ _ X2.out];rfl
    have c4:w2.cell? ⟨rb,4,none⟩=some (.slice none 0 0):=by rw[cell_of_row _ _ _ _ _ _ X2.out];rfl
    have f5:w2.frozen? ⟨rb,5,none⟩=false:=frozen_of_row _ _ _ _ _ X2.out;have f4:w2.frozen? ⟨rb,4,none⟩=false:=frozen_of_row _ _ _ _ _ X2.out;have R3:=hide (rq_again R2.out EA.out);have F3:=hide (F2.out.trans (vf_again R2.out));clear R2 F2 RR FF;go_wp2_with fail
    go_end0
    exact⟨rfl,D',SE.out,R3.out,F3.out⟩
end Go.Proofs.YtcpkinhneehomaaGreat
