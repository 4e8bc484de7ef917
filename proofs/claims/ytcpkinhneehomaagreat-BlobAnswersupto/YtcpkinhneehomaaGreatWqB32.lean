import Derived.Test.YtcpkinhneehomaaGreatWqB31
import Derived.Test.YtcpkinhneehomaaGreatRows
set_option linter.unusedVariables false
set_option linter.unusedSimpArgs false
set_option maxHeartbeats 32000000
set_option maxRecDepth 8000
namespace Go.Proofs.YtcpkinhneehomaaGreat
open Go.RowKit
variable {x:Int}{D:Rd}{w:World}
def Rd.tot(D:Rd):Nat:=(D.C.map Int.toNat).sum
def Rd.dropS:Nat->Rd->List Int->Option Rd
 |0,_,_=>none
 |_+1,D,[]=>some D
 |t+1,D,x::L=>if 0<D.count x then Rd.dropS t (D.put x (D.count x-1)) (if D.count x-1=0 then (D.on x).pg.kids++L else L) else none
theorem Rd.count_at(h:0<D.count x):1<=x/\x<=D.C.length/\D.count x=D.C.getD (x-1).toNat 0:=by
 unfold Rd.count at h ⊢;split at h
 · rename_i hh;obtain⟨h1,h2⟩:=Rd.has_iff.1 hh;exact⟨h1,h2,if_pos hh⟩
 · omega
theorem Rd.put_tot(h:0<D.count x):(D.put x (D.count x-1)).tot+1=D.tot:=by
 obtain⟨h1,h2,h3⟩:=Rd.count_at h;have k:=sum_set Int.toNat (0:Int) (D.count x-1) D.C (x-1).toNat (by omega)
 show((D.C.set (x-1).toNat (D.count x-1)).map Int.toNat).sum+1=(D.C.map Int.toNat).sum;rw[<-h3] at k;omega
def mC(g n:Nat)(w:World):Nat:=((List.range n).map fun i=>(intOf ((w.cell? ⟨g,i,none⟩).getD undef)).toNat).sum
theorem mC_eq{rb:Nat}{col:Nat->Nat}(h:Rq w rb D col){g:Nat}(hg:D.aC=some ⟨g,0,none⟩):mC g D.C.length w=D.tot:=by
 unfold mC Rd.tot;congr 1
 have hr:=h.cr;rw[hg] at hr;apply List.ext_getElem (by simp)
 intro i h1 h2;simp only[List.length_map,List.length_range] at h1;have hc:=hr.cell (i:=i) h1;simp only[List.getElem_map,List.getElem_range,hc,Option.getD_some,intOf];simp[h1]
theorem Q.Ig.front{a:Option Addr}{cap:Nat}{l m:List Int}(h:Q.Ig w a cap (l++m))(hm:m≠[]):Q.Ig w a cap l:=by
 rcases h.cases with⟨rfl,rfl,hn⟩|⟨g,cur,rfl,hg,h1,h2,h3,h4⟩
 · exact absurd (List.append_eq_nil_iff.1 hn).2 hm
 · refine Q.Ig.mk hg (by rw[List.length_append] at h1;omega) h2 h3 ?_
   have e:=congrArg (List.take l.length) h4;rw[List.take_take,List.length_append,Nat.min_eq_left (by omega)] at e
   rw[e];show(Q.vi (l++m)).take l.length=Q.vi l;unfold Q.vi;rw[List.map_append,List.take_left' (by rw[List.length_map])]
theorem kids_le{p:Pv}(h:p.pg.check=0\/p=Pv.zero):p.pg.kids.length<=8:=by
 have hi:p.items.length<=8:=by
  rcases h with h|rfl
  · obtain⟨h1,h2,h3,h4⟩:=Pg.check_zero.1 h;unfold Pg.form at h2;have hi:p.pg.items.length=p.items.length:=List.length_map _;rw[hi] at h2;split at h2
    · simp only[Bool.and_eq_true,decide_eq_true_eq] at h2;omega
    · simp only[Bool.and_eq_true,decide_eq_true_eq] at h2;omega
  · exact Nat.zero_le _
 have hl:(p.pg.items.map It.child).length<=8:=by
  rw[List.length_map];show(p.items.map Iv.it).length<=8;rw[List.length_map];exact hi
 unfold Pg.kids;split
 · exact hl
 · split
   · exact Nat.le_trans (List.length_filter_le _ _) hl
   · split<;>simp
theorem le_tot{i:Nat}(h:i<D.C.length):(D.C.getD i 0).toNat<=D.tot:=by
 have k:=sum_set Int.toNat (0:Int) 0 D.C i h;unfold Rd.tot;simp only[Int.toNat_zero,Nat.add_zero] at k;omega
structure Dl(w:World)(rb:Nat)(D0:Rd)(col:Nat->Nat)(a1:Option Addr)(k1:Nat)(a2:Option Addr)(k2:Nat)(wx:World)(D:Rd)(L:List Int)(a:Option Addr)(c:Nat):Prop where
 q:Rq wx rb D col
 f:Vf w col wx col
 e:D={D0 with C:=D.C}
 n:D.C.length=D0.C.length
 t:Q.Ig wx a c L.reverse
 tn:New w none a
 ca:Q.Ig wx a1 k1 D0.C
 cn:New w none a1
 cd:∀x y,a1=some x->a=some y->x.block≠y.block
 pa:Q.Gw 31 5 wx a2 k2 D0.P.length (vpg D0.P)
 pn:New w none a2
section
variable {w:World} {rb:Nat} {D0:Rd} {col:Nat->Nat} {a1:Option Addr} {k1:Nat} {a2:Option Addr} {k2:Nat} {wx wy:World} {D:Rd} {L:List Int} {a:Option Addr} {c:Nat}
theorem ig_nbx{wx:World}{a:Option Addr}{c:Nat}{l:List Int}(h:Q.Ig wx a c l){t:TypeId}{g:Nat}{cs:Array Value}(hg:wx.heap[g]?=some (.cells cs t (0,0)))(ht:t≠3){x:Addr}(hx:a=some x):x.block≠g:=fun e=>by
 rcases h.cases with⟨rfl,_⟩|⟨g',cur,rfl,hg',_⟩
 · cases hx
 · cases hx;dsimp only at e;subst e;have h1:some _=some _:=hg'.symm.trans hg;simp only[Option.some.injEq,Obj.cells.injEq] at h1;exact ht h1.2.1.symm
theorem gw_nint{wx:World}{e:TypeId}{sz:Nat}{a:Option Addr}{c n:Nat}{C:List Value}(h:Q.Gw e sz wx a c n C){b:Option Addr}{cb:Nat}{l:List Int}(hi:Q.Ig wx b cb l)(ht:e≠3){x y:Addr}(hx:a=some x)(hy:b=some y):x.block≠y.block:=fun e=>by
 rcases h.cases with⟨rfl,_⟩|⟨g',cur,rfl,hg',_⟩
 · cases hx
 · cases hx;exact ig_nbx hi hg' ht hy e.symm
theorem Dl.keep(h:Dl w rb D0 col a1 k1 a2 k2 wx D L a c)(hb:Below wx.heap.size wx wy):Dl w rb D0 col a1 k1 a2 k2 wy D L a c:=
 ⟨h.q.keep hb,h.f.trans (Vf.keep hb),h.e,h.n,h.t.keep hb,h.tn,h.ca.keep hb,h.cn,h.cd,h.pa.keep hb,h.pn⟩
theorem Dl.set(h:Dl w rb D0 col a1 k1 a2 k2 wx D L a c)(hlt:∀k,col k≠0->k<w.heap.size){g:Nat}(hg:D.aC=some ⟨g,0,none⟩)(k:Nat)(x:Int):Dl w rb D0 col a1 k1 a2 k2 (wx.setCell ⟨g,k,none⟩ (.int .i64 x)) {D with C:=D.C.set k x} L a c:=by
 obtain⟨q,f⟩:=h.q.setC hg k x;have hc:col g=2:=h.q.cc _ hg;have hgl:g<w.heap.size:=hlt g (by rw[hc];decide)
 have bs:But (fun k=>k=g) wx (wx.setCell ⟨g,k,none⟩ (.int .i64 x)):=(But.refl (fun k=>k=g) wx).setCell (p:=⟨g,k,none⟩) (fun _=>rfl) _
 have nw:∀{a:Option Addr},New w none a->∀y,a=some y->¬y.block=g:=fun hn y hy e=>by
  have:=vnew_at hn hy;omega
 refine⟨q,h.f.trans f,?_,by show(D.C.set k x).length=_;rw[List.length_set];exact h.n,h.t.but bs (nw h.tn),h.tn,h.ca.but bs (nw h.cn),h.cn,h.cd,h.pa.but bs (nw h.pn),h.pn⟩
 have e:=h.e;show({D with C:=D.C.set k x}:Rd)=_;rw[e]
theorem Dl.pop{x:Int}(h:Dl w rb D0 col a1 k1 a2 k2 wx D (x::L) a c):Dl w rb D0 col a1 k1 a2 k2 wx D L a c:=by
 refine⟨h.q,h.f,h.e,h.n,?_,h.tn,h.ca,h.cn,h.cd,h.pa,h.pn⟩;have t:=h.t;rw[List.reverse_cons] at t;exact t.front (by simp)
theorem Dl.push(h:Dl w rb D0 col a1 k1 a2 k2 wx D L a c)(hlt:∀k,col k≠0->k<w.heap.size){o:Obj}{g c':Nat}{x:Int}(hR:Q.Ig wy (some ⟨g,0,none⟩) c' (L.reverse++[x]))(hN:New (wx.alloc o) a (some ⟨g,0,none⟩))(hg:(wx.alloc o).grownBy wy (a.map Addr.block)):Dl w rb D0 col a1 k1 a2 k2 wy D (x::L) (some ⟨g,0,none⟩) c':=by
 have B1:=al wx o;have k:=h.keep B1
 have gb:But (fun q=>∃x,a=some x/\x.block=q) (wx.alloc o) wy:=⟨hg.os,hg.tape,hg.output,hg.size,fun k hk hn=>hg.block k hk (fun e=>by
  obtain⟨y,hy,e2⟩:=map_some e.symm;exact hn ⟨y,hy,e2⟩)⟩
 have hsz:w.heap.size<=(wx.alloc o).heap.size:=k.f.b.size;have hnew:New w none (some ⟨g,0,none⟩):=h.tn.trans hN hsz;refine⟨k.q.but gb (fun j hj ⟨y,hy,e⟩=>?_),⟨k.f.b.trans gb (fun j hj ⟨y,hy,e⟩=>?_),fun j hj=>rfl⟩,h.e,h.n,by rw[List.reverse_cons];exact hR,hnew,k.ca.but gb (fun y hy ⟨z,hz,e⟩=>h.cd y z hy hz e.symm),h.cn,fun y z hy hz e=>?_,k.pa.but gb (fun y hy ⟨z,hz,e⟩=>gw_nint k.pa k.t (by decide) hy hz e.symm),h.pn⟩
 · have h1:=hlt j hj;have h2:=vnew_at h.tn hy;omega
 · have h2:=vnew_at h.tn hy;omega
 · cases hz;dsimp only at e;rcases hN ⟨g,0,none⟩ rfl with⟨z,hz,e2⟩|h2
   · exact h.cd y z hy hz (by rw[e];exact e2.symm)
   · have h3:=k.ca.lt hy;dsimp only at h2;omega
theorem ig_push{wx wy:World}{a b:Option Addr}{g c:Nat}{l:List Int}{o:Obj}(hl:Q.Ig wx b c l)(hne:∀y q,b=some y->a=some q->y.block≠q.block)(hN:New (wx.alloc o) a (some ⟨g,0,none⟩))(hg:(wx.alloc o).grownBy wy (a.map Addr.block)):
 Q.Ig wy b c l/\∀y q,b=some y->(some ⟨g,0,none⟩:Option Addr)=some q->y.block≠q.block:=by
 have gb:But (fun q=>∃x,a=some x/\x.block=q) (wx.alloc o) wy:=⟨hg.os,hg.tape,hg.output,hg.size,fun k hk hn=>hg.block k hk (fun e=>by
  obtain⟨y,hy,e2⟩:=map_some e.symm;exact hn ⟨y,hy,e2⟩)⟩
 refine⟨(hl.keep (al wx o)).but gb (fun y hy ⟨z,hz,e⟩=>hne y z hy hz e.symm),fun y q hy hq e=>?_⟩
 cases hq;dsimp only at e;rcases hN ⟨g,0,none⟩ rfl with⟨z,hz,e2⟩|h2
 · exact hne y z hy hz (by rw[e];exact e2.symm)
 · have h3:=(hl.keep (al wx o)).lt hy;dsimp only at h2;omega
def ncol(col:Nat->Nat)(a1 a2:Option Addr)(k:Nat):Nat:=if blkOf a1 k=true then 2 else if blkOf a2 k=true then 4 else col k
theorem Dl.undo(h:Dl w rb D0 col a1 k1 a2 k2 wx D L a c)(h0:Rq w rb D0 col):
 Rq ((wx.setCell ⟨rb,1,none⟩ (.slice a1 D0.C.length k1)).setCell ⟨rb,3,none⟩ (.slice a2 D0.P.length k2)) rb {D0 with aC:=a1,cC:=k1,aP:=a2,cP:=k2} (ncol col a1 a2)/\Vf w col ((wx.setCell ⟨rb,1,none⟩ (.slice a1 D0.C.length k1)).setCell ⟨rb,3,none⟩ (.slice a2 D0.P.length k2)) (ncol col a1 a2):=by
 have hlt:=h0.lt
 have ol:∀{a:Option Addr}{k:Nat},New w none a->k<w.heap.size->¬blkOf a k=true:=fun hn hk e=>by
  obtain⟨x,hx,e⟩:=blkOf_iff.1 e;have:=vnew_at hn hx;omega
 have oldc:∀{k:Nat},k<w.heap.size->ncol col a1 a2 k=col k:=fun{k} hk=>by
  unfold ncol;rw[if_neg (ol h.cn hk),if_neg (ol h.pn hk)]
 have bs:But (fun k=>k=rb) wx ((wx.setCell ⟨rb,1,none⟩ (.slice a1 D0.C.length k1)).setCell ⟨rb,3,none⟩ (.slice a2 D0.P.length k2)):=((But.refl (fun k=>k=rb) wx).setCell (p:=⟨rb,1,none⟩) (fun _=>rfl) _).setCell (p:=⟨rb,3,none⟩) (fun _=>rfl) _
 have hrl:rb<w.heap.size:=h0.lb
 have nrb:∀{a:Option Addr},New w none a->∀y,a=some y->¬y.block=rb:=fun hn y hy e=>by
  have:=vnew_at hn hy;omega
 have eL:D.L=D0.L:=by rw[h.e]
 have eaL:D.aL=D0.aL:=by rw[h.e]
 have ecL:D.cL=D0.cL:=by rw[h.e]
 have eP:D.P=D0.P:=by rw[h.e]
 have q:=h.q;refine⟨⟨?_,h.ca.but bs (nrb h.cn),?_,h.pa.but bs (nrb h.pn),fun p hp=>?_,h0.ps,?_,fun x hx=>?_,fun x hx=>?_,fun x hx=>?_,fun k hk=>?_,h0.nL,h0.nP,h0.n6⟩,⟨h.f.b.trans bs (fun k hk e=>?_),fun k hk=>oldc hk⟩⟩
 · have hb:=q.box;have e1:=heap_setCell_same wx rb 1 _ _ (.slice a1 D0.C.length k1) hb;have e2:=heap_setCell_same _ rb 3 _ _ (.slice a2 D0.P.length k2) e1;rw[e2,h.e];rfl
 · show Q.Gw 4 1 _ D0.aL D0.cL D0.L.length (vbl D0.L);have r:=q.lr;rw[eaL,ecL,eL] at r;refine r.but bs (fun x hx e=>?_)
   have h1:=q.cl x (by rw[eaL];exact hx)
   have h2:=q.cb;rw[e,h2] at h1;omega
 · have z:=q.pz p (by rw[eP];exact hp)
   refine((z.mono (fun k hk e=>?_)).but (C:=fun k=>ncol col a1 a2 k=6) bs (fun k hk e e2=>?_))
   · rw[oldc (hlt k (by rw[e];decide))];exact e
   · rw[e2,oldc hrl,h0.cb] at e;omega
 · rw[oldc hrl];exact h0.cb
 · show ncol col a1 a2 x.block=2;unfold ncol;rw[if_pos (blkOf_iff.2 ⟨x,hx,rfl⟩)]
 · rw[oldc (hlt _ (by rw[h0.cl x hx];decide))];exact h0.cl x hx
 · show ncol col a1 a2 x.block=4;unfold ncol;rw[if_neg (fun e=>?_),if_pos (blkOf_iff.2 ⟨x,hx,rfl⟩)]
   obtain⟨y,hy,e⟩:=blkOf_iff.1 e;exact gw_nint h.pa h.ca (by decide) hx hy e.symm
 · refine Nat.lt_of_lt_of_le ?_ bs.size;unfold ncol at hk;split at hk
   · rename_i e;obtain⟨y,hy,e⟩:=blkOf_iff.1 e;have:=h.ca.lt hy;omega
   · split at hk
     · rename_i e;obtain⟨y,hy,e⟩:=blkOf_iff.1 e;have:=Q.Gw.lt h.pa hy;omega
     · exact Nat.lt_of_lt_of_le (hlt k hk) h.f.b.size
 · rw[e,h0.cb];omega
end
theorem rNot_any(w:World)(rb:Nat)(D:Rd)(col:Nat->Nat)(h:Rq w rb D col)(a1 a2:Option Addr)(n1 k1 n2 k2:Nat):Calls Tryz.prog 104 #[.pointer (some ⟨rb,0,none⟩),.slice a1 n1 k1,.slice a2 n2 k2] w fun e w'=>e=.returned (.tuple #[])/\w'=(w.setCell ⟨rb,1,none⟩ (.slice a1 n1 k1)).setCell ⟨rb,3,none⟩ (.slice a2 n2 k2):=by
 have hb:=h.box;obtain⟨c0,c1,c2,c3,c6⟩:=h.cells;have f1:w.frozen? ⟨rb,1,none⟩=false:=frozen_of_row _ _ _ _ _ hb;have f3:w.frozen? ⟨rb,3,none⟩=false:=frozen_of_row _ _ _ _ _ hb;clear h hb;go_enter Tryz.func104,Tryz.ntmps104;go_wp2_with fail
 go_end0
 exact⟨rfl,rfl⟩
def RDr(w:World)(rb:Nat)(D:Rd)(col:Nat->Nat)(z:Int)(e:Ending)(w':World):Prop:=∃(D2:Rd)(col':Nat->Nat),Rq w' rb D2 col'/\Vf w col w' col'/\
 ((e=.returned (.int .i64 0)/\Rd.dropS (D.tot+1) D [z]=some D2)\/(e=.returned (.int .i64 15)/\Rd.dropS (D.tot+1) D [z]=none/\D.Same D2))
theorem rDrop_any(w:World)(rb:Nat)(D:Rd)(col:Nat->Nat)(h:Rq w rb D col)(hh:D.aA=none/\D.nA=0/\D.cA=0/\D.fl=0/\D.hush=true)(hn:0<D.C.length)(hcs:∀c∈D.C,c<=65536)(z:Int):
 Calls Tryz.prog 43 #[.pointer (some ⟨rb,0,none⟩),.int .i64 z] w fun e w'=>RDr w rb D col z e w':=by
 have CI:=hide fun(W:World)(hb:Below w.heap.size w W)=>Q.CopyInts_any W D.aC D.C.length D.cC D.C (h.keep hb).cr.ir rfl h.n6
 have CP:=hide fun(W:World)(hb:Below w.heap.size w W)=>copyPages_any W D.aP D.P.length D.cP D.P (h.keep hb).pgs rfl (by rw[h.nP];exact h.n6)
 have SS:Hid (∀W:World,Below w.heap.size w W->W.cell? ⟨rb,1,none⟩=some (.slice D.aC D.C.length D.cC)/\W.cell? ⟨rb,3,none⟩=some (.slice D.aP D.P.length D.cP)):=fun W hb=>⟨(h.keep hb).cells.2.1,(h.keep hb).cells.2.2.2.1⟩
 have HQ:=hide h;have HH:=hide hh;have TOTB:Hid (D.tot<=D.C.length*65536):=sum_le' Int.toNat 65536 D.C (fun c hc=>by have:=hcs c hc;omega)
 have HLT:=hide h.lt;have DR:=hide (dr2 w);obtain⟨g,hg,_⟩:=h.cAt hn;have HG:=hide hg;have N6:=h.n6;obtain⟨nC,hnC⟩:∃n,D.C.length=n:=⟨_,rfl⟩;obtain⟨nP,hnP⟩:∃n,D.P.length=n:=⟨_,rfl⟩;simp only[hnC,hnP] at CI CP SS N6 hn TOTB;have HNC:=hide hnC;have HNP:=hide hnP;have HPC:Hid (nP=nC):=by show _=_;rw[<-hnC,<-hnP];exact h.nP
 clear h hh hnC hnP hg hcs;go_enter Tryz.func43,Tryz.ntmps43;go_upto_region 1 with fail
 refine wp_region_held_drew (S:=fun W=>W.cell? ⟨rb,1,none⟩=some (.slice D.aC nC D.cC)/\W.cell? ⟨rb,3,none⟩=some (.slice D.aP nP D.cP)) (by kernel_rfl) (SS.out _ DR.out) (fun hHeld=>?_)
 refine tk 0 ?_;refine tk 1 ?_;refine tk 2 ?_;refine tk 3 ?_;refine tk 5 ?_;refine tk 6 ?_;refine tk 7 ?_;refine tk 8 ?_;refine tw 4 fun K hK=>?_
 go_simp;refine(CI.out _ DR.out).mono ?_;rintro _ w1 ⟨a1,k1,rfl,hO1⟩;have O1:=hide hO1;have B1:=hide (bt DR.out hO1.b);clear hO1;go_wp2_with fail
 refine hK.out _ _ (SS.out _ B1.out) (fun hHeld=>?_)
 clear hK K;try simp only[pt]
 refine tw 9 fun K hK=>?_
 go_simp;refine(CP.out _ B1.out).mono ?_;rintro _ w2 ⟨a2,k2,rfl,hG2,hN2,hb2⟩;have G2:=hide hG2;have N2:=hide (hN2.mono B1.out.size);have O2:=hide (O1.out.keep hb2);have B2:=hide (bt B1.out hb2);clear hG2 hN2 hb2;go_wp2_with fail
 refine hK.out _ _ (SS.out _ B2.out) (fun hHeld=>?_)
 clear hK K;try simp only[pt]
 refine tk 10 ?_;refine tk 11 ?_;refine td ?_
 have START:Hid (Dl w rb D col a1 k1 a2 k2 (w2.alloc (.cells #[.int .i64 z] 3)) D [z] (some ⟨w2.heap.size,0,none⟩) 1):=by
  have ha:=al w2 (.cells #[.int .i64 z] 3);refine⟨HQ.out.keep (bt B2.out ha),Vf.keep (bt B2.out ha),rfl,rfl,?_,?_,O2.out.r.keep ha,O2.out.n.mono DR.out.size,?_,?_,N2.out⟩
  · exact Q.Ig.mk (heap_alloc_new _ _) (Nat.le_refl _) (by unfold maxLen;decide) rfl rfl
  · intro y hy;cases hy;exact .inr B2.out.size
  · intro x y hx hy e;cases hy;have h1:=O2.out.r.lt hx;dsimp only at e;omega
  · rw[HNP.out];exact G2.out.keep ha
 clear CI CP SS G2 N2 O2 O1 B1;go_wp2_with fail
 go_loopw [7,8,9,10] (fun v7 _ _ _ wx=>∃(D':Rd)(L:List Int)(a:Option Addr)(c:Nat),v7=.slice a L.length c/\Dl w rb D col a1 k1 a2 k2 wx D' L a c/\Rd.dropS (D'.tot+1) D' L=Rd.dropS (D.tot+1) D [z]/\L.length+8*D'.tot<=1+8*D.tot) (fun _ _ _ _ wx=>mC g nC wx)
 case atStart=>exact⟨D,[z],some ⟨w2.heap.size,0,none⟩,1,rfl,START.out,rfl,by simp⟩
 case round=>
  clear START;obtain⟨D',L,a,c,rfl,hD,hS,hB⟩:=hrel;have HD:=hide hD;have HS:=hide hS;have HB:=hide hB;clear hD hS hB;cases L with
  |nil=>
   have RES:Hid (Rd.dropS (D.tot+1) D [z]=some D'):=by
    show _=_;rw[<-HS.out];rfl
   have HU:Hid (Calls Tryz.prog 105 #[.pointer (some ⟨rb,0,none⟩),.slice a1 nC k1,.slice a2 nP k2] wr fun e w'=>e=.returned (.tuple #[])/\w'=wr):=rDid_hush wr rb D' col HD.out.q (by rw[HD.out.e];exact HH.out.2.2.2.2) _ _
   simp only[List.length_nil];go_wp2_with fail
   refine HU.out.mono ?_;rintro _ wq ⟨rfl,hwq⟩;rw[hwq];clear hwq;go_wp2_with fail
   go_ret;exact⟨D',col,HD.out.q,HD.out.f,.inl ⟨rfl,RES.out⟩⟩
  |cons x L=>
   obtain⟨ga,ea⟩:∃ga,a=some ⟨ga,0,none⟩:=by
    rcases HD.out.t.cases with⟨_,_,h0⟩|⟨ga,_,e,_⟩
    · exact absurd h0 (by simp)
    · exact⟨ga,e⟩
   subst ea
   have hcap:L.length+1<=c:=by
    rcases HD.out.t.cases with⟨h0,_⟩|⟨_,_,_,_,h1,_⟩
    · cases h0
    · rw[List.length_reverse] at h1;exact h1
   have hxc:wr.cell? ⟨ga,L.length,none⟩=some (.int .i64 x):=by
    have hc:=HD.out.t.cell (i:=L.length) (by simp)
    rw[hc,List.reverse_cons];simp
   have LB:Hid (L.length<=17592186044000):=by
    have h1:=HB.out;have h2:D.tot<=nC*65536:=TOTB.out;have h3:nC*65536<=65536*65536:=Nat.mul_le_mul_right _ N6;show _<=_;simp only[List.length_cons] at h1;omega
   have ME:=hide (mC_eq HD.out.q (g:=g) (by rw[HD.out.e];exact HG.out))
   rw[show D'.C.length=nC from HD.out.n.trans HNC.out] at ME
   have TH:=hide (rThere_any wr rb D' col HD.out.q x);have POP:=hide HD.out.pop;have lc:((x::L).length:Int)=(L.length:Int)+1:=by simp
   have ls:(L.length:Int)+1-1=(L.length:Int):=by omega
   have lb:=LB.out;by_cases h0:0<D'.count x
   · rw[decide_eq_true h0] at TH
     have SD:Hid (Rd.dropS D'.tot (D'.put x (D'.count x-1)) (if D'.count x-1=0 then (D'.on x).pg.kids++L else L)=Rd.dropS (D.tot+1) D [z]):=by
      show _=_;rw[<-HS.out];show _=if 0<D'.count x then _ else _
      rw[if_pos h0]
     have PT:=hide (Rd.put_tot h0);obtain⟨x1,x2,x3⟩:=Rd.count_at h0;obtain⟨i,hi⟩:∃i:Nat,x=(i:Int)+1:=⟨(x-1).toNat,by omega⟩
     subst hi;have ei:((i:Int)+1-1).toNat=i:=by omega
     have hin:i<D'.C.length:=by omega
     have hinC:i<nC:=by rw[<-HNC.out,<-HD.out.n];exact hin
     have hii:(i:Int)<(nC:Int):=by omega
     have hs1:(i:Int)+1-1=(i:Int):=by omega
     have eaC:D'.aC=some ⟨g,0,none⟩:=by rw[HD.out.e];exact HG.out
     have ecC:D'.cC=D.cC:=by rw[HD.out.e]
     have nD':D'.C.length=nC:=HD.out.n.trans HNC.out;obtain⟨g',eg',cA⟩:=HD.out.q.cAt hin;rw[eaC] at eg';cases eg';have c1:=HD.out.q.cells.2.1;rw[eaC,ecC,nD'] at c1;rw[ei] at x3;rw[<-x3] at cA
     have fA:wr.frozen? ⟨g,i,none⟩=false:=by
      have k:=HD.out.q.cr;rw[eaC] at k;exact Q.Gw.free k i
     have DS:Hid (Dl w rb D col a1 k1 a2 k2 (wr.setCell ⟨g,i,none⟩ (.int .i64 (D'.count ((i:Int)+1)-1))) (D'.put ((i:Int)+1) (D'.count ((i:Int)+1)-1)) L (some ⟨ga,0,none⟩) c):=by
      have k:=POP.out.set HLT.out eaC i (D'.count ((i:Int)+1)-1);unfold Rd.put;rw[ei];exact k
     have ONE:Hid ((D'.put ((i:Int)+1) (D'.count ((i:Int)+1)-1)).P=D'.P):=rfl
     have CB:D'.count ((i:Int)+1)<=4294967296:=by
      have h1:=PT.out;have h2:=HB.out;have h3:D.tot<=nC*65536:=TOTB.out;have h4:nC*65536<=65536*65536:=Nat.mul_le_mul_right _ N6;have h5:=le_tot hin;rw[<-x3] at h5;simp only[List.length_cons] at h2;omega
     have NXT:Hid ((D'.put ((i:Int)+1) (D'.count ((i:Int)+1)-1)).C.getD i 0=D'.count ((i:Int)+1)-1):=by
      show(D'.C.set _ _).getD i 0=_;rw[ei,getD_set,if_pos ⟨rfl,hin⟩]
     clear HD HS POP x1 x2 x3 ecC hin;generalize D'.count ((i:Int)+1)=cnt at *;obtain⟨D1,hD1⟩:∃D1,D'.put ((i:Int)+1) (cnt-1)=D1:=⟨_,rfl⟩;obtain⟨pp,hpp⟩:∃pp,D'.on ((i:Int)+1)=pp:=⟨_,rfl⟩;rw[hpp] at SD
     have HPP:Hid (D1.P.getD i Pv.zero=pp):=by
      show _=_;rw[<-hD1,ONE.out,<-hpp];unfold Rd.on;rw[ei]
     rw[hD1] at SD PT DS NXT;clear hD1 hpp ONE;go_wp2_with fail
     refine TH.out.mono ?_;rintro _ wq ⟨rfl,hwq⟩;rw[hwq];clear hwq TH;go_upto_region 10 with fail
     generalize wr.setCell ⟨g,i,none⟩ (.int .i64 (cnt-1))=ws at *;have nD1:D1.C.length=nC:=DS.out.n.trans HNC.out;have eaC1:D1.aC=some ⟨g,0,none⟩:=by rw[DS.out.e];exact HG.out
     have hin1:i<D1.C.length:=by rw[nD1];exact hinC
     obtain⟨g',eg',cB⟩:=DS.out.q.cAt hin1;rw[eaC1] at eg';cases eg';rw[NXT.out] at cB;have ecC1:D1.cC=D.cC:=by rw[DS.out.e]
     have c1':=DS.out.q.cells.2.1;rw[eaC1,ecC1,nD1] at c1';clear cA fA c1 hxc;by_cases hz:cnt-1=0
     · rw[if_pos hz] at SD;have nP1:D1.P.length=nC:=DS.out.q.nP.trans nD1;obtain⟨gP,egP,cP⟩:=DS.out.q.pAt hin1;rw[HPP.out] at cP;have c3':=DS.out.q.cells.2.2.2.1;rw[egP,nP1] at c3';have z0:=cP 0 _ (by decide) rfl
       have z1:=cP 1 _ (by decide) rfl
       have z2:=cP 2 _ (by decide) rfl
       have z3:=cP 3 _ (by decide) rfl
       have z4:=cP 4 _ (by decide) rfl
       rw[Nat.add_zero] at z0
       have PMEM:Hid (pp∈D1.P):=by
        show _∈_;rw[<-HPP.out];have h:i<D1.P.length:=by rw[nP1];exact hinC
        simp[h]
       have KD:=hide (iKids_any ws pp (DS.out.q.pz pp PMEM.out).pi);have KL:=hide (kids_le (DS.out.q.ps pp PMEM.out));unfold Pv.vl at KD;simp only[Pv.cs] at KD;generalize pp.pg.kids=ks at *;obtain⟨K,hK⟩:∃K,ks.length=K:=⟨_,rfl⟩;rw[hK] at KD KL;have HKL:=hide hK;have kl:=KL.out;clear hK cP HPP egP nP1;rw[hz] at cB;go_wp2_with fail
       refine KD.out.mono ?_;rintro _ w5 ⟨al5,cl5,rfl,hI⟩;have D5:=hide (DS.out.keep hI.b);have I5:Hid (Q.Ig w5 al5 cl5 ks):=hI.r
       have N5:Hid (∀y q,al5=some y->(some ⟨ga,0,none⟩:Option Addr)=some q->y.block≠q.block):=fun y q hy hq e=>by
        have h1:=vnew_at hI.n hy;have h2:=DS.out.t.lt hq;omega
       clear hI KD z0 z1 z2 z3 z4 c3' c1' cB DS PMEM;go_wp2_with fail
       go_loopw [7,10] (fun v7 v10 wx=>∃(m:Nat)(a':Option Addr)(c':Nat),m<=K/\v10=.int .i64 ((K:Int)-1-(m:Int))/\v7=.slice a' (L.length+m) c'/\Dl w rb D col a1 k1 a2 k2 wx D1 (ks.drop (K-m)++L) a' c'/\Q.Ig wx al5 cl5 ks/\∀y q,al5=some y->a'=some q->y.block≠q.block) (fun _ v10 _=>(intOf v10+1).toNat)
       case atStart=>exact⟨0,some ⟨ga,0,none⟩,c,Nat.zero_le _,by simp,rfl,by rw[Nat.sub_zero,List.drop_of_length_le (by rw[HKL.out];omega)];exact D5.out,I5.out,N5.out⟩
       case round=>
        clear D5 I5 N5;obtain⟨m,a',c',hm,rfl,rfl,hDl,hIg,hNe⟩:=hrel;have DD:=hide hDl;have II:=hide hIg;have NN:=hide hNe;clear hDl hIg hNe;by_cases hlm:m<K
        · have hge:(0:Int)<=(K:Int)-1-(m:Int):=by omega
          obtain⟨j,hj⟩:∃j:Nat,K=j+1+m:=⟨K-1-m,by omega⟩
          have ej:(K:Int)-1-(m:Int)=(j:Int):=by omega
          have hjk:j<K:=by omega
          have hji:(j:Int)<(K:Int):=by omega
          obtain⟨gk,ek⟩:∃gk,al5=some ⟨gk,0,none⟩:=by
           rcases II.out.cases with⟨_,_,h0⟩|⟨gk,_,e,_⟩
           · have h1:=HKL.out;rw[h0] at h1;simp at h1;omega
           · exact⟨gk,e⟩
          subst ek;have hck:=II.out.cell (i:=j) (by rw[HKL.out];exact hjk)
          have DRP:Hid (ks.drop (K-(m+1))++L=ks.getD j 0::(ks.drop (K-m)++L)):=by
           have h1:j<ks.length:=by rw[HKL.out];exact hjk
           show _=_;have e9:ks.getD j 0=ks[j]:=by simp[h1]
           rw[show K-(m+1)=j by omega,show K-m=j+1 by omega,e9,List.drop_eq_getElem_cons h1]
           rfl
          have lr:Hid (L.length+m=(ks.drop (K-m)++L).reverse.length):=by
           have h1:=HKL.out;show _=_;rw[List.length_reverse,List.length_append,List.length_drop];omega
          have TT:=hide DD.out.t;obtain⟨st,hst⟩:∃st,ks.drop (K-m)++L=st:=⟨_,rfl⟩;rw[hst] at TT DD DRP lr;obtain⟨sr,hsr⟩:∃sr,st.reverse=sr:=⟨_,rfl⟩;rw[hsr] at TT lr;have HSR:=hide hsr;have hlr:sr.length+1<=17592186044416:=by have:=lr.out;omega
          generalize ks.getD j 0=kx at *;rw[ej];clear hst hsr hj;go_wp2_with (first|(at_builtin;refine Q.wpList_apI rfl _ _ rfl a' (L.length+m) c' sr ?q1 lr.out (TT.out.keep (al _ _)) ⟨wr.heap.size,0,none⟩ 1 kx ?q2 ?q3 hlr ?_)|fail)
          try case q1=>rfl
          try case q2=>rfl
          try case q3=>simp
          intro g6 c6 w6 hR6 hN6 hg6 hl6;rw[<-HSR.out] at hR6;have D6:=hide (DD.out.push HLT.out hR6 hN6 hg6);have I6:Hid (Q.Ig w6 (some ⟨gk,0,none⟩) cl5 ks/\∀y q,(some ⟨gk,0,none⟩:Option Addr)=some y->(some ⟨g6,0,none⟩:Option Addr)=some q->y.block≠q.block):=ig_push II.out NN.out hN6 hg6;clear hR6 hN6 hg6 hl6 hck;go_wp2_with fail
          go_roundw
          case rel=>exact⟨m+1,_,c6,by omega,by go_num,by rw[Nat.add_assoc],by rw[DRP.out];exact D6.out,I6.out.1,I6.out.2⟩
          case measure=>simp[intOf]
        · obtain rfl:m=K:=by omega
          have hge:¬(0:Int)<=(m:Int)-1-(m:Int):=by omega
          have D7:Hid (Dl w rb D col a1 k1 a2 k2 wr D1 (ks++L) a' c'):=by
           have h1:=DD.out;rw[Nat.sub_self,List.drop_zero] at h1;exact h1
          have M7:=hide (mC_eq D7.out.q (g:=g) eaC1);rw[nD1] at M7;go_wp2_with fail
          go_roundw
          case rel=>
           refine⟨D1,ks++L,a',c',by rw[List.length_append,HKL.out,Nat.add_comm],D7.out,by rw[PT.out];exact SD.out,?_⟩
           have h1:=HB.out;have h2:=PT.out;rw[List.length_append,HKL.out];simp only[List.length_cons] at h1;omega
          case measure=>
           have h1:=ME.out;have h2:=M7.out;have h3:=PT.out;omega
     · rw[if_neg hz] at SD;have hzb:(cnt-1==0)=false:=by simp[hz]
       have M8:=hide (mC_eq DS.out.q (g:=g) eaC1);rw[nD1] at M8;clear hz;go_wp2_with fail
       go_roundw
       case rel=>
        refine⟨D1,L,some ⟨ga,0,none⟩,c,rfl,DS.out,by rw[PT.out];exact SD.out,?_⟩
        have h1:=HB.out;have h2:=PT.out;simp only[List.length_cons] at h1;omega
       case measure=>
        have h1:=ME.out;have h2:=M8.out;have h3:=PT.out;omega
   · rw[decide_eq_false h0] at TH
     have RES:Hid (Rd.dropS (D.tot+1) D [z]=none):=by
      show _=_;rw[<-HS.out];show(if 0<D'.count x then _ else _)=_
      rw[if_neg h0]
     have NT:=hide (rNot_any wr rb D' col HD.out.q a1 a2 nC k1 nP k2);have UN:=hide (HD.out.undo HQ.out);rw[HNC.out,HNP.out] at UN;clear POP;go_wp2_with fail
     refine TH.out.mono ?_;rintro _ wq ⟨rfl,hwq⟩;rw[hwq];clear hwq TH;go_wp2_with fail
     refine NT.out.mono ?_;rintro _ wq ⟨rfl,hwq⟩;rw[hwq];clear hwq NT;go_wp2_with fail
     go_ret;exact⟨_,_,UN.out.1,UN.out.2,.inr ⟨rfl,RES.out,⟨rfl,rfl,rfl,rfl,HH.out⟩⟩⟩
theorem rbStore_key(w:World)(v:Value)(ak av:Option Addr)(n ck s cv:Nat)(hk:n=0\/24<n):
 Calls Tryz.prog 135 #[v,.slice ak n ck,.slice av s cv] w fun e w'=>e=.returned (.tuple #[Iv.zero.vl,.int .i64 7])/\Below w.heap.size w w':=by
 have A0:=hide (al w (.cells #[.slice none 0 0,.slice none 0 0,.int .i64 0,.int .i64 0] 51));have X0:=hide (heap_alloc_new w (.cells #[.slice none 0 0,.slice none 0 0,.int .i64 0,.int .i64 0] 51));rcases hk with rfl|hk
 · go_enter Tryz.func135,Tryz.ntmps135;go_wp2_with (first|(refine wpList_store_row rfl 51 _ _ rfl w.heap.size _ rfl rfl 51 _ X0.out sizeItem rfl (by simp[Value.oneCell']) ?_)|fail)
   refine bodyPost_ret (v:=.tuple #[.agg _,_]) (results_cell_one Tryz.results135 _ _ w.heap.size 51 _ (0,0) _ rfl (setRow_heap _ _ _ _ _ _ X0.out) Tryz.underlying51 rfl sizeItem) rfl ?_;exact⟨rfl,below_row _ A0.out (Nat.le_refl _)⟩
 · have d1:decide ((n:Int)<1)=false:=decide_eq_false (by omega)
   have d2:decide ((24:Int)<(n:Int))=true:=decide_eq_true (by omega)
   go_enter Tryz.func135,Tryz.ntmps135;go_wp2_with (first|(refine wpList_store_row rfl 51 _ _ rfl w.heap.size _ rfl rfl 51 _ X0.out sizeItem rfl (by simp[Value.oneCell']) ?_)|fail)
   refine bodyPost_ret (v:=.tuple #[.agg _,_]) (results_cell_one Tryz.results135 _ _ w.heap.size 51 _ (0,0) _ rfl (setRow_heap _ _ _ _ _ _ X0.out) Tryz.underlying51 rfl sizeItem) rfl ?_;exact⟨rfl,below_row _ A0.out (Nat.le_refl _)⟩
theorem rbStore_val(w:World)(v:Value)(ak av:Option Addr)(n ck s cv:Nat)(h1:1<=n)(h2:n<=24)(hs:3840<s):
 Calls Tryz.prog 135 #[v,.slice ak n ck,.slice av s cv] w fun e w'=>e=.returned (.tuple #[Iv.zero.vl,.int .i64 8])/\Below w.heap.size w w':=by
 have A0:=hide (al w (.cells #[.slice none 0 0,.slice none 0 0,.int .i64 0,.int .i64 0] 51));have X0:=hide (heap_alloc_new w (.cells #[.slice none 0 0,.slice none 0 0,.int .i64 0,.int .i64 0] 51));have d1:decide ((n:Int)<1)=false:=decide_eq_false (by omega)
 have d2:decide ((24:Int)<(n:Int))=false:=decide_eq_false (by omega)
 have d3:decide ((3840:Int)<(s:Int))=true:=decide_eq_true (by omega)
 go_enter Tryz.func135,Tryz.ntmps135;go_wp2_with (first|(refine wpList_store_row rfl 51 _ _ rfl w.heap.size _ rfl rfl 51 _ X0.out sizeItem rfl (by simp[Value.oneCell']) ?_)|fail)
 refine bodyPost_ret (v:=.tuple #[.agg _,_]) (results_cell_one Tryz.results135 _ _ w.heap.size 51 _ (0,0) _ rfl (setRow_heap _ _ _ _ _ _ X0.out) Tryz.underlying51 rfl sizeItem) rfl ?_;exact⟨rfl,below_row _ A0.out (Nat.le_refl _)⟩
end Go.Proofs.YtcpkinhneehomaaGreat
namespace Go.Proofs.YtcpkinhneehomaaGreat
open Go.ChangeShapes Go.WideShapes Go.ChangeAt Go.RowKit
theorem own:ownKnob Tryz.prog.godebug=none:=by kernel_rfl
theorem laidOut:laidOutB Tryz.prog=true:=by kernel_rfl
theorem bytesU8:Tryz.prog.bytesOf 5=1:=by kernel_rfl
theorem cellsInt:Tryz.prog.cellsOf 3=1:=by kernel_rfl
theorem cellsBytes:Tryz.prog.cellsOf 29=1:=by kernel_rfl
theorem bulk_one{H:Type}(d:DataW H):1<=Rows.uptoBulk d:=by
 cases d with
 |lit l=>cases l<;>simp[Rows.uptoBulk]
 |nil=>simp[Rows.uptoBulk]
 |ptr d=>simp[Rows.uptoBulk]
 |slice elems spare=>simp[Rows.uptoBulk]
 |agg parts=>simp[Rows.uptoBulk]
 |iface t d=>simp[Rows.uptoBulk]
 |map entries=>simp[Rows.uptoBulk]
 |held h=>simp[Rows.uptoBulk]
theorem bulk_length{H:Type}(l:List (DataW H)):l.length<=Rows.uptoBulkAll l:=by
 induction l with
 |nil=>simp[Rows.uptoBulkAll]
 |cons x r ih=>have:=bulk_one x;simp only[Rows.uptoBulkAll,List.length_cons];omega
theorem bulk_mem{H:Type}{d:DataW H}:∀{l:List (DataW H)},d∈l->Rows.uptoBulk d<=Rows.uptoBulkAll l
 |x::r,hd=>by
  simp only[Rows.uptoBulkAll];rcases List.mem_cons.1 hd with rfl|hd
  · omega
  · have:=bulk_mem hd;omega
def Lit'{H:Type}(t:TypeId)(d:DataW H):Prop:=(∀x∈d.weights Tryz.prog t,x<=reachBytes)\/Rows.uptoBulk d<=1048576
def IsRow(k:IntKind)(w:World)(a:Option Addr)(len cap:Nat)(zs:List Int):Prop:=
 (a=none/\len=0/\cap=0/\zs=[])\/
 ∃x,a=some x/\len<=cap/\cap<=maxLen/\zs.length=cap/\(∀i,i<zs.length->w.cell? (x.add i)=some (.int k (zs.getD i 0)))/\∀n∈zs,(Lit.int k n).wf=true
theorem isrow_bs{w:World}{a:Option Addr}{len cap:Nat}{zs:List Int}(h:IsRow .u8 w a len cap zs):
 ∃l:List Nat,len=l.length/\Bs w a l/\l.length<=maxLen/\len<=cap:=by
 rcases h with⟨rfl,rfl,rfl,rfl⟩|⟨x,rfl,hl,hm,hz,hcell,hwz⟩
 · exact⟨[],rfl,⟨by simp,by simp,.inl rfl⟩,by simp,Nat.le_refl _⟩
 · have hlen:((zs.take len).map Int.toNat).length=len:=by simp;omega
   have hpos:∀n∈zs,0<=n/\n<256:=fun n hn=>by have:=bounds_u8 (hwz n hn);omega
   refine⟨(zs.take len).map Int.toNat,hlen.symm,⟨?_,?_,?_⟩,by rw[hlen];omega,hl⟩
   · intro y hy;simp only[List.mem_map] at hy;obtain⟨n,hn,rfl⟩:=hy;have:=hpos n (List.mem_of_mem_take hn);omega
   · rw[hlen];unfold maxLen at hm;omega
   · by_cases h0:len=0
     · left;subst h0;simp
     · right;obtain⟨b,off,spot⟩:=x;have hspot:spot=none:=by simpa[Addr.add] using World.cell?_spot (hcell 0 (by omega))
       subst hspot;refine⟨b,off,rfl,fun i hi=>?_⟩
       rw[hlen] at hi;have hc:=hcell i (by omega)
       have hzi:i<zs.length:=by omega
       have hp:=hpos zs[i] (List.getElem_mem _);have e1:((zs.take len).map Int.toNat).getD i 0=zs[i].toNat:=by simp[hzi,hi]
       have e2:zs.getD i 0=zs[i]:=by simp[hzi]
       rw[e1,Int.toNat_of_nonneg hp.1];rw[e2,Addr.add_mid] at hc;exact hc
theorem open_bytes_cs{H:Type}{enc:TypeId×Value->H}{W:World}{fuel:Nat}{cs:List Value}{d:DataW H}{p:List MemPlace}
 (hf:DataW.trod enc Tryz.prog W 0 (fun _=>true) true fuel 29 cs=some (d,p)) (hd:Lit' 29 d):
 ∃(a:Option Addr)(l:List Nat)(cap:Nat),cs=[.slice a l.length cap]/\Bs W a l/\l.length+64<=140737488355328/\l.length<=cap/\l.length<=Rows.uptoBulk d:=by
 rcases open_ints Tryz.underlying29 Tryz.underlying5 (by kernel_rfl) hf with⟨hcs,_⟩|⟨x,l,c,zs,hcs,_,hl,hm,hz,hx,hcell,hwz⟩
 · exact⟨none,[],0,hcs,Bs.nil W,by decide,Nat.le_refl _,Nat.zero_le _⟩
 · simp only[Prod.mk.injEq] at hx;simp only[if_true] at hz;have h3:(lits (H:=H) .u8 (zs.take l)).length+(lits (H:=H) .u8 (zs.drop l)).length=c:=by simp[lits];omega
   obtain⟨k,hk,hB,_,hc⟩:=isrow_bs (.inr ⟨_,rfl,hl,hm,hz,hcell,hwz⟩);have h1:=bulk_length (lits (H:=H) .u8 (zs.take l));have e:(lits (H:=H) .u8 (zs.take l)).length=l:=by simp[lits];omega
   have hbk:k.length<=Rows.uptoBulk d:=by
    rw[hx.1];simp only[Rows.uptoBulk];omega
   subst hk;refine⟨some x,k,c,hcs,hB,?_,hc,hbk⟩;rcases hd with hd|hd
   · have h2:=hd (((lits (H:=H) .u8 (zs.take k.length)).length+(lits (H:=H) .u8 (zs.drop k.length)).length)*Tryz.prog.bytesOf 5) (by rw[hx.1];simp only[DataW.weights,Tryz.underlying29,List.mem_cons];exact .inl trivial)
     rw[h3,bytesU8] at h2;unfold reachBytes at h2;omega
   · omega
theorem n64{z:Int}(h:(Lit.int .i64 z).wf=true):N64 z:=by
 have:=bounds_i64 h;exact⟨by omega,by omega⟩
theorem weightsAll_mem{H:Type}{P:Program}{e:TypeId}{d:DataW H}:∀{l:List (DataW H)},d∈l->∀n∈d.weights P e,n∈DataW.weightsAll P e l
 |x::l,hd,n,hn=>by
  simp only[DataW.weightsAll,List.mem_append];rcases List.mem_cons.1 hd with rfl|hd
  · exact .inl hn
  · exact .inr (weightsAll_mem hd n hn)
end Go.Proofs.YtcpkinhneehomaaGreat
namespace Go.Proofs.YtcpkinhneehomaaGreat
open Go.RowKit
theorem rbPages_any(w:World)(n:Int)(hn:N64 n):Calls Tryz.prog 86 #[.int .i64 n] w fun e w'=>e=.returned (.int .i64 (bpn n))/\w'=w:=by
 unfold N64 at hn;by_cases h:n<=32
 · have e:bpn n=0:=by unfold bpn;rw[if_pos h]
   rw[e];go_enter Tryz.func86,Tryz.ntmps86;go_wp2;go_ret;exact⟨rfl,rfl⟩
 · have hm:n.tmod 480=n%480:=Int.tmod_eq_emod_of_nonneg (by omega)
   have hd:n.tdiv 480=n/480:=Int.tdiv_eq_ediv_of_nonneg (by omega)
   by_cases h0:n%480=0
   · have e:bpn n=n/480:=by unfold bpn;rw[if_neg h];omega
     have t0:(n%480==0)=true:=by simpa using h0
     rw[e];clear e h0;go_enter Tryz.func86,Tryz.ntmps86;go_wp2;go_ret;exact⟨by first|rfl|simp[hd],rfl⟩
   · have e:Hid (bpn n=n/480+1):=by show _=_;unfold bpn;rw[if_neg h];omega
     have t0:(n%480==0)=false:=by simpa using h0
     have q1:0<=n/480:=by omega
     have q2:n/480<=n-1:=by omega
     rw[e.out];clear e;go_enter Tryz.func86,Tryz.ntmps86;go_wp2
     all_goals
      go_ret;exact⟨by first|rfl|simp[hd],rfl⟩
end Go.Proofs.YtcpkinhneehomaaGreat
