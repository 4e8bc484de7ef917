import Derived.Test.YtcpkinhneehomaaGreatWqB39
set_option linter.unusedVariables false
set_option linter.unusedSimpArgs false
namespace Go.Proofs.YtcpkinhneehomaaGreat
open Go.RowKit
variable {z:Int}{M:Nat}{S:Vs}
def Vs.kept(S:Vs)(z:Int):Vs:=S.done (S.X.P.inc z).1 ⟨(S.X.P.inc z).2,S.X.f,S.X.ch⟩
theorem inc_tot(P:Q.Po)(hok:P.Ok)(z:Int):tot (P.inc z).2<=tot P+1:=by
 unfold Q.Po.inc;split
 · exact Nat.le_succ _
 · split
   · exact Nat.le_succ _
   · rename_i h0 h1;obtain⟨j1,j2⟩:=Q.Po.count_has h0;have hi:z.toNat-1<P.pg.length:=by omega
     have k:=sum_set (fun x:Q.Pg=>x.1.toNat) Q.Pg.zero (P.count z+1,(P.at z.toNat).2) P.pg (z.toNat-1) hi
     have e1:tot (P.act z.toNat (P.count z+1))=((P.pg.set (z.toNat-1) (P.count z+1,(P.at z.toNat).2)).map fun x=>x.1.toNat).sum:=rfl
     have e2:tot P=(P.pg.map fun x=>x.1.toNat).sum:=rfl
     have e3:P.count z=(P.pg.getD (z.toNat-1) Q.Pg.zero).1:=by
      unfold Q.Po.count;rw[if_pos (by unfold Q.Po.has;simp;omega)]
      rw[show(z-1).toNat=z.toNat-1 by omega]
     have h2:=(count_le hok z).1;have e4:((P.count z+1,(P.at z.toNat).2):Q.Pg).1.toNat=(P.count z).toNat+1:=by show(P.count z+1).toNat=_;omega
     rw[<-e3] at k;show tot (P.act z.toNat (P.count z+1))<=_;rw[e1,e2];simp only[] at k e4;omega
theorem inc_no{P:Q.Po}(h:(P.inc z).1≠0):(P.inc z).2=P:=by
 unfold Q.Po.inc at h ⊢;split
 · rfl
 · rename_i h0;rw[if_neg h0] at h;split
   · rfl
   · rename_i h1;rw[if_neg h1] at h;exact absurd rfl h
theorem Vs.kept_no(hf:Fine S.X.f)(h:(S.X.P.inc z).1≠0):S.kept z=S:=by
 unfold Vs.kept;rw[inc_no h];exact Vs.done_no h (Ve.refl _) hf
theorem Vs.kept_yes(h:(S.X.P.inc z).1=0):S.kept z=⟨⟨(S.X.P.inc z).2,S.X.f,S.X.ch⟩,S.al++[(S.X.P.mark,S.X.ch.length)],S.fl⟩:=by
 unfold Vs.kept Vs.done;rw[if_pos h]
theorem Rel.keep{D:Rd}(h:Rel S.X D)(hf:Fine S.X.f)(z:Int):(S.X.P.inc z).1=(D.inc z).1/\Rel (S.kept z).X (D.inc z).2:=by
 obtain⟨h1,h2,h3⟩:=h.inc z;refine⟨h1,?_⟩;by_cases e:(S.X.P.inc z).1=0
 · rw[Vs.kept_yes e];exact h2 e
 · rw[Vs.kept_no hf e,h3 e];exact h
theorem Bnd.keep(hb:Bnd S M)(hok:S.X.P.Ok)(hf:Fine S.X.f)(hs:SmX S.X)(z:Int):Bnd (S.kept z) (M+2)/\Fine (S.kept z).X.f/\SmX (S.kept z).X:=by
 by_cases e:(S.X.P.inc z).1=0
 · rw[Vs.kept_yes e];have h1:=inc_mark S.X.P z;have h2:=inc_tot S.X.P hok z;have h3:=hb.m;have h4:=hb.c;have h5:=hb.a;refine⟨⟨?_,?_,?_⟩,hf,hs⟩
   · show(S.X.P.inc z).2.mark+tot (S.X.P.inc z).2<=_;omega
   · show S.X.ch.length+tot (S.X.P.inc z).2<=_;omega
   · show S.fl+(S.al++[_]).length<=_;rw[List.length_append];show S.fl+(S.al.length+1)<=_;omega
 · rw[Vs.kept_no hf e];exact⟨hb.le (by omega),hf,hs⟩
theorem settle_tot(P:Q.Po):tot P.settle=tot P:=by
 show((P.pg.map (fun x=>(x.1,decide (0<x.1)))).map fun x:Q.Pg=>x.1.toNat).sum=(P.pg.map fun x=>x.1.toNat).sum
 rw[List.map_map];rfl
theorem Bnd.settle(hb:Bnd S M)(hf:Fine S.X.f)(hs:SmX S.X):Bnd S.settle M/\Fine S.settle.X.f/\SmX S.settle.X:=by
 have h3:=hb.m;have h4:=hb.c;have h5:=hb.a;have h6:=settle_tot S.X.P;refine⟨⟨?_,?_,?_⟩,fun k p e=>?_,fun z=>?_⟩
 · show(S.X.P.mark+0)+tot S.X.P.settle<=M;omega
 · show 0+tot S.X.P.settle<=M;omega
 · show S.fl+S.al.length+0<=M;omega
 · have e:fdel S.X.f (S.X.P.pages 2) k=some p:=e;unfold fdel at e;split at e
   · cases e
   · exact hf k p e
 · show Sml ((fdel S.X.f (S.X.P.pages 2) z).getD Pv.zero);unfold fdel;split
   · exact sml_zero
   · exact hs z
section
variable (v w:World) (wb b rb pb mb:Nat) (S:Vs) (D:Rd) (pc col colR:Nat->Nat) (K:Bks)
def PKe(v w:World)(wb b rb pb mb:Nat)(S:Vs)(D:Rd)(col colR:Nat->Nat)(K:Bks)(z:Int)(e:Ending)(w':World):Prop:=∃pc' col',e=.returned (.int .i64 (S.X.P.inc z).1)/\St v w' wb b rb pb mb (S.kept z) D pc' col' colR K/\Vf w col w' col'
theorem pKeep(h:St v w wb b rb pb mb S D pc col colR K)(hr:Rel S.X D)(M:Nat)(hB:Bnd S M)(hM:M<=1000000000000)(z:Int):
 Calls Tryz.prog 40 #[.pointer (some ⟨b,0,none⟩),.int .i64 z] w fun e w'=>PKe v w wb b rb pb mb S D col colR K z e w':=by
 have h1:=hB.m;have h2:=hB.c;have h3:=hB.a;refine(Keep_any w b S pb mb pc col h.V z (by omega) (by omega)).mono ?_
 rintro _ w' ⟨rfl,pc',col',hV,hF⟩;obtain⟨b1,b2,b3⟩:=hB.keep hr.ok h.fi h.sm z;exact⟨pc',col',rfl,h.prog hV hF b2 b3,hF⟩
def DKe(v w:World)(wb b rb pb mb:Nat)(S:Vs)(D:Rd)(pc col colR:Nat->Nat)(K:Bks)(z:Int)(e:Ending)(w':World):Prop:=e=.returned (.int .i64 (D.inc z).1)/\St v w' wb b rb pb mb S (D.inc z).2 pc col colR K/\Vf w colR w' colR
theorem dKeep(h:St v w wb b rb pb mb S D pc col colR K)(hR:D.R<=65536)(z:Int):
 Calls Tryz.prog 41 #[.pointer (some ⟨rb,0,none⟩),.int .i64 z] w fun e w'=>DKe v w wb b rb pb mb S D pc col colR K z e w':=by
 refine(rKeep_any w rb D colR h.R h.hu.2.2.2.2 z hR).mono ?_;rintro _ w' ⟨rfl,hQ,hF⟩;refine⟨rfl,h.doc hQ hF ?_,hF⟩;have hu:=h.hu;unfold Rd.inc;split
 · split
   · exact hu
   · exact hu
 · exact hu
def z33(z:Int):Iv:=⟨none,0,[],none,0,[],z,33⟩
theorem pDrop(h:St v w wb b rb pb mb S D pc col colR K)(hr:Rel S.X D)(M:Nat)(hB:Bnd S M)(hM:M<=1000000000000)(z:Int):
 Calls Tryz.prog 42 #[.pointer (some ⟨b,0,none⟩),.int .i64 z] w fun e w'=>PRl v w wb b rb pb mb S D col colR K (z33 z) M e w':=by
 have h1:=hB.m;have h2:=hB.c;have h3:=hB.a;refine(Drop_any w b S pb mb pc col h.V z (tot S.X.P+1) (Nat.lt_succ_self _) (by omega) (by omega) (by omega)).mono ?_
 rintro _ w' ⟨rfl,pc',col',hV,hf⟩;have hp:RelP S (z33 z) (dropM (tot S.X.P+1) S.X z).1 (S.done (dropM (tot S.X.P+1) S.X z).1 (dropM (tot S.X.P+1) S.X z).2):=.inr ⟨by show(32:Int)<33;decide,rfl,rfl⟩
 obtain⟨b1,b2,b3⟩:=hB.rel hr h.fi h.sm hp;exact⟨_,_,pc',col',rfl,h.prog hV hf b2 b3,hp,b1,hf⟩
theorem dDrop(h:St v w wb b rb pb mb S D pc col colR K)(hn:0<D.C.length)(hcs:∀c∈D.C,c<=65536)(z:Int):
 Calls Tryz.prog 43 #[.pointer (some ⟨rb,0,none⟩),.int .i64 z] w fun e w'=>DRl v w wb b rb pb mb S D pc col colR K (z33 z) e w':=by
 refine(rDrop_any w rb D colR h.R h.hu hn hcs z).mono ?_;rintro e w' ⟨D2,c2,q1,q2,q3⟩;have hx:(32:Int)<(z33 z).size:=by show(32:Int)<33;decide
 rcases q3 with⟨e1,e2⟩|⟨e1,e2,e3⟩
 · have es:=dropS_same _ _ _ _ e2;refine⟨0,D2,c2,e1,h.doc q1 q2 ?_,.inr ⟨hx,.inl ⟨rfl,e2⟩⟩,q2⟩;rw[es];exact h.hu
 · exact⟨15,D2,c2,e1,h.doc q1 q2 e3.a,.inr ⟨hx,.inr ⟨rfl,e2,e3⟩⟩,q2⟩
def PSe(v w:World)(wb b rb pb mb:Nat)(S:Vs)(D:Rd)(col colR:Nat->Nat)(K:Bks)(e:Ending)(w':World):Prop:=∃pc' col',e=.returned (.tuple #[])/\St v w' wb b rb pb mb S.settle D pc' col' colR K/\Vf w col w' col'
theorem pSettle(h:St v w wb b rb pb mb S D pc col colR K)(M:Nat)(hB:Bnd S M)(hM:M<=1000000000000):
 Calls Tryz.prog 57 #[.pointer (some ⟨b,0,none⟩)] w fun e w'=>PSe v w wb b rb pb mb S D col colR K e w':=by
 have h1:=hB.m;have h3:=hB.a;refine(vSettle_any w b S pb mb pc col h.V (by omega) (by omega)).mono ?_
 rintro _ w' ⟨rfl,pc',col',hV,hF⟩;obtain⟨b1,b2,b3⟩:=hB.settle h.fi h.sm;exact⟨pc',col',rfl,h.prog hV hF b2 b3,hF⟩
def DSe(v w:World)(wb b rb pb mb:Nat)(S:Vs)(D:Rd)(pc col colR:Nat->Nat)(K:Bks)(e:Ending)(w':World):Prop:=∃D',e=.returned (.tuple #[])/\St v w' wb b rb pb mb S D' pc col colR K/\D.Set D' D.C.length/\Vf w colR w' colR
theorem dSettle(h:St v w wb b rb pb mb S D pc col colR K):
 Calls Tryz.prog 58 #[.pointer (some ⟨rb,0,none⟩)] w fun e w'=>DSe v w wb b rb pb mb S D pc col colR K e w':=by
 refine(rSettle_hush w rb D colR h.R ⟨h.hu.1,h.hu.2.1,h.hu.2.2.1,h.hu.2.2.2.1⟩).mono ?_;rintro _ w' ⟨rfl,D',hs,hQ,hF⟩;refine⟨D',rfl,h.doc hQ hF ?_,hs,hF⟩;rw[hs.e];exact h.hu
end
end Go.Proofs.YtcpkinhneehomaaGreat
