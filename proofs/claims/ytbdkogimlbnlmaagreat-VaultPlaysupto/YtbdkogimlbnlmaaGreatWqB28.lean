import Derived.Test.YtbdkogimlbnlmaaGreatWqB27
set_option linter.unusedVariables false
set_option linter.unusedSimpArgs false
set_option maxHeartbeats 16000000
set_option maxRecDepth 8000
namespace Go.Proofs.YtbdkogimlbnlmaaGreat
open Go.RowKit
variable {S:Vs}
structure Bnn(S:Vs)(D:Rd)(H:List Sn):Prop where
 m:S.X.P.mark+tot S.X.P<=1000000000000
 c:S.X.ch.length+tot S.X.P<=1000000000000
 a:S.fl+S.al.length<=1000000000000
 h:H.length<=1000000000000
 f:0<=D.fl/\D.fl<=1000000000000
 r:D.R<=65536
 z:∀z,D.count z<=65536
 n:0<D.C.length
 k:∀c∈D.C,c<=65536
 d:∀z,(S.X.on z).pg.kids.length<=1048577
theorem Dt(p:Pg):p.kids.length<=p.items.length+1:=by
 unfold Pg.kids;split
 . rw[a7];omega
 split
 . refine aU (fd _ _) ?_;rw[a7];omega
 split
 all_goals
  simp
theorem Tw.bnd{D:Rd}{H:List Sn}{M:Nat}(h:Tw S D H M)(hM:M<=1000000000000):Bnn S D H:=by
 have h1:=h.now.m;have h2:=h.now.c;have h3:=h.a;have h4:=h.ln;have h5:=h.fl;have ok:=h.now.r.rel.ok;have h6:=h.now.r.rel.rf;have h7:=ok.r2;refine⟨by omega,by omega,by omega,by omega,⟨by omega,by omega⟩,by omega,λz=>?_,?_,λc hc=>?_,λz=>?_⟩
 . rw[<-h.now.r.rel.count];have:=(jC ok z).2;omega
 . rw[<-h.now.r.rel.len];exact ok.l1
 . rw[<-h.now.r.rel.counts] at hc;obtain⟨y,hy,rfl⟩:=bC.1 hc;have:=(ok.cs y hy).2;omega
 . have k:=Dt (S.X.on z).pg;have e:(S.X.on z).pg.items.length=(S.X.on z).items.length:=a7 _;have:=(h.now.sm z).2;omega
def PrI(w:World)(b pb mb:Nat)(col:Nat->Nat)(er:Int)(S':Vs)(e:Ending)(w':World):Prop:=e=.returned (.int .i64 er)/\∃pc' col',Vw w' b S' pb mb pc' col'/\Vf w col w' col'
def PrT(w:World)(b pb mb:Nat)(col:Nat->Nat)(r1 r2:Int)(S':Vs)(e:Ending)(w':World):Prop:=e=.returned (.tuple #[.int .i64 r1,.int .i64 r2])/\∃pc' col',Vw w' b S' pb mb pc' col'/\Vf w col w' col'
def DcI(w:World)(rb:Nat)(col:Nat->Nat)(er:Int)(S':Vs)(N:Nat)(e:Ending)(w':World):Prop:=e=.returned (.int .i64 er)/\∃D' H' col',Ra w' rb D' H' col'/\Vf w col w' col'/\Tw S' D' H' N
def DcT(w:World)(rb:Nat)(col:Nat->Nat)(r1 r2:Int)(S':Vs)(N:Nat)(e:Ending)(w':World):Prop:=e=.returned (.tuple #[.int .i64 r1,.int .i64 r2])/\∃D' H' col',Ra w' rb D' H' col'/\Vf w col w' col'/\Tw S' D' H' N
def Vs.keepS(S:Vs)(z:Int):Vs:=S.done (S.X.P.inc z).1 ⟨(S.X.P.inc z).2,S.X.f,S.X.ch⟩
def Vs.dropE(S:Vs)(z:Int):Int:=(dropM (tot S.X.P+1) S.X z).1
def Vs.dropS(S:Vs)(z:Int):Vs:=S.done (dropM (tot S.X.P+1) S.X z).1 (dropM (tot S.X.P+1) S.X z).2
def Vs.undoB(S:Vs)(z:Int):Bool:=decide ((S.fl:Int)<=z)&&decide (z<=((S.fl+S.al.length:Nat):Int))
def Vs.undoT(S:Vs)(t:Nat):Vs:=⟨S.X.back (S.al.getD t (0,0)).1 (S.al.getD t (0,0)).2,S.al.take t,S.fl⟩
def Vs.undoS(S:Vs)(z:Int):Vs:=if (S.fl:Int)<=z/\z<((S.fl+S.al.length:Nat):Int) then S.undoT (z-(S.fl:Int)).toNat else S
section
variable {S:Vs} {D:Rd} {H:List Sn} {M:Nat}
theorem Dz(ht:Tw S D H M)(hM:M<=1000000000000)(w:World)(b pb mb:Nat)(pc col:Nat->Nat)(h:Vw w b S pb mb pc col)(z:Int):Calls Tryz.prog 117 #[.pointer (some ⟨b,0,none⟩),.int .i64 z] w λe w'=>e=.returned (.bool (S.undoB z))/\∃pc' col',Vw w' b (S.undoS z) pb mb pc' col'/\Vf w col w' col':=by
 obtain⟨b1,b2,b3,b4,b5,b6,b7,b8,b9,b0⟩:=ht.bnd hM;have h0:=h;obtain⟨ac,cc,aa,ca,hq⟩:=h;by_cases h1:(S.fl:Int)<=z/\z<((S.fl+S.al.length:Nat):Int)
 . obtain⟨t,htl,rfl⟩:∃t:Nat,t<S.al.length/\z=((S.fl+t:Nat):Int):=⟨(z-(S.fl:Int)).toNat,by omega,by omega⟩
   obtain⟨s,hs⟩:∃s,H[t]?=some s:=⟨_,aS (by have:=ht.ln;omega)⟩
   obtain⟨k,m,e1,e2,_⟩:=ht.undo hs (Rd.Al.refl _);have eB:S.undoB ((S.fl+t:Nat):Int)=true:=by unfold Vs.undoB;rw[ay (by omega),ay (by omega)];rfl
   have eS:S.undoS ((S.fl+t:Nat):Int)=S.undoT t:=by unfold Vs.undoS;rw[if_pos h1,show(((S.fl+t:Nat):Int)-(S.fl:Int)).toNat=t by omega]
   rw[eB,eS];refine(yS w b S.X.P S.fl _ pc col hq t (by show S.fl+S.al.length<=_;omega) htl (by show(S.al.getD t (0,0)).2<=S.X.ch.length;rw[e1];exact e2) (by omega)).mono ?_
   rintro _ w' ⟨rfl,pc',col',hV,hF⟩;exact⟨rfl,pc',col',⟨ac,cc,aa,ca,hV⟩,hF⟩
 . have eS:S.undoS z=S:=by unfold Vs.undoS;rw[if_neg h1]
   rw[eS];by_cases h2:z=((S.fl+S.al.length:Nat):Int)
   . have eB:S.undoB z=true:=by unfold Vs.undoB;rw[ay (by omega),ay (by omega)];rfl
     rw[eB,h2];refine(xe w b S.X.P S.fl _ pc col hq (by show S.fl+S.al.length<=_;omega)).mono ?_
     rintro _ w' ⟨rfl,hb⟩;exact⟨rfl,pc,col,h0.keep hb,Vf.keep hb⟩
   . have eB:S.undoB z=false:=by
      unfold Vs.undoB;by_cases h3:(S.fl:Int)<=z
      . rw[ay h3,au (by omega)];rfl
      . rw[au h3];rfl
     rw[eB];refine(A6 w b S.X.P S.fl _ pc col hq z (by show S.fl+S.al.length<=_;omega) (by show z<(S.fl:Int)\/((S.fl+S.al.length:Nat):Int)<z;omega)).mono ?_
     rintro _ w' ⟨rfl,hb⟩;exact⟨rfl,pc,col,h0.keep hb,Vf.keep hb⟩
theorem Ee(ht:Tw S D H M)(hM:M<=1000000000000)(w:World)(rb:Nat)(col:Nat->Nat)(h:Ra w rb D H col)(z:Int):Calls Tryz.prog 118 #[.pointer (some ⟨rb,0,none⟩),.int .i64 z] w λe w'=>e=.returned (.bool (S.undoB z))/\∃D' H' col',Ra w' rb D' H' col'/\Vf w col w' col'/\Tw (S.undoS z) D' H' M:=by
 obtain⟨b1,b2,b3,b4,b5,b6,b7,b8,b9,b0⟩:=ht.bnd hM;have hm:=ht.mark;have hfl:=ht.fl;have hln:=ht.ln;by_cases h1:(S.fl:Int)<=z/\z<((S.fl+S.al.length:Nat):Int)
 . obtain⟨t,htl,rfl⟩:∃t:Nat,t<S.al.length/\z=((S.fl+t:Nat):Int):=⟨(z-(S.fl:Int)).toNat,by omega,by omega⟩
   have htH:t<H.length:=by omega
   have eB:S.undoB ((S.fl+t:Nat):Int)=true:=by unfold Vs.undoB;rw[ay (by omega),ay (by omega)];rfl
   have eS:S.undoS ((S.fl+t:Nat):Int)=S.undoT t:=by unfold Vs.undoS;rw[if_pos h1,show(((S.fl+t:Nat):Int)-(S.fl:Int)).toNat=t by omega]
   rw[eB,eS,show((S.fl+t:Nat):Int)=D.fl+(t:Int) by omega]
   refine(yu w rb D H col h b5 b4 t htH).mono ?_;rintro _ w' ⟨D',col',rfl,hR,hF,hA⟩;obtain⟨k,m,e1,e2,t1⟩:=ht.undo (aS htH) hA;refine⟨rfl,D',_,col',hR,hF,?_⟩;unfold Vs.undoT;rw[e1];exact t1
 . have eS:S.undoS z=S:=by unfold Vs.undoS;rw[if_neg h1]
   rw[eS];by_cases h2:z=((S.fl+S.al.length:Nat):Int)
   . have eB:S.undoB z=true:=by unfold Vs.undoB;rw[ay (by omega),ay (by omega)];rfl
     rw[eB,h2,hm];refine(wi w rb D H col h b5 b4).mono ?_;rintro _ w' ⟨rfl,hb⟩;exact⟨rfl,D,H,col,h.keep hb,Vf.keep hb,ht⟩
   . have eB:S.undoB z=false:=by
      unfold Vs.undoB;by_cases h3:(S.fl:Int)<=z
      . rw[ay h3,au (by omega)];rfl
      . rw[au h3];rfl
     rw[eB];refine(Av w rb D H col h b5 b4 z (by omega)).mono ?_
     rintro _ w' ⟨rfl,hb⟩;exact⟨rfl,D,H,col,h.keep hb,Vf.keep hb,ht⟩
theorem Eb(ht:Tw S D H M)(hM:M<=1000000000000)(w:World)(b pb mb:Nat)(pc col:Nat->Nat)(h:Vw w b S pb mb pc col)(z:Int):Calls Tryz.prog 40 #[.pointer (some ⟨b,0,none⟩),.int .i64 z] w λe w'=>PrI w b pb mb col (S.X.P.inc z).1 (S.keepS z) e w':=by
 obtain⟨b1,b2,b3,b4,b5,b6,b7,b8,b9,b0⟩:=ht.bnd hM;refine(Bd w b S pb mb pc col h z (by omega) (by omega)).mono ?_
 rintro _ w' ⟨rfl,pc',col',hV,hF⟩;exact⟨rfl,pc',col',hV,hF⟩
theorem EU(ht:Tw S D H M)(hM:M<=1000000000000)(w:World)(rb:Nat)(col:Nat->Nat)(h:Ra w rb D H col)(z:Int):Calls Tryz.prog 41 #[.pointer (some ⟨rb,0,none⟩),.int .i64 z] w λe w'=>DcI w rb col (S.X.P.inc z).1 (S.keepS z) (M+20) e w':=by
 obtain⟨b1,b2,b3,b4,b5,b6,b7,b8,b9,b0⟩:=ht.bnd hM;obtain⟨e1,t1⟩:=ht.keep z;refine(zB w rb D H col h ht.hh b4 z b6).mono ?_;rintro _ w' ⟨D',H',col',rfl,hR,hF,hA,hD⟩;exact⟨by rw[e1],D',H',col',hR,hF,t1 D' H' hA hD⟩
theorem DU(ht:Tw S D H M)(hM:M<=1000000000000)(w:World)(b pb mb:Nat)(pc col:Nat->Nat)(h:Vw w b S pb mb pc col)(z:Int):Calls Tryz.prog 42 #[.pointer (some ⟨b,0,none⟩),.int .i64 z] w λe w'=>PrI w b pb mb col (S.dropE z) (S.dropS z) e w':=by
 obtain⟨b1,b2,b3,b4,b5,b6,b7,b8,b9,b0⟩:=ht.bnd hM;refine(AK w b S pb mb pc col h z (tot S.X.P+1) (ft _) (by omega) (by omega) (by omega)).mono ?_
 rintro _ w' ⟨rfl,pc',col',hV,hF⟩;exact⟨rfl,pc',col',hV,hF⟩
theorem EF(ht:Tw S D H M)(hM:M<=1000000000000)(w:World)(rb:Nat)(col:Nat->Nat)(h:Ra w rb D H col)(z:Int):Calls Tryz.prog 43 #[.pointer (some ⟨rb,0,none⟩),.int .i64 z] w λe w'=>DcI w rb col (S.dropE z) (S.dropS z) (M+20) e w':=by
 obtain⟨b1,b2,b3,b4,b5,b6,b7,b8,b9,b0⟩:=ht.bnd hM;refine(Bg w rb D H col h ht.hh b4 b8 b9 z).mono ?_;rintro e w' ⟨D',H',col',hR,hF,hq⟩;rcases ht.drop z with⟨e1,D2,e2,t1⟩|⟨e1,e2,t1⟩
 . rcases hq with⟨q1,D3,q2,q3,q4⟩|⟨q1,q2,_⟩
   . rw[e2] at q2;cases q2;exact⟨by rw[q1];show _=Ending.returned (.int .i64 (dropM _ _ _).1);rw[e1],D',H',col',hR,hF,t1 D' H' q3 q4⟩
   . rw[e2] at q2;cases q2
 . rcases hq with⟨q1,D3,q2,_⟩|⟨q1,q2,q3,q4⟩
   . rw[e2] at q2;cases q2
   . refine⟨by rw[q1];show _=Ending.returned (.int .i64 (dropM _ _ _).1);rw[e1],D',H',col',hR,hF,?_⟩
     rw[q4];exact t1 D' q3
theorem AI(ht:Tw S D H M)(hM:M<=1000000000000)(w:World)(b pb mb:Nat)(pc col:Nat->Nat)(h:Vw w b S pb mb pc col)(z:Int):Calls Tryz.prog 35 #[.pointer (some ⟨b,0,none⟩),.int .i64 z] w λe w'=>PrT w b pb mb col (S.shadow z).1.1 (S.shadow z).1.2 (S.shadow z).2 e w':=by
 obtain⟨b1,b2,b3,b4,b5,b6,b7,b8,b9,b0⟩:=ht.bnd hM;have:=b0 z;refine(wZ w b S pb mb pc col h z (by omega) (by omega) (by omega)).mono ?_
 rintro _ w' ⟨rfl,pc',col',hV,hF⟩;exact⟨rfl,pc',col',hV,hF⟩
theorem zG(ht:Tw S D H M)(hM:M<=1000000000000)(w:World)(rb:Nat)(col:Nat->Nat)(h:Ra w rb D H col)(z:Int):Calls Tryz.prog 36 #[.pointer (some ⟨rb,0,none⟩),.int .i64 z] w λe w'=>DcT w rb col (S.shadow z).1.1 (S.shadow z).1.2 (S.shadow z).2 (M+20) e w':=by
 obtain⟨b1,b2,b3,b4,b5,b6,b7,b8,b9,b0⟩:=ht.bnd hM;obtain⟨e1,t1⟩:=ht.shadow z;refine(wO w rb D H col h ht.hh b4 z b6 (b7 z)).mono ?_;rintro _ w' ⟨D',H',col',rfl,hR,hF,hA,hD⟩;exact⟨by rw[e1],D',H',col',hR,hF,t1 D' H' hA hD⟩
theorem Ac(ht:Tw S D H M)(hM:M<=1000000000000)(w:World)(b pb mb:Nat)(pc col:Nat->Nat)(h:Vw w b S pb mb pc col):Calls Tryz.prog 57 #[.pointer (some ⟨b,0,none⟩)] w λe w'=>e=.returned (.tuple #[])/\∃pc' col',Vw w' b S.settle pb mb pc' col'/\Vf w col w' col':=by
 obtain⟨b1,b2,b3,b4,b5,b6,b7,b8,b9,b0⟩:=ht.bnd hM;exact uF w b S pb mb pc col h (by omega) (by omega)
theorem zY(ht:Tw S D H M)(hM:M<=1000000000000)(w:World)(rb:Nat)(col:Nat->Nat)(h:Ra w rb D H col):Calls Tryz.prog 58 #[.pointer (some ⟨rb,0,none⟩)] w λe w'=>e=.returned (.tuple #[])/\∃D' col',Ra w' rb D' [] col'/\Vf w col w' col'/\Tw S.settle D' [] M:=by
 obtain⟨b1,b2,b3,b4,b5,b6,b7,b8,b9,b0⟩:=ht.bnd hM;refine(xH w rb D H col h b5 b4).mono ?_;rintro _ w' ⟨rfl,D1,D',col',hS,hR,hF,hA⟩;exact⟨rfl,D',col',hR,hF,ht.settle hS hA⟩
theorem DF(ht:Tw S D H M)(hM:M<=1000000000000)(w:World)(b pb mb:Nat)(pc col:Nat->Nat)(h:Vw w b S pb mb pc col)(p:Pv)(hP:Pf col w p)(hs:Smi p):Calls Tryz.prog 73 #[.pointer (some ⟨b,0,none⟩),p.vl] w λe w'=>∃q:Pv,q.pg=p.pg/\PrT w b pb mb col (S.makeR p.pg).1 (S.makeR p.pg).2 (S.makeS p.pg q) e w':=by
 obtain⟨b1,b2,b3,b4,b5,b6,b7,b8,b9,b0⟩:=ht.bnd hM;refine(Ba w b S pb mb pc col h p hP hs.1 (aU hs.2 (by decide)) (by omega) (by omega) (by omega)).mono ?_
 rintro _ w' ⟨q,hq,rfl,pc',col',hV,hF⟩;exact⟨q,hq,rfl,pc',col',hV,hF⟩
theorem DW(ht:Tw S D H M)(hM:M<=1000000000000)(w:World)(rb:Nat)(col:Nat->Nat)(h:Ra w rb D H col)(p q:Pv)(hP:Pf col w p)(hq:q.pg=p.pg):Calls Tryz.prog 92 #[.pointer (some ⟨rb,0,none⟩),p.vl] w λe w'=>DcT w rb col (S.makeR p.pg).1 (S.makeR p.pg).2 (S.makeS p.pg q) (M+20) e w':=by
 obtain⟨b1,b2,b3,b4,b5,b6,b7,b8,b9,b0⟩:=ht.bnd hM;obtain⟨e1,t1⟩:=ht.make p.pg;refine(za w rb D H col h ht.hh b4 p hP).mono ?_;rintro _ w' ⟨q',D',H',col',hq',rfl,hR,hF,hA,hD⟩;exact⟨by rw[e1],D',H',col',hR,hF,t1 q q' D' H' hq hq' hA hD⟩
theorem Bz(ht:Tw S D H M)(hM:M<=1000000000000)(w:World)(b pb mb:Nat)(pc col:Nat->Nat)(h:Vw w b S pb mb pc col)(z:Int)(p:Pv)(hP:Pi w p)(hs:Smi p):Calls Tryz.prog 93 #[.pointer (some ⟨b,0,none⟩),.int .i64 z,p.vl] w λe w'=>∃q:Pv,q.pg=p.pg/\PrI w b pb mb col (S.writeE z p.pg) (if S.writeE z p.pg=0 then S.done 0 (S.X.lay z q) else S) e w':=by
 obtain⟨b1,b2,b3,b4,b5,b6,b7,b8,b9,b0⟩:=ht.bnd hM;refine(yq w b S pb mb pc col h z p hP hs.1 (aU hs.2 (by decide)) (by omega) (by omega) (by omega)).mono ?_
 rintro _ w' ⟨q,rfl,hq,pc',col',hV,hF⟩;exact⟨q,hq,rfl,pc',col',hV,hF⟩
theorem Df(ht:Tw S D H M)(hM:M<=1000000000000)(w:World)(rb:Nat)(col:Nat->Nat)(h:Ra w rb D H col)(z:Int)(p q:Pv)(hP:Pf col w p)(hq:q.pg=p.pg):Calls Tryz.prog 94 #[.pointer (some ⟨rb,0,none⟩),.int .i64 z,p.vl] w λe w'=>DcI w rb col (S.writeE z p.pg) (if S.writeE z p.pg=0 then S.done 0 (S.X.lay z q) else S) (M+20) e w':=by
 obtain⟨b1,b2,b3,b4,b5,b6,b7,b8,b9,b0⟩:=ht.bnd hM;obtain⟨e1,t1⟩:=ht.write z p.pg;refine(yi w rb D H col h ht.hh b4 z p hP).mono ?_;rintro _ w' ⟨q',D',H',col',hq',rfl,hR,hF,hA,hD⟩;exact⟨by rw[e1],D',H',col',hR,hF,t1 q q' D' H' hq hq' hA hD⟩
theorem Em(ht:Tw S D H M)(hM:M<=1000000000000)(w:World)(b pb mb:Nat)(pc col:Nat->Nat)(h:Vw w b S pb mb pc col)(z:Int):Calls Tryz.prog 37 #[.pointer (some ⟨b,0,none⟩),.int .i64 z] w λe w'=>∃q:Pv,e=.returned (.tuple #[q.vl,.int .i64 (S.X.leave z).1.2])/\q.pg=(S.X.leave z).1.1.pg/\Pn w w' q/\q.items.length<=1048576/\∃pc' col',Vw w' b (S.done (S.X.leave z).1.2 (S.X.leave z).2) pb mb pc' col'/\Vf w col w' col'/\∀k,Blk q k->col' k=0:=by
 obtain⟨b1,b2,b3,b4,b5,b6,b7,b8,b9,b0⟩:=ht.bnd hM;have:=b0 z;refine(xS w b S pb mb pc col h z (ht.now.sm z).1 (by omega) (by omega) (by omega)).mono ?_
 rintro e w' ⟨q,he,hq,hn,pc',col',hV,hF,hB⟩;refine⟨q,he,hq,hn,?_,pc',col',hV,hF,hB⟩;have e1:=aY (λg:Pg=>g.items.length) hq
 simp only[Pv.pg,a7] at e1;rw[e1];show(if (S.X.left z).1=0 then S.X.on z else Pv.zero).items.length<=_
 split
 . exact(ht.now.sm z).2
 . exact aF _
theorem Ei(ht:Tw S D H M)(hM:M<=1000000000000)(w:World)(rb:Nat)(col:Nat->Nat)(h:Ra w rb D H col)(z:Int):Calls Tryz.prog 38 #[.pointer (some ⟨rb,0,none⟩),.int .i64 z] w λe w'=>∃q:Pv,e=.returned (.tuple #[q.vl,.int .i64 (S.X.leave z).1.2])/\q.pg=(S.X.leave z).1.1.pg/\Pn w w' q/\q.items.length<=1048576/\∃D' H' col',Ra w' rb D' H' col'/\Vf w col w' col'/\(∀k,Blk q k->col' k=0)/\Tw (S.done (S.X.leave z).1.2 (S.X.leave z).2) D' H' (M+20):=by
 obtain⟨b1,b2,b3,b4,b5,b6,b7,b8,b9,b0⟩:=ht.bnd hM;obtain⟨e1,e2,t1⟩:=ht.take z
 have k:∀(e:Ending)(w':World),RTk w rb D H col z e w'->∃q:Pv,e=.returned (.tuple #[q.vl,.int .i64 (S.X.leave z).1.2])/\q.pg=(S.X.leave z).1.1.pg/\Pn w w' q/\q.items.length<=1048576/\∃D' H' col',Ra w' rb D' H' col'/\Vf w col w' col'/\(∀k,Blk q k->col' k=0)/\Tw (S.done (S.X.leave z).1.2 (S.X.leave z).2) D' H' (M+20):=by
  rintro e w' ⟨q,D',H',col',he,hq,hn,hl,hp,hR,hF,hA,hD⟩;exact⟨q,by rw[he,e1],by rw[hq,e2],hn,hl,D',H',col',hR,hF,hp,t1 D' H' hA hD⟩
 by_cases h1:0<D.count z
 . exact(yr w rb D H col h ht.hh b4 z b6 h1 (b7 z)).mono k
 . exact(xF w rb D H col h z h1).mono k
end
section
variable (v w:World) (wb b rb pb mb:Nat) (S:Vs) (D:Rd) (H:List Sn) (pc col colR:Nat->Nat) (aW:Option Addr) (cW:Nat) (W:List Wl) (K:Bkk) (M:Nat)
theorem Bw(h:Wo v w wb b rb pb mb S D H pc col colR aW cW W K M)(hM:M<=100000000000)(o:Oq)(hk:o.kind=2):
 Calls Tryz.prog 10 #[.pointer (some ⟨wb,0,none⟩),o.vl] w λe w'=>NxV v w wb b rb pb mb col colR aW cW W K M (λS'=>S'=(S.shadow o.n).2) e w':=by
 have OV:Hid (o.vl=.agg o.cs):=rfl;rw[OV.o];have A0:=gZ (al w (.cells o.cs 33));have X0:=gZ (aH w (.cells o.cs 33));have Z0:=gZ (h.va.z (ai w.heap.size));have H1:=gZ (h.ws.keep A0.o);have HW:=gZ h;have hM2:M<=1000000000000:=by omega
 clear h;go_enter Tryz.func10,Tryz.ntmps10;obtain⟨c0,c1,c2,c3,c4,c5,c6,c7⟩:=g7 X0.o;rw[hk] at c0;go_upto_region 6 with fail
 generalize w.alloc (.cells o.cs 33)=w1 at *;clear hk;obtain⟨gi,hgi⟩:∃gi,w.heap.size=gi:=⟨_,rfl⟩;simp only[hgi] at X0 Z0 c0 c1 c2 c3 c4 c5 c6 c7 ⊢;clear hgi;have DR:=gZ (dr2 w1);have SS:Hid (∀W:World,Below w1.heap.size w1 W->W.cell? ⟨wb,0,none⟩=some (.pointer (some ⟨b,0,none⟩))/\W.cell? ⟨gi,1,none⟩=some (.int .i64 o.n)):=λW hb=>⟨((H1.o.keep hb).cells).1,(g7 (ig X0.o hb)).2.1⟩
 clear c0 c1 c2 c3 c4 c5 c6 c7;have CA:=gZ (AI HW.o.tw hM2 w1.drew b pb mb pc col (H1.o.keep DR.o).va.V o.n);have CD:=gZ λ(w2:World)(hR:Ra w2 rb D H colR)=>zG HW.o.tw hM2 w2 rb colR hR o.n
 obtain⟨sr,hsr⟩:∃sr,(S.shadow o.n).1=sr:=⟨_,rfl⟩;rw[hsr] at CA CD;obtain⟨r1,r2⟩:=sr;simp only at CA CD;have eq1:(r1==r1)=true:=by simp
 have eq2:(r2==r2)=true:=by simp
 refine wrd SS DR.o λhHeld=>?_
 refine tkd 0 1 2 3 ?_;refine tkb 4 5 ?_;refine tw 6 λKx hK=>?_
 go_simp;refine(CA.o).mono ?_;rintro _ w2 ⟨rfl,pc2,col2,hV2,hF2⟩;have F2:=gZ ((Vf.keep (c:=col) DR.o).trans hF2);have H2:=gZ ((H1.o.keep DR.o).prog hV2 hF2);have X2:=gZ (hF2.b.same (ig X0.o DR.o) (λe=>by have:=Z0.o.1;omega))
 clear hV2 hF2 CA;go_wp2_with fail
 refine hK.o _ _ (⟨H2.o.cells.1,(g7 X2.o).2.1⟩) (λhHeld=>?_)
 refine tkd 7 8 9 10 ?_;refine tk 11 ?_;refine td ?_;clear hHeld SS;go_upto_region 7 with fail
 have DR2:=gZ (dr2 w2);have SS:Hid (∀W:World,Below w2.heap.size w2 W->W.cell? ⟨wb,1,none⟩=some (.pointer (some ⟨rb,0,none⟩))/\W.cell? ⟨gi,1,none⟩=some (.int .i64 o.n)):=λW hb=>⟨((H2.o.keep hb).cells).2.1,(g7 (ig X2.o hb)).2.1⟩
 have CE:=gZ (CD.o w2.drew (H2.o.keep DR2.o).va.R);clear CD;refine wrd SS DR2.o λhHeld=>?_
 refine tkd 0 1 2 3 ?_;refine tkb 4 5 ?_;refine tw 6 λKx hK=>?_
 go_simp;refine(CE.o).mono ?_;rintro _ w3 ⟨rfl,D3,Hs3,colR3,hR3,hF3,hT3⟩;have F3:=gZ ((Vf.keep (c:=colR) DR2.o).trans hF3);have H3:=gZ ((H2.o.keep DR2.o).doc hR3 hF3);have TW:=gZ hT3;have X3:=gZ (hF3.b.same (ig X2.o DR2.o) (λe=>by have:=Z0.o.2;omega))
 clear hR3 hF3 hT3 CE;go_wp2_with fail
 refine hK.o _ _ (⟨H3.o.cells.2.1,(g7 X3.o).2.1⟩) (λhHeld=>?_)
 refine tkd 7 8 9 10 ?_;refine tk 11 ?_;refine td ?_;clear hHeld SS;go_wp2_with fail
 go_ret;exact⟨rfl,_,D3,Hs3,pc2,col2,colR3,rfl,H3.o.wo HW.o TW.o (by omega),((Fx.keep A0.o).trans (Fx.vf F2.o) (λ_ _ e=>e)).trans (Fx.vfR F3.o) (λ_ _ e=>e)⟩
theorem Bu(h:Wo v w wb b rb pb mb S D H pc col colR aW cW W K M)(hM:M<=100000000000)(o:Oq)(hk:o.kind=4):
 Calls Tryz.prog 10 #[.pointer (some ⟨wb,0,none⟩),o.vl] w λe w'=>NxV v w wb b rb pb mb col colR aW cW W K M (λS'=>S'=S.keepS o.n) e w':=by
 have OV:Hid (o.vl=.agg o.cs):=rfl;rw[OV.o];have A0:=gZ (al w (.cells o.cs 33));have X0:=gZ (aH w (.cells o.cs 33));have Z0:=gZ (h.va.z (ai w.heap.size));have H1:=gZ (h.ws.keep A0.o);have HW:=gZ h;have hM2:M<=1000000000000:=by omega
 clear h;go_enter Tryz.func10,Tryz.ntmps10;obtain⟨c0,c1,c2,c3,c4,c5,c6,c7⟩:=g7 X0.o;rw[hk] at c0;go_upto_region 14 with fail
 generalize w.alloc (.cells o.cs 33)=w1 at *;clear hk;obtain⟨gi,hgi⟩:∃gi,w.heap.size=gi:=⟨_,rfl⟩;simp only[hgi] at X0 Z0 c0 c1 c2 c3 c4 c5 c6 c7 ⊢;clear hgi;have DR:=gZ (dr2 w1);have SS:Hid (∀W:World,Below w1.heap.size w1 W->W.cell? ⟨wb,0,none⟩=some (.pointer (some ⟨b,0,none⟩))/\W.cell? ⟨gi,1,none⟩=some (.int .i64 o.n)):=λW hb=>⟨((H1.o.keep hb).cells).1,(g7 (ig X0.o hb)).2.1⟩
 clear c0 c1 c2 c3 c4 c5 c6 c7;have CA:=gZ (Eb HW.o.tw hM2 w1.drew b pb mb pc col (H1.o.keep DR.o).va.V o.n);have CD:=gZ λ(w2:World)(hR:Ra w2 rb D H colR)=>EU HW.o.tw hM2 w2 rb colR hR o.n
 obtain⟨er,her⟩:∃er,(S.X.P.inc o.n).1=er:=⟨_,rfl⟩;rw[her] at CA CD;have eq1:(er==er)=true:=by simp
 refine wrd SS DR.o λhHeld=>?_
 refine tkd 0 1 2 3 ?_;refine tkb 4 5 ?_;refine tw 6 λKx hK=>?_
 go_simp;refine(CA.o).mono ?_;rintro _ w2 ⟨rfl,pc2,col2,hV2,hF2⟩;have F2:=gZ ((Vf.keep (c:=col) DR.o).trans hF2);have H2:=gZ ((H1.o.keep DR.o).prog hV2 hF2);have X2:=gZ (hF2.b.same (ig X0.o DR.o) (λe=>by have:=Z0.o.1;omega))
 clear hV2 hF2 CA;go_wp2_with fail
 refine hK.o _ _ (⟨H2.o.cells.1,(g7 X2.o).2.1⟩) (λhHeld=>?_)
 refine tk 7 ?_;refine td ?_;clear hHeld SS;go_upto_region 15 with fail
 have DR2:=gZ (dr2 w2);have SS:Hid (∀W:World,Below w2.heap.size w2 W->W.cell? ⟨wb,1,none⟩=some (.pointer (some ⟨rb,0,none⟩))/\W.cell? ⟨gi,1,none⟩=some (.int .i64 o.n)):=λW hb=>⟨((H2.o.keep hb).cells).2.1,(g7 (ig X2.o hb)).2.1⟩
 have CE:=gZ (CD.o w2.drew (H2.o.keep DR2.o).va.R);clear CD;refine wrd SS DR2.o λhHeld=>?_
 refine tkd 0 1 2 3 ?_;refine tkb 4 5 ?_;refine tk 6 ?_;refine tw 7 λKx hK=>?_
 go_simp;refine(CE.o).mono ?_;rintro _ w3 ⟨rfl,D3,Hs3,colR3,hR3,hF3,hT3⟩;have F3:=gZ ((Vf.keep (c:=colR) DR2.o).trans hF3);have H3:=gZ ((H2.o.keep DR2.o).doc hR3 hF3);have TW:=gZ hT3;have X3:=gZ (hF3.b.same (ig X2.o DR2.o) (λe=>by have:=Z0.o.2;omega))
 clear hR3 hF3 hT3 CE;go_wp2_with fail
 refine hK.o _ _ (⟨H3.o.cells.2.1,(g7 X3.o).2.1⟩) (λhHeld=>?_)
 refine tkb 8 9 ?_;refine td ?_;clear hHeld SS;go_wp2_with fail
 go_ret;exact⟨rfl,_,D3,Hs3,pc2,col2,colR3,rfl,H3.o.wo HW.o TW.o (by omega),((Fx.keep A0.o).trans (Fx.vf F2.o) (λ_ _ e=>e)).trans (Fx.vfR F3.o) (λ_ _ e=>e)⟩
theorem Fd(h:Wo v w wb b rb pb mb S D H pc col colR aW cW W K M)(hM:M<=100000000000)(o:Oq)(hk:o.kind=5):
 Calls Tryz.prog 10 #[.pointer (some ⟨wb,0,none⟩),o.vl] w λe w'=>NxV v w wb b rb pb mb col colR aW cW W K M (λS'=>True) e w':=by
 have OV:Hid (o.vl=.agg o.cs):=rfl;rw[OV.o];have A0:=gZ (al w (.cells o.cs 33));have X0:=gZ (aH w (.cells o.cs 33));have Z0:=gZ (h.va.z (ai w.heap.size));have H1:=gZ (h.ws.keep A0.o);have HW:=gZ h;have hM2:M<=1000000000000:=by omega
 clear h;go_enter Tryz.func10,Tryz.ntmps10;obtain⟨c0,c1,c2,c3,c4,c5,c6,c7⟩:=g7 X0.o;rw[hk] at c0;go_upto_region 17 with fail
 generalize w.alloc (.cells o.cs 33)=w1 at *;clear hk;obtain⟨gi,hgi⟩:∃gi,w.heap.size=gi:=⟨_,rfl⟩;simp only[hgi] at X0 Z0 c0 c1 c2 c3 c4 c5 c6 c7 ⊢;clear hgi;have DR:=gZ (dr2 w1);have SS:Hid (∀W:World,Below w1.heap.size w1 W->W.cell? ⟨wb,0,none⟩=some (.pointer (some ⟨b,0,none⟩))/\W.cell? ⟨gi,1,none⟩=some (.int .i64 o.n)):=λW hb=>⟨((H1.o.keep hb).cells).1,(g7 (ig X0.o hb)).2.1⟩
 clear c0 c1 c2 c3 c4 c5 c6 c7;have CA:=gZ (DU HW.o.tw hM2 w1.drew b pb mb pc col (H1.o.keep DR.o).va.V o.n);have CD:=gZ λ(w2:World)(hR:Ra w2 rb D H colR)=>EF HW.o.tw hM2 w2 rb colR hR o.n
 obtain⟨er,her⟩:∃er,S.dropE o.n=er:=⟨_,rfl⟩;rw[her] at CA CD;have eq1:(er==er)=true:=by simp
 refine wrd SS DR.o λhHeld=>?_
 refine tkd 0 1 2 3 ?_;refine tkb 4 5 ?_;refine tw 6 λKx hK=>?_
 go_simp;refine(CA.o).mono ?_;rintro _ w2 ⟨rfl,pc2,col2,hV2,hF2⟩;have F2:=gZ ((Vf.keep (c:=col) DR.o).trans hF2);have H2:=gZ ((H1.o.keep DR.o).prog hV2 hF2);have X2:=gZ (hF2.b.same (ig X0.o DR.o) (λe=>by have:=Z0.o.1;omega))
 clear hV2 hF2 CA;go_wp2_with fail
 refine hK.o _ _ (⟨H2.o.cells.1,(g7 X2.o).2.1⟩) (λhHeld=>?_)
 refine tk 7 ?_;refine td ?_;clear hHeld SS;go_upto_region 18 with fail
 have DR2:=gZ (dr2 w2);have SS:Hid (∀W:World,Below w2.heap.size w2 W->W.cell? ⟨wb,1,none⟩=some (.pointer (some ⟨rb,0,none⟩))/\W.cell? ⟨gi,1,none⟩=some (.int .i64 o.n)):=λW hb=>⟨((H2.o.keep hb).cells).2.1,(g7 (ig X2.o hb)).2.1⟩
 have CE:=gZ (CD.o w2.drew (H2.o.keep DR2.o).va.R);clear CD;refine wrd SS DR2.o λhHeld=>?_
 refine tkd 0 1 2 3 ?_;refine tkb 4 5 ?_;refine tk 6 ?_;refine tw 7 λKx hK=>?_
 go_simp;refine(CE.o).mono ?_;rintro _ w3 ⟨rfl,D3,Hs3,colR3,hR3,hF3,hT3⟩;have F3:=gZ ((Vf.keep (c:=colR) DR2.o).trans hF3);have H3:=gZ ((H2.o.keep DR2.o).doc hR3 hF3);have TW:=gZ hT3;have X3:=gZ (hF3.b.same (ig X2.o DR2.o) (λe=>by have:=Z0.o.2;omega))
 clear hR3 hF3 hT3 CE;go_wp2_with fail
 refine hK.o _ _ (⟨H3.o.cells.2.1,(g7 X3.o).2.1⟩) (λhHeld=>?_)
 refine tkb 8 9 ?_;refine td ?_;clear hHeld SS;go_wp2_with fail
 go_ret;exact⟨rfl,_,D3,Hs3,pc2,col2,colR3,trivial,H3.o.wo HW.o TW.o (by omega),((Fx.keep A0.o).trans (Fx.vf F2.o) (λ_ _ e=>e)).trans (Fx.vfR F3.o) (λ_ _ e=>e)⟩
end
theorem zz(w:World)(rb:Nat)(D:Rd)(col:Nat->Nat)(h:Rq w rb D col)(n:Int):Calls Tryz.prog 46 #[.pointer (some ⟨rb,0,none⟩),.int .i64 n] w λe w'=>e=.returned (.int .i64 (D.count n))/\w'=w:=by
 obtain⟨c0,c1,c2,c3,c6⟩:=h.cells;have IS:=gZ (qI w rb D col h n);by_cases hh:D.has n=true
 . obtain⟨h1,h2⟩:=Rd.has_iff.1 hh;obtain⟨i,hi⟩:∃i:Nat,n=(i:Int)+1:=⟨(n-1).toNat,by omega⟩
   subst hi;have hi:i<D.C.length:=by omega
   obtain⟨g,e,cA⟩:=h.cAt hi;have hc:D.count ((i:Int)+1)=D.C.getD i 0:=by unfold Rd.count;rw[if_pos hh];simp
   rw[hc];rw[hh] at IS;rw[e] at c1;have hs:(i:Int)+1-1=(i:Int):=by omega
   have hii:(i:Int)<(D.C.length:Int):=by omega
   have h6:=h.n6;clear h hc hh;generalize D.C.length=m at *;generalize D.C.getD i 0=x at *;go_enter Tryz.func46,Tryz.ntmps46;go_wp2_with fail
   refine IS.o.mono ?_;rintro _ wq ⟨rfl,hwq⟩;obtain rfl:=hwq.symm;go_wp2;go_ret;exact⟨rfl,rfl⟩
 . have hh2:D.has n=false:=by simpa using hh
   have hc:D.count n=0:=by unfold Rd.count;rw[if_neg hh]
   rw[hc];rw[hh2] at IS;clear h hc hh hh2;go_enter Tryz.func46,Tryz.ntmps46;go_wp2_with fail
   refine IS.o.mono ?_;rintro _ wq ⟨rfl,hwq⟩;obtain rfl:=hwq.symm;go_wp2;go_ret;exact⟨rfl,rfl⟩
theorem xy(w:World)(rb:Nat)(D:Rd)(col:Nat->Nat)(h:Rq w rb D col)(s:Int)(hs:s<0):
 Calls Tryz.prog 50 #[.pointer (some ⟨rb,0,none⟩),.int .i64 s] w λe w'=>e=.returned (.int .i64 0)/\w'=w:=by
 obtain⟨c0,c1,c2,c3,c6⟩:=h.cells;have ST:=gZ λ(z:Int)=>kf w rb D col h z
 have h6:=h.n6;clear h c0 c2 c3 c6;obtain⟨m,hm⟩:∃m,D.C.length=m:=⟨_,rfl⟩;simp only[hm] at c1 h6;clear hm;go_enter Tryz.func50,Tryz.ntmps50;go_wp2_with fail
 go_loopw [5,6] (λvn vk wx=>∃k:Nat,k<=m/\vn=.int .i64 0/\vk=.int .i64 ((k:Int)+1)/\wx=w) (λ_ vk _=>m+1-(intOf vk).toNat)
 case atStart=>exact⟨0,aF _,rfl,rfl,rfl⟩
 case round=>
  obtain⟨k,hk,rfl,rfl,rfl⟩:=hrel;by_cases hlt:k<m
  . have dki:decide ((k:Int)+1<=(m:Int))=true:=ay (by omega)
    have hki:(k:Int)+1<=(m:Int):=by omega
    have SK:=gZ (ST.o ((k:Int)+1));obtain⟨x,hx⟩:∃x,D.state ((k:Int)+1)=x:=⟨_,rfl⟩;rw[hx] at SK;clear hx;have dd:((x:Int)==s)=false:=by simp;omega
    go_wp2_with fail
    refine SK.o.mono ?_;rintro _ wq ⟨rfl,hwq⟩;rw[hwq];clear hwq;go_wp2_with fail
    go_roundw
    case rel=>exact⟨k+1,by omega,rfl,by go_num,trivial⟩
    case measure=>simp[intOf];omega
  . have hki:¬((k:Int)+1<=(m:Int)):=by omega
    have dki:decide ((k:Int)+1<=(m:Int))=false:=au hki;go_wp2_with fail
    go_ret;exact⟨rfl,rfl⟩
section
variable {S:Vs} {D:Rd} {H:List Sn} {M:Nat}
theorem Dw(ht:Tw S D H M)(w:World)(rb:Nat)(col:Nat->Nat)(h:Ra w rb D H col)(z:Int):Calls Tryz.prog 46 #[.pointer (some ⟨rb,0,none⟩),.int .i64 z] w λe w'=>e=.returned (.int .i64 (S.X.P.count z))/\Below w.heap.size w w':=by
 refine(zz w rb D col h.q z).mono ?_;rintro _ w' ⟨rfl,rfl⟩;exact⟨by rw[ht.now.r.rel.count],Below.refl _ _⟩
theorem Ds(ht:Tw S D H M)(w:World)(rb:Nat)(col:Nat->Nat)(h:Ra w rb D H col)(z:Int):Calls Tryz.prog 48 #[.pointer (some ⟨rb,0,none⟩),.int .i64 z] w λe w'=>e=.returned (.int .i64 ((S.X.P.state z:Nat):Int))/\Below w.heap.size w w':=by
 refine(kf w rb D col h.q z).mono ?_;rintro _ w' ⟨rfl,rfl⟩;exact⟨by rw[ht.now.r.rel.state2],Below.refl _ _⟩
theorem Cg(ht:Tw S D H M)(w:World)(rb:Nat)(col:Nat->Nat)(h:Ra w rb D H col)(z:Int):Calls Tryz.prog 50 #[.pointer (some ⟨rb,0,none⟩),.int .i64 z] w λe w'=>e=.returned (.int .i64 (((S.X.P.pages z).length:Nat):Int))/\Below w.heap.size w w':=by
 by_cases hz:z<0
 . refine(xy w rb D col h.q z hz).mono ?_;rintro _ w' ⟨rfl,rfl⟩;refine⟨?_,Below.refl _ _⟩;unfold Q.Po.pages;rw[if_neg (by omega)]
   rfl
 . obtain⟨s,rfl⟩:∃s:Nat,z=(s:Int):=⟨z.toNat,by omega⟩
   refine(xI w rb D col h.q s).mono ?_;rintro _ w' ⟨rfl,rfl⟩;refine⟨?_,Below.refl _ _⟩
   have e:(S.X.P.pages (s:Int)).length=(Q.ix D.pg s).length:=by
    unfold Q.Po.pages;rw[<-ht.now.r.rel.pg];by_cases hs:1<=(s:Int)/\(s:Int)<=4
    . rw[if_pos hs,cR]
    . rw[if_neg hs];have:Q.ix S.X.P.pg s=[]:=oe (λj hj e=>by have:=Q.mo (S.X.P.pg.getD j Q.Pg.zero);omega)
      rw[this]
   rw[e]
theorem tF(ht:Tw S D H M)(hM:M<=1000000000000)(w:World)(rb:Nat)(col:Nat->Nat)(h:Ra w rb D H col):Calls Tryz.prog 55 #[.pointer (some ⟨rb,0,none⟩)] w λe w'=>e=.returned (.int .i64 ((S.fl+S.al.length:Nat):Int))/\Below w.heap.size w w':=by
 have b:=ht.bnd hM;refine(ld w rb D H col h b.f b.h).mono ?_;rintro _ w' ⟨rfl,hb⟩;exact⟨by rw[ht.mark],hb⟩
theorem EK(ht:Tw S D H M)(w:World)(rb:Nat)(col:Nat->Nat)(h:Ra w rb D H col)(z:Int):Calls Tryz.prog 45 #[.pointer (some ⟨rb,0,none⟩),.int .i64 z] w λe w'=>∃q:Pv,e=.returned (.tuple #[q.vl,.int .i64 (if 0<S.X.P.count z then 0 else 15)])/\Pn w w' q/\q.items.length<=1048576/\q.pg=(if 0<S.X.P.count z then (S.X.on z).pg else Pv.zero.pg)/\Below w.heap.size w w':=by
 refine(yw w rb D col h.q z).mono ?_;rintro _ w' ⟨q,rfl,hn,hl,hg,hb⟩;have e:=ht.now.r.rel.count z;refine⟨q,by rw[e],hn,hl,?_,hb⟩
 rw[hg,e];split
 . rename_i h0;exact(ht.now.r.rel.on z (by omega)).symm
 . rfl
theorem DV(ht:Tw S D H M)(w:World)(b pb mb:Nat)(pc col:Nat->Nat)(h:Vw w b S pb mb pc col)(z:Int):Calls Tryz.prog 44 #[.pointer (some ⟨b,0,none⟩),.int .i64 z] w λe w'=>∃q:Pv,e=.returned (.tuple #[q.vl,.int .i64 (if 0<S.X.P.count z then 0 else 15)])/\Pn w w' q/\q.items.length<=1048576/\q.pg=(if 0<S.X.P.count z then (S.X.on z).pg else Pv.zero.pg)/\Below w.heap.size w w':=by
 refine(Ai w b S pb mb pc col h z (ht.now.sm z).1).mono ?_;rintro _ w' ⟨q,rfl,hn,hg,hb⟩;refine⟨q,rfl,hn,?_,hg,hb⟩;have e1:=aY (λg:Pg=>g.items.length) hg
 by_cases h0:0<S.X.P.count z
 . rw[if_pos h0] at e1;simp only[Pv.pg,a7] at e1;rw[e1];exact(ht.now.sm z).2
 . rw[if_neg h0] at e1;simp only[Pv.pg,a7] at e1;rw[e1];exact aF _
theorem yd(ht:Tw S D H M)(hM:M<=1000000000000)(w:World)(b pb mb:Nat)(pc col:Nat->Nat)(h:Vw w b S pb mb pc col):Calls Tryz.prog 54 #[.pointer (some ⟨b,0,none⟩)] w λe w'=>e=.returned (.int .i64 ((S.fl+S.al.length:Nat):Int))/\Below w.heap.size w w':=by
 have k:=ht.bnd hM;obtain⟨ac,cc,aa,ca,hq⟩:=h;exact kG w b S.X.P S.fl _ pc col hq (by have:=k.a;show S.fl+S.al.length<=_;omega)
end
theorem Vw.pl{w:World}{b:Nat}{pb mb:Nat}{pc col:Nat->Nat}(h:Vw w b S pb mb pc col):Q.Pl w pb S.X.P pc:=by
 obtain⟨ac,cc,aa,ca,hq⟩:=h;exact hq.pool
end Go.Proofs.YtbdkogimlbnlmaaGreat
