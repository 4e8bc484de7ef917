import Derived.Test.YtcpkinhneehomaaGreatWqB0
set_option linter.unusedVariables false
set_option linter.unusedSimpArgs false
set_option maxHeartbeats 1600000
namespace Go.Proofs.YtcpkinhneehomaaGreat
open Go.RowKit
variable {b n:Nat}{t:TypeId}{w w':World}
def spF(l:List Nat)(i:Nat):Value:=if i<l.length then .int .u8 ((l.getD i 0:Nat):Int) else .int .u8 (bits .xor .i64 165 (i:Int)%256)
theorem rowIs_below{f:Nat->Value}(h:w.rowIs b t n f)(hb:Below w.heap.size w w'):w'.rowIs b t n f:=h.of_block (hb.block b h.lt)
theorem rowIs_but{S:Nat->Prop}{f:Nat->Value}(h:w.rowIs b t n f)(hb:But S w w')(hn:¬S b):w'.rowIs b t n f:=h.of_block (hb.block b h.lt hn)
theorem spare_bs{g:Nat}{l:List Nat}(h:w.rowIs g 5 n (spF l))(hn:l.length<=n)(hl:∀x∈l,x<256)(hlen:l.length<=9223372036854775807):Bs w (some ⟨g,0,none⟩) l:=
 ⟨hl,hlen,.inr ⟨g,0,rfl,fun i hi=>by rw[Nat.zero_add,h.cell (by omega)];unfold spF;rw[if_pos hi]⟩⟩
theorem Spare_any(w:World)(aa:Option Addr)(n capa:Nat)(l:List Nat)(hB:Bs w aa l)(hn:n=l.length)(hlen:l.length+64<=281474976710656):
 Calls Tryz.prog 62 #[.slice aa n capa] w fun x w'=>x=.returned (.slice (some ⟨w.heap.size,0,none⟩) l.length (l.length+64))/\w'.rowIs w.heap.size 5 (l.length+64) (spF l)/\Below w.heap.size w w':=by
 subst hn;have hmk:=make_u8 (l.length+64) (l.length+64) (Nat.le_refl _) (by omega)
 have hadd:IntKind.i64.wrap ((l.length:Int)+64)=((l.length+64:Nat):Int):=by rw[wrapI (by omega) (by omega)];omega
 have HB:=hide hB;clear hB;generalize hN:l.length+64=N at *;have HN:=hide hN;clear hN;go_enter Tryz.func62,Tryz.ntmps62;go_wp2;go_loopw [4] (fun i wx=>∃j:Nat,j<=N/\i=.int .i64 j/\(wx.rowIs w.heap.size 5 N (fun i=>if i<j then spF l i else .int .u8 0)/\Below w.heap.size w wx)) (fun i _=>N-(intOf i).toNat)
 case atStart=>exact⟨0,Nat.zero_le _,rfl,(World.rowIs_made w (.int .u8 0) N 5).congr fun i _=>by simp,(Below.refl _ _).alloc (Nat.le_refl _) _⟩
 case round=>
  obtain⟨j,hj,rfl,hG⟩:=hrel;have HG:=hide hG;clear hG;by_cases hlt:j<N
  · have hi:(j:Int)<(N:Int):=by omega
    have cg:=HG.out.1.cell hlt;have fg:=HG.out.1.frozen j;simp only[Nat.lt_irrefl,if_false] at cg;by_cases hl:j<l.length
    · have hi2:(j:Int)<(l.length:Int):=by omega
      obtain⟨bs,off,rfl,hcs⟩:=byte_at HB.out HG.out.2 hl;have HV:Hid (spF l j=.int .u8 ((l.getD j 0:Nat):Int)):=by unfold spF;rw[if_pos hl];exact rfl
      generalize l.getD j 0=x at *;go_wp2;go_roundw
      case rel=>
       refine⟨j+1,by omega,by go_num,(HG.out.1.set j _).congr fun i hi=>?_,HG.out.2.setCell (Nat.le_refl _) _⟩
       by_cases e:i=j
       · subst e;rw[if_pos rfl,if_pos (by omega),HV.out]
       · rw[if_neg e];by_cases e2:i<j
         · rw[if_pos e2,if_pos (by omega)]
         · rw[if_neg e2,if_neg (by omega)]
      case measure=>simp[intOf];omega
    · have hi2:¬(j:Int)<(l.length:Int):=by omega
      have HV:Hid (spF l j=.int .u8 (bits .xor .i64 165 (j:Int)%256)):=by unfold spF;rw[if_neg hl];exact rfl
      go_wp2;go_roundw
      case rel=>
       refine⟨j+1,by omega,by go_num,(HG.out.1.set j _).congr fun i hi=>?_,HG.out.2.setCell (Nat.le_refl _) _⟩
       by_cases e:i=j
       · subst e;rw[if_pos rfl,if_pos (by omega),HV.out]
       · rw[if_neg e];by_cases e2:i<j
         · rw[if_pos e2,if_pos (by omega)]
         · rw[if_neg e2,if_neg (by omega)]
      case measure=>simp[intOf];omega
  · obtain rfl:N=j:=by omega
    have hI1:(l.length:Int)<=(N:Int):=by have:=HN.out;omega
    go_wp2;go_ret;exact⟨rfl,HG.out.1.congr fun i hi=>by rw[if_pos hi],HG.out.2⟩
theorem Kept_any(w:World)(g N:Nat)(ab:Option Addr)(n m capb:Nat)(l:List Nat)(hR:w.rowIs g 5 N (spF l))(hB:Bs w ab l)(hn:n=l.length)(hm:m=l.length)(hN:N=l.length+64)(hlen:l.length+64<=281474976710656):
 Calls Tryz.prog 70 #[.slice (some ⟨g,0,none⟩) n N,.slice ab m capb] w fun x w'=>x=.returned (.bool true)/\Below w.heap.size w w':=by
 subst hn hm;have hadd:IntKind.i64.wrap ((l.length:Int)+64)=(N:Int):=by rw[wrapI (by omega) (by omega)];omega
 have HE:=hide (EqBytes_same w (some ⟨g,0,none⟩) ab l.length l.length N capb l (spare_bs hR (by omega) hB.1 hB.2.1) hB rfl rfl)
 have HR:=hide hR;have HN:=hide hN;have hNb:N<=281474976710656:=by omega
 clear hB hR hN;have hI1:(0:Int)<=(N:Int):=by omega
 go_enter Tryz.func70,Tryz.ntmps70;go_wp2_with fail
 refine HE.out.mono ?_;rintro e w1 ⟨rfl,hb1⟩;go_wp2;go_loopw [6] (fun i wx=>∃j:Nat,l.length<=j/\j<=N/\i=.int .i64 j/\Below w.heap.size w wx) (fun i _=>N-(intOf i).toNat)
 case atStart=>exact⟨l.length,Nat.le_refl _,by have:=HN.out;omega,rfl,hb1⟩
 case round=>
  clear hb1;obtain⟨j,hlj,hj,rfl,hb⟩:=hrel;by_cases hlt:j<N
  · have hi:(j:Int)<(N:Int):=by omega
    have cg:=(rowIs_below HR.out hb).cell hlt;unfold spF at cg;rw[if_neg (by omega)] at cg
    go_wp2;go_roundw
    case rel=>exact⟨j+1,by omega,by omega,by go_num,hb⟩
    case measure=>simp[intOf];omega
  · obtain rfl:N=j:=by omega
    go_wp2;go_ret;exact⟨rfl,hb⟩
end Go.Proofs.YtcpkinhneehomaaGreat
