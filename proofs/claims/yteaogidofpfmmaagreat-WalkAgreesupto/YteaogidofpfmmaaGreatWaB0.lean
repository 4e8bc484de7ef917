import Derived.Deep.RegionHeld3
import Derived.Below
import Derived.CallsIn
import Derived.ControlIn
import Derived.Deep.AppendLies
import Derived.Deep.RegionHeld
import Derived.Laws.AppendOwn
import Derived.Laws.Entries
import Derived.Laws.Rows
import Derived.Laws.Sem
import Derived.Laws.Tables
import Derived.OrdersIn
import Derived.OwnWalk
import Derived.RangeFuncLeaves
import Derived.RangeFuncRecord
import Derived.Tactics
import GoSem.Core.Value
import GoSem.Core.World
import Derived.Test.YteaogidofpfmmaaGreatProg
import Derived.WalkKit
import Derived.WalkSpells
import Derived.WalkLawsBesides
import Derived.Deep.WholeRow
import Derived.Outline
import Derived.KernelRfl
import Derived.Laws.BitsAllLaws
import Derived.Laws.MakeOwn
import Derived.Deep.OwnRows
import Derived.Deep.RegionHeldLaw
import Derived.Deep.RegionLaw
import Derived.Laws.Cover3
import Derived.BigRegion
import Derived.BigQuiet
import Derived.Deep.QuietTactic
import Derived.Deep.LoopGhost
import Derived.Deep.RegionWith
import Derived.Laws.Externs
import Derived.Laws.CopyOwn
set_option linter.all false
set_option maxHeartbeats 1600000
namespace Go.Proofs.YteaogidofpfmmaaGreat
open Tryz
variable {a a0 a1 a2:Act}{ops:Array Oper}{fuel:Nat}{o0 o1:Oper}{P:Program}{v0 v1:Value}{w:World}{S:World->Prop}
abbrev ae:=@Array.getElem?_eq_some_iff
abbrev af:=@List.length_append
abbrev ag:=@Go.World.alloc_heap_new
abbrev ah:=@decide_eq_false
abbrev ai:=@Go.cell_of_row
abbrev am:=@Nat.le_refl
abbrev an:=@Nat.zero_le
abbrev ar:=@decide_eq_true
abbrev au:=@Option.some.injEq
abbrev ay:=@Nat.le_trans
abbrev az:=@Go.bodyPost_ret
abbrev aE:=@Go.heap_setCell_same
abbrev aM:=@List.getD_eq_getElem?_getD
abbrev aR:=@List.append_assoc
abbrev aZ:=@List.mem_singleton
abbrev a6:=@Nat.lt_of_lt_of_le
abbrev a7:=@List.length_cons
abbrev be:=@Go.wp_region_held_drew
abbrev bf:=@congrArg
abbrev bg:=@List.length_nil
abbrev bj:=@Go.heap_alloc_new
abbrev bq:=@Go.frozen_of_row
abbrev br:=@List.mem_cons_of_mem
abbrev bu:=@Go.setRow_heap
abbrev bz:=@Go.wpList_store_row
abbrev bA:=@List.getElem?_eq_some_iff
abbrev bE:=@List.mem_map
abbrev bG:=@List.mem_cons_self
abbrev bM:=@List.length_map
abbrev bO:=@List.mem_append
abbrev bP:=@List.getElem?_append_right
abbrev bQ:=@List.mem_cons
abbrev bT:=@List.map_cons
abbrev bX:=@List.getElem?_eq_getElem
abbrev bY:=@List.length_pos_iff
abbrev bZ:=@List.take_succ_eq_append_getElem
abbrev b7:=@List.cons_append
abbrev b9:=@List.nil_append
abbrev ce:=@Bool.and_eq_true
abbrev cf:=@List.not_mem_nil
abbrev co:=@Go.results_none
abbrev cw:=@Go.run_takeDeferred
abbrev cx:=@Array.replicate_succ
abbrev cM:=@Array.replicate_zero
abbrev cR:=@List.size_toArray
abbrev cZ:=@decide_eq_true_eq
abbrev c7:=@List.append_toArray
abbrev da:=@List.length_set
abbrev db:=@List.getElem?_append_left
abbrev dc:=@Go.callsIn_wide
abbrev dd:=@List.pairwise_cons
abbrev de:=@Nat.zero_add
abbrev df:=@List.drop_eq_getElem_cons
abbrev dg:=@List.push_toArray
abbrev dh:=@Go.results_tmp2
abbrev di:=@Go.Value.slice.injEq
abbrev dm:=@List.length_take
abbrev dp:=@Nat.add_zero
abbrev dr:=@List.append_nil
abbrev dt:=@List.length_replicate
abbrev du:=@List.take_length
abbrev dv:=@List.length_drop
abbrev dw:=@List.drop_eq_nil_of_le
abbrev dy:=@List.map_append
abbrev dz:=@List.length_eq_zero_iff
abbrev dA:=@Nat.not_lt_zero
abbrev dB:=@List.mem_range
abbrev dE:=@List.pairwise_append
abbrev dG:=@Go.results_cell_row
abbrev dI:=@decide_eq_true_iff
abbrev dJ:=@Go.World.putObj_heap_other
abbrev dM:=@Go.callsIn_of_wp_marks
abbrev dO:=@decide_eq_false_iff_not
abbrev dP:=@Go.Result.andThen_ok
abbrev dQ:=@List.mem_append_right
abbrev dR:=@List.length_singleton
abbrev dS:=@List.flatMap_cons
abbrev dT:=@Iff.rfl
abbrev dU:=@Go.run_underlying
abbrev dW:=@Bool.eq_iff_iff
abbrev dX:=@List.mem_filter
abbrev dY:=@List.flatten_cons
abbrev dZ:=@List.cons_lt_cons_iff
abbrev d5:=@List.getElem?_take
abbrev d6:=@Go.wpIn_wide
abbrev d7:=@List.mem_flatten
abbrev d9:=@and_true
abbrev eb:=@Go.wpAnyIn_ready
abbrev ec:=@Go.World.putObj_heap_same
abbrev ed:=@List.getElem?_map
abbrev ee:=@Nat.min_eq_left
abbrev em:=@Classical.byContradiction
abbrev eo:=@Go.info_parts
abbrev ep:=@List.getElem?_eq_none
abbrev eu:=@Go.Sem.run_bind
abbrev ey:=@Go.Sem.run_pure
abbrev eB:=@List.map_toArray
abbrev eC:=@Nat.sub_self
abbrev eD:=@List.mem_append_left
abbrev eE:=@List.getElem?_cons_succ
abbrev eF:=@Bool.or_eq_true
abbrev eG:=@List.map_nil
abbrev eH:=@List.drop_zero
abbrev eI:=@List.not_lt
abbrev eJ:=@List.cons.injEq
abbrev eK:=@Go.Obj.cells.injEq
abbrev eN:=@Nat.add_sub_cancel_left
abbrev eO:=@List.take_succ_cons
abbrev eQ:=@Bool.false_and
abbrev eR:=@Nat.mul_one
abbrev eS:=@Nat.le_succ
abbrev eU:=@List.take_of_length_le
abbrev eV:=@Nat.zero_mul
abbrev eW:=@Array.getElem?_modify
abbrev eX:=@Option.map_some
abbrev eY:=@Bool.and_eq_false_iff
abbrev eZ:=@List.set_append_right
abbrev e6:=@List.nodup_cons
abbrev e7:=@Array.toList_setIfInBounds
abbrev e8:=@Int.toNat_natCast
abbrev fa:=@List.pairwise_map
abbrev fb:=@List.any_eq_false
abbrev fd:=@Nat.mul_le_mul_right
abbrev fg:=@List.mem_of_getElem?
abbrev fh:=@List.pairwise_iff_getElem
abbrev fi:=@Int.le_refl
abbrev fj:=@List.take_zero
abbrev fp:=@List.getElem_mem
abbrev fq:=@List.getD_cons_zero
abbrev fs:=@List.drop_succ_cons
abbrev ft:=@List.pairwise_singleton
abbrev fu:=@List.filter_cons_of_neg
abbrev fw:=@List.filter_cons_of_pos
abbrev fy:=@Bool.or_false
abbrev fA:=@Go.callsIn_of_wp
abbrev fB:=@List.eq_nil_iff_forall_not_mem
abbrev fC:=@Option.some.inj
abbrev fD:=@Go.run_append_lies
abbrev fE:=@Go.run_loadVar_row
abbrev fF:=@List.filter_eq_nil_iff
abbrev fG:=@Prod.mk.inj
abbrev fH:=@Go.World.ownsRow_nil
abbrev fI:=@of_decide_eq_true
abbrev fJ:=@List.cons_le_cons_iff
abbrev fL:=@List.getElem?_toArray
abbrev fM:=@List.take_append_drop
abbrev fN:=@List.length_filter_le
abbrev fO:=@List.concat_eq_append
abbrev fP:=@Go.wpList_plain
abbrev fQ:=@Go.wp_store_row
abbrev fR:=@List.drop_length
abbrev fT:=@List.any_eq_true
abbrev fU:=@List.getElem?_set_ne
abbrev fW:=@List.ext_getElem
abbrev fY:=@or_false
abbrev fZ:=@Nat.lt_irrefl
abbrev gh:=@Nat.add_assoc
abbrev gj:=@List.toList_toArray
abbrev go:=@List.getElem_of_mem
abbrev gu:=@List.flatMap_append
abbrev gy:=@List.length_reverse
abbrev gz:=@List.mem_or_eq_of_mem_set
abbrev gA:=@List.set_cons_zero
abbrev gE:=@Nat.add_sub_cancel
abbrev gF:=@List.filter_append
abbrev gG:=@Nat.lt_succ_iff_lt_or_eq
abbrev gH:=@Nat.lt_or_eq_of_le
abbrev gJ:=@Nat.xor_lt_two_pow
abbrev gM:=@Go.wpAnyIn_done
abbrev gR:=@List.filter_congr
abbrev gT:=@List.head?_filter
abbrev gU:=@Nat.add_mul
abbrev gV:=@Go.run_endLoop
abbrev gW:=@Bool.true_and
abbrev gX:=@Prod.mk.injEq
abbrev gY:=@List.map_reverse
abbrev gZ:=@List.mem_reverse
abbrev ia:=@Nat.le_of_not_lt
abbrev ib:=@List.mem_flatMap
abbrev ic:=@List.flatMap_map
abbrev ie:=@List.eq_nil_or_concat
abbrev ig:=@List.mem_of_mem_take
abbrev ij:=@List.map_set
abbrev ik:=@List.take_left'
abbrev il:=@Nat.not_succ_le_self
abbrev ip:=@Nat.mod_lt
abbrev ir:=@List.getLast?_concat
abbrev iu:=@getElem!_pos
theorem _root_.Go.RowKit.Hid.o{p:Prop}(h:Go.RowKit.Hid p):p:=h
theorem _root_.Go.Shut.o{p:Prop}(h:Shut p):p:=h
theorem pt:(∀(a:Act)(t:Tmp)(v:Value),a.put (some t) v={a with tmps:=a.tmps.setIfInBounds t v})/\(∀(a:Act)(v:Value),a.put none v=a)/\(∀{α:Type}(l:List α)(i:Nat)(h:i<l.toArray.size),l.toArray[i]=l[i]'(by simpa using h))/\(∀{α:Type}(a:α)(l:List α)(h:0<(a::l).length),(a::l)[0]=a)/\(∀{α:Type}(a:α)(l:List α)(i:Nat)(h:i+1<(a::l).length),(a::l)[i+1]=l[i]'(by simpa using h))/\(∀{α:Type}(l:List α)(i:Nat)(a:α),l.toArray.setIfInBounds i a=(l.set i a).toArray)/\(∀{α:Type}(a b:α)(l:List α),(a::l).set 0 b=b::l)/\(∀{α:Type}(a b:α)(l:List α)(i:Nat),(a::l).set (i+1) b=a::l.set i b):=by
 refine⟨λ_ _ _=>rfl,λ_ _=>rfl,λ_ _ _=>by simp,λ_ _ _=>rfl,λ_ _ _ _=>rfl,λ_ _ _=>by simp,λ_ _ _=>rfl,λ_ _ _ _=>rfl⟩
theorem tk{P:Program}{e:Region.Mode}{ops:Array Oper}{Q:Exit->Act->World->Prop}{S:World->Prop}(i:Nat){d:Oper}{v:Value}{fuel:Nat}{f l:Array Bool}{a b:Act}{w:World}(h:wpAnyH P e ops Q S fuel l b w)(hi:ops[i]?=some d:=by exact rfl)
 (hk:(Region.noSelect ops&&(Region.free e ops f i&&(Region.ready e ops f).contains i))=true:=by kernel_rfl)
 (g:∀c a w,Q (.panic c) (a.put d.dst v) w->Q (.panic c) a w:=by exact λ_ _ _ h=>h) (m:Region.wanted d (yielded ops a.tmps)=true:=by exact rfl) (j:S w:=by assumption)
 (n:∀w,S w->(execOp a.eval d).run P w=.ok (.value v) w:=by (intro _ s;(try dsimp only at s);go_simp<;>with_reducible rfl))
 (k:f.setIfInBounds i true=l:=by ((try simp only[pt]);exact rfl)) (hb:a.put d.dst v=b:=by ((try simp only[pt]);exact rfl)):wpAnyH P e ops Q S (fuel+1) f a w:=by
 simp only[ce] at hk;exact wpAnyH_take hi hk.1 hk.2.1 hk.2.2 g (.inl ⟨m,n⟩) j (k▸hb▸h)
theorem tu{P:Program}{d:Region.Mode}{ops:Array Oper}{Q:Exit->Act->World->Prop}{S:World->Prop}(i:Nat){e:Oper}{fuel:Nat}{f l:Array Bool}{a b:Act}{w:World}(h:wpAnyH P d ops Q S fuel l b w)(hi:ops[i]?=some e:=by exact rfl)
 (hk:(Region.noSelect ops&&(Region.free d ops f i&&(Region.ready d ops f).contains i))=true:=by kernel_rfl)
 (g:∀c a w,Q (.panic c) (a.put e.dst undef) w->Q (.panic c) a w:=by exact λ_ _ _ h=>h) (m:Region.wanted e (yielded ops a.tmps)=false:=by exact rfl) (j:S w:=by assumption)
 (k:f.setIfInBounds i true=l:=by ((try simp only[pt]);exact rfl)) (hb:a.put e.dst undef=b:=by ((try simp only[pt]);exact rfl)):wpAnyH P d ops Q S (fuel+1) f a w:=by
 simp only[ce] at hk;exact wpAnyH_take hi hk.1 hk.2.1 hk.2.2 g (.inr ⟨m,rfl⟩) j (k▸hb▸h)
theorem tw{P:Program}{c:Region.Mode}{ops:Array Oper}{Q:Exit->Act->World->Prop}{S:World->Prop}(i:Nat){o:Oper}{fuel:Nat}{d:Array Bool}{a:Act}{w:World}
 (h:∀b:Act->World->Prop,Shut (∀a w,S w->(S w->wpAnyH P c ops Q S fuel (d.setIfInBounds i true) a w)->b a w)->if Region.wanted o (yielded ops a.tmps)=true then Oper.wp P o a w b Q else b (a.put o.dst undef) w)
 (e:ops[i]?=some o:=by exact rfl) (f:Region.ready c ops d=[i]:=by kernel_rfl):wpAnyH P c ops Q S (fuel+1) d a w:=
 wpAnyH_ready f (by simp) (AllReadyH.cons e h AllReadyH.nil)
theorem td{b:Region.Mode}{Q:Exit->Act->World->Prop}{c:Array Bool}(h:Q .normal a w)(d:Region.ready b ops c=[]:=by kernel_rfl):wpAnyH P b ops Q S fuel c a w:=
 wpAnyH_done d h _
def Tc(P:Program)(md:Region.Mode)(ops:Array Oper)(Q:Exit->Act->World->Prop)(S:World->Prop)(i:Nat)(o:Oper)(v:Value)(l k:Array Bool)(a b:Act):Prop:=ops[i]?=some o/\(Region.noSelect ops&&(Region.free md ops l i&&(Region.ready md ops l).contains i))=true/\(∀c a w,Q (.panic c) (a.put o.dst v) w->Q (.panic c) a w)/\Region.wanted o (yielded ops a.tmps)=true/\(∀w,S w->(execOp a.eval o).run P w=.ok (.value v) w)/\l.setIfInBounds i true=k/\a.put o.dst v=b
theorem tc{d:Region.Mode}{Q:Exit->Act->World->Prop}{i:Nat}{o:Oper}{v:Value}{l k:Array Bool}{b:Act}(e:S w)(c:Tc P d ops Q S i o v l k a b)(h:wpAnyH P d ops Q S fuel k b w):wpAnyH P d ops Q S (fuel+1) l a w:=tk i h c.1 c.2.1 c.2.2.1 c.2.2.2.1 e c.2.2.2.2.1 c.2.2.2.2.2.1 c.2.2.2.2.2.2
theorem tkb{b:Region.Mode}{Q:Exit->Act->World->Prop}{c d e:Array Bool}(f g:Nat)(h:wpAnyH P b ops Q S fuel e a2 w)(s:S w:=by assumption)(c0:Tc P b ops Q S f o0 v0 c d a0 a1:=by exact⟨rfl,by kernel_rfl,λ_ _ _ h=>h,rfl,by (intro _ s;(try dsimp only at s);go_simp<;>with_reducible rfl),by ((try simp only[pt]);exact rfl),by ((try simp only[pt]);exact rfl)⟩)(c1:Tc P b ops Q S g o1 v1 d e a1 a2:=by exact⟨rfl,by kernel_rfl,λ_ _ _ h=>h,rfl,by (intro _ s;(try dsimp only at s);go_simp<;>with_reducible rfl),by ((try simp only[pt]);exact rfl),by ((try simp only[pt]);exact rfl)⟩):wpAnyH P b ops Q S (fuel+1+1) c a0 w:=tc s c0 (tc s c1 h)
theorem tkd{b:Region.Mode}{Q:Exit->Act->World->Prop}{m n:Oper}{p v3:Value}{c d e f g:Array Bool}{a3 a4:Act}(i j k l:Nat)(h:wpAnyH P b ops Q S fuel g a4 w)(s:S w:=by assumption)(c0:Tc P b ops Q S i o0 v0 c d a0 a1:=by exact⟨rfl,by kernel_rfl,λ_ _ _ h=>h,rfl,by (intro _ s;(try dsimp only at s);go_simp<;>with_reducible rfl),by ((try simp only[pt]);exact rfl),by ((try simp only[pt]);exact rfl)⟩)(c1:Tc P b ops Q S j o1 v1 d e a1 a2:=by exact⟨rfl,by kernel_rfl,λ_ _ _ h=>h,rfl,by (intro _ s;(try dsimp only at s);go_simp<;>with_reducible rfl),by ((try simp only[pt]);exact rfl),by ((try simp only[pt]);exact rfl)⟩)(c2:Tc P b ops Q S k m p e f a2 a3:=by exact⟨rfl,by kernel_rfl,λ_ _ _ h=>h,rfl,by (intro _ s;(try dsimp only at s);go_simp<;>with_reducible rfl),by ((try simp only[pt]);exact rfl),by ((try simp only[pt]);exact rfl)⟩)(c3:Tc P b ops Q S l n v3 f g a3 a4:=by exact⟨rfl,by kernel_rfl,λ_ _ _ h=>h,rfl,by (intro _ s;(try dsimp only at s);go_simp<;>with_reducible rfl),by ((try simp only[pt]);exact rfl),by ((try simp only[pt]);exact rfl)⟩):wpAnyH P b ops Q S (fuel+1+1+1+1) c a0 w:=tc s c0 (tc s c1 (tc s c2 (tc s c3 h)))
theorem wrd{Q:Exit->Act->World->Prop}{id:Nat}{v:World}(s:Go.RowKit.Hid (∀W:World,Go.RowKit.Below v.heap.size v W->S W))(d:Go.RowKit.Below v.heap.size v w.drew)(h:S w.drew->wpAnyH P .any ops Q S ops.size (Array.replicate ops.size false) a w.drew)(b:P.follows .mixedOrders=true:=by kernel_rfl):(Code.region id ops true).wp P Q a w:=be b (s.o _ d) h
end Go.Proofs.YteaogidofpfmmaaGreat
namespace Go.Proofs.YteaogidofpfmmaaGreat
open Tryz
open Go.RowKit
variable {p:Addr}{l:List Nat}{cap g k:Nat}{S T:Nat->Prop}{a:Option Addr}{b c w w' w1:World}
theorem ix{p:Prop}(h:p):Hid p:=h
theorem size_alloc(w:World)(o:Obj):(w.alloc o).heap.size=w.heap.size+1:=by
 show(w.heap.push o).size=_;simp
theorem pA(l:List Nat)(h:k<l.length):l.getD k 0=l[k]:=by simp[h]
theorem bt{a:World}(h:Below w.heap.size w a)(k:Below a.heap.size a b):Below w.heap.size w b:=h.trans (k.mono h.size)
theorem block_lt_of_cell{a:Addr}{v:Value}(h:w.cell? a=some v):a.block<w.heap.size:=World.block_lt_of_cell? w a h
def Bs(w:World)(a:Option Addr)(l:List Nat):Prop:=
 (∀x∈l,x<256)/\l.length<=9223372036854775807/\(l=[]\/∃b off,a=some ⟨b,off,none⟩/\∀i,i<l.length->w.cell? ⟨b,off+i,none⟩=some (.int .u8 ((l.getD i 0:Nat):Int)))
theorem Bs.keep(h:Bs w a l)(hb:Below w.heap.size w w'):Bs w' a l:=by
 obtain⟨m,n,d⟩:=h;refine⟨m,n,?_⟩;rcases d with d|⟨b,j,rfl,e⟩
 . exact .inl d
 . exact .inr ⟨b,j,rfl,λi f=>(hb.cell (p:=⟨b,j+i,none⟩) (block_lt_of_cell (e i f))).trans (e i f)⟩
theorem Bs.nil(w:World):Bs w none []:=⟨by simp,by simp,.inl rfl⟩
def vb(l:List Nat):List Value:=l.map λx=>Value.int .u8 ((x:Nat):Int)
theorem ti(a b:List Nat):vb (a++b)=vb a++vb b:=by unfold vb;rw[dy]
theorem jO(a:List Nat):(vb a).length=a.length:=by unfold vb;rw[bM]
theorem vO(l:List Nat)(i:Nat)(hi:i<l.length):(vb l)[i]?=some (.int .u8 ((l.getD i 0:Nat):Int)):=by simp[vb,hi]
theorem Ao(l:List Nat):∀u∈vb l,u.oneCell'=true:=by
 intro u d;obtain⟨x,_,rfl⟩:=bE.1 d;rfl
theorem As(l:List Nat)(h:k<l.length):l.take k++[l.getD k 0]=l.take (k+1):=by
 rw[bZ h,pA l h]
structure But(S:Nat->Prop)(w w':World):Prop where
 os:w'.os=w.os
 tape:w'.tape=w.tape
 output:w'.output=w.output
 size:w.heap.size<=w'.heap.size
 block:∀k,k<w.heap.size->¬S k->w'.heap[k]?=w.heap[k]?
theorem But.refl(S:Nat->Prop)(w:World):But S w w:=⟨rfl,rfl,rfl,am _,λ_ _ _=>rfl⟩
theorem But.trans{a:World}(h:But S a b)(k:But T b c)(f:∀x,x<a.heap.size->T x->S x):But S a c:=
 ⟨k.os.trans h.os,k.tape.trans h.tape,k.output.trans h.output,ay h.size k.size,λi d e=>(k.block i (a6 d h.size) (λj=>e (f i d j))).trans (h.block i d e)⟩
theorem But.mono{a:World}(h:But S a b)(d:∀x,x<a.heap.size->S x->T x):But T a b:=
 ⟨h.os,h.tape,h.output,h.size,λk hk e=>h.block k hk λf=>e (d k hk f)⟩
theorem But.drew{a:World}(h:But S a w):But S a w.drew:=⟨h.os,h.tape,h.output,h.size,h.block⟩
theorem But.ofBelow(h:Below w.heap.size w w'):But S w w':=⟨h.os,h.tape,h.output,h.size,λk hk _=>h.block k hk⟩
theorem But.below(h:But S w w')(d:∀k,k<w.heap.size->¬S k):Below w.heap.size w w':=⟨h.os,h.tape,h.output,h.size,λk hk=>h.block k hk (d k hk)⟩
theorem But.alloc{a:World}(h:But S a w)(o:Obj):But S a (w.alloc o):=
 h.trans (T:=λ_=>False) (But.ofBelow ((Below.refl _ _).alloc (am _) o)) (λ_ _ d=>d.elim)
theorem But.setCell{a:World}(h:But S a w)(f:p.block<a.heap.size->S p.block)(u:Value):But S a (w.setCell p u):=
 h.trans (T:=λk=>k=p.block) ⟨rfl,rfl,rfl,by simp[World.setCell],λk _ d=>Below.heap_setCell _ _ _ _ d⟩ (λx i e=>by subst e;exact f i)
theorem But.grown{a:World}{row:Option Nat}(h:But S a w)(d:w.grownBy w' row)(i:∀k,row=some k->k<a.heap.size->S k):But S a w':=
 h.trans (T:=λk=>row=some k) ⟨d.os,d.tape,d.output,d.size,λk hk f=>d.block k hk λe=>f e.symm⟩ (λx j e=>i x e j)
theorem But.andBelow{a:World}(h:But S a b)(k:Below b.heap.size b c):But S a c:=
 h.trans (T:=λ_=>False) (But.ofBelow k) (λ_ _ d=>d.elim)
theorem But.cell(h:But S w w')(e:p.block<w.heap.size)(d:¬S p.block):w'.cell? p=w.cell? p:=World.cell?_of_block (w:=w) (h.block p.block e d)
theorem But.frozen(h:But S w w')(e:p.block<w.heap.size)(d:¬S p.block):w'.frozen? p=w.frozen? p:=World.frozen?_of_block (w:=w) (h.block p.block e d)
theorem Bs.but(h:Bs w a l)(hb:But S w w')(r:∀x,a=some x->l≠[]->¬S x.block):Bs w' a l:=by
 obtain⟨n,q,d⟩:=h;refine⟨n,q,?_⟩;by_cases f:l=[]
 . exact .inl f
 rcases d with d|⟨b,e,rfl,j⟩
 . exact .inl d
 . exact .inr ⟨b,e,rfl,λi m=>(hb.cell (p:=⟨b,e+i,none⟩) (block_lt_of_cell (j i m)) (show ¬S b from r ⟨b,e,none⟩ rfl f)).trans (j i m)⟩
def Rw(w:World)(a:Option Addr)(cap:Nat)(l:List Nat):Prop:=w.ownsRow 0 5 1 (.slice a l.length cap) l.length (vb l)
theorem pD(a:Option Addr)(n c:Nat):(Value.slice a n c).ownBlock=a.map Addr.block:=by cases a<;>rfl
theorem map_some{a:Option Addr}{k:Nat}(h:a.map Addr.block=some k):∃x,a=some x/\x.block=k:=by
 cases a with
 |none=>simp at h
 |some x=>simp at h;exact⟨x,rfl,h⟩
theorem Rw.nil(w:World):Rw w none 0 []:=fH w 0 5 1
theorem Rw.cases(h:Rw w a cap l):(a=none/\cap=0/\l=[])\/
 ∃g cur,a=some ⟨g,0,none⟩/\w.heap[g]?=some (.cells cur 5 (0,0))/\l.length<=cap/\cap<=maxLen/\cur.size=cap/\cur.toList.take l.length=vb l:=by
 obtain⟨_,e⟩:=h;rcases e with⟨hv,h0⟩|⟨g,cap',cur,hv,_,hg,hn,hm,hs,ht⟩
 . simp only[di] at hv;exact .inl ⟨hv.1,hv.2.2,dz.1 h0⟩
 . simp only[di] at hv;obtain⟨d,_,rfl⟩:=hv;exact .inr ⟨g,cur,d,hg,hn,hm,by omega,by rw[eR] at ht;exact ht⟩
theorem Rw.mk{cur:Array Value}(d:w.heap[g]?=some (.cells cur 5 (0,0)))(f:l.length<=cap)(e:cap<=maxLen)(i:cur.size=cap)(h:cur.toList.take l.length=vb l):Rw w (some ⟨g,0,none⟩) cap l:=
 ⟨by rw[jO,eR],.inr ⟨g,cap,cur,rfl,an _,d,f,e,by omega,by rw[eR];exact h⟩⟩
theorem Rw.lt(h:Rw w a cap l){x:Addr}(d:a=some x):x.block<w.heap.size:=by
 rcases h.cases with⟨rfl,_⟩|⟨g,cur,rfl,hg,_⟩
 . cases d
 . cases d;exact(ae.1 hg).1
theorem Rw.but(h:Rw w a cap l)(hb:But S w w')(d:∀x,a=some x->¬S x.block):Rw w' a cap l:=by
 rcases h.cases with⟨rfl,rfl,rfl⟩|⟨g,cur,rfl,hg,h1,h2,h3,h4⟩
 . exact Rw.nil w'
 . exact Rw.mk ((hb.block g (ae.1 hg).1 (d _ rfl)).trans hg) h1 h2 h3 h4
theorem Rw.keep(h:Rw w a cap l)(hb:Below w.heap.size w w'):Rw w' a cap l:=
 h.but (S:=λ_=>False) (But.ofBelow hb) (λ_ _ d=>d)
theorem Rw.cell(h:Rw w (some ⟨g,0,none⟩) cap l){i:Nat}(hi:i<l.length):w.cell? ⟨g,i,none⟩=some (.int .u8 ((l.getD i 0:Nat):Int)):=by
 rcases h.cases with⟨h0,_⟩|⟨g',cur,h0,hg,h1,h2,h3,h4⟩
 . cases h0
 . simp only[au,Addr.mk.injEq] at h0;obtain⟨rfl,_⟩:=h0;rw[ai _ _ _ _ _ _ hg,<-vO l i hi,<-h4,d5,if_pos hi];simp
theorem Rw.bs(h:Rw w a cap l)(e:∀x∈l,x<256)(f:l.length<=9223372036854775807):Bs w a l:=by
 refine⟨e,f,?_⟩;rcases h.cases with⟨rfl,rfl,rfl⟩|⟨g,cur,rfl,hg,h1,h2,h3,h4⟩
 . exact .inl rfl
 . exact .inr ⟨g,0,rfl,λi d=>by rw[de];exact h.cell d⟩
theorem Rw.len_le(h:Rw w a cap l):l.length<=9223372036854775807:=by
 rcases h.cases with⟨rfl,rfl,rfl⟩|⟨g,cur,rfl,hg,h1,h2,h3,h4⟩
 . simp
 . unfold maxLen at h2;omega
def New(w:World)(a a':Option Addr):Prop:=∀x,a'=some x->(∃y,a=some y/\y.block=x.block)\/w.heap.size<=x.block
theorem New.refl(w:World)(a:Option Addr):New w a a:=λx d=>.inl ⟨x,d,rfl⟩
theorem New.none(w:World)(a:Option Addr):New w a Option.none:=λx d=>by cases d
theorem New.trans{b c:Option Addr}(h:New w a b)(k:New w1 b c)(f:w.heap.size<=w1.heap.size):New w a c:=by
 intro x d;rcases k x d with⟨y,hy,e⟩|h1
 . rcases h y hy with⟨z,hz,e2⟩|h2
   . exact .inl ⟨z,hz,e2.trans e⟩
   . exact .inr (by omega)
 . exact .inr (by omega)
theorem New.mono{b:Option Addr}(h:New w1 a b)(d:w.heap.size<=w1.heap.size):New w a b:=(New.refl w a).trans h d
theorem wa:(prog.info? 5).map (λi=>(i.zero,i.size,i.bytes))=some (some (.int .u8 0),1,1):=by kernel_rfl
theorem Ez(w:World)(r:TypeId)(a:Option Addr)(n cap:Nat)(l:List Nat)(C:n=l.length)(v:Rw w a cap l)(h:Addr)(c x:Nat)(A:w.cell? h=some (.int .u8 ((x:Nat):Int)))(J:l.length+1<=140737488355328):
 ∃g f w',(Builtin.append_ #[37,37] r #[.slice a n cap,.slice (some h) 1 c]).run prog w=.ok (.slice (some ⟨g,0,none⟩) (n+1) f) w'/\
  Rw w' (some ⟨g,0,none⟩) f (l++[x])/\New w a (some ⟨g,0,none⟩)/\w.grownBy w' (a.map Addr.block)/\g<w'.heap.size:=by
 subst C;obtain⟨F,B,G,H,I⟩:=eo wa
 obtain⟨g,f,w',D,s,i,h3,t⟩:=fD (P:=prog) w 37 r 0 5 F (.int .u8 0) 1 1 underlying37 B G H I rfl (by decide) (.slice a l.length cap) l.length (vb l) v h 1 c [.int .u8 ((x:Nat):Int)] rfl
  (by intro j u d
      match j,d with
      |0,d=>simp at d;subst d;simpa[Addr.add] using A) (by intro u m;simp at m;subst m;rfl) (by decide) (by unfold maxLen;omega) (by omega) (an _) w.heap.size rfl
 rw[pD] at i h3;refine⟨g,f,w',D,?_,?_,i,t⟩
 . unfold Rw;rw[ti,af];exact s
 . intro y q;simp only[au] at q;subst q;rcases h3 with h3|h3
   . obtain⟨z,E,e⟩:=map_some h3;exact .inl ⟨z,E,e⟩
   . exact .inr (by show _<=g;omega)
theorem Gh{w:World}{o:Oper}{a:Act}{K:Act->World->Prop}{Q:Exit->Act->World->Prop}(s x:Operand)
 (A:o.op=.call {callee:=.builtin .append,args:=#[s,x],argTypes:=#[37,37]}) (d:Option Addr) (n cap:Nat) (l:List Nat) (C:a.eval s=.slice d n cap) (y:n=l.length) (t:Rw w d cap l)
 (f:Addr) (c i:Nat) (D:a.eval x=.slice (some f) 1 c) (v:w.cell? f=some (.int .u8 ((i:Nat):Int))) (E:l.length+1<=140737488355328)
 (h:∀g e w',Rw w' (some ⟨g,0,none⟩) e (l++[i])->New w d (some ⟨g,0,none⟩)->w.grownBy w' (d.map Addr.block)->g<w'.heap.size->K (a.put o.dst (.slice (some ⟨g,0,none⟩) (n+1) e)) w'):o.wp prog a w K Q:=by
 obtain⟨g,e,w',B,j,m,q,r⟩:=Ez w o.type d n cap l y t f c i v E;unfold Oper.wp execOp;simp only[A,resolve,invoke,builtin,eu,ey,dP,eB,bT,eG,C,D,B];exact h g e w' j m q r
theorem qY{w:World}{j:Array Oper}{m:List Oper}{o:Oper}{a:Act}{Q:Exit->Act->World->Prop}(G:o.guard=none)(s x:Operand)
 (D:o.op=.call {callee:=.builtin .append,args:=#[s,x],argTypes:=#[37,37]}) (d:Option Addr) (n cap:Nat) (l:List Nat) (E:a.eval s=.slice d n cap) (C:n=l.length) (A:Rw w d cap l)
 (f:Addr) (c i:Nat) (F:a.eval x=.slice (some f) 1 c) (B:w.cell? f=some (.int .u8 ((i:Nat):Int))) (H:l.length+1<=140737488355328)
 (h:∀g e w',Rw w' (some ⟨g,0,none⟩) e (l++[i])->New w d (some ⟨g,0,none⟩)->w.grownBy w' (d.map Addr.block)->g<w'.heap.size->wpList prog j Q m (a.put o.dst (.slice (some ⟨g,0,none⟩) (n+1) e)) w'):wpList prog j Q (o::m) a w:=
 fP G λ_ y=>Gh s x D d n cap l E C A f c i F B H λg e w' q r t v=>y _ _ (h g e w' q r t v)
theorem EP(w:World)(D:TypeId)(a:Option Addr)(n cap:Nat)(l:List Nat)(L:n=l.length)(s:Rw w a cap l)(B:Option Addr)(m c:Nat)(lb:List Nat)(K:m=lb.length)(I:Bs w B lb)(W:l.length+lb.length<=140737488355328):
 ∃d f w',(Builtin.append_ #[37,37] D #[.slice a n cap,.slice B m c]).run prog w=.ok (.slice d (n+m) f) w'/\
  Rw w' d f (l++lb)/\New w a d/\w.grownBy w' (a.map Addr.block)/\(a≠none->d≠none):=by
 subst L K;obtain⟨O,t,R,x,U⟩:=eo wa;by_cases i:lb=[]
 . subst i
   have E:∀z:Option Addr,(Builtin.firstCells 1 0 (.slice z 0 c)).run prog w=.ok #[] w:=by
    intro z;cases z with
    |none=>rfl
    |some z=>simp[Builtin.firstCells,loadCells,loadCellsFrom]
   refine⟨a,cap,w,?_,by simpa using s,New.refl _ _,⟨rfl,rfl,rfl,am _,λ_ _ _=>rfl⟩,id⟩
   rcases s.cases with⟨rfl,rfl,rfl⟩|⟨g,cur,rfl,hg,q,r,h3,H⟩
   . simp[Builtin.append_,dU underlying37,sizeOf,typeInfo,t,x,Builtin.lenOf,E]
   . simp[Builtin.append_,dU underlying37,sizeOf,typeInfo,t,x,Builtin.lenOf,E,q,storeCells]
 . rcases I.2.2 with h|⟨b,A,rfl,J⟩
   . exact absurd h i
   . have V:0<lb.length:=bY.2 i
     obtain⟨g,f,w',M,q,r,h3,H⟩:=fD (P:=prog) w 37 D 0 5 O (.int .u8 0) 1 1 underlying37 t R x U rfl (by decide) (.slice a l.length cap) l.length (vb l) s ⟨b,A,none⟩ lb.length c (vb lb) (by rw[jO,eR])
      (by intro j u v
          have F:j<lb.length:=by
           have:=(bA.1 v).1;rwa [jO] at this
          rw[vO lb j F,au] at v;subst v;have G:(⟨b,A,none⟩:Addr).add j=⟨b,A+j,none⟩:=by unfold Addr.add;split<;>simp_all
          rw[G];exact J j F) (Ao lb) V (by unfold maxLen;omega) (by omega) (an _) w.heap.size rfl
     rw[pD] at r h3;refine⟨_,f,w',M,?_,?_,r,λ_=>by simp⟩
     . unfold Rw;rw[ti,af];exact q
     . intro y C;simp only[au] at C;subst C;rcases h3 with h3|h3
       . obtain⟨z,N,e⟩:=map_some h3;exact .inl ⟨z,N,e⟩
       . exact .inr (by show _<=g;omega)
theorem Gx{w:World}{o:Oper}{a:Act}{K:Act->World->Prop}{Q:Exit->Act->World->Prop}(s x:Operand)
 (C:o.op=.call {callee:=.builtin .append,args:=#[s,x],argTypes:=#[37,37]}) (e:Option Addr) (n cap:Nat) (l:List Nat) (E:a.eval s=.slice e n cap) (B:n=l.length) (y:Rw w e cap l)
 (i:Option Addr) (m c:Nat) (lb:List Nat) (F:a.eval x=.slice i m c) (A:m=lb.length) (v:Bs w i lb) (G:l.length+lb.length<=140737488355328)
 (h:∀d f w',Rw w' d f (l++lb)->New w e d->w.grownBy w' (e.map Addr.block)->(e≠none->d≠none)->K (a.put o.dst (.slice d (n+m) f)) w'):o.wp prog a w K Q:=by
 obtain⟨d,f,w',D,j,q,r,t⟩:=EP w o.type e n cap l B y i m c lb A v G;unfold Oper.wp execOp;simp only[C,resolve,invoke,builtin,eu,ey,dP,eB,bT,eG,E,F,D];exact h d f w' j q r t
theorem jP{w:World}{j:Array Oper}{q:List Oper}{o:Oper}{a:Act}{Q:Exit->Act->World->Prop}(I:o.guard=none)(s x:Operand)
 (F:o.op=.call {callee:=.builtin .append,args:=#[s,x],argTypes:=#[37,37]}) (e:Option Addr) (n cap:Nat) (l:List Nat) (G:a.eval s=.slice e n cap) (E:n=l.length) (C:Rw w e cap l)
 (i:Option Addr) (m c:Nat) (lb:List Nat) (H:a.eval x=.slice i m c) (D:m=lb.length) (A:Bs w i lb) (J:l.length+lb.length<=140737488355328)
 (h:∀d f w',Rw w' d f (l++lb)->New w e d->w.grownBy w' (e.map Addr.block)->(e≠none->d≠none)->wpList prog j Q q (a.put o.dst (.slice d (n+m) f)) w'):wpList prog j Q (o::q) a w:=
 fP I λ_ B=>Gx s x F e n cap l G E C i m c lb H D A J λd f w' r t v y=>B _ _ (h d f w' r t v y)
end Go.Proofs.YteaogidofpfmmaaGreat
namespace Go.Proofs.YteaogidofpfmmaaGreat
open Tryz
def iy:List Nat->List Nat->Int
 | [],[]=>0
 | [],_::_=> -1
 |_::_,[]=>1
 |x::xs,y::ys=>if x<y then -1 else if y<x then 1 else iy xs ys
theorem lm:∀l,iy l l=0
 | []=>rfl
 |x::l=>by simp[iy,lm l]
theorem r9:∀{a b},iy a b=0->a=b
 | [],[],_=>rfl
 | [],_::_,h=>by simp[iy] at h
 |_::_,[],h=>by simp[iy] at h
 |x::xs,y::ys,h=>by
  simp only[iy] at h;split at h
  . cases h
  . split at h
    . cases h
    . rw[r9 h,show x=y by omega]
theorem tB{a b:List Nat}:iy a b=0↔a=b:=⟨r9,λh=>by rw[h];exact lm b⟩
theorem t6:∀a b,iy b a= -iy a b
 | [],[]=>rfl
 | [],_::_=>rfl
 |_::_,[]=>rfl
 |x::xs,y::ys=>by
  simp only[iy];by_cases h:x<y
  . simp[h,show ¬y<x by omega]
  . by_cases h2:y<x
    . simp[h,h2]
    . simp[h,h2,t6 xs ys]
theorem pp(a b:List Nat)(j:Nat)(c:j<a.length)(hb:j<b.length):iy (a.drop j) (b.drop j)=if a.getD j 0<b.getD j 0 then -1 else if b.getD j 0<a.getD j 0 then 1 else iy (a.drop (j+1)) (b.drop (j+1)):=by
 rw[df c,df hb];simp[iy,c,hb]
theorem oC(a b:List Nat)(j:Nat)(h:a.length<=j\/b.length<=j)(g:j<=a.length)(i:j<=b.length):iy (a.drop j) (b.drop j)=if a.length<b.length then -1 else if b.length<a.length then 1 else 0:=by
 by_cases d:a.length<b.length
 . have:j=a.length:=by omega
   subst this;rw[if_pos d,fR];obtain⟨x,c,e⟩:∃x c,b.drop a.length=x::c:=⟨_,_,df d⟩;rw[e];rfl
 . by_cases f:b.length<a.length
   . have:j=b.length:=by omega
     subst this;rw[if_neg d,if_pos f,fR];obtain⟨x,c,e⟩:∃x c,a.drop b.length=x::c:=⟨_,_,df f⟩;rw[e];rfl
   . rw[if_neg d,if_neg f,show a.drop j=[] by simp;omega,show b.drop j=[] by simp;omega];rfl
def nanb(x:Nat):Bool:=decide (9218868437227405312<x%9223372036854775808)
def one(x:Nat):Nat:=if nanb x then 9221120237041090561 else x
def Ei(x:Nat):Nat:=if 9223372036854775808<=one x then 18446744073709551615-one x else one x+9223372036854775808
def hb(x:Nat):Nat->List Nat
 |0=>[]
 |n+1=>x/256^n%256::hb x n
def wd(y:Nat):Nat:=if h:y=0 then 0 else wd (y/256)+1
structure VV where
 kind:Int
 bool:Bool
 int:Int
 real:Nat
 re:Nat
 im:Nat
 text:ByteArray
def tl(s:ByteArray):List Nat:=s.data.toList.map UInt8.toNat
def esc:List Nat->List Nat
 | []=>[]
 |x::l=>if x=0 then 0::255::esc l else x::esc l
def iw(x:Int):Nat:=if 0<=x then wd x.toNat else wd (-1-x).toNat
def ub(x:Int):Nat:=(x%18446744073709551616).toNat
def VV.bytes(v:VV):List Nat:=
 if v.kind=0 then [1]
 else if v.kind=1 then [if v.bool then 3 else 2]
 else if v.kind=2 then (if 0<=v.int then 32+iw v.int else 31-iw v.int)::hb (ub v.int) (iw v.int)
 else if v.kind=3 then 48::hb (Ei v.real) 8
 else if v.kind=4 then 56::(hb (Ei v.re) 8++hb (Ei v.im) 8)
 else if v.kind=5 then 64::(esc (tl v.text)++[0])
 else []
def enc(l:List VV):List Nat:=(l.map VV.bytes).flatten
end Go.Proofs.YteaogidofpfmmaaGreat
namespace Go.Proofs.YteaogidofpfmmaaGreat
open Tryz
open Go.RowKit
variable {p:List Nat}{j:Nat}{aa:Option Addr}{w:World}
theorem drN(w:World)(n:Nat):Below w.heap.size w (w.drewN n):=⟨rfl,rfl,rfl,am _,λ_ _=>rfl⟩
theorem iQ{x:Int}(h: -9223372036854775808<=x)(a:x<=9223372036854775807):IntKind.i64.wrap x=x:=by rw[IntKind.wrap_i64];omega
theorem w64(h:j<9223372036854775807):wrap64 ((j:Int)+1)=(j:Int)+1:=by unfold wrap64;omega
theorem eqf{k c:Int}(h:k≠c):(k==c)=false:=beq_eq_false_iff_ne.2 h
theorem Bs.at(d:Bs w aa p)(c:j<p.length):∃b a,aa=some ⟨b,a,none⟩/\w.cell? ⟨b,a+j,none⟩=some (.int .u8 ((p.getD j 0:Nat):Int)):=by
 rcases d.2.2 with rfl|⟨b,a,rfl,e⟩
 . simp at c
 . exact⟨b,a,rfl,e j c⟩
theorem jr(n j:Nat)(x:Int)(a:x=(j:Int)+1)(h:j<n):n-(intOf (.int .i64 x)).toNat<n-(intOf (.int .i64 (j:Int))).toNat:=by
 subst a;simp only[intOf];omega
theorem rT{b f:World}{a c:Option Addr}{o:Obj}(d:New w none a)(hb:Below w.heap.size w b)(g:(b.alloc o).grownBy f (a.map Addr.block))(l:New (b.alloc o) a c):New w none c/\Below w.heap.size w f:=by
 refine⟨d.trans l (by rw[size_alloc];have:=hb.size;omega),?_⟩
 refine(hb.alloc hb.size o).grown g (by rw[size_alloc];have:=hb.size;omega) λk hk=>?_
 obtain⟨x,i,e⟩:=map_some hk;rcases d x i with⟨y,hy,_⟩|h
 . cases hy
 . omega
theorem sg(l c:Nat)(i:l<=c)(h:c<=281474976710656)(w:World):(Instr.makeSlice 37 (.int .i64 (l:Int)) (.int .i64 (c:Int))).run prog w=.ok (.slice (some ⟨w.heap.size,0,none⟩) l c) (w.alloc (.cells (madeCells #[.int .u8 0] c) 5)):=by
 obtain⟨d,b,e,f,g⟩:=eo wa;have a:=run_make (P:=prog) w 37 5 d (.int .u8 0) underlying37 b e .i64 .i64 l c (by omega) (by omega) (by rw[g];omega) (by omega)
 simp only[e8,f,eR] at a;exact a
theorem sc{e:World}(f:Bs w aa p)(hb:Below w.heap.size w e)(c:j<p.length):∃b a,aa=some ⟨b,a,none⟩/\e.cell? ⟨b,a+j,none⟩=some (.int .u8 ((p.getD j 0:Nat):Int)):=by
 rcases f.2.2 with rfl|⟨b,a,rfl,d⟩
 . simp at c
 . exact⟨b,a,rfl,(hb.cell (p:=⟨b,a+j,none⟩) (block_lt_of_cell (d j c))).trans (d j c)⟩
theorem jw(w:World)(aa:Option Addr)(n I:Nat)(p:List Nat)(k:Bs w aa p)(F:n=p.length)(R:p.length<=140737488355328):
 Calls prog 73 #[.slice aa n I] w λx s=>∃e d,x=.returned (.slice e n d)/\Rw s e d p/\New w none e/\Below w.heap.size w s:=by
 subst F;have O:∀w:World,(Instr.makeSlice 37 (.int .i64 0) (.int .i64 (p.length:Int))).run prog w=.ok (.slice (some ⟨w.heap.size,0,none⟩) 0 p.length) (w.alloc (.cells (madeCells #[.int .u8 0] p.length) 5)):=sg 0 p.length (an _) (by omega)
 have A:=ix k;clear k;go_enter func73,ntmps73;go_wp2;go_loopw [3,4] (λv i t=>∃(j:Nat)(a:Option Addr)(c:Nat),j<=p.length/\i=.int .i64 j/\v=.slice a j c/\(Rw t a c (p.take j)/\New w none a/\Below w.heap.size w t)) (λ_ i _=>p.length-(intOf i).toNat)
 case atStart=>exact⟨0,some ⟨w.heap.size,0,none⟩,p.length,an _,rfl,rfl,Rw.mk (cur:=madeCells #[.int .u8 0] p.length) (bj _ _) (an _) (by unfold maxLen;omega) (size_madeCells _ _) (by simp[vb]),λx r=>.inr (by simp only[au] at r;subst r;exact am _),(Below.refl _ _).alloc (am _) _⟩
 case round=>
  obtain⟨j,a,c,K,rfl,rfl,l⟩:=hrel;have b:=ix l;clear l;by_cases y:j<p.length
  . have J:(j:Int)<(p.length:Int):=by omega
    obtain⟨bs,P,rfl,H⟩:=sc A.o b.o.2.2 y;have C:Hid (p.take j++[p.getD j 0]=p.take (j+1)):=As p y;have G:(p.take j).length=j:=by rw[dm];omega
    have N:=block_lt_of_cell H;generalize p.getD j 0=x at *;generalize p.take j=L at *;go_wp2_with (at_builtin;refine qY rfl _ _ rfl a j c L rfl G.symm (b.o.1.keep ((Below.refl _ _).alloc (am _) _)) ⟨wr.heap.size,0,none⟩ 1 x rfl ?c1 (by omega) ?_)
    try case c1=>simp
    intro g d M f m q _;obtain⟨D,E⟩:=rT b.o.2.1 b.o.2.2 q m;rw[C.o] at f;have B:=ix f;clear f m q;go_wp2;go_roundw
    case rel=>exact⟨j+1,_,d,by omega,by go_num,rfl,B.o,D,E⟩
    case measure=>simp[intOf];omega
  . obtain rfl:j=p.length:=by omega
    go_wp2;go_ret;refine⟨a,c,rfl,?_⟩;have h:=b.o;rw[du] at h;exact h
theorem run_eql_slice_nil(a:Option Addr)(l c:Nat)(w:World):(binOp .eql 37 (.slice a l c) (.slice none 0 0)).run prog w=.ok (.bool a.isNone) w:=by
 simp only[binOp];simp[run_equal_slice_nil w 37 5 a l c underlying37]
theorem jo(w:World)(aa q:Option Addr)(n m J K:Nat)(l k:List Nat)(f:Bs w aa l)(g:Bs w q k)(D:n=l.length)(C:m=k.length):
 Calls prog 37 #[.slice aa n J,.slice q m K] w λx G=>x=.returned (.int .i64 (iy l k))/\Below w.heap.size w G:=by
 subst D C;have T:=f.2.1;have U:=g.2.1;have A:=ix f;have B:=ix g;clear f g;go_enter func37,ntmps37;go_wp2;go_loopw [5] (λi H=>∃j:Nat,j<=l.length/\j<=k.length/\i=.int .i64 j/\(Below w.heap.size w H/\iy (l.drop j) (k.drop j)=iy l k)) (λi _=>l.length-(intOf i).toNat)
 case atStart=>exact⟨0,an _,an _,rfl,Below.refl _ _,rfl⟩
 case round=>
  obtain⟨j,M,S,rfl,s⟩:=hrel;have a:=ix s;clear s;by_cases d:j<l.length
  . by_cases v:j<k.length
    . have h:(j:Int)<(l.length:Int):=by omega
      have t:(j:Int)<(k.length:Int):=by omega
      have e:=ix (pp l k j d v);obtain⟨ba,N,rfl,P⟩:=sc A.o a.o.1 d;obtain⟨L,O,rfl,R⟩:=sc B.o a.o.1 v;have I:=w64 (j:=j) (by omega)
      generalize l.getD j 0=x at *;generalize k.getD j 0=y at *;by_cases c:x<y
      . have E:(x:Int)<(y:Int):=by omega
        have b:Hid (iy l k= -1):=by rw[<-a.o.2,e.o,if_pos c];exact rfl
        go_wp2;go_quiet (fail)
        go_wp2;go_ret;exact⟨by rw[b.o];first|done|rfl,bt a.o.1 (drN _ _)⟩
      . have E:¬(x:Int)<(y:Int):=by omega
        by_cases r:y<x
        . have F:(y:Int)<(x:Int):=by omega
          have b:Hid (iy l k=1):=by rw[<-a.o.2,e.o,if_neg c,if_pos r];exact rfl
          go_wp2;go_quiet (fail)
          go_wp2;go_quiet (fail)
          go_wp2;go_ret;exact⟨by rw[b.o];first|done|rfl,bt (bt a.o.1 (drN _ _)) (drN _ _)⟩
        . have F:¬(y:Int)<(x:Int):=by omega
          have b:Hid (iy (l.drop (j+1)) (k.drop (j+1))=iy l k):=by rw[<-a.o.2,e.o,if_neg c,if_neg r];exact rfl
          go_wp2;go_quiet (fail)
          go_wp2;go_quiet (fail)
          go_wp2;go_roundw
          case rel=>exact⟨j+1,by omega,by omega,bf (Value.int IntKind.i64) (by omega),bt a.o.1 (drN _ _),b.o⟩
          case measure=>first|exact jr _ _ _ I d|exact jr _ _ _ rfl d
    . obtain rfl:j=k.length:=by omega
      have h:((k.length:Nat):Int)<(l.length:Int):=by omega
      have b:Hid (iy l k=1):=by rw[<-a.o.2,oC l k k.length (.inr (am _)) (by omega) (am _),if_neg (by omega),if_pos (by omega)];exact rfl
      have t:¬(l.length:Int)<(k.length:Int):=by omega
      go_wp2;go_ret;exact⟨by rw[b.o];first|done|rfl,a.o.1⟩
  . obtain rfl:j=l.length:=by omega
    by_cases c:l.length<k.length
    . have h:((l.length:Nat):Int)<(k.length:Int):=by omega
      have b:Hid (iy l k= -1):=by rw[<-a.o.2,oC l k l.length (.inl (am _)) (am _) (by omega),if_pos (by omega)];exact rfl
      go_wp2;go_ret;exact⟨by rw[b.o];first|done|rfl,a.o.1⟩
    . have h:¬((l.length:Nat):Int)<(k.length:Int):=by omega
      have t:¬((k.length:Nat):Int)<(l.length:Int):=by omega
      have b:Hid (iy l k=0):=by rw[<-a.o.2,oC l k l.length (.inl (am _)) (am _) (by omega),if_neg (by omega),if_neg (by omega)];exact rfl
      go_wp2;go_ret;exact⟨by rw[b.o];first|done|rfl,a.o.1⟩
theorem jY(w:World)(aa b:Option Addr)(n m r s:Nat)(l k:List Nat)(f:Bs w aa l)(g:Bs w b k)(q:n=l.length)(i:m=k.length):
 Calls prog 13 #[.slice aa n r,.slice b m s] w λx t=>x=.returned (.bool (decide (l=k)))/\Below w.heap.size w t:=by
 have R:=ix (jo w aa b n m r s l k f g q i);clear f g q i;by_cases h:l=k
 . have a:decide (l=k)=true:=ar h;rw[a];have d:iy l k=0:=tB.2 h;rw[d] at R;clear a d h;go_enter func13,ntmps13;go_wp2_with fail
   refine R.o.mono ?_;rintro e v ⟨rfl,hb⟩;go_wp2;go_ret;exact⟨rfl,hb⟩
 . have a:decide (l=k)=false:=ah h;rw[a];have d:(iy l k==0)=false:=eqf λe=>h (r9 e)
   clear a h;generalize iy l k=c at *;go_enter func13,ntmps13;go_wp2_with fail
   refine R.o.mono ?_;rintro e v ⟨rfl,hb⟩;go_wp2;go_ret;exact⟨by simp_all,hb⟩
theorem lH(w:World)(aa a:Option Addr)(n m c d:Nat)(l:List Nat)(e:Bs w aa l)(f:Bs w a l)(i:n=l.length)(g:m=l.length):
 Calls prog 13 #[.slice aa n c,.slice a m d] w λx b=>x=.returned (.bool true)/\Below w.heap.size w b:=
 (jY w aa a n m c d l l e f i g).mono λx b h=>⟨by rw[h.1];simp,h.2⟩
end Go.Proofs.YteaogidofpfmmaaGreat
namespace Go.Proofs.YteaogidofpfmmaaGreat
open Tryz
variable {a b k l x:List Nat}
theorem mf:∀a b:List Nat,iy a b=if a<b then -1 else if b<a then 1 else 0
 | [],[]=>by simp[iy]
 | [],_::_=>by simp[iy]
 |_::_,[]=>by simp[iy]
 |x::xs,y::ys=>by
  simp only[iy,dZ,mf xs ys];by_cases h:x<y
  . simp[h]
  . by_cases h2:y<x
    . have c:¬x=y:=by omega
      simp[h,h2,c]
    . have c:x=y:=by omega
      simp[c]
theorem kw{a b:List Nat}:iy a b<0↔a<b:=by
 rw[mf];split
 . simp_all
 . split<;>simp_all
theorem Fu:iy a b= -1↔a<b:=by
 rw[mf];split
 . simp_all
 . split<;>simp_all
theorem qL{a b:List Nat}:0<iy a b↔b<a:=by
 rw[mf];split
 . rename_i h;have:¬b<a:=by grind
   simp[this]
 . split<;>simp_all
theorem Fo:iy a b=1↔b<a:=by
 rw[mf];split
 . rename_i h;have:¬b<a:=by grind
   simp[this]
 . split<;>simp_all
theorem kS:iy a b<=0↔a<=b:=by
 have:= @qL a b;have h:a<=b↔¬b<a:=by grind
 rw[h,<-this];omega
theorem sB:0<=iy a b↔b<=a:=by
 have:= @kw a b;have h:b<=a↔¬a<b:=by grind
 rw[h,<-this];omega
def B8(l:List Nat):Prop:=∀x∈l,x<256
theorem B8.nil:B8 []:=λx h=>by cases h
theorem B8.cons{x:Nat}:B8 (x::l)↔x<256/\B8 l:=by simp[B8]
theorem B8.app:B8 (k++l)↔B8 k/\B8 l:=by
 unfold B8;constructor
 . intro h;exact⟨λx c=>h x (eD _ c),λx c=>h x (dQ _ c)⟩
 . rintro⟨h1,h2⟩ x c;rcases bO.1 c with h|h;exact h1 x h;exact h2 x h
theorem B8.take(h:B8 l)(n:Nat):B8 (l.take n):=λx c=>h x (ig c)
def isK(k:List Nat):Bool:=decide (0<k.length)&&decide (k.length<=24)
theorem nY:isK k=true↔0<k.length/\k.length<=24:=by simp[isK]
def KK(k:List Nat):Prop:=isK k=true/\B8 k
def beh:List Nat->List Nat
 | []=>[]
 |x::p=>if beh p=[] then (if x=255 then [] else [x+1]) else x::beh p
theorem tX:∀p y:List Nat,B8 p->B8 y->((p<=y/\(beh p=[]\/y<beh p))↔∃r,y=p++r)
 | [],y,_,_=>by simp[beh]
 |x::p,[],_,_=>by simp
 |x::p,z::y,hp,hy=>by
  have ih:=tX p y (B8.cons.1 hp).2 (B8.cons.1 hy).2;have j:=(B8.cons.1 hp).1;have m:=(B8.cons.1 hy).1;simp only[beh,fJ,b7,eJ];by_cases hb:beh p=[]
  . simp only[hb,if_true,true_or,d9] at ih ⊢;by_cases e:x=255
    . simp only[e,if_true,true_or,d9];constructor
      . rintro(h|⟨rfl,h⟩)
        . omega
        . obtain⟨r,rfl⟩:=ih.1 h;exact⟨r,rfl,rfl⟩
      . rintro⟨r,rfl,rfl⟩;exact .inr ⟨rfl,ih.2 ⟨r,rfl⟩⟩
    . simp only[e,if_false,List.cons_ne_nil,false_or,dZ];constructor
      . rintro⟨d,c⟩;have f:¬y<[]:=by simp
        have i:z<x+1:=by
         rcases c with c|⟨_,c⟩
         . exact c
         . exact absurd c f
        rcases d with d|⟨rfl,d⟩
        . omega
        . obtain⟨r,rfl⟩:=ih.1 d;exact⟨r,rfl,rfl⟩
      . rintro⟨r,rfl,rfl⟩;exact⟨.inr ⟨rfl,ih.2 ⟨r,rfl⟩⟩,.inl (by omega)⟩
  . simp only[hb,if_false,List.cons_ne_nil,false_or,dZ] at ih ⊢;constructor
    . rintro⟨d,c⟩;have g:x=z:=by omega
      subst g;simp only[fZ,true_and,false_or] at d c;obtain⟨r,rfl⟩:=ih.1 ⟨d,c⟩;exact⟨r,rfl,rfl⟩
    . rintro⟨r,rfl,rfl⟩;have:=ih.2 ⟨r,rfl⟩;exact⟨.inr ⟨rfl,this.1⟩,.inr ⟨rfl,this.2⟩⟩
theorem Bw:∀p:List Nat,B8 p->B8 (beh p)
 | [],_=>B8.nil
 |x::p,h=>by
  have ih:=Bw p (B8.cons.1 h).2;have c:=(B8.cons.1 h).1;simp only[beh];split
  . split
    . exact B8.nil
    . rw[B8.cons];exact⟨by omega,B8.nil⟩
  . rw[B8.cons];exact⟨c,ih⟩
theorem xJ:∀p:List Nat,(beh p).length<=p.length
 | []=>am _
 |x::p=>by
  have ih:=xJ p;simp only[beh];split
  . split<;>simp
  . simp;exact ih
theorem zW:∀p:List Nat,beh p≠[]->p<beh p
 | [],h=>absurd rfl h
 |x::p,h=>by
  have ih:=zW p;simp only[beh] at h ⊢;by_cases hb:beh p=[]
  . rw[if_pos hb] at h ⊢;by_cases c:x=255
    . rw[if_pos c] at h;exact absurd rfl h
    . rw[if_neg c,dZ];exact .inl (by omega)
  . rw[if_neg hb,dZ];exact .inr ⟨rfl,ih hb⟩
def next(k:List Nat):List Nat:=if k.length<24 then k++[0] else beh (k.take 24)
theorem BO(k:List Nat):k<k++[0]:=by
 induction k with
 |nil=>simp
 |cons x k ih=>rw[b7,dZ];exact .inr ⟨rfl,ih⟩
theorem uA:∀k x:List Nat,k<x->k++[0]<=x
 | [],[],h=>absurd h (by simp)
 | [],y::x,_=>by
   rw[b9,fJ];by_cases h:y=0
   . exact .inr ⟨h.symm,by simp⟩
   . exact .inl (by omega)
 |z::k,[],h=>absurd h (by simp)
 |z::k,y::x,h=>by
  rw[b7,fJ];rw[dZ] at h;rcases h with h|⟨rfl,h⟩
  . exact .inl h
  . exact .inr ⟨rfl,uA k x h⟩
theorem zz:∀(n:Nat)(k x:List Nat),x.length<=n->n<=k.length->(k<x↔(k.take n<=x/\¬ ∃r,x=k.take n++r))
 |0,k,x,h,_=>by
  obtain rfl:x=[]:=dz.1 (by omega)
  simp
 |n+1,[],x,_,h2=>absurd h2 (by simp)
 |n+1,y::k,[],_,_=>by simp
 |n+1,y::k,z::x,h1,h2=>by
  have c:=zz n k x (by simpa using h1) (by simpa using h2)
  simp only[eO,b7,eJ,dZ,fJ];constructor
  . rintro(h|⟨rfl,h⟩)
    . exact⟨.inl h,by rintro⟨r,rfl,_⟩;omega⟩
    . have:=c.1 h;exact⟨.inr ⟨rfl,this.1⟩,by rintro⟨r,_,rfl⟩;exact this.2 ⟨r,rfl⟩⟩
  . rintro⟨h|⟨rfl,h⟩,h3⟩
    . exact .inl h
    . exact .inr ⟨rfl,c.2 ⟨h,λ⟨r,e⟩=>h3 ⟨r,rfl,e⟩⟩⟩
theorem An(hk:B8 k)(g:KK x):k<x↔(next k≠[]/\next k<=x):=by
 unfold next
 by_cases h:k.length<24
 . rw[if_pos h];have:=BO k;constructor
   . intro c;exact⟨by simp,uA k x c⟩
   . rintro⟨_,c⟩;grind
 . rw[if_neg h,zz 24 k x (nY.1 g.1).2 (by omega)]
   have f:=tX (k.take 24) x (hk.take 24) g.2;have i:=zW (k.take 24);constructor
   . rintro⟨c,h2⟩;have e:¬(beh (k.take 24)=[]\/x<beh (k.take 24)):=λd=>h2 (f.1 ⟨c,d⟩)
     exact⟨λd=>e (.inl d),by grind⟩
   . rintro⟨c,h2⟩;have e:=i c;refine⟨by grind,λd=>?_⟩
     rcases (f.2 d).2 with h5|h5
     . exact c h5
     . grind
theorem ur(hk:B8 k)(h:next k≠[]):KK (next k):=by
 unfold next at h ⊢
 by_cases c:k.length<24
 . rw[if_pos c];exact⟨nY.2 (by simp;omega),B8.app.2 ⟨hk,by simp[B8]⟩⟩
 . rw[if_neg c] at h ⊢;have:=xJ (k.take 24);rw[dm] at this;refine⟨nY.2 ⟨?_,by omega⟩,Bw _ (hk.take 24)⟩
   cases e:beh (k.take 24) with
   |nil=>exact absurd e h
   |cons a b=>simp
theorem Ft(hk:B8 k):B8 (next k):=by
 by_cases h:next k=[]
 . rw[h];exact B8.nil
 . exact(ur hk h).2
def jv(b:List Nat):List Nat:=if isK b then b else next b
theorem DO(hb:B8 b):B8 (jv b):=by unfold jv;split;exact hb;exact Ft hb
theorem tQ(hb:B8 b)(h:jv b≠[]):KK (jv b):=by
 unfold jv at h ⊢;split
 . rename_i c;exact⟨c,hb⟩
 . rename_i c;rw[if_neg c] at h;exact ur hb h
theorem rn(hb:B8 b)(c:KK x):b<=x↔(jv b≠[]/\jv b<=x):=by
 unfold jv;by_cases h:isK b=true
 . rw[if_pos h];have:b≠[]:=by rintro rfl;simp[isK] at h
   exact⟨λh=>⟨this,h⟩,λh=>h.2⟩
 . rw[if_neg h,<-An hb c];have:b≠x:=by rintro rfl;exact h c.1
   grind
def inc(p:List Nat):List Nat:=p.set (p.length-1) (p.getD (p.length-1) 0+1)
theorem Ds(q:List Nat)(x:Nat):inc (q++[x])=q++[x+1]:=by simp[inc]
theorem FC(p:List Nat):(inc p).length=p.length:=by simp[inc]
def sn(p:List Nat):Nat->Nat
 |0=>0
 |n+1=>if p.getD n 0=255 then sn p n else n+1
theorem pW:∀p:List Nat,beh (p++[255])=beh p
 | []=>by simp[beh]
 |x::p=>by simp[beh,pW p]
theorem ux:∀(p:List Nat)(x:Nat),x≠255->beh (p++[x])=p++[x+1]
 | [],x,h=>by simp[beh,h]
 |y::p,x,h=>by simp[beh,ux p x h]
theorem zU:∀(p:List Nat)(n:Nat),n<=p.length->beh (p.take n)=if sn p n=0 then [] else inc (p.take (sn p n))
 |p,0,_=>by simp[sn,beh]
 |p,n+1,h=>by
  have ih:=zU p n (by omega)
  have d:n<p.length:=h;have e:p.getD n 0=p[n]:=by simp[d]
  rw[bZ d];simp only[sn,e];by_cases c:p[n]=255
  . rw[if_pos c,c,pW,ih]
  . rw[if_neg c,ux _ _ c,if_neg (by omega),bZ d,Ds]
theorem Eg(p:List Nat):beh p=if sn p p.length=0 then [] else inc (p.take (sn p p.length)):=by
 have:=zU p p.length (am _);rwa [du] at this
end Go.Proofs.YteaogidofpfmmaaGreat
namespace Go.Proofs.YteaogidofpfmmaaGreat
open Tryz
open Go.RowKit
variable {l:List Nat}{cap x y:Nat}{a:Option Addr}{w wx:World}
theorem al(w:World)(o:Obj):Below w.heap.size w (w.alloc o):=(Below.refl _ _).alloc (am _) _
structure Own(w wx:World)(a:Option Addr)(cap:Nat)(l:List Nat):Prop where
 r:Rw wx a cap l
 n:New w none a
 b:Below w.heap.size w wx
theorem Own.nil(w:World)(h:Below w.heap.size w wx):Own w wx none 0 []:=⟨Rw.nil _,New.none _ _,h⟩
theorem Own.keep{b:World}(h:Own w wx a cap l)(hb:Below wx.heap.size wx b):Own w b a cap l:=⟨h.r.keep hb,h.n,bt h.b hb⟩
theorem Own.pre{b:World}(hb:Below w.heap.size w b)(h:Own b wx a cap l):Own w wx a cap l:=⟨h.r,h.n.mono hb.size,bt hb h.b⟩
theorem Own.fresh(h:Own w wx a cap l){x:Addr}(b:a=some x):w.heap.size<=x.block:=by
 rcases h.n x b with⟨y,hy,_⟩|h
 . cases hy
 . exact h
def ba(l:List Nat):ByteArray:=⟨(l.map λx=>x.toUInt8).toArray⟩
theorem oT(w:World)(b:Nat):∀(l:List Nat)(c:Nat)(d:ByteArray),(∀i,i<l.length->w.cell? ⟨b,c+i,none⟩=some (.int .u8 ((l.getD i 0:Nat):Int)))->
 (Extern.Bytes.loadBytes ⟨b,c,none⟩ l.length d).run prog w=.ok ⟨d.data++(l.map λx=>x.toUInt8).toArray⟩ w
 | [],c,d,_=>by simp[Extern.Bytes.loadBytes]
 |x::l,c,d,h=>by
  have h0:=h 0 (by simp)
  simp only[fq,dp] at h0
  have f:(load ⟨b,c,none⟩).run prog w=.ok (.int .u8 (x:Int)) w:=by
   rw[run_load,h0]
  have g:=oT w b l (c+1) (d.push x.toUInt8) (λi e=>by
   have:=h (i+1) (by simpa using e)
   rw[List.getD_cons_succ] at this;rw[show c+1+i=c+(i+1) by omega];exact this)
  simp only[a7,Extern.Bytes.loadBytes,eu,f,dP];rw[show((⟨b,c,none⟩:Addr).add 1)=⟨b,c+1,none⟩ from rfl,show(x:Int).toNat.toUInt8=x.toUInt8 from rfl,g]
  simp[ByteArray.push]
theorem pY{w:World}{a:Option Addr}{l:List Nat}{n c:Nat}(d:Bs w a l)(g:n=l.length):(Extern.Bytes.bytesOf (.slice a n c)).run prog w=.ok (ba l) w:=by
 subst g;cases a with
 |none=>
  rcases d.2.2 with rfl|⟨b,e,h,_⟩
  . rfl
  . cases h
 |some x=>
  rcases d.2.2 with rfl|⟨b,e,h,f⟩
  . rfl
  . simp only[au] at h;subst h;simp only[Extern.Bytes.bytesOf];rw[oT w b l e .empty f];simp only[ba];congr 1
    simp[ByteArray.empty,ByteArray.emptyWithCapacity];try rfl
theorem sR(l:List Nat):(ba l).size=l.length:=by simp[ba,ByteArray.size]
theorem n9(l:List Nat)(i:Nat)(hi:i<l.length):(ba l)[i]! =(l.getD i 0).toUInt8:=by
 have b:i<(ba l).size:=by rw[sR];exact hi
 rw[iu (ba l) i b];show(ba l).data[i]=_;simp[ba,hi]
theorem El(b:x<256)(c:y<256):(x.toUInt8=y.toUInt8)↔x=y:=by
 constructor
 . intro h;have:=bf UInt8.toNat h;simp at this;omega
 . rintro rfl;rfl
theorem Et(b:x<256)(c:y<256):(x.toUInt8<y.toUInt8)↔x<y:=by
 rw[UInt8.lt_iff_toNat_lt];simp;omega
theorem GZ(l k:List Nat)(s:∀x∈l,x<256)(hk:∀x∈k,x<256):Extern.BytealgCompare.cmp (ba l) (ba k)=iy l k:=by
 have c:∀i,i<l.length->l.getD i 0<256:=λi b=>by rw[pA l b];exact s _ (fp _)
 have gk:∀i,i<k.length->k.getD i 0<256:=λi b=>by rw[pA k b];exact hk _ (fp _)
 have step:∀m,m<=l.length->m<=k.length->(∀i,i<m->l.getD i 0=k.getD i 0)->iy l k=iy (l.drop m) (k.drop m):=by
  intro m;induction m with
  |zero=>intros;rfl
  |succ m ih=>
   intro d B f;rw[ih (by omega) (by omega) (λi b=>f i (by omega)),pp l k m (by omega) (by omega),f m (by omega),if_neg (by omega),if_neg (by omega)]
 unfold Extern.BytealgCompare.cmp;rw[sR,sR];split
 . rename_i i p;obtain⟨d,t,f⟩:=List.find?_range_eq_some.1 p;have C:=dB.1 t;have n:i<l.length:=by omega
   have g:i<k.length:=by omega
   rw[n9 l i n,n9 k i g] at d ⊢;have D:l.getD i 0≠k.getD i 0:=λe=>by rw[e] at d;simp at d
   rw[step i (by omega) (by omega) (λj r=>by
    have:=f j r;rw[n9 l j (by omega),n9 k j (by omega)] at this
    simp only[bne_eq_false_iff_eq,Bool.not_eq_eq_eq_not,Bool.not_true] at this;exact(El (c j (by omega)) (gk j (by omega))).1 this),pp l k i n g]
   by_cases h:l.getD i 0<k.getD i 0
   . rw[if_pos ((Et (c i n) (gk i g)).2 h),if_pos h]
   . rw[if_neg (λq=>h ((Et (c i n) (gk i g)).1 q)),if_neg h,if_pos (by omega)]
 . rename_i p;have A:=List.find?_eq_none.1 p
   have v:∀i,i<min l.length k.length->l.getD i 0=k.getD i 0:=λi b=>by
    have:=A i (dB.2 b);rw[n9 l i (by omega),n9 k i (by omega)] at this
    simp only[bne_iff_ne,ne_eq,Decidable.not_not] at this;exact(El (c i (by omega)) (gk i (by omega))).1 this
   rw[step (min l.length k.length) (by omega) (by omega) v,oC l k _ (by omega) (by omega) (by omega)]
theorem DW{b:Option Addr}{k:List Nat}(n c m d:Nat)(f:Bs w a l)(g:Bs w b k)(i:n=l.length)(h:m=k.length):(callFunc 169 #[.slice a n c,.slice b m d]).run prog w=.ok (.value (.int .i64 (iy l k))) w:=by
 rw[run_callFunc_extern func169 (by kernel_rfl) (by kernel_rfl) (by kernel_rfl) (e:=Extern.BytealgCompare.compare) (by kernel_rfl)]
 have e:Extern.BytealgCompare.compare #[.slice a n c,.slice b m d]=(do pure (goInt (Extern.BytealgCompare.cmp (<-Extern.Bytes.bytesOf (.slice a n c)) (<-Extern.Bytes.bytesOf (.slice b m d))))):=rfl
 simp only[e,eu,pY f i,pY g h,dP,ey,GZ l k f.1 g.1];rfl
theorem mV(w:World)(a b:Option Addr)(n c m d:Nat)(l k:List Nat)(f:Bs w a l)(g:Bs w b k)(i:n=l.length)(h:m=k.length):
 Calls prog 128 #[.slice a n c,.slice b m d] w λe j=>e=.returned (.int .i64 (iy l k))/\j=w:=by
 subst i h;have p:=DW l.length c k.length d f g rfl rfl;clear f g;go_enter func128,ntmps128;go_wp2;go_ret;exact⟨rfl,rfl⟩
theorem kf(w:World)(a b:Option Addr)(n c m d:Nat)(l k:List Nat)(f:Bs w a l)(g:Bs w b k)(j:n=l.length)(i:m=k.length):
 Calls prog 82 #[.slice a n c,.slice b m d] w λe p=>e=.returned (.int .i64 (iy l k))/\p=w:=by
 subst j i;have h:=ix (mV w a b l.length c k.length d l k f g rfl rfl);clear f g;go_enter func82,ntmps82;go_wp2_with fail
 refine h.o.mono ?_;rintro e q ⟨rfl,rfl⟩;go_wp2;go_ret;exact⟨rfl,rfl⟩
theorem Ag:(prog.info? 5).map (·.size)=some 1:=by kernel_rfl
theorem Bd(n:Nat):madeCells #[Value.int .u8 0] n=(List.replicate n (Value.int .u8 0)).toArray:=by
 unfold madeCells;apply Array.ext
 . simp
 . intro i b c;simp[Nat.mod_one]
theorem Hj(h:Bs w a l):B8 l:=h.1
theorem xN(w:World)(g:Nat)(h:w.heap.size<=g):New w none (some ⟨g,0,none⟩):=λx b=>.inr (by simp only[au] at b;subst b;exact h)
theorem zn(w:World)(a:Option Addr)(c:Nat)(l:List Nat)(n:Bs w a l)(q:l.length<=281474976710656):
 ∃i,(Builtin.copy_ #[37,37] 3 #[.slice (some ⟨w.heap.size,0,none⟩) l.length l.length,.slice a l.length c]).run prog (w.alloc (.cells (madeCells #[.int .u8 0] l.length) 5))=.ok (.int .i64 (l.length:Int)) i/\Own w i (some ⟨w.heap.size,0,none⟩) l.length l:=by
 by_cases f:l=[]
 . subst f;refine⟨_,run_copy_none (P:=prog) _ 37 37 3 5 _ a _ _ _ c underlying37 Ag (by simp),?_,xN w _ (am _),al _ _⟩
   exact Rw.mk (cur:=madeCells #[.int .u8 0] 0) (bj _ _) (am _) (an _) (size_madeCells _ _) (by simp[vb])
 . rcases n.2.2 with m|⟨b,k,rfl,g⟩
   . exact absurd m f
   . have h:=run_copy_row (P:=prog) (w.alloc (.cells (madeCells #[.int .u8 0] l.length) 5)) 37 37 3 5 w.heap.size 0 l.length l.length ⟨b,k,none⟩ l.length c (madeCells #[.int .u8 0] l.length) 5 (vb l) underlying37 Ag (bj _ _) (by rw[jO];show _=min _ _;omega)
      (λj v d=>by
        have e:j<l.length:=by
         have:=(bA.1 d).1;rwa [jO] at this
        rw[vO l j e,au] at d;subst d;rw[Addr.add_mid];exact((al w _).cell (p:=⟨b,k+j,none⟩) (block_lt_of_cell (g j e))).trans (g j e)) (by rw[jO,size_madeCells];omega) (Ao l)
     rw[jO] at h;refine⟨_,h,?_,xN w _ (am _),below_setRow (al _ _) (am _) _⟩;refine Rw.mk (cur:=(vb l).toArray) ?_ (am _) (by unfold maxLen;omega) (by simp[jO]) (by simp[<-jO l])
     rw[bu _ _ _ _ _ _ (bj w _)];simp[Bd]
theorem mJ(w:World)(a:Option Addr)(n c:Nat)(l:List Nat)(b:Bs w a l)(h:n=l.length)(f:l.length<=281474976710656):
 Calls prog 131 #[.slice a n c] w λe i=>e=.returned (.slice (some ⟨w.heap.size,0,none⟩) l.length l.length)/\Own w i (some ⟨w.heap.size,0,none⟩) l.length l:=by
 subst h;have m:=sg l.length l.length (am _) f;obtain⟨k,j,d⟩:=zn w a c l b f;have g:=ix d;clear b d;go_enter func131,ntmps131;go_wp2;go_ret;exact⟨rfl,g.o⟩
theorem sy(w:World)(a:Option Addr)(n c:Nat)(l:List Nat)(h:Bs w a l)(s:n=l.length)(C:l.length<140737488355328):
 Calls prog 192 #[.slice a n c] w λe t=>∃d f,e=.returned (.slice d (l++[0]).length f)/\Own w t d f (l++[0]):=by
 subst s;have q:=ix (mJ w a l.length c l h rfl (by omega))
 clear h;go_enter func192,ntmps192;go_wp2_with fail
 refine q.o.mono ?_;rintro e v ⟨rfl,m⟩;have b:=ix m;clear m;go_wp2_with (at_builtin;refine qY rfl _ _ rfl (some ⟨w.heap.size,0,none⟩) l.length l.length l rfl rfl (b.o.r.keep (al _ _)) ⟨v.heap.size,0,none⟩ 1 0 rfl ?c1 (by omega) ?_)
 try case c1=>simp
 intro g A B j i k _;have p:=rT b.o.n b.o.b k i;have r:=ix j;clear j i k;go_wp2;go_ret;exact⟨_,A,by simp,r.o,p.1,p.2⟩
theorem Rw.set{g:Nat}(h:Rw w (some ⟨g,0,none⟩) cap l)(i x:Nat):Rw (w.setCell ⟨g,i,none⟩ (.int .u8 (x:Int))) (some ⟨g,0,none⟩) cap (l.set i x):=by
 rcases h.cases with⟨h0,_⟩|⟨g',cur,h0,hg,h1,h2,h3,h4⟩
 . cases h0
 . simp only[au,Addr.mk.injEq] at h0;obtain⟨rfl,_⟩:=h0;refine Rw.mk (cur:=cur.setIfInBounds i (.int .u8 (x:Int))) ?_ (by simpa using h1) h2 (by simpa using h3) ?_
   . show(w.heap.modify g _)[g]?=_;rw[eW,if_pos rfl,hg];simp
   . rw[da,e7,List.take_set,h4];simp[vb,ij]
theorem yU(w:World)(a:Option Addr)(n c:Nat)(l:List Nat)(k:Bs w a l)(r:n=l.length)(v:l.length<=281474976710656)(b:0<l.length)(C:l.getD (l.length-1) 0<255):
 Calls prog 207 #[.slice a n c] w λe s=>∃g h,e=.returned (.slice g (inc l).length h)/\Own w s g h (inc l):=by
 subst r;have p:=ix (mJ w a l.length c l k rfl v);clear k;have F:IntKind.i64.wrap ((l.length:Int)-1)=((l.length-1:Nat):Int):=by rw[iQ (by omega) (by omega)];omega
 have D:((l.length-1:Nat):Int)<(l.length:Int):=by omega
 have q:Hid (l.set (l.length-1) (l.getD (l.length-1) 0+1)=inc l):=rfl;have t:=ix (FC l);go_enter func207,ntmps207;go_wp2_with fail
 refine p.o.mono ?_;rintro e m ⟨rfl,d⟩;have A:=d.r.cell (i:=l.length-1) (by omega)
 have B:m.frozen? ⟨w.heap.size,l.length-1,none⟩=false:=by
  rcases d.r.cases with⟨b,_⟩|⟨g',cur,b,hg',_⟩
  . cases b
  . simp only[au,Addr.mk.injEq] at b;obtain⟨rfl,_⟩:=b;exact bq m _ _ _ _ hg'
 have f:=ix d;clear d;generalize l.getD (l.length-1) 0=x at *;generalize l.length-1=j at *;have E:IntKind.u8.wrap ((x:Int)+1)=((x+1:Nat):Int):=by simp[IntKind.wrap,IntKind.bits,IntKind.signed];omega
 go_wp2;go_ret;refine⟨_,l.length,by rw[t.o];rfl,?_,f.o.n,f.o.b.setCell (am _) _⟩
 rw[<-q.o];exact f.o.r.set j (x+1)
end Go.Proofs.YteaogidofpfmmaaGreat
namespace Go.Proofs.YteaogidofpfmmaaGreat
open Tryz
structure RS where
 l:List Nat
 e:Nat
namespace M
open Tryz
end M
end Go.Proofs.YteaogidofpfmmaaGreat
namespace Go.Proofs.YteaogidofpfmmaaGreat
open Tryz
open Go.RowKit
theorem below_setRow{B:Nat}{a w:World}(h:Below B a w){g:Nat}(b:B<=g)(cs:Array Value):Below B a (w.setRow g cs):=
 ⟨h.os,h.tape,h.output,by rw[setRow_size];exact h.size,λk hk=>(setRow_other w g k cs (by omega)).trans (h.block k hk)⟩
end Go.Proofs.YteaogidofpfmmaaGreat
