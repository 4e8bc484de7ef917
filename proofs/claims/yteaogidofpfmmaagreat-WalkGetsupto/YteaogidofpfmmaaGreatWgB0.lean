import Derived.Deep.RegionHeld3
import Derived.Below
import Derived.CallsIn
import Derived.ControlIn
import Derived.Deep.AppendLies
import Derived.Deep.RegionHeld
import Derived.Laws.AppendOwn
import Derived.Laws.Entries
import Derived.Laws.Rows
import Derived.Laws.Sem
import Derived.Laws.Tables
import Derived.OwnWalk
import Derived.RangeFuncLeaves
import Derived.RangeFuncRecord
import Derived.Tactics
import GoSem.Core.Sem
import GoSem.Core.Value
import GoSem.Core.World
import Derived.Test.YteaogidofpfmmaaGreatProg
import Derived.WalkKit
import Derived.WalkSpells
import Derived.WalkLawsBesides
import Derived.Deep.WholeRow
import Derived.Outline
import Derived.KernelRfl
import Derived.Laws.BitsAllLaws
import Derived.Laws.MakeOwn
import Derived.Deep.OwnRows
import Derived.Deep.RegionHeldLaw
import Derived.Deep.RegionLaw
import Derived.Laws.Cover3
import Derived.BigRegion
import Derived.BigQuiet
import Derived.Deep.QuietTactic
import Derived.Deep.LoopGhost
import Derived.Deep.RegionWith
import Derived.Laws.Externs
import Derived.Laws.CopyOwn
set_option linter.all false
set_option maxHeartbeats 1600000
namespace Go.Proofs.YteaogidofpfmmaaGreat
open Tryz
variable {a a0 a1 a2:Act}{ops:Array Oper}{fuel:Nat}{o0 o1:Oper}{P:Program}{v0 v1:Value}{w:World}{S:World->Prop}
abbrev ae:=@Array.getElem?_eq_some_iff
abbrev af:=@List.length_append
abbrev ah:=@Go.World.alloc_heap_new
abbrev ai:=@Nat.le_refl
abbrev am:=@Go.cell_of_row
abbrev an:=@Nat.zero_le
abbrev ar:=@decide_eq_false
abbrev au:=@decide_eq_true
abbrev ay:=@Option.some.injEq
abbrev az:=@Nat.le_trans
abbrev aE:=@List.append_assoc
abbrev aF:=@Go.bodyPost_ret
abbrev aM:=@List.mem_singleton
abbrev aS:=@Go.heap_setCell_same
abbrev aZ:=@Go.heap_alloc_new
abbrev a6:=@Nat.lt_of_lt_of_le
abbrev a7:=@List.length_cons
abbrev be:=@List.getD_eq_getElem?_getD
abbrev bf:=@congrArg
abbrev bg:=@List.length_nil
abbrev bj:=@List.mem_cons_of_mem
abbrev bq:=@Go.frozen_of_row
abbrev br:=@Go.setRow_heap
abbrev bu:=@List.length_map
abbrev bz:=@Go.wpList_store_row
abbrev bA:=@Go.wp_region_held_drew
abbrev bC:=@List.mem_cons_self
abbrev bE:=@List.getElem?_eq_some_iff
abbrev bG:=@List.mem_append
abbrev bM:=@List.mem_map
abbrev bN:=@List.mem_cons
abbrev bO:=@List.map_cons
abbrev bP:=@List.getElem?_append_right
abbrev bQ:=@List.length_pos_iff
abbrev bT:=@Go.Value.slice.injEq
abbrev bX:=@List.not_mem_nil
abbrev bY:=@List.take_succ_eq_append_getElem
abbrev bZ:=@decide_eq_true_eq
abbrev b7:=@Bool.and_eq_true
abbrev b9:=@Nat.zero_add
abbrev ce:=@List.getElem?_eq_getElem
abbrev cf:=@List.cons_append
abbrev co:=@List.drop_eq_getElem_cons
abbrev cw:=@Go.results_none
abbrev cx:=@List.length_set
abbrev cF:=@List.pairwise_cons
abbrev cJ:=@List.nil_append
abbrev cM:=@List.getElem?_append_left
abbrev cZ:=@List.size_toArray
abbrev c7:=@List.length_eq_zero_iff
abbrev da:=@Array.replicate_succ
abbrev db:=@Array.replicate_zero
abbrev dc:=@Go.run_takeDeferred
abbrev dd:=@List.map_append
abbrev df:=@List.length_replicate
abbrev dg:=@Go.results_tmp2
abbrev dh:=@List.length_take
abbrev di:=@List.length_drop
abbrev dm:=@List.append_toArray
abbrev dp:=@List.take_length
abbrev dr:=@Nat.add_zero
abbrev dt:=@List.push_toArray
abbrev du:=@List.append_nil
abbrev dv:=@List.mem_range
abbrev dw:=@List.drop_eq_nil_of_le
abbrev dy:=@Go.Result.andThen_ok
abbrev dz:=@Nat.not_lt_zero
abbrev dA:=@List.pairwise_append
abbrev dB:=@Go.results_cell_row
abbrev dC:=@Go.World.putObj_heap_other
abbrev dE:=@decide_eq_false_iff_not
abbrev dF:=@Go.callsIn_wide
abbrev dG:=@Nat.mul_one
abbrev dJ:=@List.getElem?_take
abbrev dM:=@List.map_toArray
abbrev dN:=@Go.info_parts
abbrev dO:=@Go.callsIn_of_wp_marks
abbrev dP:=@List.mem_append_right
abbrev dQ:=@List.getElem?_eq_none
abbrev dR:=@List.flatMap_cons
abbrev dS:=@Go.Sem.run_bind
abbrev dT:=@Go.Sem.run_pure
abbrev dU:=@Nat.sub_self
abbrev dW:=@List.map_nil
abbrev dX:=@List.cons_lt_cons_iff
abbrev dY:=@List.length_singleton
abbrev dZ:=@Go.run_underlying
abbrev d5:=@and_true
abbrev d6:=@Nat.min_eq_left
abbrev d7:=@decide_eq_true_iff
abbrev d9:=@Iff.rfl
abbrev eb:=@List.mem_append_left
abbrev ec:=@Go.World.putObj_heap_same
abbrev ed:=@Bool.eq_iff_iff
abbrev ee:=@List.set_append_right
abbrev em:=@List.getElem?_cons_succ
abbrev eo:=@List.pairwise_singleton
abbrev ep:=@List.cons.injEq
abbrev eu:=@Bool.or_eq_true
abbrev ey:=@Array.toList_setIfInBounds
abbrev eB:=@List.drop_zero
abbrev eC:=@Go.wpIn_wide
abbrev eD:=@Classical.byContradiction
abbrev eE:=@Go.Obj.cells.injEq
abbrev eF:=@Option.map_some
abbrev eG:=@List.mem_filter
abbrev eH:=@Go.run_append_lies
abbrev eI:=@Go.wpList_plain
abbrev eJ:=@Int.toNat_natCast
abbrev eK:=@List.getElem?_map
abbrev eN:=@List.flatten_cons
abbrev eO:=@Nat.lt_irrefl
abbrev eQ:=@Nat.add_sub_cancel_left
abbrev eR:=@List.take_succ_cons
abbrev eS:=@List.mem_flatten
abbrev eU:=@Bool.false_and
abbrev eV:=@Nat.le_succ
abbrev eW:=@List.take_of_length_le
abbrev eX:=@Nat.zero_mul
abbrev eY:=@List.set_cons_zero
abbrev eZ:=@Array.getElem?_modify
abbrev e6:=@Bool.and_eq_false_iff
abbrev e7:=@List.take_append_drop
abbrev e8:=@List.nodup_cons
abbrev fa:=@Go.World.ownsRow_nil
abbrev fb:=@List.any_eq_false
abbrev fd:=@Nat.mul_le_mul_right
abbrev fh:=@List.mem_of_getElem?
abbrev fi:=@List.pairwise_iff_getElem
abbrev fj:=@Int.le_refl
abbrev fp:=@List.take_zero
abbrev fq:=@List.getElem_mem
abbrev fs:=@List.getD_cons_zero
abbrev ft:=@List.drop_succ_cons
abbrev fu:=@Bool.or_false
abbrev fw:=@List.eq_nil_iff_forall_not_mem
abbrev fy:=@Go.Result.ok.injEq
abbrev fA:=@Go.run_loadVar_row
abbrev fB:=@List.pairwise_map
abbrev fC:=@List.cons_le_cons_iff
abbrev fD:=@List.getElem?_toArray
abbrev fE:=@List.concat_eq_append
abbrev fF:=@Go.wp_store_row
abbrev fG:=@List.drop_length
abbrev fH:=@List.any_eq_true
abbrev fI:=@List.getElem?_set_ne
abbrev fJ:=@Nat.mod_lt
abbrev fK:=@List.ext_getElem
abbrev fL:=@or_false
abbrev fM:=@Nat.add_assoc
abbrev fN:=@Prod.mk.injEq
abbrev fO:=@Go.callsIn_of_wp
abbrev fP:=@List.toList_toArray
abbrev fQ:=@List.flatMap_append
abbrev fR:=@List.take_left'
abbrev fT:=@List.mem_of_find?_eq_some
abbrev fU:=@List.map_set
abbrev fV:=@Nat.add_sub_cancel
abbrev fW:=@Go.heap_alloc_old
abbrev fY:=@List.head?_filter
abbrev fZ:=@Nat.add_mul
abbrev gh:=@List.filter_eq_nil_iff
abbrev go:=@Go.run_endLoop
abbrev gy:=@List.take_set
abbrev gz:=@Bool.true_and
abbrev gA:=@List.map_reverse
abbrev gE:=@List.mem_reverse
abbrev gF:=@Nat.le_of_not_lt
abbrev gG:=@List.mem_flatMap
abbrev gH:=@List.flatMap_map
abbrev gJ:=@if_false
abbrev gM:=@List.length_filter_le
abbrev gN:=@List.eq_nil_or_concat
abbrev gO:=@List.mem_of_mem_take
abbrev gS:=@Nat.not_succ_le_self
abbrev gT:=@List.range_succ
abbrev gU:=@List.getLast?_concat
abbrev gV:=@getElem!_pos
theorem _root_.Go.RowKit.Hid.o{p:Prop}(h:Go.RowKit.Hid p):p:=h
theorem _root_.Go.Shut.o{p:Prop}(h:Shut p):p:=h
theorem pt:(∀(a:Act)(t:Tmp)(v:Value),a.put (some t) v={a with tmps:=a.tmps.setIfInBounds t v})/\(∀(a:Act)(v:Value),a.put none v=a)/\(∀{α:Type}(l:List α)(i:Nat)(h:i<l.toArray.size),l.toArray[i]=l[i]'(by simpa using h))/\(∀{α:Type}(a:α)(l:List α)(h:0<(a::l).length),(a::l)[0]=a)/\(∀{α:Type}(a:α)(l:List α)(i:Nat)(h:i+1<(a::l).length),(a::l)[i+1]=l[i]'(by simpa using h))/\(∀{α:Type}(l:List α)(i:Nat)(a:α),l.toArray.setIfInBounds i a=(l.set i a).toArray)/\(∀{α:Type}(a b:α)(l:List α),(a::l).set 0 b=b::l)/\(∀{α:Type}(a b:α)(l:List α)(i:Nat),(a::l).set (i+1) b=a::l.set i b):=by
 refine⟨λ_ _ _=>rfl,λ_ _=>rfl,λ_ _ _=>by simp,λ_ _ _=>rfl,λ_ _ _ _=>rfl,λ_ _ _=>by simp,λ_ _ _=>rfl,λ_ _ _ _=>rfl⟩
theorem tk{P:Program}{e:Region.Mode}{ops:Array Oper}{Q:Exit->Act->World->Prop}{S:World->Prop}(i:Nat){d:Oper}{v:Value}{fuel:Nat}{f l:Array Bool}{a b:Act}{w:World}(h:wpAnyH P e ops Q S fuel l b w)(hi:ops[i]?=some d:=by exact rfl)
 (hk:(Region.noSelect ops&&(Region.free e ops f i&&(Region.ready e ops f).contains i))=true:=by kernel_rfl)
 (g:∀c a w,Q (.panic c) (a.put d.dst v) w->Q (.panic c) a w:=by exact λ_ _ _ h=>h) (m:Region.wanted d (yielded ops a.tmps)=true:=by exact rfl) (j:S w:=by assumption)
 (n:∀w,S w->(execOp a.eval d).run P w=.ok (.value v) w:=by (intro _ s;(try dsimp only at s);go_simp<;>with_reducible rfl))
 (k:f.setIfInBounds i true=l:=by ((try simp only[pt]);exact rfl)) (hb:a.put d.dst v=b:=by ((try simp only[pt]);exact rfl)):wpAnyH P e ops Q S (fuel+1) f a w:=by
 simp only[b7] at hk;exact wpAnyH_take hi hk.1 hk.2.1 hk.2.2 g (.inl ⟨m,n⟩) j (k▸hb▸h)
theorem tu{P:Program}{d:Region.Mode}{ops:Array Oper}{Q:Exit->Act->World->Prop}{S:World->Prop}(i:Nat){e:Oper}{fuel:Nat}{f l:Array Bool}{a b:Act}{w:World}(h:wpAnyH P d ops Q S fuel l b w)(hi:ops[i]?=some e:=by exact rfl)
 (hk:(Region.noSelect ops&&(Region.free d ops f i&&(Region.ready d ops f).contains i))=true:=by kernel_rfl)
 (g:∀c a w,Q (.panic c) (a.put e.dst undef) w->Q (.panic c) a w:=by exact λ_ _ _ h=>h) (m:Region.wanted e (yielded ops a.tmps)=false:=by exact rfl) (j:S w:=by assumption)
 (k:f.setIfInBounds i true=l:=by ((try simp only[pt]);exact rfl)) (hb:a.put e.dst undef=b:=by ((try simp only[pt]);exact rfl)):wpAnyH P d ops Q S (fuel+1) f a w:=by
 simp only[b7] at hk;exact wpAnyH_take hi hk.1 hk.2.1 hk.2.2 g (.inr ⟨m,rfl⟩) j (k▸hb▸h)
theorem tw{P:Program}{c:Region.Mode}{ops:Array Oper}{Q:Exit->Act->World->Prop}{S:World->Prop}(i:Nat){o:Oper}{fuel:Nat}{d:Array Bool}{a:Act}{w:World}
 (h:∀b:Act->World->Prop,Shut (∀a w,S w->(S w->wpAnyH P c ops Q S fuel (d.setIfInBounds i true) a w)->b a w)->if Region.wanted o (yielded ops a.tmps)=true then Oper.wp P o a w b Q else b (a.put o.dst undef) w)
 (e:ops[i]?=some o:=by exact rfl) (f:Region.ready c ops d=[i]:=by kernel_rfl):wpAnyH P c ops Q S (fuel+1) d a w:=
 wpAnyH_ready f (by simp) (AllReadyH.cons e h AllReadyH.nil)
theorem td{b:Region.Mode}{Q:Exit->Act->World->Prop}{c:Array Bool}(h:Q .normal a w)(d:Region.ready b ops c=[]:=by kernel_rfl):wpAnyH P b ops Q S fuel c a w:=
 wpAnyH_done d h _
def Tc(P:Program)(md:Region.Mode)(ops:Array Oper)(Q:Exit->Act->World->Prop)(S:World->Prop)(i:Nat)(o:Oper)(v:Value)(l k:Array Bool)(a b:Act):Prop:=ops[i]?=some o/\(Region.noSelect ops&&(Region.free md ops l i&&(Region.ready md ops l).contains i))=true/\(∀c a w,Q (.panic c) (a.put o.dst v) w->Q (.panic c) a w)/\Region.wanted o (yielded ops a.tmps)=true/\(∀w,S w->(execOp a.eval o).run P w=.ok (.value v) w)/\l.setIfInBounds i true=k/\a.put o.dst v=b
theorem tc{d:Region.Mode}{Q:Exit->Act->World->Prop}{i:Nat}{o:Oper}{v:Value}{l k:Array Bool}{b:Act}(e:S w)(c:Tc P d ops Q S i o v l k a b)(h:wpAnyH P d ops Q S fuel k b w):wpAnyH P d ops Q S (fuel+1) l a w:=tk i h c.1 c.2.1 c.2.2.1 c.2.2.2.1 e c.2.2.2.2.1 c.2.2.2.2.2.1 c.2.2.2.2.2.2
theorem tkb{b:Region.Mode}{Q:Exit->Act->World->Prop}{c d e:Array Bool}(f g:Nat)(h:wpAnyH P b ops Q S fuel e a2 w)(s:S w:=by assumption)(c0:Tc P b ops Q S f o0 v0 c d a0 a1:=by exact⟨rfl,by kernel_rfl,λ_ _ _ h=>h,rfl,by (intro _ s;(try dsimp only at s);go_simp<;>with_reducible rfl),by ((try simp only[pt]);exact rfl),by ((try simp only[pt]);exact rfl)⟩)(c1:Tc P b ops Q S g o1 v1 d e a1 a2:=by exact⟨rfl,by kernel_rfl,λ_ _ _ h=>h,rfl,by (intro _ s;(try dsimp only at s);go_simp<;>with_reducible rfl),by ((try simp only[pt]);exact rfl),by ((try simp only[pt]);exact rfl)⟩):wpAnyH P b ops Q S (fuel+1+1) c a0 w:=tc s c0 (tc s c1 h)
theorem tkd{b:Region.Mode}{Q:Exit->Act->World->Prop}{m n:Oper}{p v3:Value}{c d e f g:Array Bool}{a3 a4:Act}(i j k l:Nat)(h:wpAnyH P b ops Q S fuel g a4 w)(s:S w:=by assumption)(c0:Tc P b ops Q S i o0 v0 c d a0 a1:=by exact⟨rfl,by kernel_rfl,λ_ _ _ h=>h,rfl,by (intro _ s;(try dsimp only at s);go_simp<;>with_reducible rfl),by ((try simp only[pt]);exact rfl),by ((try simp only[pt]);exact rfl)⟩)(c1:Tc P b ops Q S j o1 v1 d e a1 a2:=by exact⟨rfl,by kernel_rfl,λ_ _ _ h=>h,rfl,by (intro _ s;(try dsimp only at s);go_simp<;>with_reducible rfl),by ((try simp only[pt]);exact rfl),by ((try simp only[pt]);exact rfl)⟩)(c2:Tc P b ops Q S k m p e f a2 a3:=by exact⟨rfl,by kernel_rfl,λ_ _ _ h=>h,rfl,by (intro _ s;(try dsimp only at s);go_simp<;>with_reducible rfl),by ((try simp only[pt]);exact rfl),by ((try simp only[pt]);exact rfl)⟩)(c3:Tc P b ops Q S l n v3 f g a3 a4:=by exact⟨rfl,by kernel_rfl,λ_ _ _ h=>h,rfl,by (intro _ s;(try dsimp only at s);go_simp<;>with_reducible rfl),by ((try simp only[pt]);exact rfl),by ((try simp only[pt]);exact rfl)⟩):wpAnyH P b ops Q S (fuel+1+1+1+1) c a0 w:=tc s c0 (tc s c1 (tc s c2 (tc s c3 h)))
theorem wrd{Q:Exit->Act->World->Prop}{id:Nat}{v:World}(s:Go.RowKit.Hid (∀W:World,Go.RowKit.Below v.heap.size v W->S W))(d:Go.RowKit.Below v.heap.size v w.drew)(h:S w.drew->wpAnyH P .any ops Q S ops.size (Array.replicate ops.size false) a w.drew)(b:P.follows .mixedOrders=true:=by kernel_rfl):(Code.region id ops true).wp P Q a w:=bA b (s.o _ d) h
end Go.Proofs.YteaogidofpfmmaaGreat
namespace Go.Proofs.YteaogidofpfmmaaGreat
open Tryz
open Go.RowKit
variable {p:Addr}{l:List Nat}{cap g k:Nat}{S T:Nat->Prop}{a:Option Addr}{b c w w' w1:World}
theorem gW{p:Prop}(h:p):Hid p:=h
theorem size_alloc(w:World)(o:Obj):(w.alloc o).heap.size=w.heap.size+1:=by
 show(w.heap.push o).size=_;simp
theorem oO(l:List Nat)(h:k<l.length):l.getD k 0=l[k]:=by simp[h]
theorem bt{a:World}(h:Below w.heap.size w a)(k:Below a.heap.size a b):Below w.heap.size w b:=h.trans (k.mono h.size)
theorem block_lt_of_cell{a:Addr}{v:Value}(h:w.cell? a=some v):a.block<w.heap.size:=World.block_lt_of_cell? w a h
def Bs(w:World)(a:Option Addr)(l:List Nat):Prop:=
 (∀x∈l,x<256)/\l.length<=9223372036854775807/\(l=[]\/∃b off,a=some ⟨b,off,none⟩/\∀i,i<l.length->w.cell? ⟨b,off+i,none⟩=some (.int .u8 ((l.getD i 0:Nat):Int)))
theorem Bs.keep(h:Bs w a l)(hb:Below w.heap.size w w'):Bs w' a l:=by
 obtain⟨m,n,d⟩:=h;refine⟨m,n,?_⟩;rcases d with d|⟨b,j,rfl,e⟩
 . exact .inl d
 . exact .inr ⟨b,j,rfl,λi f=>(hb.cell (p:=⟨b,j+i,none⟩) (block_lt_of_cell (e i f))).trans (e i f)⟩
theorem Bs.nil(w:World):Bs w none []:=⟨by simp,by simp,.inl rfl⟩
def vb(l:List Nat):List Value:=l.map λx=>Value.int .u8 ((x:Nat):Int)
theorem om(a b:List Nat):vb (a++b)=vb a++vb b:=by unfold vb;rw[dd]
theorem je(a:List Nat):(vb a).length=a.length:=by unfold vb;rw[bu]
theorem va(l:List Nat)(i:Nat)(hi:i<l.length):(vb l)[i]?=some (.int .u8 ((l.getD i 0:Nat):Int)):=by simp[vb,hi]
theorem zB(l:List Nat):∀u∈vb l,u.oneCell'=true:=by
 intro u d;obtain⟨x,_,rfl⟩:=bM.1 d;rfl
theorem zF(l:List Nat)(h:k<l.length):l.take k++[l.getD k 0]=l.take (k+1):=by
 rw[bY h,oO l h]
structure But(S:Nat->Prop)(w w':World):Prop where
 os:w'.os=w.os
 tape:w'.tape=w.tape
 output:w'.output=w.output
 size:w.heap.size<=w'.heap.size
 block:∀k,k<w.heap.size->¬S k->w'.heap[k]?=w.heap[k]?
theorem But.refl(S:Nat->Prop)(w:World):But S w w:=⟨rfl,rfl,rfl,ai _,λ_ _ _=>rfl⟩
theorem But.trans{a:World}(h:But S a b)(k:But T b c)(f:∀x,x<a.heap.size->T x->S x):But S a c:=
 ⟨k.os.trans h.os,k.tape.trans h.tape,k.output.trans h.output,az h.size k.size,λi d e=>(k.block i (a6 d h.size) (λj=>e (f i d j))).trans (h.block i d e)⟩
theorem But.mono{a:World}(h:But S a b)(d:∀x,x<a.heap.size->S x->T x):But T a b:=
 ⟨h.os,h.tape,h.output,h.size,λk hk e=>h.block k hk λf=>e (d k hk f)⟩
theorem But.drew{a:World}(h:But S a w):But S a w.drew:=⟨h.os,h.tape,h.output,h.size,h.block⟩
theorem But.ofBelow(h:Below w.heap.size w w'):But S w w':=⟨h.os,h.tape,h.output,h.size,λk hk _=>h.block k hk⟩
theorem But.below(h:But S w w')(d:∀k,k<w.heap.size->¬S k):Below w.heap.size w w':=⟨h.os,h.tape,h.output,h.size,λk hk=>h.block k hk (d k hk)⟩
theorem But.alloc{a:World}(h:But S a w)(o:Obj):But S a (w.alloc o):=
 h.trans (T:=λ_=>False) (But.ofBelow ((Below.refl _ _).alloc (ai _) o)) (λ_ _ d=>d.elim)
theorem But.setCell{a:World}(h:But S a w)(f:p.block<a.heap.size->S p.block)(u:Value):But S a (w.setCell p u):=
 h.trans (T:=λk=>k=p.block) ⟨rfl,rfl,rfl,by simp[World.setCell],λk _ d=>Below.heap_setCell _ _ _ _ d⟩ (λx i e=>by subst e;exact f i)
theorem But.grown{a:World}{row:Option Nat}(h:But S a w)(d:w.grownBy w' row)(i:∀k,row=some k->k<a.heap.size->S k):But S a w':=
 h.trans (T:=λk=>row=some k) ⟨d.os,d.tape,d.output,d.size,λk hk f=>d.block k hk λe=>f e.symm⟩ (λx j e=>i x e j)
theorem But.andBelow{a:World}(h:But S a b)(k:Below b.heap.size b c):But S a c:=
 h.trans (T:=λ_=>False) (But.ofBelow k) (λ_ _ d=>d.elim)
theorem But.cell(h:But S w w')(e:p.block<w.heap.size)(d:¬S p.block):w'.cell? p=w.cell? p:=World.cell?_of_block (w:=w) (h.block p.block e d)
theorem But.frozen(h:But S w w')(e:p.block<w.heap.size)(d:¬S p.block):w'.frozen? p=w.frozen? p:=World.frozen?_of_block (w:=w) (h.block p.block e d)
theorem Bs.but(h:Bs w a l)(hb:But S w w')(r:∀x,a=some x->l≠[]->¬S x.block):Bs w' a l:=by
 obtain⟨n,q,d⟩:=h;refine⟨n,q,?_⟩;by_cases f:l=[]
 . exact .inl f
 rcases d with d|⟨b,e,rfl,j⟩
 . exact .inl d
 . exact .inr ⟨b,e,rfl,λi m=>(hb.cell (p:=⟨b,e+i,none⟩) (block_lt_of_cell (j i m)) (show ¬S b from r ⟨b,e,none⟩ rfl f)).trans (j i m)⟩
def Rw(w:World)(a:Option Addr)(cap:Nat)(l:List Nat):Prop:=w.ownsRow 0 5 1 (.slice a l.length cap) l.length (vb l)
theorem mw(a:Option Addr)(n c:Nat):(Value.slice a n c).ownBlock=a.map Addr.block:=by cases a<;>rfl
theorem map_some{a:Option Addr}{k:Nat}(h:a.map Addr.block=some k):∃x,a=some x/\x.block=k:=by
 cases a with
 |none=>simp at h
 |some x=>simp at h;exact⟨x,rfl,h⟩
theorem Rw.nil(w:World):Rw w none 0 []:=fa w 0 5 1
theorem Rw.cases(h:Rw w a cap l):(a=none/\cap=0/\l=[])\/
 ∃g cur,a=some ⟨g,0,none⟩/\w.heap[g]?=some (.cells cur 5 (0,0))/\l.length<=cap/\cap<=maxLen/\cur.size=cap/\cur.toList.take l.length=vb l:=by
 obtain⟨_,e⟩:=h;rcases e with⟨hv,h0⟩|⟨g,cap',cur,hv,_,hg,hn,hm,hs,ht⟩
 . simp only[bT] at hv;exact .inl ⟨hv.1,hv.2.2,c7.1 h0⟩
 . simp only[bT] at hv;obtain⟨d,_,rfl⟩:=hv;exact .inr ⟨g,cur,d,hg,hn,hm,by omega,by rw[dG] at ht;exact ht⟩
theorem Rw.mk{cur:Array Value}(d:w.heap[g]?=some (.cells cur 5 (0,0)))(f:l.length<=cap)(e:cap<=maxLen)(i:cur.size=cap)(h:cur.toList.take l.length=vb l):Rw w (some ⟨g,0,none⟩) cap l:=
 ⟨by rw[je,dG],.inr ⟨g,cap,cur,rfl,an _,d,f,e,by omega,by rw[dG];exact h⟩⟩
theorem Rw.lt(h:Rw w a cap l){x:Addr}(d:a=some x):x.block<w.heap.size:=by
 rcases h.cases with⟨rfl,_⟩|⟨g,cur,rfl,hg,_⟩
 . cases d
 . cases d;exact(ae.1 hg).1
theorem Rw.but(h:Rw w a cap l)(hb:But S w w')(d:∀x,a=some x->¬S x.block):Rw w' a cap l:=by
 rcases h.cases with⟨rfl,rfl,rfl⟩|⟨g,cur,rfl,hg,h1,h2,h3,h4⟩
 . exact Rw.nil w'
 . exact Rw.mk ((hb.block g (ae.1 hg).1 (d _ rfl)).trans hg) h1 h2 h3 h4
theorem Rw.keep(h:Rw w a cap l)(hb:Below w.heap.size w w'):Rw w' a cap l:=
 h.but (S:=λ_=>False) (But.ofBelow hb) (λ_ _ d=>d)
theorem Rw.cell(h:Rw w (some ⟨g,0,none⟩) cap l){i:Nat}(hi:i<l.length):w.cell? ⟨g,i,none⟩=some (.int .u8 ((l.getD i 0:Nat):Int)):=by
 rcases h.cases with⟨h0,_⟩|⟨g',cur,h0,hg,h1,h2,h3,h4⟩
 . cases h0
 . simp only[ay,Addr.mk.injEq] at h0;obtain⟨rfl,_⟩:=h0;rw[am _ _ _ _ _ _ hg,<-va l i hi,<-h4,dJ,if_pos hi];simp
theorem Rw.bs(h:Rw w a cap l)(e:∀x∈l,x<256)(f:l.length<=9223372036854775807):Bs w a l:=by
 refine⟨e,f,?_⟩;rcases h.cases with⟨rfl,rfl,rfl⟩|⟨g,cur,rfl,hg,h1,h2,h3,h4⟩
 . exact .inl rfl
 . exact .inr ⟨g,0,rfl,λi d=>by rw[b9];exact h.cell d⟩
theorem Rw.len_le(h:Rw w a cap l):l.length<=9223372036854775807:=by
 rcases h.cases with⟨rfl,rfl,rfl⟩|⟨g,cur,rfl,hg,h1,h2,h3,h4⟩
 . simp
 . unfold maxLen at h2;omega
def New(w:World)(a a':Option Addr):Prop:=∀x,a'=some x->(∃y,a=some y/\y.block=x.block)\/w.heap.size<=x.block
theorem New.refl(w:World)(a:Option Addr):New w a a:=λx d=>.inl ⟨x,d,rfl⟩
theorem New.none(w:World)(a:Option Addr):New w a Option.none:=λx d=>by cases d
theorem New.trans{b c:Option Addr}(h:New w a b)(k:New w1 b c)(f:w.heap.size<=w1.heap.size):New w a c:=by
 intro x d;rcases k x d with⟨y,hy,e⟩|h1
 . rcases h y hy with⟨z,hz,e2⟩|h2
   . exact .inl ⟨z,hz,e2.trans e⟩
   . exact .inr (by omega)
 . exact .inr (by omega)
theorem New.mono{b:Option Addr}(h:New w1 a b)(d:w.heap.size<=w1.heap.size):New w a b:=(New.refl w a).trans h d
theorem rs:(prog.info? 5).map (λi=>(i.zero,i.size,i.bytes))=some (some (.int .u8 0),1,1):=by kernel_rfl
theorem wm(w:World)(r:TypeId)(a:Option Addr)(n cap:Nat)(l:List Nat)(C:n=l.length)(v:Rw w a cap l)(h:Addr)(c x:Nat)(A:w.cell? h=some (.int .u8 ((x:Nat):Int)))(J:l.length+1<=140737488355328):
 ∃g f w',(Builtin.append_ #[37,37] r #[.slice a n cap,.slice (some h) 1 c]).run prog w=.ok (.slice (some ⟨g,0,none⟩) (n+1) f) w'/\
  Rw w' (some ⟨g,0,none⟩) f (l++[x])/\New w a (some ⟨g,0,none⟩)/\w.grownBy w' (a.map Addr.block)/\g<w'.heap.size:=by
 subst C;obtain⟨F,B,G,H,I⟩:=dN rs
 obtain⟨g,f,w',D,s,i,h3,t⟩:=eH (P:=prog) w 37 r 0 5 F (.int .u8 0) 1 1 underlying37 B G H I rfl (by decide) (.slice a l.length cap) l.length (vb l) v h 1 c [.int .u8 ((x:Nat):Int)] rfl
  (by intro j u d
      match j,d with
      |0,d=>simp at d;subst d;simpa[Addr.add] using A) (by intro u m;simp at m;subst m;rfl) (by decide) (by unfold maxLen;omega) (by omega) (an _) w.heap.size rfl
 rw[mw] at i h3;refine⟨g,f,w',D,?_,?_,i,t⟩
 . unfold Rw;rw[om,af];exact s
 . intro y q;simp only[ay] at q;subst q;rcases h3 with h3|h3
   . obtain⟨z,E,e⟩:=map_some h3;exact .inl ⟨z,E,e⟩
   . exact .inr (by show _<=g;omega)
theorem Fj{w:World}{o:Oper}{a:Act}{K:Act->World->Prop}{Q:Exit->Act->World->Prop}(s x:Operand)
 (A:o.op=.call {callee:=.builtin .append,args:=#[s,x],argTypes:=#[37,37]}) (d:Option Addr) (n cap:Nat) (l:List Nat) (C:a.eval s=.slice d n cap) (y:n=l.length) (t:Rw w d cap l)
 (f:Addr) (c i:Nat) (D:a.eval x=.slice (some f) 1 c) (v:w.cell? f=some (.int .u8 ((i:Nat):Int))) (E:l.length+1<=140737488355328)
 (h:∀g e w',Rw w' (some ⟨g,0,none⟩) e (l++[i])->New w d (some ⟨g,0,none⟩)->w.grownBy w' (d.map Addr.block)->g<w'.heap.size->K (a.put o.dst (.slice (some ⟨g,0,none⟩) (n+1) e)) w'):o.wp prog a w K Q:=by
 obtain⟨g,e,w',B,j,m,q,r⟩:=wm w o.type d n cap l y t f c i v E;unfold Oper.wp execOp;simp only[A,resolve,invoke,builtin,dS,dT,dy,dM,bO,dW,C,D,B];exact h g e w' j m q r
theorem qF{w:World}{j:Array Oper}{m:List Oper}{o:Oper}{a:Act}{Q:Exit->Act->World->Prop}(G:o.guard=none)(s x:Operand)
 (D:o.op=.call {callee:=.builtin .append,args:=#[s,x],argTypes:=#[37,37]}) (d:Option Addr) (n cap:Nat) (l:List Nat) (E:a.eval s=.slice d n cap) (C:n=l.length) (A:Rw w d cap l)
 (f:Addr) (c i:Nat) (F:a.eval x=.slice (some f) 1 c) (B:w.cell? f=some (.int .u8 ((i:Nat):Int))) (H:l.length+1<=140737488355328)
 (h:∀g e w',Rw w' (some ⟨g,0,none⟩) e (l++[i])->New w d (some ⟨g,0,none⟩)->w.grownBy w' (d.map Addr.block)->g<w'.heap.size->wpList prog j Q m (a.put o.dst (.slice (some ⟨g,0,none⟩) (n+1) e)) w'):wpList prog j Q (o::m) a w:=
 eI G λ_ y=>Fj s x D d n cap l E C A f c i F B H λg e w' q r t v=>y _ _ (h g e w' q r t v)
theorem DV(w:World)(D:TypeId)(a:Option Addr)(n cap:Nat)(l:List Nat)(L:n=l.length)(s:Rw w a cap l)(B:Option Addr)(m c:Nat)(lb:List Nat)(K:m=lb.length)(I:Bs w B lb)(W:l.length+lb.length<=140737488355328):
 ∃d f w',(Builtin.append_ #[37,37] D #[.slice a n cap,.slice B m c]).run prog w=.ok (.slice d (n+m) f) w'/\
  Rw w' d f (l++lb)/\New w a d/\w.grownBy w' (a.map Addr.block)/\(a≠none->d≠none):=by
 subst L K;obtain⟨O,t,R,x,U⟩:=dN rs;by_cases i:lb=[]
 . subst i
   have E:∀z:Option Addr,(Builtin.firstCells 1 0 (.slice z 0 c)).run prog w=.ok #[] w:=by
    intro z;cases z with
    |none=>rfl
    |some z=>simp[Builtin.firstCells,loadCells,loadCellsFrom]
   refine⟨a,cap,w,?_,by simpa using s,New.refl _ _,⟨rfl,rfl,rfl,ai _,λ_ _ _=>rfl⟩,id⟩
   rcases s.cases with⟨rfl,rfl,rfl⟩|⟨g,cur,rfl,hg,q,r,h3,H⟩
   . simp[Builtin.append_,dZ underlying37,sizeOf,typeInfo,t,x,Builtin.lenOf,E]
   . simp[Builtin.append_,dZ underlying37,sizeOf,typeInfo,t,x,Builtin.lenOf,E,q,storeCells]
 . rcases I.2.2 with h|⟨b,A,rfl,J⟩
   . exact absurd h i
   . have V:0<lb.length:=bQ.2 i
     obtain⟨g,f,w',M,q,r,h3,H⟩:=eH (P:=prog) w 37 D 0 5 O (.int .u8 0) 1 1 underlying37 t R x U rfl (by decide) (.slice a l.length cap) l.length (vb l) s ⟨b,A,none⟩ lb.length c (vb lb) (by rw[je,dG])
      (by intro j u v
          have F:j<lb.length:=by
           have:=(bE.1 v).1;rwa [je] at this
          rw[va lb j F,ay] at v;subst v;have G:(⟨b,A,none⟩:Addr).add j=⟨b,A+j,none⟩:=by unfold Addr.add;split<;>simp_all
          rw[G];exact J j F) (zB lb) V (by unfold maxLen;omega) (by omega) (an _) w.heap.size rfl
     rw[mw] at r h3;refine⟨_,f,w',M,?_,?_,r,λ_=>by simp⟩
     . unfold Rw;rw[om,af];exact q
     . intro y C;simp only[ay] at C;subst C;rcases h3 with h3|h3
       . obtain⟨z,N,e⟩:=map_some h3;exact .inl ⟨z,N,e⟩
       . exact .inr (by show _<=g;omega)
theorem Fv{w:World}{o:Oper}{a:Act}{K:Act->World->Prop}{Q:Exit->Act->World->Prop}(s x:Operand)
 (C:o.op=.call {callee:=.builtin .append,args:=#[s,x],argTypes:=#[37,37]}) (e:Option Addr) (n cap:Nat) (l:List Nat) (E:a.eval s=.slice e n cap) (B:n=l.length) (y:Rw w e cap l)
 (i:Option Addr) (m c:Nat) (lb:List Nat) (F:a.eval x=.slice i m c) (A:m=lb.length) (v:Bs w i lb) (G:l.length+lb.length<=140737488355328)
 (h:∀d f w',Rw w' d f (l++lb)->New w e d->w.grownBy w' (e.map Addr.block)->(e≠none->d≠none)->K (a.put o.dst (.slice d (n+m) f)) w'):o.wp prog a w K Q:=by
 obtain⟨d,f,w',D,j,q,r,t⟩:=DV w o.type e n cap l B y i m c lb A v G;unfold Oper.wp execOp;simp only[C,resolve,invoke,builtin,dS,dT,dy,dM,bO,dW,E,F,D];exact h d f w' j q r t
theorem jO{w:World}{j:Array Oper}{q:List Oper}{o:Oper}{a:Act}{Q:Exit->Act->World->Prop}(I:o.guard=none)(s x:Operand)
 (F:o.op=.call {callee:=.builtin .append,args:=#[s,x],argTypes:=#[37,37]}) (e:Option Addr) (n cap:Nat) (l:List Nat) (G:a.eval s=.slice e n cap) (E:n=l.length) (C:Rw w e cap l)
 (i:Option Addr) (m c:Nat) (lb:List Nat) (H:a.eval x=.slice i m c) (D:m=lb.length) (A:Bs w i lb) (J:l.length+lb.length<=140737488355328)
 (h:∀d f w',Rw w' d f (l++lb)->New w e d->w.grownBy w' (e.map Addr.block)->(e≠none->d≠none)->wpList prog j Q q (a.put o.dst (.slice d (n+m) f)) w'):wpList prog j Q (o::q) a w:=
 eI I λ_ B=>Fv s x F e n cap l G E C i m c lb H D A J λd f w' r t v y=>B _ _ (h d f w' r t v y)
end Go.Proofs.YteaogidofpfmmaaGreat
namespace Go.Proofs.YteaogidofpfmmaaGreat
open Tryz
def gX:List Nat->List Nat->Int
 | [],[]=>0
 | [],_::_=> -1
 |_::_,[]=>1
 |x::xs,y::ys=>if x<y then -1 else if y<x then 1 else gX xs ys
theorem sN:∀l,gX l l=0
 | []=>rfl
 |x::l=>by simp[gX,sN l]
theorem rD:∀{a b},gX a b=0->a=b
 | [],[],_=>rfl
 | [],_::_,h=>by simp[gX] at h
 |_::_,[],h=>by simp[gX] at h
 |x::xs,y::ys,h=>by
  simp only[gX] at h;split at h
  . cases h
  . split at h
    . cases h
    . rw[rD h,show x=y by omega]
theorem sF{a b:List Nat}:gX a b=0↔a=b:=⟨rD,λh=>by rw[h];exact sN b⟩
theorem tB:∀a b,gX b a= -gX a b
 | [],[]=>rfl
 | [],_::_=>rfl
 |_::_,[]=>rfl
 |x::xs,y::ys=>by
  simp only[gX];by_cases h:x<y
  . simp[h,show ¬y<x by omega]
  . by_cases h2:y<x
    . simp[h,h2]
    . simp[h,h2,tB xs ys]
theorem oG(a b:List Nat)(j:Nat)(c:j<a.length)(hb:j<b.length):gX (a.drop j) (b.drop j)=if a.getD j 0<b.getD j 0 then -1 else if b.getD j 0<a.getD j 0 then 1 else gX (a.drop (j+1)) (b.drop (j+1)):=by
 rw[co c,co hb];simp[gX,c,hb]
theorem m7(a b:List Nat)(j:Nat)(h:a.length<=j\/b.length<=j)(g:j<=a.length)(i:j<=b.length):gX (a.drop j) (b.drop j)=if a.length<b.length then -1 else if b.length<a.length then 1 else 0:=by
 by_cases d:a.length<b.length
 . have:j=a.length:=by omega
   subst this;rw[if_pos d,fG];obtain⟨x,c,e⟩:∃x c,b.drop a.length=x::c:=⟨_,_,co d⟩;rw[e];rfl
 . by_cases f:b.length<a.length
   . have:j=b.length:=by omega
     subst this;rw[if_neg d,if_pos f,fG];obtain⟨x,c,e⟩:∃x c,a.drop b.length=x::c:=⟨_,_,co f⟩;rw[e];rfl
   . rw[if_neg d,if_neg f,show a.drop j=[] by simp;omega,show b.drop j=[] by simp;omega];rfl
def nanb(x:Nat):Bool:=decide (9218868437227405312<x%9223372036854775808)
def one(x:Nat):Nat:=if nanb x then 9221120237041090561 else x
def Dy(x:Nat):Nat:=if 9223372036854775808<=one x then 18446744073709551615-one x else one x+9223372036854775808
def hb(x:Nat):Nat->List Nat
 |0=>[]
 |n+1=>x/256^n%256::hb x n
def wd(y:Nat):Nat:=if h:y=0 then 0 else wd (y/256)+1
structure VV where
 kind:Int
 bool:Bool
 int:Int
 real:Nat
 re:Nat
 im:Nat
 text:ByteArray
def tl(s:ByteArray):List Nat:=s.data.toList.map UInt8.toNat
def esc:List Nat->List Nat
 | []=>[]
 |x::l=>if x=0 then 0::255::esc l else x::esc l
def iw(x:Int):Nat:=if 0<=x then wd x.toNat else wd (-1-x).toNat
def ub(x:Int):Nat:=(x%18446744073709551616).toNat
def VV.bytes(v:VV):List Nat:=
 if v.kind=0 then [1]
 else if v.kind=1 then [if v.bool then 3 else 2]
 else if v.kind=2 then (if 0<=v.int then 32+iw v.int else 31-iw v.int)::hb (ub v.int) (iw v.int)
 else if v.kind=3 then 48::hb (Dy v.real) 8
 else if v.kind=4 then 56::(hb (Dy v.re) 8++hb (Dy v.im) 8)
 else if v.kind=5 then 64::(esc (tl v.text)++[0])
 else []
def enc(l:List VV):List Nat:=(l.map VV.bytes).flatten
end Go.Proofs.YteaogidofpfmmaaGreat
namespace Go.Proofs.YteaogidofpfmmaaGreat
open Tryz
open Go.RowKit
variable {p:List Nat}{j:Nat}{aa:Option Addr}{w:World}
theorem drN(w:World)(n:Nat):Below w.heap.size w (w.drewN n):=⟨rfl,rfl,rfl,ai _,λ_ _=>rfl⟩
theorem iz{x:Int}(h: -9223372036854775808<=x)(a:x<=9223372036854775807):IntKind.i64.wrap x=x:=by rw[IntKind.wrap_i64];omega
theorem w64(h:j<9223372036854775807):wrap64 ((j:Int)+1)=(j:Int)+1:=by unfold wrap64;omega
theorem eqf{k c:Int}(h:k≠c):(k==c)=false:=beq_eq_false_iff_ne.2 h
theorem Bs.at(d:Bs w aa p)(c:j<p.length):∃b a,aa=some ⟨b,a,none⟩/\w.cell? ⟨b,a+j,none⟩=some (.int .u8 ((p.getD j 0:Nat):Int)):=by
 rcases d.2.2 with rfl|⟨b,a,rfl,e⟩
 . simp at c
 . exact⟨b,a,rfl,e j c⟩
theorem iU(n j:Nat)(x:Int)(a:x=(j:Int)+1)(h:j<n):n-(intOf (.int .i64 x)).toNat<n-(intOf (.int .i64 (j:Int))).toNat:=by
 subst a;simp only[intOf];omega
theorem rp{b f:World}{a c:Option Addr}{o:Obj}(d:New w none a)(hb:Below w.heap.size w b)(g:(b.alloc o).grownBy f (a.map Addr.block))(l:New (b.alloc o) a c):New w none c/\Below w.heap.size w f:=by
 refine⟨d.trans l (by rw[size_alloc];have:=hb.size;omega),?_⟩
 refine(hb.alloc hb.size o).grown g (by rw[size_alloc];have:=hb.size;omega) λk hk=>?_
 obtain⟨x,i,e⟩:=map_some hk;rcases d x i with⟨y,hy,_⟩|h
 . cases hy
 . omega
theorem oT(l c:Nat)(i:l<=c)(h:c<=281474976710656)(w:World):(Instr.makeSlice 37 (.int .i64 (l:Int)) (.int .i64 (c:Int))).run prog w=.ok (.slice (some ⟨w.heap.size,0,none⟩) l c) (w.alloc (.cells (madeCells #[.int .u8 0] c) 5)):=by
 obtain⟨d,b,e,f,g⟩:=dN rs;have a:=run_make (P:=prog) w 37 5 d (.int .u8 0) underlying37 b e .i64 .i64 l c (by omega) (by omega) (by rw[g];omega) (by omega)
 simp only[eJ,f,dG] at a;exact a
theorem oS{e:World}(f:Bs w aa p)(hb:Below w.heap.size w e)(c:j<p.length):∃b a,aa=some ⟨b,a,none⟩/\e.cell? ⟨b,a+j,none⟩=some (.int .u8 ((p.getD j 0:Nat):Int)):=by
 rcases f.2.2 with rfl|⟨b,a,rfl,d⟩
 . simp at c
 . exact⟨b,a,rfl,(hb.cell (p:=⟨b,a+j,none⟩) (block_lt_of_cell (d j c))).trans (d j c)⟩
theorem i8(w:World)(aa:Option Addr)(n I:Nat)(p:List Nat)(k:Bs w aa p)(F:n=p.length)(R:p.length<=140737488355328):
 Calls prog 73 #[.slice aa n I] w λx s=>∃e d,x=.returned (.slice e n d)/\Rw s e d p/\New w none e/\Below w.heap.size w s:=by
 subst F;have O:∀w:World,(Instr.makeSlice 37 (.int .i64 0) (.int .i64 (p.length:Int))).run prog w=.ok (.slice (some ⟨w.heap.size,0,none⟩) 0 p.length) (w.alloc (.cells (madeCells #[.int .u8 0] p.length) 5)):=oT 0 p.length (an _) (by omega)
 have A:=gW k;clear k;go_enter func73,ntmps73;go_wp2;go_loopw [3,4] (λv i t=>∃(j:Nat)(a:Option Addr)(c:Nat),j<=p.length/\i=.int .i64 j/\v=.slice a j c/\(Rw t a c (p.take j)/\New w none a/\Below w.heap.size w t)) (λ_ i _=>p.length-(intOf i).toNat)
 case atStart=>exact⟨0,some ⟨w.heap.size,0,none⟩,p.length,an _,rfl,rfl,Rw.mk (cur:=madeCells #[.int .u8 0] p.length) (aZ _ _) (an _) (by unfold maxLen;omega) (size_madeCells _ _) (by simp[vb]),λx r=>.inr (by simp only[ay] at r;subst r;exact ai _),(Below.refl _ _).alloc (ai _) _⟩
 case round=>
  obtain⟨j,a,c,K,rfl,rfl,l⟩:=hrel;have b:=gW l;clear l;by_cases y:j<p.length
  . have J:(j:Int)<(p.length:Int):=by omega
    obtain⟨bs,P,rfl,H⟩:=oS A.o b.o.2.2 y;have C:Hid (p.take j++[p.getD j 0]=p.take (j+1)):=zF p y;have G:(p.take j).length=j:=by rw[dh];omega
    have N:=block_lt_of_cell H;generalize p.getD j 0=x at *;generalize p.take j=L at *;go_wp2_with (at_builtin;refine qF rfl _ _ rfl a j c L rfl G.symm (b.o.1.keep ((Below.refl _ _).alloc (ai _) _)) ⟨wr.heap.size,0,none⟩ 1 x rfl ?c1 (by omega) ?_)
    try case c1=>simp
    intro g d M f m q _;obtain⟨D,E⟩:=rp b.o.2.1 b.o.2.2 q m;rw[C.o] at f;have B:=gW f;clear f m q;go_wp2;go_roundw
    case rel=>exact⟨j+1,_,d,by omega,by go_num,rfl,B.o,D,E⟩
    case measure=>simp[intOf];omega
  . obtain rfl:j=p.length:=by omega
    go_wp2;go_ret;refine⟨a,c,rfl,?_⟩;have h:=b.o;rw[dp] at h;exact h
theorem run_eql_slice_nil(a:Option Addr)(l c:Nat)(w:World):(binOp .eql 37 (.slice a l c) (.slice none 0 0)).run prog w=.ok (.bool a.isNone) w:=by
 simp only[binOp];simp[run_equal_slice_nil w 37 5 a l c underlying37]
theorem jc(w:World)(aa q:Option Addr)(n m J K:Nat)(l k:List Nat)(f:Bs w aa l)(g:Bs w q k)(D:n=l.length)(C:m=k.length):
 Calls prog 37 #[.slice aa n J,.slice q m K] w λx G=>x=.returned (.int .i64 (gX l k))/\Below w.heap.size w G:=by
 subst D C;have T:=f.2.1;have U:=g.2.1;have A:=gW f;have B:=gW g;clear f g;go_enter func37,ntmps37;go_wp2;go_loopw [5] (λi H=>∃j:Nat,j<=l.length/\j<=k.length/\i=.int .i64 j/\(Below w.heap.size w H/\gX (l.drop j) (k.drop j)=gX l k)) (λi _=>l.length-(intOf i).toNat)
 case atStart=>exact⟨0,an _,an _,rfl,Below.refl _ _,rfl⟩
 case round=>
  obtain⟨j,M,S,rfl,s⟩:=hrel;have a:=gW s;clear s;by_cases d:j<l.length
  . by_cases v:j<k.length
    . have h:(j:Int)<(l.length:Int):=by omega
      have t:(j:Int)<(k.length:Int):=by omega
      have e:=gW (oG l k j d v);obtain⟨ba,N,rfl,P⟩:=oS A.o a.o.1 d;obtain⟨L,O,rfl,R⟩:=oS B.o a.o.1 v;have I:=w64 (j:=j) (by omega)
      generalize l.getD j 0=x at *;generalize k.getD j 0=y at *;by_cases c:x<y
      . have E:(x:Int)<(y:Int):=by omega
        have b:Hid (gX l k= -1):=by rw[<-a.o.2,e.o,if_pos c];exact rfl
        go_wp2;go_quiet (fail)
        go_wp2;go_ret;exact⟨by rw[b.o];first|done|rfl,bt a.o.1 (drN _ _)⟩
      . have E:¬(x:Int)<(y:Int):=by omega
        by_cases r:y<x
        . have F:(y:Int)<(x:Int):=by omega
          have b:Hid (gX l k=1):=by rw[<-a.o.2,e.o,if_neg c,if_pos r];exact rfl
          go_wp2;go_quiet (fail)
          go_wp2;go_quiet (fail)
          go_wp2;go_ret;exact⟨by rw[b.o];first|done|rfl,bt (bt a.o.1 (drN _ _)) (drN _ _)⟩
        . have F:¬(y:Int)<(x:Int):=by omega
          have b:Hid (gX (l.drop (j+1)) (k.drop (j+1))=gX l k):=by rw[<-a.o.2,e.o,if_neg c,if_neg r];exact rfl
          go_wp2;go_quiet (fail)
          go_wp2;go_quiet (fail)
          go_wp2;go_roundw
          case rel=>exact⟨j+1,by omega,by omega,bf (Value.int IntKind.i64) (by omega),bt a.o.1 (drN _ _),b.o⟩
          case measure=>first|exact iU _ _ _ I d|exact iU _ _ _ rfl d
    . obtain rfl:j=k.length:=by omega
      have h:((k.length:Nat):Int)<(l.length:Int):=by omega
      have b:Hid (gX l k=1):=by rw[<-a.o.2,m7 l k k.length (.inr (ai _)) (by omega) (ai _),if_neg (by omega),if_pos (by omega)];exact rfl
      have t:¬(l.length:Int)<(k.length:Int):=by omega
      go_wp2;go_ret;exact⟨by rw[b.o];first|done|rfl,a.o.1⟩
  . obtain rfl:j=l.length:=by omega
    by_cases c:l.length<k.length
    . have h:((l.length:Nat):Int)<(k.length:Int):=by omega
      have b:Hid (gX l k= -1):=by rw[<-a.o.2,m7 l k l.length (.inl (ai _)) (ai _) (by omega),if_pos (by omega)];exact rfl
      go_wp2;go_ret;exact⟨by rw[b.o];first|done|rfl,a.o.1⟩
    . have h:¬((l.length:Nat):Int)<(k.length:Int):=by omega
      have t:¬((k.length:Nat):Int)<(l.length:Int):=by omega
      have b:Hid (gX l k=0):=by rw[<-a.o.2,m7 l k l.length (.inl (ai _)) (ai _) (by omega),if_neg (by omega),if_neg (by omega)];exact rfl
      go_wp2;go_ret;exact⟨by rw[b.o];first|done|rfl,a.o.1⟩
theorem ky(w:World)(aa b:Option Addr)(n m r s:Nat)(l k:List Nat)(f:Bs w aa l)(g:Bs w b k)(q:n=l.length)(i:m=k.length):
 Calls prog 13 #[.slice aa n r,.slice b m s] w λx t=>x=.returned (.bool (decide (l=k)))/\Below w.heap.size w t:=by
 have R:=gW (jc w aa b n m r s l k f g q i);clear f g q i;by_cases h:l=k
 . have a:decide (l=k)=true:=au h;rw[a];have d:gX l k=0:=sF.2 h;rw[d] at R;clear a d h;go_enter func13,ntmps13;go_wp2_with fail
   refine R.o.mono ?_;rintro e v ⟨rfl,hb⟩;go_wp2;go_ret;exact⟨rfl,hb⟩
 . have a:decide (l=k)=false:=ar h;rw[a];have d:(gX l k==0)=false:=eqf λe=>h (rD e)
   clear a h;generalize gX l k=c at *;go_enter func13,ntmps13;go_wp2_with fail
   refine R.o.mono ?_;rintro e v ⟨rfl,hb⟩;go_wp2;go_ret;exact⟨by simp_all,hb⟩
theorem kQ(w:World)(aa a:Option Addr)(n m c d:Nat)(l:List Nat)(e:Bs w aa l)(f:Bs w a l)(i:n=l.length)(g:m=l.length):
 Calls prog 13 #[.slice aa n c,.slice a m d] w λx b=>x=.returned (.bool true)/\Below w.heap.size w b:=
 (ky w aa a n m c d l l e f i g).mono λx b h=>⟨by rw[h.1];simp,h.2⟩
end Go.Proofs.YteaogidofpfmmaaGreat
namespace Go.Proofs.YteaogidofpfmmaaGreat
open Tryz
variable {a b k l x:List Nat}
theorem ld:∀a b:List Nat,gX a b=if a<b then -1 else if b<a then 1 else 0
 | [],[]=>by simp[gX]
 | [],_::_=>by simp[gX]
 |_::_,[]=>by simp[gX]
 |x::xs,y::ys=>by
  simp only[gX,dX,ld xs ys];by_cases h:x<y
  . simp[h]
  . by_cases h2:y<x
    . have c:¬x=y:=by omega
      simp[h,h2,c]
    . have c:x=y:=by omega
      simp[c]
theorem mh{a b:List Nat}:gX a b<0↔a<b:=by
 rw[ld];split
 . simp_all
 . split<;>simp_all
theorem Em:gX a b= -1↔a<b:=by
 rw[ld];split
 . simp_all
 . split<;>simp_all
theorem qr{a b:List Nat}:0<gX a b↔b<a:=by
 rw[ld];split
 . rename_i h;have:¬b<a:=by grind
   simp[this]
 . split<;>simp_all
theorem Ei:gX a b=1↔b<a:=by
 rw[ld];split
 . rename_i h;have:¬b<a:=by grind
   simp[this]
 . split<;>simp_all
theorem rA:gX a b<=0↔a<=b:=by
 have:= @qr a b;have h:a<=b↔¬b<a:=by grind
 rw[h,<-this];omega
theorem wP:0<=gX a b↔b<=a:=by
 have:= @mh a b;have h:b<=a↔¬a<b:=by grind
 rw[h,<-this];omega
def B8(l:List Nat):Prop:=∀x∈l,x<256
theorem B8.nil:B8 []:=λx h=>by cases h
theorem B8.cons{x:Nat}:B8 (x::l)↔x<256/\B8 l:=by simp[B8]
theorem B8.app:B8 (k++l)↔B8 k/\B8 l:=by
 unfold B8;constructor
 . intro h;exact⟨λx c=>h x (eb _ c),λx c=>h x (dP _ c)⟩
 . rintro⟨h1,h2⟩ x c;rcases bG.1 c with h|h;exact h1 x h;exact h2 x h
theorem B8.take(h:B8 l)(n:Nat):B8 (l.take n):=λx c=>h x (gO c)
def isK(k:List Nat):Bool:=decide (0<k.length)&&decide (k.length<=24)
theorem mM:isK k=true↔0<k.length/\k.length<=24:=by simp[isK]
def KK(k:List Nat):Prop:=isK k=true/\B8 k
def beh:List Nat->List Nat
 | []=>[]
 |x::p=>if beh p=[] then (if x=255 then [] else [x+1]) else x::beh p
theorem tr:∀p y:List Nat,B8 p->B8 y->((p<=y/\(beh p=[]\/y<beh p))↔∃r,y=p++r)
 | [],y,_,_=>by simp[beh]
 |x::p,[],_,_=>by simp
 |x::p,z::y,hp,hy=>by
  have ih:=tr p y (B8.cons.1 hp).2 (B8.cons.1 hy).2;have j:=(B8.cons.1 hp).1;have m:=(B8.cons.1 hy).1;simp only[beh,fC,cf,ep];by_cases hb:beh p=[]
  . simp only[hb,if_true,true_or,d5] at ih ⊢;by_cases e:x=255
    . simp only[e,if_true,true_or,d5];constructor
      . rintro(h|⟨rfl,h⟩)
        . omega
        . obtain⟨r,rfl⟩:=ih.1 h;exact⟨r,rfl,rfl⟩
      . rintro⟨r,rfl,rfl⟩;exact .inr ⟨rfl,ih.2 ⟨r,rfl⟩⟩
    . simp only[e,gJ,List.cons_ne_nil,false_or,dX];constructor
      . rintro⟨d,c⟩;have f:¬y<[]:=by simp
        have i:z<x+1:=by
         rcases c with c|⟨_,c⟩
         . exact c
         . exact absurd c f
        rcases d with d|⟨rfl,d⟩
        . omega
        . obtain⟨r,rfl⟩:=ih.1 d;exact⟨r,rfl,rfl⟩
      . rintro⟨r,rfl,rfl⟩;exact⟨.inr ⟨rfl,ih.2 ⟨r,rfl⟩⟩,.inl (by omega)⟩
  . simp only[hb,gJ,List.cons_ne_nil,false_or,dX] at ih ⊢;constructor
    . rintro⟨d,c⟩;have g:x=z:=by omega
      subst g;simp only[eO,true_and,false_or] at d c;obtain⟨r,rfl⟩:=ih.1 ⟨d,c⟩;exact⟨r,rfl,rfl⟩
    . rintro⟨r,rfl,rfl⟩;have:=ih.2 ⟨r,rfl⟩;exact⟨.inr ⟨rfl,this.1⟩,.inr ⟨rfl,this.2⟩⟩
theorem AE:∀p:List Nat,B8 p->B8 (beh p)
 | [],_=>B8.nil
 |x::p,h=>by
  have ih:=AE p (B8.cons.1 h).2;have c:=(B8.cons.1 h).1;simp only[beh];split
  . split
    . exact B8.nil
    . rw[B8.cons];exact⟨by omega,B8.nil⟩
  . rw[B8.cons];exact⟨c,ih⟩
theorem wK:∀p:List Nat,(beh p).length<=p.length
 | []=>ai _
 |x::p=>by
  have ih:=wK p;simp only[beh];split
  . split<;>simp
  . simp;exact ih
theorem zh:∀p:List Nat,beh p≠[]->p<beh p
 | [],h=>absurd rfl h
 |x::p,h=>by
  have ih:=zh p;simp only[beh] at h ⊢;by_cases hb:beh p=[]
  . rw[if_pos hb] at h ⊢;by_cases c:x=255
    . rw[if_pos c] at h;exact absurd rfl h
    . rw[if_neg c,dX];exact .inl (by omega)
  . rw[if_neg hb,dX];exact .inr ⟨rfl,ih hb⟩
def next(k:List Nat):List Nat:=if k.length<24 then k++[0] else beh (k.take 24)
theorem AM(k:List Nat):k<k++[0]:=by
 induction k with
 |nil=>simp
 |cons x k ih=>rw[cf,dX];exact .inr ⟨rfl,ih⟩
theorem ud:∀k x:List Nat,k<x->k++[0]<=x
 | [],[],h=>absurd h (by simp)
 | [],y::x,_=>by
   rw[cJ,fC];by_cases h:y=0
   . exact .inr ⟨h.symm,by simp⟩
   . exact .inl (by omega)
 |z::k,[],h=>absurd h (by simp)
 |z::k,y::x,h=>by
  rw[cf,fC];rw[dX] at h;rcases h with h|⟨rfl,h⟩
  . exact .inl h
  . exact .inr ⟨rfl,ud k x h⟩
theorem yL:∀(n:Nat)(k x:List Nat),x.length<=n->n<=k.length->(k<x↔(k.take n<=x/\¬ ∃r,x=k.take n++r))
 |0,k,x,h,_=>by
  obtain rfl:x=[]:=c7.1 (by omega)
  simp
 |n+1,[],x,_,h2=>absurd h2 (by simp)
 |n+1,y::k,[],_,_=>by simp
 |n+1,y::k,z::x,h1,h2=>by
  have c:=yL n k x (by simpa using h1) (by simpa using h2)
  simp only[eR,cf,ep,dX,fC];constructor
  . rintro(h|⟨rfl,h⟩)
    . exact⟨.inl h,by rintro⟨r,rfl,_⟩;omega⟩
    . have:=c.1 h;exact⟨.inr ⟨rfl,this.1⟩,by rintro⟨r,_,rfl⟩;exact this.2 ⟨r,rfl⟩⟩
  . rintro⟨h|⟨rfl,h⟩,h3⟩
    . exact .inl h
    . exact .inr ⟨rfl,c.2 ⟨h,λ⟨r,e⟩=>h3 ⟨r,rfl,e⟩⟩⟩
theorem zz(hk:B8 k)(g:KK x):k<x↔(next k≠[]/\next k<=x):=by
 unfold next
 by_cases h:k.length<24
 . rw[if_pos h];have:=AM k;constructor
   . intro c;exact⟨by simp,ud k x c⟩
   . rintro⟨_,c⟩;grind
 . rw[if_neg h,yL 24 k x (mM.1 g.1).2 (by omega)]
   have f:=tr (k.take 24) x (hk.take 24) g.2;have i:=zh (k.take 24);constructor
   . rintro⟨c,h2⟩;have e:¬(beh (k.take 24)=[]\/x<beh (k.take 24)):=λd=>h2 (f.1 ⟨c,d⟩)
     exact⟨λd=>e (.inl d),by grind⟩
   . rintro⟨c,h2⟩;have e:=i c;refine⟨by grind,λd=>?_⟩
     rcases (f.2 d).2 with h5|h5
     . exact c h5
     . grind
theorem tW(hk:B8 k)(h:next k≠[]):KK (next k):=by
 unfold next at h ⊢
 by_cases c:k.length<24
 . rw[if_pos c];exact⟨mM.2 (by simp;omega),B8.app.2 ⟨hk,by simp[B8]⟩⟩
 . rw[if_neg c] at h ⊢;have:=wK (k.take 24);rw[dh] at this;refine⟨mM.2 ⟨?_,by omega⟩,AE _ (hk.take 24)⟩
   cases e:beh (k.take 24) with
   |nil=>exact absurd e h
   |cons a b=>simp
theorem El(hk:B8 k):B8 (next k):=by
 by_cases h:next k=[]
 . rw[h];exact B8.nil
 . exact(tW hk h).2
def i7(b:List Nat):List Nat:=if isK b then b else next b
theorem Da(hb:B8 b):B8 (i7 b):=by unfold i7;split;exact hb;exact El hb
theorem tf(hb:B8 b)(h:i7 b≠[]):KK (i7 b):=by
 unfold i7 at h ⊢;split
 . rename_i c;exact⟨c,hb⟩
 . rename_i c;rw[if_neg c] at h;exact tW hb h
theorem qM(hb:B8 b)(c:KK x):b<=x↔(i7 b≠[]/\i7 b<=x):=by
 unfold i7;by_cases h:isK b=true
 . rw[if_pos h];have:b≠[]:=by rintro rfl;simp[isK] at h
   exact⟨λh=>⟨this,h⟩,λh=>h.2⟩
 . rw[if_neg h,<-zz hb c];have:b≠x:=by rintro rfl;exact h c.1
   grind
def inc(p:List Nat):List Nat:=p.set (p.length-1) (p.getD (p.length-1) 0+1)
theorem Cn(q:List Nat)(x:Nat):inc (q++[x])=q++[x+1]:=by simp[inc]
theorem Ew(p:List Nat):(inc p).length=p.length:=by simp[inc]
def sn(p:List Nat):Nat->Nat
 |0=>0
 |n+1=>if p.getD n 0=255 then sn p n else n+1
theorem pw:∀p:List Nat,beh (p++[255])=beh p
 | []=>by simp[beh]
 |x::p=>by simp[beh,pw p]
theorem t8:∀(p:List Nat)(x:Nat),x≠255->beh (p++[x])=p++[x+1]
 | [],x,h=>by simp[beh,h]
 |y::p,x,h=>by simp[beh,t8 p x h]
theorem zf:∀(p:List Nat)(n:Nat),n<=p.length->beh (p.take n)=if sn p n=0 then [] else inc (p.take (sn p n))
 |p,0,_=>by simp[sn,beh]
 |p,n+1,h=>by
  have ih:=zf p n (by omega)
  have d:n<p.length:=h;have e:p.getD n 0=p[n]:=by simp[d]
  rw[bY d];simp only[sn,e];by_cases c:p[n]=255
  . rw[if_pos c,c,pw,ih]
  . rw[if_neg c,t8 _ _ c,if_neg (by omega),bY d,Cn]
theorem Dv(p:List Nat):beh p=if sn p p.length=0 then [] else inc (p.take (sn p p.length)):=by
 have:=zf p p.length (ai _);rwa [dp] at this
end Go.Proofs.YteaogidofpfmmaaGreat
namespace Go.Proofs.YteaogidofpfmmaaGreat
open Tryz
open Go.RowKit
variable {l:List Nat}{cap x y:Nat}{a:Option Addr}{w wx:World}
theorem al(w:World)(o:Obj):Below w.heap.size w (w.alloc o):=(Below.refl _ _).alloc (ai _) _
structure Own(w wx:World)(a:Option Addr)(cap:Nat)(l:List Nat):Prop where
 r:Rw wx a cap l
 n:New w none a
 b:Below w.heap.size w wx
theorem Own.nil(w:World)(h:Below w.heap.size w wx):Own w wx none 0 []:=⟨Rw.nil _,New.none _ _,h⟩
theorem Own.keep{b:World}(h:Own w wx a cap l)(hb:Below wx.heap.size wx b):Own w b a cap l:=⟨h.r.keep hb,h.n,bt h.b hb⟩
theorem Own.pre{b:World}(hb:Below w.heap.size w b)(h:Own b wx a cap l):Own w wx a cap l:=⟨h.r,h.n.mono hb.size,bt hb h.b⟩
theorem Own.fresh(h:Own w wx a cap l){x:Addr}(b:a=some x):w.heap.size<=x.block:=by
 rcases h.n x b with⟨y,hy,_⟩|h
 . cases hy
 . exact h
def ba(l:List Nat):ByteArray:=⟨(l.map λx=>x.toUInt8).toArray⟩
theorem nY(w:World)(b:Nat):∀(l:List Nat)(c:Nat)(d:ByteArray),(∀i,i<l.length->w.cell? ⟨b,c+i,none⟩=some (.int .u8 ((l.getD i 0:Nat):Int)))->
 (Extern.Bytes.loadBytes ⟨b,c,none⟩ l.length d).run prog w=.ok ⟨d.data++(l.map λx=>x.toUInt8).toArray⟩ w
 | [],c,d,_=>by simp[Extern.Bytes.loadBytes]
 |x::l,c,d,h=>by
  have h0:=h 0 (by simp)
  simp only[fs,dr] at h0
  have f:(load ⟨b,c,none⟩).run prog w=.ok (.int .u8 (x:Int)) w:=by
   rw[run_load,h0]
  have g:=nY w b l (c+1) (d.push x.toUInt8) (λi e=>by
   have:=h (i+1) (by simpa using e)
   rw[List.getD_cons_succ] at this;rw[show c+1+i=c+(i+1) by omega];exact this)
  simp only[a7,Extern.Bytes.loadBytes,dS,f,dy];rw[show((⟨b,c,none⟩:Addr).add 1)=⟨b,c+1,none⟩ from rfl,show(x:Int).toNat.toUInt8=x.toUInt8 from rfl,g]
  simp[ByteArray.push]
theorem pA{w:World}{a:Option Addr}{l:List Nat}{n c:Nat}(d:Bs w a l)(g:n=l.length):(Extern.Bytes.bytesOf (.slice a n c)).run prog w=.ok (ba l) w:=by
 subst g;cases a with
 |none=>
  rcases d.2.2 with rfl|⟨b,e,h,_⟩
  . rfl
  . cases h
 |some x=>
  rcases d.2.2 with rfl|⟨b,e,h,f⟩
  . rfl
  . simp only[ay] at h;subst h;simp only[Extern.Bytes.bytesOf];rw[nY w b l e .empty f];simp only[ba];congr 1
    simp[ByteArray.empty,ByteArray.emptyWithCapacity];try rfl
theorem sd(l:List Nat):(ba l).size=l.length:=by simp[ba,ByteArray.size]
theorem mN(l:List Nat)(i:Nat)(hi:i<l.length):(ba l)[i]! =(l.getD i 0).toUInt8:=by
 have b:i<(ba l).size:=by rw[sd];exact hi
 rw[gV (ba l) i b];show(ba l).data[i]=_;simp[ba,hi]
theorem DD(b:x<256)(c:y<256):(x.toUInt8=y.toUInt8)↔x=y:=by
 constructor
 . intro h;have:=bf UInt8.toNat h;simp at this;omega
 . rintro rfl;rfl
theorem DJ(b:x<256)(c:y<256):(x.toUInt8<y.toUInt8)↔x<y:=by
 rw[UInt8.lt_iff_toNat_lt];simp;omega
theorem FK(l k:List Nat)(s:∀x∈l,x<256)(hk:∀x∈k,x<256):Extern.BytealgCompare.cmp (ba l) (ba k)=gX l k:=by
 have c:∀i,i<l.length->l.getD i 0<256:=λi b=>by rw[oO l b];exact s _ (fq _)
 have gk:∀i,i<k.length->k.getD i 0<256:=λi b=>by rw[oO k b];exact hk _ (fq _)
 have step:∀m,m<=l.length->m<=k.length->(∀i,i<m->l.getD i 0=k.getD i 0)->gX l k=gX (l.drop m) (k.drop m):=by
  intro m;induction m with
  |zero=>intros;rfl
  |succ m ih=>
   intro d B f;rw[ih (by omega) (by omega) (λi b=>f i (by omega)),oG l k m (by omega) (by omega),f m (by omega),if_neg (by omega),if_neg (by omega)]
 unfold Extern.BytealgCompare.cmp;rw[sd,sd];split
 . rename_i i p;obtain⟨d,t,f⟩:=List.find?_range_eq_some.1 p;have C:=dv.1 t;have n:i<l.length:=by omega
   have g:i<k.length:=by omega
   rw[mN l i n,mN k i g] at d ⊢;have D:l.getD i 0≠k.getD i 0:=λe=>by rw[e] at d;simp at d
   rw[step i (by omega) (by omega) (λj r=>by
    have:=f j r;rw[mN l j (by omega),mN k j (by omega)] at this
    simp only[bne_eq_false_iff_eq,Bool.not_eq_eq_eq_not,Bool.not_true] at this;exact(DD (c j (by omega)) (gk j (by omega))).1 this),oG l k i n g]
   by_cases h:l.getD i 0<k.getD i 0
   . rw[if_pos ((DJ (c i n) (gk i g)).2 h),if_pos h]
   . rw[if_neg (λq=>h ((DJ (c i n) (gk i g)).1 q)),if_neg h,if_pos (by omega)]
 . rename_i p;have A:=List.find?_eq_none.1 p
   have v:∀i,i<min l.length k.length->l.getD i 0=k.getD i 0:=λi b=>by
    have:=A i (dv.2 b);rw[mN l i (by omega),mN k i (by omega)] at this
    simp only[bne_iff_ne,ne_eq,Decidable.not_not] at this;exact(DD (c i (by omega)) (gk i (by omega))).1 this
   rw[step (min l.length k.length) (by omega) (by omega) v,m7 l k _ (by omega) (by omega) (by omega)]
theorem Dh{b:Option Addr}{k:List Nat}(n c m d:Nat)(f:Bs w a l)(g:Bs w b k)(i:n=l.length)(h:m=k.length):(callFunc 169 #[.slice a n c,.slice b m d]).run prog w=.ok (.value (.int .i64 (gX l k))) w:=by
 rw[run_callFunc_extern func169 (by kernel_rfl) (by kernel_rfl) (by kernel_rfl) (e:=Extern.BytealgCompare.compare) (by kernel_rfl)]
 have e:Extern.BytealgCompare.compare #[.slice a n c,.slice b m d]=(do pure (goInt (Extern.BytealgCompare.cmp (<-Extern.Bytes.bytesOf (.slice a n c)) (<-Extern.Bytes.bytesOf (.slice b m d))))):=rfl
 simp only[e,dS,pA f i,pA g h,dy,dT,FK l k f.1 g.1];rfl
theorem mg(w:World)(a b:Option Addr)(n c m d:Nat)(l k:List Nat)(f:Bs w a l)(g:Bs w b k)(i:n=l.length)(h:m=k.length):
 Calls prog 128 #[.slice a n c,.slice b m d] w λe j=>e=.returned (.int .i64 (gX l k))/\j=w:=by
 subst i h;have p:=Dh l.length c k.length d f g rfl rfl;clear f g;go_enter func128,ntmps128;go_wp2;go_ret;exact⟨rfl,rfl⟩
theorem jI(w:World)(a b:Option Addr)(n c m d:Nat)(l k:List Nat)(f:Bs w a l)(g:Bs w b k)(j:n=l.length)(i:m=k.length):
 Calls prog 82 #[.slice a n c,.slice b m d] w λe p=>e=.returned (.int .i64 (gX l k))/\p=w:=by
 subst j i;have h:=gW (mg w a b l.length c k.length d l k f g rfl rfl);clear f g;go_enter func82,ntmps82;go_wp2_with fail
 refine h.o.mono ?_;rintro e q ⟨rfl,rfl⟩;go_wp2;go_ret;exact⟨rfl,rfl⟩
theorem zu:(prog.info? 5).map (·.size)=some 1:=by kernel_rfl
theorem Al(n:Nat):madeCells #[Value.int .u8 0] n=(List.replicate n (Value.int .u8 0)).toArray:=by
 unfold madeCells;apply Array.ext
 . simp
 . intro i b c;simp[Nat.mod_one]
theorem Gc(h:Bs w a l):B8 l:=h.1
theorem wN(w:World)(g:Nat)(h:w.heap.size<=g):New w none (some ⟨g,0,none⟩):=λx b=>.inr (by simp only[ay] at b;subst b;exact h)
theorem yB(w:World)(a:Option Addr)(c:Nat)(l:List Nat)(n:Bs w a l)(q:l.length<=281474976710656):
 ∃i,(Builtin.copy_ #[37,37] 3 #[.slice (some ⟨w.heap.size,0,none⟩) l.length l.length,.slice a l.length c]).run prog (w.alloc (.cells (madeCells #[.int .u8 0] l.length) 5))=.ok (.int .i64 (l.length:Int)) i/\Own w i (some ⟨w.heap.size,0,none⟩) l.length l:=by
 by_cases f:l=[]
 . subst f;refine⟨_,run_copy_none (P:=prog) _ 37 37 3 5 _ a _ _ _ c underlying37 zu (by simp),?_,wN w _ (ai _),al _ _⟩
   exact Rw.mk (cur:=madeCells #[.int .u8 0] 0) (aZ _ _) (ai _) (an _) (size_madeCells _ _) (by simp[vb])
 . rcases n.2.2 with m|⟨b,k,rfl,g⟩
   . exact absurd m f
   . have h:=run_copy_row (P:=prog) (w.alloc (.cells (madeCells #[.int .u8 0] l.length) 5)) 37 37 3 5 w.heap.size 0 l.length l.length ⟨b,k,none⟩ l.length c (madeCells #[.int .u8 0] l.length) 5 (vb l) underlying37 zu (aZ _ _) (by rw[je];show _=min _ _;omega)
      (λj v d=>by
        have e:j<l.length:=by
         have:=(bE.1 d).1;rwa [je] at this
        rw[va l j e,ay] at d;subst d;rw[Addr.add_mid];exact((al w _).cell (p:=⟨b,k+j,none⟩) (block_lt_of_cell (g j e))).trans (g j e)) (by rw[je,size_madeCells];omega) (zB l)
     rw[je] at h;refine⟨_,h,?_,wN w _ (ai _),below_setRow (al _ _) (ai _) _⟩;refine Rw.mk (cur:=(vb l).toArray) ?_ (ai _) (by unfold maxLen;omega) (by simp[je]) (by simp[<-je l])
     rw[br _ _ _ _ _ _ (aZ w _)];simp[Al]
theorem lI(w:World)(a:Option Addr)(n c:Nat)(l:List Nat)(b:Bs w a l)(h:n=l.length)(f:l.length<=281474976710656):
 Calls prog 131 #[.slice a n c] w λe i=>e=.returned (.slice (some ⟨w.heap.size,0,none⟩) l.length l.length)/\Own w i (some ⟨w.heap.size,0,none⟩) l.length l:=by
 subst h;have m:=oT l.length l.length (ai _) f;obtain⟨k,j,d⟩:=yB w a c l b f;have g:=gW d;clear b d;go_enter func131,ntmps131;go_wp2;go_ret;exact⟨rfl,g.o⟩
theorem rQ(w:World)(a:Option Addr)(n c:Nat)(l:List Nat)(h:Bs w a l)(s:n=l.length)(C:l.length<140737488355328):
 Calls prog 192 #[.slice a n c] w λe t=>∃d f,e=.returned (.slice d (l++[0]).length f)/\Own w t d f (l++[0]):=by
 subst s;have q:=gW (lI w a l.length c l h rfl (by omega))
 clear h;go_enter func192,ntmps192;go_wp2_with fail
 refine q.o.mono ?_;rintro e v ⟨rfl,m⟩;have b:=gW m;clear m;go_wp2_with (at_builtin;refine qF rfl _ _ rfl (some ⟨w.heap.size,0,none⟩) l.length l.length l rfl rfl (b.o.r.keep (al _ _)) ⟨v.heap.size,0,none⟩ 1 0 rfl ?c1 (by omega) ?_)
 try case c1=>simp
 intro g A B j i k _;have p:=rp b.o.n b.o.b k i;have r:=gW j;clear j i k;go_wp2;go_ret;exact⟨_,A,by simp,r.o,p.1,p.2⟩
theorem Rw.set{g:Nat}(h:Rw w (some ⟨g,0,none⟩) cap l)(i x:Nat):Rw (w.setCell ⟨g,i,none⟩ (.int .u8 (x:Int))) (some ⟨g,0,none⟩) cap (l.set i x):=by
 rcases h.cases with⟨h0,_⟩|⟨g',cur,h0,hg,h1,h2,h3,h4⟩
 . cases h0
 . simp only[ay,Addr.mk.injEq] at h0;obtain⟨rfl,_⟩:=h0;refine Rw.mk (cur:=cur.setIfInBounds i (.int .u8 (x:Int))) ?_ (by simpa using h1) h2 (by simpa using h3) ?_
   . show(w.heap.modify g _)[g]?=_;rw[eZ,if_pos rfl,hg];simp
   . rw[cx,ey,gy,h4];simp[vb,fU]
theorem xT(w:World)(a:Option Addr)(n c:Nat)(l:List Nat)(k:Bs w a l)(r:n=l.length)(v:l.length<=281474976710656)(b:0<l.length)(C:l.getD (l.length-1) 0<255):
 Calls prog 207 #[.slice a n c] w λe s=>∃g h,e=.returned (.slice g (inc l).length h)/\Own w s g h (inc l):=by
 subst r;have p:=gW (lI w a l.length c l k rfl v);clear k;have F:IntKind.i64.wrap ((l.length:Int)-1)=((l.length-1:Nat):Int):=by rw[iz (by omega) (by omega)];omega
 have D:((l.length-1:Nat):Int)<(l.length:Int):=by omega
 have q:Hid (l.set (l.length-1) (l.getD (l.length-1) 0+1)=inc l):=rfl;have t:=gW (Ew l);go_enter func207,ntmps207;go_wp2_with fail
 refine p.o.mono ?_;rintro e m ⟨rfl,d⟩;have A:=d.r.cell (i:=l.length-1) (by omega)
 have B:m.frozen? ⟨w.heap.size,l.length-1,none⟩=false:=by
  rcases d.r.cases with⟨b,_⟩|⟨g',cur,b,hg',_⟩
  . cases b
  . simp only[ay,Addr.mk.injEq] at b;obtain⟨rfl,_⟩:=b;exact bq m _ _ _ _ hg'
 have f:=gW d;clear d;generalize l.getD (l.length-1) 0=x at *;generalize l.length-1=j at *;have E:IntKind.u8.wrap ((x:Int)+1)=((x+1:Nat):Int):=by simp[IntKind.wrap,IntKind.bits,IntKind.signed];omega
 go_wp2;go_ret;refine⟨_,l.length,by rw[t.o];rfl,?_,f.o.n,f.o.b.setCell (ai _) _⟩
 rw[<-q.o];exact f.o.r.set j (x+1)
end Go.Proofs.YteaogidofpfmmaaGreat
namespace Go.Proofs.YteaogidofpfmmaaGreat
open Tryz
structure RS where
 l:List Nat
 e:Nat
namespace M
open Tryz
end M
end Go.Proofs.YteaogidofpfmmaaGreat
namespace Go.Proofs.YteaogidofpfmmaaGreat
open Tryz
open Go.RowKit
theorem below_setRow{B:Nat}{a w:World}(h:Below B a w){g:Nat}(b:B<=g)(cs:Array Value):Below B a (w.setRow g cs):=
 ⟨h.os,h.tape,h.output,by rw[setRow_size];exact h.size,λk hk=>(setRow_other w g k cs (by omega)).trans (h.block k hk)⟩
end Go.Proofs.YteaogidofpfmmaaGreat
