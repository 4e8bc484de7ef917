import Derived.Deep.RegionHeld3
import Derived.Below
import Derived.CallsIn
import Derived.ControlIn
import Derived.Deep.AppendLies
import Derived.Deep.RegionHeld
import Derived.Laws.AppendOwn
import Derived.Laws.CopyRow
import Derived.Laws.Entries
import Derived.Laws.MakeOwn
import Derived.Laws.Rows
import Derived.Laws.Sem
import Derived.Laws.Tables
import Derived.OneCell
import Derived.OrdersIn
import Derived.OwnWalk
import Derived.RangeFuncLeaves
import Derived.RangeFuncRecord
import Derived.Tactics
import GoSem.Core.Sem
import GoSem.Core.Value
import GoSem.Core.World
import Derived.Test.YtbdkogimlbnlmaaGreatProg
import Derived.WalkKit
import Derived.WalkSpells
import Derived.WalkLawsBesides
import Derived.Deep.WholeRow
import Derived.Outline
import Derived.KernelRfl
import Derived.Laws.BitsAllLaws
import Derived.Deep.OwnRows
import Derived.Deep.RegionHeldLaw
import Derived.Deep.RegionLaw
import Derived.Laws.Cover3
import Derived.BigRegion
import Derived.BigQuiet
import Derived.Deep.QuietTactic
import Derived.Deep.LoopGhost
import Derived.Deep.RegionWith
import Derived.Laws.Externs
import Derived.Laws.CopyOwn
set_option linter.all false
set_option maxHeartbeats 1600000
namespace Go.Proofs.YtbdkogimlbnlmaaGreat
open Tryz
variable {a a0 a1 a2:Act}{ops:Array Oper}{Q:Exit->Act->World->Prop}{fuel:Nat}{o0 o1:Oper}{P:Program}{v0 v1:Value}{w:World}{S:World->Prop}
abbrev ae:=@List.length_append
abbrev af:=@Array.getElem?_eq_some_iff
abbrev ai:=@Nat.le_refl
abbrev aq:=@List.getD_eq_getElem?_getD
abbrev au:=@decide_eq_false
abbrev ax:=@decide_eq_true
abbrev ay:=@Go.cell_of_row
abbrev az:=@Nat.zero_le
abbrev aE:=@Option.some.injEq
abbrev aF:=@Go.World.alloc_heap_new
abbrev aH:=@Go.heap_alloc_new
abbrev aM:=@List.length_set
abbrev aO:=@Nat.le_trans
abbrev aQ:=@List.mem_singleton
abbrev aR:=@List.getElem?_eq_getElem
abbrev aU:=@List.append_assoc
abbrev aY:=@Go.heap_setCell_same
abbrev aZ:=@List.length_map
abbrev a7:=@congrArg
abbrev be:=@Nat.lt_of_lt_of_le
abbrev bf:=@List.length_cons
abbrev bg:=@List.getElem?_append_right
abbrev bh:=@List.length_replicate
abbrev bi:=@List.length_take
abbrev bj:=@List.length_nil
abbrev bm:=@List.not_mem_nil
abbrev bq:=@List.mem_append
abbrev br:=@List.getElem?_append_left
abbrev bz:=@List.getElem?_eq_some_iff
abbrev bB:=@List.mem_of_getElem?
abbrev bC:=@Go.wp_region_held_drew
abbrev bE:=@decide_eq_true_eq
abbrev bG:=@Go.frozen_of_row
abbrev bH:=@List.mem_map
abbrev bL:=@List.map_cons
abbrev bM:=@Go.Value.slice.injEq
abbrev bN:=@Nat.zero_add
abbrev bO:=@Bool.and_eq_true
abbrev bP:=@List.map_append
abbrev bQ:=@List.getElem?_set_ne
abbrev bR:=@List.length_pos_iff
abbrev bT:=@Go.Result.andThen_ok
abbrev bY:=@Nat.add_zero
abbrev bZ:=@Go.bodyPost_ret
abbrev co:=@List.length_eq_zero_iff
abbrev cw:=@List.mem_range
abbrev cE:=@Go.wpList_store_row
abbrev cF:=@List.drop_eq_getElem_cons
abbrev cH:=@List.getElem?_take
abbrev cJ:=@List.take_length
abbrev cM:=@List.getElem?_eq_none
abbrev cO:=@List.mem_cons
abbrev cQ:=@List.pairwise_cons
abbrev cR:=@List.map_toArray
abbrev cU:=@List.append_nil
abbrev cY:=@List.nil_append
abbrev cZ:=@List.take_append_drop
abbrev c9:=@List.getElem?_map
abbrev da:=@List.mem_cons_self
abbrev db:=@List.take_of_length_le
abbrev dc:=@Go.setRow_heap
abbrev de:=@List.pairwise_append
abbrev df:=@Nat.sub_self
abbrev di:=@Int.toNat_natCast
abbrev dm:=@List.size_toArray
abbrev dq:=@Nat.min_eq_left
abbrev dr:=@Go.info_parts
abbrev dt:=@Go.run_underlying
abbrev du:=@List.drop_eq_nil_of_le
abbrev dv:=@List.length_drop
abbrev dw:=@List.cons_append
abbrev dy:=@List.pairwise_singleton
abbrev dz:=@Go.World.putObj_heap_other
abbrev dB:=@decide_eq_false_iff_not
abbrev dE:=@Go.Sem.run_bind
abbrev dF:=@Go.Sem.run_pure
abbrev dG:=@Array.replicate_succ
abbrev dH:=@Array.replicate_zero
abbrev dJ:=@List.mem_cons_of_mem
abbrev dM:=@List.map_nil
abbrev dO:=@List.append_toArray
abbrev dQ:=@Nat.not_lt_zero
abbrev dS:=@List.take_succ_eq_append_getElem
abbrev dT:=@Nat.mul_le_mul_right
abbrev dU:=@Go.Obj.cells.injEq
abbrev dW:=@Go.run_append_lies
abbrev dX:=@List.ext_getElem?
abbrev dY:=@List.push_toArray
abbrev dZ:=@List.flatten_cons
abbrev d9:=@List.take_append_of_le_length
abbrev eb:=@List.getElem?_set_self
abbrev ed:=@List.set_append_right
abbrev ee:=@Nat.mul_one
abbrev em:=@Go.cell_of_one
abbrev eu:=@List.getElem?_cons_succ
abbrev ew:=@Array.toList_setIfInBounds
abbrev eE:=@Nat.zero_mul
abbrev eG:=@Nat.lt_irrefl
abbrev eH:=@and_true
abbrev eJ:=@Nat.le_succ
abbrev eK:=@List.getElem_mem
abbrev eO:=@Go.run_takeDeferred
abbrev eQ:=@Go.results_none
abbrev eU:=@Bool.false_and
abbrev eV:=@List.mem_or_eq_of_mem_set
abbrev eW:=@Classical.byContradiction
abbrev eY:=@Bool.and_eq_false_iff
abbrev eZ:=@List.set_cons_zero
abbrev e7:=@Go.wpList_plain
abbrev e8:=@List.getElem?_of_mem
abbrev fa:=@List.drop_zero
abbrev fb:=@List.mem_filter
abbrev fd:=@Int.le_refl
abbrev fh:=@Go.wpAnyH_ready
abbrev fj:=@Go.callsIn_wide
abbrev fk:=@Array.getElem?_toList
abbrev fo:=@List.getElem?_toArray
abbrev fq:=@List.pairwise_iff_getElem
abbrev fs:=@Array.getElem?_setIfInBounds_ne
abbrev ft:=@List.take_left'
abbrev fw:=@Bool.or_eq_true
abbrev fB:=@Go.World.ownsRow_nil
abbrev fC:=@Nat.add_assoc
abbrev fD:=@Bool.or_false
abbrev fE:=@Nat.add_sub_cancel_left
abbrev fF:=@Go.callsIn_of_wp_marks
abbrev fG:=@List.take_take
abbrev fH:=@Go.results_cell_row
abbrev fI:=@Array.getElem?_modify
abbrev fJ:=@Bool.eq_iff_iff
abbrev fK:=@List.length_filter_le
abbrev fM:=@List.cons.injEq
abbrev fN:=@Go.wpAnyIn_ready
abbrev fO:=@List.pairwise_map
abbrev fP:=@Nat.mod_lt
abbrev fQ:=@List.mem_of_mem_take
abbrev fR:=@List.take_zero
abbrev fT:=@List.any_eq_true
abbrev fU:=@Nat.lt_succ_self
abbrev fW:=@List.toList_toArray
abbrev fY:=@List.take_set
abbrev fZ:=@Bool.true_and
abbrev gd:=@List.eq_nil_iff_forall_not_mem
abbrev gh:=@Go.Result.ok.injEq
abbrev gm:=@List.range_succ
abbrev gq:=@List.filter_append
abbrev gu:=@Go.World.putObj_heap_same
abbrev gz:=@List.any_eq_false
abbrev gA:=@List.length_range
abbrev gE:=@Nat.le_of_lt
abbrev gF:=@Iff.rfl
abbrev gG:=@Go.size_madeCells
abbrev gH:=@Go.wpIn_wide
abbrev gJ:=@List.mem_flatten
abbrev gM:=@List.dropLast_concat
abbrev gN:=@List.mem_append_left
abbrev gO:=@or_false
abbrev gQ:=@Array.getElem?_setIfInBounds_self_of_lt
abbrev gR:=@Go.callsIn_of_wp
abbrev gS:=@List.flatten_append
abbrev gU:=@List.replicate_succ
abbrev gW:=@List.drop_succ_cons
abbrev gY:=@List.take_succ_cons
abbrev gZ:=@Option.map_some
abbrev g7:=@List.set_cons_succ
abbrev g8:=@Nat.xor_lt_two_pow
abbrev g9:=@Go.wp_store_row
abbrev ia:=@Bool.and_false
abbrev ie:=@Go.heap_alloc_old
abbrev ig:=@List.getElem?_replicate
abbrev ij:=@List.getElem?_cons_zero
abbrev ik:=@List.take_add_one
abbrev il:=@Go.run_storeCells_at
abbrev ip:=@Nat.add_mul
abbrev iq:=@List.filter_eq_nil_iff
abbrev iu:=@Nat.le_of_not_lt
abbrev iv:=@List.eq_nil_or_concat
abbrev ix:=@List.concat_eq_append
abbrev iy:=@List.mem_append_right
abbrev iz:=@Array.toArray_toList
abbrev iA:=@Nat.not_succ_le_self
abbrev iD:=@List.drop_left'
abbrev iE:=@Nat.min_self
abbrev iF:=@Nat.le_of_eq
abbrev iG:=@List.length_zip
abbrev iH:=@getElem!_pos
abbrev iI:=@Go.wpIn_region_any
theorem _root_.Go.RowKit.Hid.o{p:Prop}(h:Go.RowKit.Hid p):p:=h
theorem _root_.Go.Shut.o{p:Prop}(h:Shut p):p:=h
theorem pt:(∀(a:Act)(t:Tmp)(v:Value),a.put (some t) v={a with tmps:=a.tmps.setIfInBounds t v})/\(∀(a:Act)(v:Value),a.put none v=a)/\(∀{α:Type}(l:List α)(i:Nat)(h:i<l.toArray.size),l.toArray[i]=l[i]'(by simpa using h))/\(∀{α:Type}(a:α)(l:List α)(h:0<(a::l).length),(a::l)[0]=a)/\(∀{α:Type}(a:α)(l:List α)(i:Nat)(h:i+1<(a::l).length),(a::l)[i+1]=l[i]'(by simpa using h))/\(∀{α:Type}(l:List α)(i:Nat)(a:α),l.toArray.setIfInBounds i a=(l.set i a).toArray)/\(∀{α:Type}(a b:α)(l:List α),(a::l).set 0 b=b::l)/\(∀{α:Type}(a b:α)(l:List α)(i:Nat),(a::l).set (i+1) b=a::l.set i b):=by
 refine⟨λ_ _ _=>rfl,λ_ _=>rfl,λ_ _ _=>by simp,λ_ _ _=>rfl,λ_ _ _ _=>rfl,λ_ _ _=>by simp,λ_ _ _=>rfl,λ_ _ _ _=>rfl⟩
theorem tk{P:Program}{f:Region.Mode}{ops:Array Oper}{Q:Exit->Act->World->Prop}{S:World->Prop}(i:Nat){d:Oper}{v:Value}{fuel:Nat}{listed l:Array Bool}{a b:Act}{w:World}(h:wpAnyH P f ops Q S fuel l b w)(hi:ops[i]?=some d:=by exact rfl)
 (e:(Region.noSelect ops&&(Region.free f ops listed i&&(Region.ready f ops listed).contains i))=true:=by kernel_rfl)
 (g:∀c a w,Q (.panic c) (a.put d.dst v) w->Q (.panic c) a w:=by exact λ_ _ _ h=>h) (m:Region.wanted d (yielded ops a.tmps)=true:=by exact rfl) (j:S w:=by assumption)
 (n:∀w,S w->(execOp a.eval d).run P w=.ok (.value v) w:=by (intro _ s;(try dsimp only at s);go_simp<;>with_reducible rfl))
 (k:listed.setIfInBounds i true=l:=by ((try simp only[pt]);exact rfl)) (hb:a.put d.dst v=b:=by ((try simp only[pt]);exact rfl)):wpAnyH P f ops Q S (fuel+1) listed a w:=by
 simp only[bO] at e;exact wpAnyH_take hi e.1 e.2.1 e.2.2 g (.inl ⟨m,n⟩) j (k▸hb▸h)
theorem tu{P:Program}{e:Region.Mode}{ops:Array Oper}{Q:Exit->Act->World->Prop}{S:World->Prop}(i:Nat){f:Oper}{fuel:Nat}{listed l:Array Bool}{a b:Act}{w:World}(h:wpAnyH P e ops Q S fuel l b w)(hi:ops[i]?=some f:=by exact rfl)
 (d:(Region.noSelect ops&&(Region.free e ops listed i&&(Region.ready e ops listed).contains i))=true:=by kernel_rfl)
 (g:∀c a w,Q (.panic c) (a.put f.dst undef) w->Q (.panic c) a w:=by exact λ_ _ _ h=>h) (m:Region.wanted f (yielded ops a.tmps)=false:=by exact rfl) (j:S w:=by assumption)
 (k:listed.setIfInBounds i true=l:=by ((try simp only[pt]);exact rfl)) (hb:a.put f.dst undef=b:=by ((try simp only[pt]);exact rfl)):wpAnyH P e ops Q S (fuel+1) listed a w:=by
 simp only[bO] at d;exact wpAnyH_take hi d.1 d.2.1 d.2.2 g (.inr ⟨m,rfl⟩) j (k▸hb▸h)
theorem tw{P:Program}{d:Region.Mode}{ops:Array Oper}{Q:Exit->Act->World->Prop}{S:World->Prop}(i:Nat){o:Oper}{fuel:Nat}{listed:Array Bool}{a:Act}{w:World}
 (h:∀b:Act->World->Prop,Shut (∀a w,S w->(S w->wpAnyH P d ops Q S fuel (listed.setIfInBounds i true) a w)->b a w)->if Region.wanted o (yielded ops a.tmps)=true then Oper.wp P o a w b Q else b (a.put o.dst undef) w)
 (e:ops[i]?=some o:=by exact rfl) (f:Region.ready d ops listed=[i]:=by kernel_rfl):wpAnyH P d ops Q S (fuel+1) listed a w:=
 fh f (by simp) (AllReadyH.cons e h AllReadyH.nil)
theorem td{b:Region.Mode}{listed:Array Bool}(h:Q .normal a w)(d:Region.ready b ops listed=[]:=by kernel_rfl):wpAnyH P b ops Q S fuel listed a w:=
 wpAnyH_done d h _
def Tc(P:Program)(md:Region.Mode)(ops:Array Oper)(Q:Exit->Act->World->Prop)(S:World->Prop)(i:Nat)(o:Oper)(v:Value)(l k:Array Bool)(a b:Act):Prop:=ops[i]?=some o/\(Region.noSelect ops&&(Region.free md ops l i&&(Region.ready md ops l).contains i))=true/\(∀c a w,Q (.panic c) (a.put o.dst v) w->Q (.panic c) a w)/\Region.wanted o (yielded ops a.tmps)=true/\(∀w,S w->(execOp a.eval o).run P w=.ok (.value v) w)/\l.setIfInBounds i true=k/\a.put o.dst v=b
theorem tc{d:Region.Mode}{i:Nat}{o:Oper}{v:Value}{l k:Array Bool}{b:Act}(e:S w)(c:Tc P d ops Q S i o v l k a b)(h:wpAnyH P d ops Q S fuel k b w):wpAnyH P d ops Q S (fuel+1) l a w:=tk i h c.1 c.2.1 c.2.2.1 c.2.2.2.1 e c.2.2.2.2.1 c.2.2.2.2.2.1 c.2.2.2.2.2.2
theorem tkb{b:Region.Mode}{d e f:Array Bool}(g i:Nat)(h:wpAnyH P b ops Q S fuel f a2 w)(s:S w:=by assumption)(c0:Tc P b ops Q S g o0 v0 d e a0 a1:=by exact⟨rfl,by kernel_rfl,λ_ _ _ h=>h,rfl,by (intro _ s;(try dsimp only at s);go_simp<;>with_reducible rfl),by ((try simp only[pt]);exact rfl),by ((try simp only[pt]);exact rfl)⟩)(c1:Tc P b ops Q S i o1 v1 e f a1 a2:=by exact⟨rfl,by kernel_rfl,λ_ _ _ h=>h,rfl,by (intro _ s;(try dsimp only at s);go_simp<;>with_reducible rfl),by ((try simp only[pt]);exact rfl),by ((try simp only[pt]);exact rfl)⟩):wpAnyH P b ops Q S (fuel+1+1) d a0 w:=tc s c0 (tc s c1 h)
theorem tkd{b:Region.Mode}{n p:Oper}{q v3:Value}{d e f g i:Array Bool}{a3 a4:Act}(j k l m:Nat)(h:wpAnyH P b ops Q S fuel i a4 w)(s:S w:=by assumption)(c0:Tc P b ops Q S j o0 v0 d e a0 a1:=by exact⟨rfl,by kernel_rfl,λ_ _ _ h=>h,rfl,by (intro _ s;(try dsimp only at s);go_simp<;>with_reducible rfl),by ((try simp only[pt]);exact rfl),by ((try simp only[pt]);exact rfl)⟩)(c1:Tc P b ops Q S k o1 v1 e f a1 a2:=by exact⟨rfl,by kernel_rfl,λ_ _ _ h=>h,rfl,by (intro _ s;(try dsimp only at s);go_simp<;>with_reducible rfl),by ((try simp only[pt]);exact rfl),by ((try simp only[pt]);exact rfl)⟩)(c2:Tc P b ops Q S l n q f g a2 a3:=by exact⟨rfl,by kernel_rfl,λ_ _ _ h=>h,rfl,by (intro _ s;(try dsimp only at s);go_simp<;>with_reducible rfl),by ((try simp only[pt]);exact rfl),by ((try simp only[pt]);exact rfl)⟩)(c3:Tc P b ops Q S m p v3 g i a3 a4:=by exact⟨rfl,by kernel_rfl,λ_ _ _ h=>h,rfl,by (intro _ s;(try dsimp only at s);go_simp<;>with_reducible rfl),by ((try simp only[pt]);exact rfl),by ((try simp only[pt]);exact rfl)⟩):wpAnyH P b ops Q S (fuel+1+1+1+1) d a0 w:=tc s c0 (tc s c1 (tc s c2 (tc s c3 h)))
theorem wrd{id:Nat}{v:World}(s:Go.RowKit.Hid (∀W:World,Go.RowKit.Below v.heap.size v W->S W))(d:Go.RowKit.Below v.heap.size v w.drew)(h:S w.drew->wpAnyH P .any ops Q S ops.size (Array.replicate ops.size false) a w.drew)(b:P.follows .mixedOrders=true:=by kernel_rfl):(Code.region id ops true).wp P Q a w:=bC b (s.o _ d) h
end Go.Proofs.YtbdkogimlbnlmaaGreat
namespace Go.Proofs.YtbdkogimlbnlmaaGreat
open Tryz
open Go.RowKit
variable {p:Addr}{l:List Nat}{cap g k:Nat}{S T:Nat->Prop}{a:Option Addr}{b c w w' w1:World}
theorem iJ{p:Prop}(h:p):Hid p:=h
theorem size_alloc(w:World)(o:Obj):(w.alloc o).heap.size=w.heap.size+1:=by
 show(w.heap.push o).size=_;simp
theorem sH(l:List Nat)(h:k<l.length):l.getD k 0=l[k]:=by simp[h]
theorem bt{a:World}(h:Below w.heap.size w a)(k:Below a.heap.size a b):Below w.heap.size w b:=h.trans (k.mono h.size)
theorem block_lt_of_cell{a:Addr}{v:Value}(h:w.cell? a=some v):a.block<w.heap.size:=World.block_lt_of_cell? w a h
def Bs(w:World)(a:Option Addr)(l:List Nat):Prop:=
 (∀x∈l,x<256)/\l.length<=9223372036854775807/\(l=[]\/∃b off,a=some ⟨b,off,none⟩/\∀i,i<l.length->w.cell? ⟨b,off+i,none⟩=some (.int .u8 ((l.getD i 0:Nat):Int)))
theorem Bs.keep(h:Bs w a l)(hb:Below w.heap.size w w'):Bs w' a l:=by
 obtain⟨j,m,d⟩:=h;refine⟨j,m,?_⟩;rcases d with d|⟨b,off,rfl,e⟩
 . exact .inl d
 . exact .inr ⟨b,off,rfl,λi f=>(hb.cell (p:=⟨b,off+i,none⟩) (block_lt_of_cell (e i f))).trans (e i f)⟩
theorem Bs.nil(w:World):Bs w none []:=⟨by simp,by simp,.inl rfl⟩
def vb(l:List Nat):List Value:=l.map λx=>Value.int .u8 ((x:Nat):Int)
theorem pu(a b:List Nat):vb (a++b)=vb a++vb b:=by unfold vb;rw[bP]
theorem kX(a:List Nat):(vb a).length=a.length:=by unfold vb;rw[aZ]
theorem vV(l:List Nat)(i:Nat)(hi:i<l.length):(vb l)[i]?=some (.int .u8 ((l.getD i 0:Nat):Int)):=by simp[vb,hi]
theorem Ha(l:List Nat):∀u∈vb l,u.oneCell'=true:=by
 intro u d;obtain⟨x,_,rfl⟩:=bH.1 d;rfl
theorem As(l:List Nat)(h:k<l.length):l.take k++[l.getD k 0]=l.take (k+1):=by
 rw[dS h,sH l h]
structure But(S:Nat->Prop)(w w':World):Prop where
 os:w'.os=w.os
 tape:w'.tape=w.tape
 output:w'.output=w.output
 size:w.heap.size<=w'.heap.size
 block:∀k,k<w.heap.size->¬S k->w'.heap[k]?=w.heap[k]?
theorem But.refl(S:Nat->Prop)(w:World):But S w w:=⟨rfl,rfl,rfl,ai _,λ_ _ _=>rfl⟩
theorem But.trans{a:World}(h:But S a b)(k:But T b c)(f:∀x,x<a.heap.size->T x->S x):But S a c:=
 ⟨k.os.trans h.os,k.tape.trans h.tape,k.output.trans h.output,aO h.size k.size,λi d e=>(k.block i (be d h.size) (λj=>e (f i d j))).trans (h.block i d e)⟩
theorem But.mono{a:World}(h:But S a b)(e:∀x,x<a.heap.size->S x->T x):But T a b:=
 ⟨h.os,h.tape,h.output,h.size,λk d f=>h.block k d λi=>f (e k d i)⟩
theorem But.drew{a:World}(h:But S a w):But S a w.drew:=⟨h.os,h.tape,h.output,h.size,h.block⟩
theorem But.ofBelow(h:Below w.heap.size w w'):But S w w':=⟨h.os,h.tape,h.output,h.size,λk d _=>h.block k d⟩
theorem But.below(h:But S w w')(e:∀k,k<w.heap.size->¬S k):Below w.heap.size w w':=⟨h.os,h.tape,h.output,h.size,λk d=>h.block k d (e k d)⟩
theorem But.alloc{a:World}(h:But S a w)(o:Obj):But S a (w.alloc o):=
 h.trans (T:=λ_=>False) (But.ofBelow ((Below.refl _ _).alloc (ai _) o)) (λ_ _ d=>d.elim)
theorem But.setCell{a:World}(h:But S a w)(f:p.block<a.heap.size->S p.block)(u:Value):But S a (w.setCell p u):=
 h.trans (T:=λk=>k=p.block) ⟨rfl,rfl,rfl,by simp[World.setCell],λk _ d=>Below.heap_setCell _ _ _ _ d⟩ (λx i e=>by subst e;exact f i)
theorem But.grown{a:World}{row:Option Nat}(h:But S a w)(d:w.grownBy w' row)(j:∀k,row=some k->k<a.heap.size->S k):But S a w':=
 h.trans (T:=λk=>row=some k) ⟨d.os,d.tape,d.output,d.size,λk f i=>d.block k f λe=>i e.symm⟩ (λx m e=>j x e m)
theorem But.andBelow{a:World}(h:But S a b)(k:Below b.heap.size b c):But S a c:=
 h.trans (T:=λ_=>False) (But.ofBelow k) (λ_ _ d=>d.elim)
theorem But.cell(h:But S w w')(e:p.block<w.heap.size)(d:¬S p.block):w'.cell? p=w.cell? p:=World.cell?_of_block (w:=w) (h.block p.block e d)
theorem But.frozen(h:But S w w')(e:p.block<w.heap.size)(d:¬S p.block):w'.frozen? p=w.frozen? p:=World.frozen?_of_block (w:=w) (h.block p.block e d)
theorem Bs.but(h:Bs w a l)(hb:But S w w')(q:∀x,a=some x->l≠[]->¬S x.block):Bs w' a l:=by
 obtain⟨m,n,d⟩:=h;refine⟨m,n,?_⟩;by_cases e:l=[]
 . exact .inl e
 rcases d with d|⟨b,off,rfl,f⟩
 . exact .inl d
 . exact .inr ⟨b,off,rfl,λi j=>(hb.cell (p:=⟨b,off+i,none⟩) (block_lt_of_cell (f i j)) (show ¬S b from q ⟨b,off,none⟩ rfl e)).trans (f i j)⟩
def Rw(w:World)(a:Option Addr)(cap:Nat)(l:List Nat):Prop:=w.ownsRow 0 5 1 (.slice a l.length cap) l.length (vb l)
theorem kA(a:Option Addr)(n c:Nat):(Value.slice a n c).ownBlock=a.map Addr.block:=by cases a<;>rfl
theorem map_some{a:Option Addr}{k:Nat}(h:a.map Addr.block=some k):∃x,a=some x/\x.block=k:=by
 cases a with
 |none=>simp at h
 |some x=>simp at h;exact⟨x,rfl,h⟩
theorem Rw.nil(w:World):Rw w none 0 []:=fB w 0 5 1
theorem Rw.cases(h:Rw w a cap l):(a=none/\cap=0/\l=[])\/
 ∃g cur,a=some ⟨g,0,none⟩/\w.heap[g]?=some (.cells cur 5 (0,0))/\l.length<=cap/\cap<=maxLen/\cur.size=cap/\cur.toList.take l.length=vb l:=by
 obtain⟨_,e⟩:=h;rcases e with⟨hv,h0⟩|⟨g,cap',cur,hv,_,hg,hn,hm,hs,ht⟩
 . simp only[bM] at hv;exact .inl ⟨hv.1,hv.2.2,co.1 h0⟩
 . simp only[bM] at hv;obtain⟨d,_,rfl⟩:=hv;exact .inr ⟨g,cur,d,hg,hn,hm,by omega,by rw[ee] at ht;exact ht⟩
theorem Rw.mk{cur:Array Value}(d:w.heap[g]?=some (.cells cur 5 (0,0)))(f:l.length<=cap)(e:cap<=maxLen)(i:cur.size=cap)(h:cur.toList.take l.length=vb l):Rw w (some ⟨g,0,none⟩) cap l:=
 ⟨by rw[kX,ee],.inr ⟨g,cap,cur,rfl,az _,d,f,e,by omega,by rw[ee];exact h⟩⟩
theorem Rw.lt(h:Rw w a cap l){x:Addr}(d:a=some x):x.block<w.heap.size:=by
 rcases h.cases with⟨rfl,_⟩|⟨g,cur,rfl,hg,_⟩
 . cases d
 . cases d;exact(af.1 hg).1
theorem Rw.but(h:Rw w a cap l)(hb:But S w w')(d:∀x,a=some x->¬S x.block):Rw w' a cap l:=by
 rcases h.cases with⟨rfl,rfl,rfl⟩|⟨g,cur,rfl,hg,h1,h2,h3,h4⟩
 . exact Rw.nil w'
 . exact Rw.mk ((hb.block g (af.1 hg).1 (d _ rfl)).trans hg) h1 h2 h3 h4
theorem Rw.keep(h:Rw w a cap l)(hb:Below w.heap.size w w'):Rw w' a cap l:=
 h.but (S:=λ_=>False) (But.ofBelow hb) (λ_ _ d=>d)
theorem Rw.cell(h:Rw w (some ⟨g,0,none⟩) cap l){i:Nat}(hi:i<l.length):w.cell? ⟨g,i,none⟩=some (.int .u8 ((l.getD i 0:Nat):Int)):=by
 rcases h.cases with⟨h0,_⟩|⟨g',cur,h0,hg,h1,h2,h3,h4⟩
 . cases h0
 . simp only[aE,Addr.mk.injEq] at h0;obtain⟨rfl,_⟩:=h0;rw[ay _ _ _ _ _ _ hg,<-vV l i hi,<-h4,cH,if_pos hi];simp
theorem Rw.bs(h:Rw w a cap l)(e:∀x∈l,x<256)(f:l.length<=9223372036854775807):Bs w a l:=by
 refine⟨e,f,?_⟩;rcases h.cases with⟨rfl,rfl,rfl⟩|⟨g,cur,rfl,hg,h1,h2,h3,h4⟩
 . exact .inl rfl
 . exact .inr ⟨g,0,rfl,λi d=>by rw[bN];exact h.cell d⟩
theorem Rw.len_le(h:Rw w a cap l):l.length<=9223372036854775807:=by
 rcases h.cases with⟨rfl,rfl,rfl⟩|⟨g,cur,rfl,hg,h1,h2,h3,h4⟩
 . simp
 . unfold maxLen at h2;omega
def New(w:World)(a a':Option Addr):Prop:=∀x,a'=some x->(∃y,a=some y/\y.block=x.block)\/w.heap.size<=x.block
theorem New.refl(w:World)(a:Option Addr):New w a a:=λx d=>.inl ⟨x,d,rfl⟩
theorem New.none(w:World)(a:Option Addr):New w a Option.none:=λx d=>by cases d
theorem New.trans{b c:Option Addr}(h:New w a b)(k:New w1 b c)(f:w.heap.size<=w1.heap.size):New w a c:=by
 intro x d;rcases k x d with⟨y,hy,e⟩|h1
 . rcases h y hy with⟨z,hz,e2⟩|h2
   . exact .inl ⟨z,hz,e2.trans e⟩
   . exact .inr (by omega)
 . exact .inr (by omega)
theorem New.mono{b:Option Addr}(h:New w1 a b)(d:w.heap.size<=w1.heap.size):New w a b:=(New.refl w a).trans h d
theorem su:(prog.info? 5).map (λi=>(i.zero,i.size,i.bytes))=some (some (.int .u8 0),1,1):=by kernel_rfl
theorem xr(w:World)(r:TypeId)(a:Option Addr)(n cap:Nat)(l:List Nat)(C:n=l.length)(v:Rw w a cap l)(h:Addr)(c x:Nat)(A:w.cell? h=some (.int .u8 ((x:Nat):Int)))(K:l.length+1<=140737488355328):
 ∃g f w',(Builtin.append_ #[29,29] r #[.slice a n cap,.slice (some h) 1 c]).run prog w=.ok (.slice (some ⟨g,0,none⟩) (n+1) f) w'/\
  Rw w' (some ⟨g,0,none⟩) f (l++[x])/\New w a (some ⟨g,0,none⟩)/\w.grownBy w' (a.map Addr.block)/\g<w'.heap.size:=by
 subst C;obtain⟨G,B,H,I,J⟩:=dr su
 obtain⟨g,f,w',D,s,i,h3,t⟩:=dW (P:=prog) w 29 r 0 5 G (.int .u8 0) 1 1 underlying29 B H I J rfl (by decide) (.slice a l.length cap) l.length (vb l) v h 1 c [.int .u8 ((x:Nat):Int)] rfl
  (by intro j u d
      match j,d with
      |0,d=>simp at d;subst d;simpa[Addr.add] using A) (by intro u m;simp at m;subst m;rfl) (by decide) (by unfold maxLen;omega) (by omega) (az _) w.heap.size rfl
 rw[kA] at i h3;refine⟨g,f,w',D,?_,?_,i,t⟩
 . unfold Rw;rw[pu,ae];exact s
 . intro y q;simp only[aE] at q;subst q;rcases h3 with h3|h3
   . obtain⟨z,E,e⟩:=map_some h3;exact .inl ⟨z,E,e⟩
   . exact .inr (by show _<=g;omega)
theorem Gq{w:World}{o:Oper}{a:Act}{K:Act->World->Prop}{Q:Exit->Act->World->Prop}(s x:Operand)
 (A:o.op=.call {callee:=.builtin .append,args:=#[s,x],argTypes:=#[29,29]}) (d:Option Addr) (n cap:Nat) (l:List Nat) (C:a.eval s=.slice d n cap) (y:n=l.length) (t:Rw w d cap l)
 (f:Addr) (c i:Nat) (D:a.eval x=.slice (some f) 1 c) (v:w.cell? f=some (.int .u8 ((i:Nat):Int))) (E:l.length+1<=140737488355328)
 (h:∀g e w',Rw w' (some ⟨g,0,none⟩) e (l++[i])->New w d (some ⟨g,0,none⟩)->w.grownBy w' (d.map Addr.block)->g<w'.heap.size->K (a.put o.dst (.slice (some ⟨g,0,none⟩) (n+1) e)) w'):o.wp prog a w K Q:=by
 obtain⟨g,e,w',B,j,m,q,r⟩:=xr w o.type d n cap l y t f c i v E;unfold Oper.wp execOp;simp only[A,resolve,invoke,builtin,dE,dF,bT,cR,bL,dM,C,D,B];exact h g e w' j m q r
theorem yu{w:World}{j:Array Oper}{m:List Oper}{o:Oper}{a:Act}{Q:Exit->Act->World->Prop}(H:o.guard=none)(s x:Operand)
 (D:o.op=.call {callee:=.builtin .append,args:=#[s,x],argTypes:=#[29,29]}) (d:Option Addr) (n cap:Nat) (l:List Nat) (E:a.eval s=.slice d n cap) (C:n=l.length) (A:Rw w d cap l)
 (f:Addr) (c i:Nat) (G:a.eval x=.slice (some f) 1 c) (B:w.cell? f=some (.int .u8 ((i:Nat):Int))) (I:l.length+1<=140737488355328)
 (h:∀g e w',Rw w' (some ⟨g,0,none⟩) e (l++[i])->New w d (some ⟨g,0,none⟩)->w.grownBy w' (d.map Addr.block)->g<w'.heap.size->wpList prog j Q m (a.put o.dst (.slice (some ⟨g,0,none⟩) (n+1) e)) w'):wpList prog j Q (o::m) a w:=
 e7 H λ_ y=>Gq s x D d n cap l E C A f c i G B I λg e w' q r t v=>y _ _ (h g e w' q r t v)
theorem Ex(w:World)(C:TypeId)(a:Option Addr)(n cap:Nat)(l:List Nat)(L:n=l.length)(s:Rw w a cap l)(A:Option Addr)(m c:Nat)(lb:List Nat)(K:m=lb.length)(I:Bs w A lb)(W:l.length+lb.length<=140737488355328):
 ∃d f w',(Builtin.append_ #[29,29] C #[.slice a n cap,.slice A m c]).run prog w=.ok (.slice d (n+m) f) w'/\
  Rw w' d f (l++lb)/\New w a d/\w.grownBy w' (a.map Addr.block)/\(a≠none->d≠none):=by
 subst L K;obtain⟨O,t,R,x,U⟩:=dr su;by_cases i:lb=[]
 . subst i
   have D:∀z:Option Addr,(Builtin.firstCells 1 0 (.slice z 0 c)).run prog w=.ok #[] w:=by
    intro z;cases z with
    |none=>rfl
    |some z=>simp[Builtin.firstCells,loadCells,loadCellsFrom]
   refine⟨a,cap,w,?_,by simpa using s,New.refl _ _,⟨rfl,rfl,rfl,ai _,λ_ _ _=>rfl⟩,id⟩
   rcases s.cases with⟨rfl,rfl,rfl⟩|⟨g,cur,rfl,hg,q,r,h3,H⟩
   . simp[Builtin.append_,dt underlying29,sizeOf,typeInfo,t,x,Builtin.lenOf,D]
   . simp[Builtin.append_,dt underlying29,sizeOf,typeInfo,t,x,Builtin.lenOf,D,q,storeCells]
 . rcases I.2.2 with h|⟨b,off,rfl,J⟩
   . exact absurd h i
   . have V:0<lb.length:=bR.2 i
     obtain⟨g,f,w',M,q,r,h3,H⟩:=dW (P:=prog) w 29 C 0 5 O (.int .u8 0) 1 1 underlying29 t R x U rfl (by decide) (.slice a l.length cap) l.length (vb l) s ⟨b,off,none⟩ lb.length c (vb lb) (by rw[kX,ee])
      (by intro j u v
          have E:j<lb.length:=by
           have:=(bz.1 v).1;rwa [kX] at this
          rw[vV lb j E,aE] at v;subst v;have G:(⟨b,off,none⟩:Addr).add j=⟨b,off+j,none⟩:=by unfold Addr.add;split<;>simp_all
          rw[G];exact J j E) (Ha lb) V (by unfold maxLen;omega) (by omega) (az _) w.heap.size rfl
     rw[kA] at r h3;refine⟨_,f,w',M,?_,?_,r,λ_=>by simp⟩
     . unfold Rw;rw[pu,ae];exact q
     . intro y B;simp only[aE] at B;subst B;rcases h3 with h3|h3
       . obtain⟨z,N,e⟩:=map_some h3;exact .inl ⟨z,N,e⟩
       . exact .inr (by show _<=g;omega)
theorem GY{w:World}{o:Oper}{a:Act}{K:Act->World->Prop}{Q:Exit->Act->World->Prop}(s x:Operand)
 (C:o.op=.call {callee:=.builtin .append,args:=#[s,x],argTypes:=#[29,29]}) (e:Option Addr) (n cap:Nat) (l:List Nat) (E:a.eval s=.slice e n cap) (B:n=l.length) (y:Rw w e cap l)
 (i:Option Addr) (m c:Nat) (lb:List Nat) (G:a.eval x=.slice i m c) (A:m=lb.length) (v:Bs w i lb) (H:l.length+lb.length<=140737488355328)
 (h:∀d f w',Rw w' d f (l++lb)->New w e d->w.grownBy w' (e.map Addr.block)->(e≠none->d≠none)->K (a.put o.dst (.slice d (n+m) f)) w'):o.wp prog a w K Q:=by
 obtain⟨d,f,w',D,j,q,r,t⟩:=Ex w o.type e n cap l B y i m c lb A v H;unfold Oper.wp execOp;simp only[C,resolve,invoke,builtin,dE,dF,bT,cR,bL,dM,E,G,D];exact h d f w' j q r t
theorem yw{w:World}{j:Array Oper}{q:List Oper}{o:Oper}{a:Act}{Q:Exit->Act->World->Prop}(J:o.guard=none)(s x:Operand)
 (G:o.op=.call {callee:=.builtin .append,args:=#[s,x],argTypes:=#[29,29]}) (e:Option Addr) (n cap:Nat) (l:List Nat) (H:a.eval s=.slice e n cap) (E:n=l.length) (C:Rw w e cap l)
 (i:Option Addr) (m c:Nat) (lb:List Nat) (I:a.eval x=.slice i m c) (D:m=lb.length) (A:Bs w i lb) (K:l.length+lb.length<=140737488355328)
 (h:∀d f w',Rw w' d f (l++lb)->New w e d->w.grownBy w' (e.map Addr.block)->(e≠none->d≠none)->wpList prog j Q q (a.put o.dst (.slice d (n+m) f)) w'):wpList prog j Q (o::q) a w:=
 e7 J λ_ B=>GY s x G e n cap l H E C i m c lb I D A K λd f w' r t v y=>B _ _ (h d f w' r t v y)
end Go.Proofs.YtbdkogimlbnlmaaGreat
namespace Go.Proofs.YtbdkogimlbnlmaaGreat
open Tryz
def jo:List Nat->List Nat->Int
 | [],[]=>0
 | [],_::_=> -1
 |_::_,[]=>1
 |x::xs,y::ys=>if x<y then -1 else if y<x then 1 else jo xs ys
theorem tP:∀l,jo l l=0
 | []=>rfl
 |x::l=>by simp[jo,tP l]
theorem sQ:∀{a b},jo a b=0->a=b
 | [],[],_=>rfl
 | [],_::_,h=>by simp[jo] at h
 |_::_,[],h=>by simp[jo] at h
 |x::xs,y::ys,h=>by
  simp only[jo] at h;split at h
  . cases h
  . split at h
    . cases h
    . rw[sQ h,show x=y by omega]
theorem zO{a b:List Nat}:jo a b=0↔a=b:=⟨sQ,λh=>by rw[h];exact tP b⟩
theorem ua:∀a b,jo b a= -jo a b
 | [],[]=>rfl
 | [],_::_=>rfl
 |_::_,[]=>rfl
 |x::xs,y::ys=>by
  simp only[jo];by_cases h:x<y
  . simp[h,show ¬y<x by omega]
  . by_cases h2:y<x
    . simp[h,h2]
    . simp[h,h2,ua xs ys]
theorem pY(a b:List Nat)(j:Nat)(d:j<a.length)(hb:j<b.length):jo (a.drop j) (b.drop j)=if a.getD j 0<b.getD j 0 then -1 else if b.getD j 0<a.getD j 0 then 1 else jo (a.drop (j+1)) (b.drop (j+1)):=by
 rw[cF d,cF hb];simp[jo,d,hb]
theorem ox(a b:List Nat)(j:Nat)(h:a.length<=j\/b.length<=j)(i:j<=a.length)(k:j<=b.length):jo (a.drop j) (b.drop j)=if a.length<b.length then -1 else if b.length<a.length then 1 else 0:=by
 by_cases f:a.length<b.length
 . have:j=a.length:=by omega
   subst this;rw[if_pos f,List.drop_length];obtain⟨x,d,e⟩:∃x d,b.drop a.length=x::d:=⟨_,_,cF f⟩;rw[e];rfl
 . by_cases g:b.length<a.length
   . have:j=b.length:=by omega
     subst this;rw[if_neg f,if_pos g,List.drop_length];obtain⟨x,d,e⟩:∃x d,a.drop b.length=x::d:=⟨_,_,cF g⟩;rw[e];rfl
   . rw[if_neg f,if_neg g,show a.drop j=[] by simp;omega,show b.drop j=[] by simp;omega];rfl
def nanb(x:Nat):Bool:=decide (9218868437227405312<x%9223372036854775808)
def one(x:Nat):Nat:=if nanb x then 9221120237041090561 else x
def Ef(x:Nat):Nat:=if 9223372036854775808<=one x then 18446744073709551615-one x else one x+9223372036854775808
def hb(x:Nat):Nat->List Nat
 |0=>[]
 |n+1=>x/256^n%256::hb x n
def wd(y:Nat):Nat:=if h:y=0 then 0 else wd (y/256)+1
structure VV where
 kind:Int
 bool:Bool
 int:Int
 real:Nat
 re:Nat
 im:Nat
 text:ByteArray
def tl(s:ByteArray):List Nat:=s.data.toList.map UInt8.toNat
def esc:List Nat->List Nat
 | []=>[]
 |x::l=>if x=0 then 0::255::esc l else x::esc l
def iw(x:Int):Nat:=if 0<=x then wd x.toNat else wd (-1-x).toNat
def ub(x:Int):Nat:=(x%18446744073709551616).toNat
def VV.bytes(v:VV):List Nat:=
 if v.kind=0 then [1]
 else if v.kind=1 then [if v.bool then 3 else 2]
 else if v.kind=2 then (if 0<=v.int then 32+iw v.int else 31-iw v.int)::hb (ub v.int) (iw v.int)
 else if v.kind=3 then 48::hb (Ef v.real) 8
 else if v.kind=4 then 56::(hb (Ef v.re) 8++hb (Ef v.im) 8)
 else if v.kind=5 then 64::(esc (tl v.text)++[0])
 else []
def enc(l:List VV):List Nat:=(l.map VV.bytes).flatten
end Go.Proofs.YtbdkogimlbnlmaaGreat
namespace Go.Proofs.YtbdkogimlbnlmaaGreat
open Tryz
open Go.RowKit
variable {p:List Nat}{j:Nat}{aa:Option Addr}{w:World}
theorem drN(w:World)(n:Nat):Below w.heap.size w (w.drewN n):=⟨rfl,rfl,rfl,ai _,λ_ _=>rfl⟩
theorem iT{x:Int}(h: -9223372036854775808<=x)(b:x<=9223372036854775807):IntKind.i64.wrap x=x:=by rw[IntKind.wrap_i64];omega
theorem w64(h:j<9223372036854775807):wrap64 ((j:Int)+1)=(j:Int)+1:=by unfold wrap64;omega
theorem eqf{k c:Int}(h:k≠c):(k==c)=false:=beq_eq_false_iff_ne.2 h
theorem Bs.at(e:Bs w aa p)(d:j<p.length):∃b off,aa=some ⟨b,off,none⟩/\w.cell? ⟨b,off+j,none⟩=some (.int .u8 ((p.getD j 0:Nat):Int)):=by
 rcases e.2.2 with rfl|⟨b,off,rfl,f⟩
 . simp at d
 . exact⟨b,off,rfl,f j d⟩
theorem jb(n j:Nat)(x:Int)(b:x=(j:Int)+1)(h:j<n):n-(intOf (.int .i64 x)).toNat<n-(intOf (.int .i64 (j:Int))).toNat:=by
 subst b;simp only[intOf];omega
theorem zm{wx g:World}{b d:Option Addr}{o:Obj}(f:New w none b)(hb:Below w.heap.size w wx)(i:(wx.alloc o).grownBy g (b.map Addr.block))(n:New (wx.alloc o) b d):New w none d/\Below w.heap.size w g:=by
 refine⟨f.trans n (by rw[size_alloc];have:=hb.size;omega),?_⟩
 refine(hb.alloc hb.size o).grown i (by rw[size_alloc];have:=hb.size;omega) λk l=>?_
 obtain⟨x,m,e⟩:=map_some l;rcases f x m with⟨y,hy,_⟩|h
 . cases hy
 . omega
theorem xH(l c:Nat)(k:l<=c)(i:c<=281474976710656)(w:World):(Instr.makeSlice 29 (.int .i64 (l:Int)) (.int .i64 (c:Int))).run prog w=.ok (.slice (some ⟨w.heap.size,0,none⟩) l c) (w.alloc (.cells (madeCells #[.int .u8 0] c) 5)):=by
 obtain⟨e,d,f,g,h⟩:=dr su;have b:=run_make (P:=prog) w 29 5 e (.int .u8 0) underlying29 d f .i64 .i64 l c (by omega) (by omega) (by rw[h];omega) (by omega)
 simp only[di,g,ee] at b;exact b
theorem qp{f:World}(g:Bs w aa p)(hb:Below w.heap.size w f)(d:j<p.length):∃b off,aa=some ⟨b,off,none⟩/\f.cell? ⟨b,off+j,none⟩=some (.int .u8 ((p.getD j 0:Nat):Int)):=by
 rcases g.2.2 with rfl|⟨b,off,rfl,e⟩
 . simp at d
 . exact⟨b,off,rfl,(hb.cell (p:=⟨b,off+j,none⟩) (block_lt_of_cell (e j d))).trans (e j d)⟩
theorem uj(w:World)(aa:Option Addr)(n M:Nat)(p:List Nat)(m:Bs w aa p)(I:n=p.length)(T:p.length<=140737488355328):
 Calls prog 64 #[.slice aa n M] w λx y=>∃k f,x=.returned (.slice k n f)/\Rw y k f p/\New w none k/\Below w.heap.size w y:=by
 subst I;have S:∀w:World,(Instr.makeSlice 29 (.int .i64 0) (.int .i64 (p.length:Int))).run prog w=.ok (.slice (some ⟨w.heap.size,0,none⟩) 0 p.length) (w.alloc (.cells (madeCells #[.int .u8 0] p.length) 5)):=xH 0 p.length (az _) (by omega)
 have C:=iJ m;clear m;go_enter func64,ntmps64;go_wp2;go_loopw [3,4] (λv i A=>∃(j:Nat)(b:Option Addr)(e:Nat),j<=p.length/\i=.int .i64 j/\v=.slice b j e/\(Rw A b e (p.take j)/\New w none b/\Below w.heap.size w A)) (λ_ i _=>p.length-(intOf i).toNat)
 case atStart=>exact⟨0,some ⟨w.heap.size,0,none⟩,p.length,az _,rfl,rfl,Rw.mk (cur:=madeCells #[.int .u8 0] p.length) (aH _ _) (az _) (by unfold maxLen;omega) (gG _ _) (by simp[vb]),λx t=>.inr (by simp only[aE] at t;subst t;exact ai _),(Below.refl _ _).alloc (ai _) _⟩
 case round=>
  obtain⟨j,b,e,O,rfl,rfl,q⟩:=hrel;have d:=iJ q;clear q;by_cases B:j<p.length
  . have N:(j:Int)<(p.length:Int):=by omega
    obtain⟨bs,off,rfl,K⟩:=qp C.o d.o.2.2 B;have E:Hid (p.take j++[p.getD j 0]=p.take (j+1)):=As p B;have J:(p.take j).length=j:=by rw[bi];omega
    have R:=block_lt_of_cell K;generalize p.getD j 0=x at *;generalize p.take j=L at *;go_wp2_with (at_builtin;refine yu rfl _ _ rfl b j e L rfl J.symm (d.o.1.keep ((Below.refl _ _).alloc (ai _) _)) ⟨wr.heap.size,0,none⟩ 1 x rfl ?c1 (by omega) ?_)
    try case c1=>simp
    intro g f P l r s _;obtain⟨G,H⟩:=zm d.o.2.1 d.o.2.2 s r;rw[E.o] at l;have D:=iJ l;clear l r s;go_wp2;go_roundw
    case rel=>exact⟨j+1,_,f,by omega,by go_num,rfl,D.o,G,H⟩
    case measure=>simp[intOf];omega
  . obtain rfl:j=p.length:=by omega
    go_wp2;go_ret;refine⟨b,e,rfl,?_⟩;have h:=d.o;rw[cJ] at h;exact h
theorem run_eql_slice_nil(a:Option Addr)(l c:Nat)(w:World):(binOp .eql 29 (.slice a l c) (.slice none 0 0)).run prog w=.ok (.bool a.isNone) w:=by
 simp only[binOp];simp[run_equal_slice_nil w 29 5 a l c underlying29]
theorem qL(w:World)(aa s:Option Addr)(n m M N:Nat)(l k:List Nat)(h:Bs w aa l)(q:Bs w s k)(G:n=l.length)(E:m=k.length):
 Calls prog 88 #[.slice aa n M,.slice s m N] w λx J=>x=.returned (.int .i64 (jo l k))/\Below w.heap.size w J:=by
 subst G E;have W:=h.2.1;have X:=q.2.1;have C:=iJ h;have D:=iJ q;clear h q;go_enter func88,ntmps88;go_wp2;go_loopw [5] (λi K=>∃j:Nat,j<=l.length/\j<=k.length/\i=.int .i64 j/\(Below w.heap.size w K/\jo (l.drop j) (k.drop j)=jo l k)) (λi _=>l.length-(intOf i).toNat)
 case atStart=>exact⟨0,az _,az _,rfl,Below.refl _ _,rfl⟩
 case round=>
  obtain⟨j,P,V,rfl,v⟩:=hrel;have b:=iJ v;clear v;by_cases f:j<l.length
  . by_cases B:j<k.length
    . have r:(j:Int)<(l.length:Int):=by omega
      have A:(j:Int)<(k.length:Int):=by omega
      have g:=iJ (pY l k j f B);obtain⟨ba,R,rfl,T⟩:=qp C.o b.o.1 f;obtain⟨O,S,rfl,U⟩:=qp D.o b.o.1 B;have L:=w64 (j:=j) (by omega)
      generalize l.getD j 0=x at *;generalize k.getD j 0=y at *;by_cases e:x<y
      . have H:(x:Int)<(y:Int):=by omega
        have d:Hid (jo l k= -1):=by rw[<-b.o.2,g.o,if_pos e];exact rfl
        go_wp2;go_quiet (fail)
        go_wp2;go_ret;exact⟨by rw[d.o];first|done|rfl,bt b.o.1 (drN _ _)⟩
      . have H:¬(x:Int)<(y:Int):=by omega
        by_cases t:y<x
        . have I:(y:Int)<(x:Int):=by omega
          have d:Hid (jo l k=1):=by rw[<-b.o.2,g.o,if_neg e,if_pos t];exact rfl
          go_wp2;go_quiet (fail)
          go_wp2;go_quiet (fail)
          go_wp2;go_ret;exact⟨by rw[d.o];first|done|rfl,bt (bt b.o.1 (drN _ _)) (drN _ _)⟩
        . have I:¬(y:Int)<(x:Int):=by omega
          have d:Hid (jo (l.drop (j+1)) (k.drop (j+1))=jo l k):=by rw[<-b.o.2,g.o,if_neg e,if_neg t];exact rfl
          go_wp2;go_quiet (fail)
          go_wp2;go_quiet (fail)
          go_wp2;go_roundw
          case rel=>exact⟨j+1,by omega,by omega,a7 (Value.int IntKind.i64) (by omega),bt b.o.1 (drN _ _),d.o⟩
          case measure=>first|exact jb _ _ _ L f|exact jb _ _ _ rfl f
    . obtain rfl:j=k.length:=by omega
      have r:((k.length:Nat):Int)<(l.length:Int):=by omega
      have d:Hid (jo l k=1):=by rw[<-b.o.2,ox l k k.length (.inr (ai _)) (by omega) (ai _),if_neg (by omega),if_pos (by omega)];exact rfl
      have A:¬(l.length:Int)<(k.length:Int):=by omega
      go_wp2;go_ret;exact⟨by rw[d.o];first|done|rfl,b.o.1⟩
  . obtain rfl:j=l.length:=by omega
    by_cases e:l.length<k.length
    . have r:((l.length:Nat):Int)<(k.length:Int):=by omega
      have d:Hid (jo l k= -1):=by rw[<-b.o.2,ox l k l.length (.inl (ai _)) (ai _) (by omega),if_pos (by omega)];exact rfl
      go_wp2;go_ret;exact⟨by rw[d.o];first|done|rfl,b.o.1⟩
    . have r:¬((l.length:Nat):Int)<(k.length:Int):=by omega
      have A:¬((k.length:Nat):Int)<(l.length:Int):=by omega
      have d:Hid (jo l k=0):=by rw[<-b.o.2,ox l k l.length (.inl (ai _)) (ai _) (by omega),if_neg (by omega),if_neg (by omega)];exact rfl
      go_wp2;go_ret;exact⟨by rw[d.o];first|done|rfl,b.o.1⟩
theorem wM(w:World)(aa d:Option Addr)(n m s t:Nat)(l k:List Nat)(g:Bs w aa l)(i:Bs w d k)(r:n=l.length)(q:m=k.length):
 Calls prog 29 #[.slice aa n s,.slice d m t] w λx v=>x=.returned (.bool (decide (l=k)))/\Below w.heap.size w v:=by
 have R:=iJ (qL w aa d n m s t l k g i r q);clear g i r q;by_cases h:l=k
 . have b:decide (l=k)=true:=ax h;rw[b];have f:jo l k=0:=zO.2 h;rw[f] at R;clear b f h;go_enter func29,ntmps29;go_wp2_with fail
   refine R.o.mono ?_;rintro e y ⟨rfl,hb⟩;go_wp2;go_ret;exact⟨rfl,hb⟩
 . have b:decide (l=k)=false:=au h;rw[b];have f:(jo l k==0)=false:=eqf λe=>h (sQ e)
   clear b h;generalize jo l k=c at *;go_enter func29,ntmps29;go_wp2_with fail
   refine R.o.mono ?_;rintro e y ⟨rfl,hb⟩;go_wp2;go_ret;exact⟨by simp_all,hb⟩
theorem lh(w:World)(aa b:Option Addr)(n m e f:Nat)(l:List Nat)(g:Bs w aa l)(i:Bs w b l)(q:n=l.length)(k:m=l.length):
 Calls prog 29 #[.slice aa n e,.slice b m f] w λx d=>x=.returned (.bool true)/\Below w.heap.size w d:=
 (wM w aa b n m e f l l g i q k).mono λx d h=>⟨by rw[h.1];simp,h.2⟩
end Go.Proofs.YtbdkogimlbnlmaaGreat
namespace Go.Proofs.YtbdkogimlbnlmaaGreat
open Tryz
def B8(l:List Nat):Prop:=∀x∈l,x<256
theorem B8.nil:B8 []:=λx h=>by cases h
end Go.Proofs.YtbdkogimlbnlmaaGreat
namespace Go.Proofs.YtbdkogimlbnlmaaGreat
open Tryz
open Go.RowKit
variable {l:List Nat}{cap x y:Nat}{a:Option Addr}{w wx:World}
theorem al(w:World)(o:Obj):Below w.heap.size w (w.alloc o):=(Below.refl _ _).alloc (ai _) _
structure Own(w wx:World)(a:Option Addr)(cap:Nat)(l:List Nat):Prop where
 r:Rw wx a cap l
 n:New w none a
 b:Below w.heap.size w wx
theorem Own.keep{b:World}(h:Own w wx a cap l)(hb:Below wx.heap.size wx b):Own w b a cap l:=⟨h.r.keep hb,h.n,bt h.b hb⟩
theorem Own.pre{b:World}(hb:Below w.heap.size w b)(h:Own b wx a cap l):Own w wx a cap l:=⟨h.r,h.n.mono hb.size,bt hb h.b⟩
theorem Own.fresh(h:Own w wx a cap l){x:Addr}(b:a=some x):w.heap.size<=x.block:=by
 rcases h.n x b with⟨y,hy,_⟩|h
 . cases hy
 . exact h
def ba(l:List Nat):ByteArray:=⟨(l.map λx=>x.toUInt8).toArray⟩
theorem pf(w:World)(b:Nat):∀(l:List Nat)(off:Nat)(d:ByteArray),(∀i,i<l.length->w.cell? ⟨b,off+i,none⟩=some (.int .u8 ((l.getD i 0:Nat):Int)))->
 (Extern.Bytes.loadBytes ⟨b,off,none⟩ l.length d).run prog w=.ok ⟨d.data++(l.map λx=>x.toUInt8).toArray⟩ w
 | [],off,d,_=>by simp[Extern.Bytes.loadBytes]
 |x::l,off,d,h=>by
  have h0:=h 0 (by simp)
  simp only[List.getD_cons_zero,bY] at h0
  have f:(load ⟨b,off,none⟩).run prog w=.ok (.int .u8 (x:Int)) w:=by
   rw[run_load,h0]
  have g:=pf w b l (off+1) (d.push x.toUInt8) (λi e=>by
   have:=h (i+1) (by simpa using e)
   rw[List.getD_cons_succ] at this;rw[show off+1+i=off+(i+1) by omega];exact this)
  simp only[bf,Extern.Bytes.loadBytes,dE,f,bT];rw[show((⟨b,off,none⟩:Addr).add 1)=⟨b,off+1,none⟩ from rfl,show(x:Int).toNat.toUInt8=x.toUInt8 from rfl,g]
  simp[ByteArray.push]
theorem qH{w:World}{a:Option Addr}{l:List Nat}{n c:Nat}(d:Bs w a l)(f:n=l.length):(Extern.Bytes.bytesOf (.slice a n c)).run prog w=.ok (ba l) w:=by
 subst f;cases a with
 |none=>
  rcases d.2.2 with rfl|⟨b,off,h,_⟩
  . rfl
  . cases h
 |some x=>
  rcases d.2.2 with rfl|⟨b,off,h,e⟩
  . rfl
  . simp only[aE] at h;subst h;simp only[Extern.Bytes.bytesOf];rw[pf w b l off .empty e];simp only[ba];congr 1
    simp[ByteArray.empty,ByteArray.emptyWithCapacity];try rfl
theorem th(l:List Nat):(ba l).size=l.length:=by simp[ba,ByteArray.size]
theorem nO(l:List Nat)(i:Nat)(hi:i<l.length):(ba l)[i]! =(l.getD i 0).toUInt8:=by
 have b:i<(ba l).size:=by rw[th];exact hi
 rw[iH (ba l) i b];show(ba l).data[i]=_;simp[ba,hi]
theorem Ek(b:x<256)(d:y<256):(x.toUInt8=y.toUInt8)↔x=y:=by
 constructor
 . intro h;have:=a7 UInt8.toNat h;simp at this;omega
 . rintro rfl;rfl
theorem Em(b:x<256)(d:y<256):(x.toUInt8<y.toUInt8)↔x<y:=by
 rw[UInt8.lt_iff_toNat_lt];simp;omega
theorem Hj(l k:List Nat)(v:∀x∈l,x<256)(t:∀x∈k,x<256):Extern.BytealgCompare.cmp (ba l) (ba k)=jo l k:=by
 have d:∀i,i<l.length->l.getD i 0<256:=λi b=>by rw[sH l b];exact v _ (eK _)
 have gk:∀i,i<k.length->k.getD i 0<256:=λi b=>by rw[sH k b];exact t _ (eK _)
 have step:∀m,m<=l.length->m<=k.length->(∀i,i<m->l.getD i 0=k.getD i 0)->jo l k=jo (l.drop m) (k.drop m):=by
  intro m;induction m with
  |zero=>intros;rfl
  |succ m ih=>
   intro f D g;rw[ih (by omega) (by omega) (λi b=>g i (by omega)),pY l k m (by omega) (by omega),g m (by omega),if_neg (by omega),if_neg (by omega)]
 unfold Extern.BytealgCompare.cmp;rw[th,th];split
 . rename_i i q;obtain⟨f,A,g⟩:=List.find?_range_eq_some.1 q;have E:=cw.1 A;have p:i<l.length:=by omega
   have n:i<k.length:=by omega
   rw[nO l i p,nO k i n] at f ⊢;have G:l.getD i 0≠k.getD i 0:=λe=>by rw[e] at f;simp at f
   rw[step i (by omega) (by omega) (λj s=>by
    have:=g j s;rw[nO l j (by omega),nO k j (by omega)] at this
    simp only[bne_eq_false_iff_eq,Bool.not_eq_eq_eq_not,Bool.not_true] at this;exact(Ek (d j (by omega)) (gk j (by omega))).1 this),pY l k i p n]
   by_cases h:l.getD i 0<k.getD i 0
   . rw[if_pos ((Em (d i p) (gk i n)).2 h),if_pos h]
   . rw[if_neg (λr=>h ((Em (d i p) (gk i n)).1 r)),if_neg h,if_pos (by omega)]
 . rename_i q;have C:=List.find?_eq_none.1 q
   have B:∀i,i<min l.length k.length->l.getD i 0=k.getD i 0:=λi b=>by
    have:=C i (cw.2 b);rw[nO l i (by omega),nO k i (by omega)] at this
    simp only[bne_iff_ne,ne_eq,Decidable.not_not] at this;exact(Ek (d i (by omega)) (gk i (by omega))).1 this
   rw[step (min l.length k.length) (by omega) (by omega) B,ox l k _ (by omega) (by omega) (by omega)]
theorem DI{b:Option Addr}{k:List Nat}(n c m d:Nat)(f:Bs w a l)(g:Bs w b k)(i:n=l.length)(h:m=k.length):(callFunc 199 #[.slice a n c,.slice b m d]).run prog w=.ok (.value (.int .i64 (jo l k))) w:=by
 rw[run_callFunc_extern func199 (by kernel_rfl) (by kernel_rfl) (by kernel_rfl) (e:=Extern.BytealgCompare.compare) (by kernel_rfl)]
 have e:Extern.BytealgCompare.compare #[.slice a n c,.slice b m d]=(do pure (goInt (Extern.BytealgCompare.cmp (<-Extern.Bytes.bytesOf (.slice a n c)) (<-Extern.Bytes.bytesOf (.slice b m d))))):=rfl
 simp only[e,dE,qH f i,qH g h,bT,dF,Hj l k f.1 g.1];rfl
theorem pN(w:World)(a b:Option Addr)(n c m d:Nat)(l k:List Nat)(f:Bs w a l)(g:Bs w b k)(i:n=l.length)(h:m=k.length):
 Calls prog 182 #[.slice a n c,.slice b m d] w λe j=>e=.returned (.int .i64 (jo l k))/\j=w:=by
 subst i h;have p:=DI l.length c k.length d f g rfl rfl;clear f g;go_enter func182,ntmps182;go_wp2;go_ret;exact⟨rfl,rfl⟩
theorem Fl(w:World)(g:Nat)(h:w.heap.size<=g):New w none (some ⟨g,0,none⟩):=λx b=>.inr (by simp only[aE] at b;subst b;exact h)
theorem Rw.set{g:Nat}(h:Rw w (some ⟨g,0,none⟩) cap l)(i x:Nat):Rw (w.setCell ⟨g,i,none⟩ (.int .u8 (x:Int))) (some ⟨g,0,none⟩) cap (l.set i x):=by
 rcases h.cases with⟨h0,_⟩|⟨g',cur,h0,hg,h1,h2,h3,h4⟩
 . cases h0
 . simp only[aE,Addr.mk.injEq] at h0;obtain⟨rfl,_⟩:=h0;refine Rw.mk (cur:=cur.setIfInBounds i (.int .u8 (x:Int))) ?_ (by simpa using h1) h2 (by simpa using h3) ?_
   . show(w.heap.modify g _)[g]?=_;rw[fI,if_pos rfl,hg];simp
   . rw[aM,ew,fY,h4];simp[vb,List.map_set]
end Go.Proofs.YtbdkogimlbnlmaaGreat
namespace Go.Proofs.YtbdkogimlbnlmaaGreat
open Tryz
structure RS where
 l:List Nat
 e:Nat
namespace M
open Tryz
def F:Nat:=4294967295
end M
end Go.Proofs.YtbdkogimlbnlmaaGreat
namespace Go.Proofs.YtbdkogimlbnlmaaGreat
open Tryz
open Go.RowKit
theorem uG{B:Nat}{a w:World}(h:Below B a w){g:Nat}(d:B<=g)(cs:Array Value):Below B a (w.setRow g cs):=
 ⟨h.os,h.tape,h.output,by rw[setRow_size];exact h.size,λk b=>(setRow_other w g k cs (by omega)).trans (h.block k b)⟩
end Go.Proofs.YtbdkogimlbnlmaaGreat
namespace Go.Proofs.YtbdkogimlbnlmaaGreat
open Tryz
structure It where
 key:List Nat
 val:List Nat
 child:Int
 size:Int
structure Pg where
 kind:Int
 level:Int
 items:List It
 data:List Nat
 next:Int
def It.zero:It:=⟨[],[],0,0⟩
def kO(n:Int):Bool:=decide (1<=n)&&decide (n<=65536)
def Pg.form(p:Pg):Bool:=
 if p.kind=3 then decide (p.level=0)&&decide (p.items.length=0)&&decide (1<=p.data.length)&&decide (p.data.length<=480)
 else decide (p.data.length=0)&&decide (p.next=0)&&decide (p.items.length<=8)&&(if p.kind=1 then decide (p.level=0)&&decide (1<=p.items.length) else decide (1<=p.level)&&decide (p.level<=11)&&decide (2<=p.items.length))
def Pg.at(p:Pg)(i:Nat):It:=p.items.getD i It.zero
def Pg.keyOk(p:Pg)(i:Nat):Bool:=if p.kind=2/\i=0 then decide ((p.at i).key.length=0) else decide (1<=(p.at i).key.length)&&decide ((p.at i).key.length<=24)
def It.valOk(kind:Int)(x:It):Bool:=if kind=2 then decide (x.val.length=0)&&decide (x.size=0) else if x.size<0\/3840<x.size then false else if x.size<=32 then decide ((x.val.length:Int)=x.size) else decide (x.val.length=0)
def It.kidOk(kind:Int)(x:It):Bool:=if kind=1/\x.size<=32 then decide (x.child=0) else kO x.child
def Pg.ordOk(p:Pg)(i:Nat):Bool:=decide (i=0)||decide (0<jo (p.at i).key (p.at (i-1)).key)
def Pg.itemE(p:Pg)(i:Nat):Nat:=if p.keyOk i=false then 7 else if p.ordOk i=false then 11 else if (p.at i).valOk p.kind=false then 8 else if (p.at i).kidOk p.kind=false then 15 else 0
def ju(f:Nat->Nat):Nat->Nat
 |0=>0
 |n+1=>if ju f n≠0 then ju f n else f n
theorem qG{f:Nat->Nat}:∀{n},ju f n=0->∀i,i<n->f i=0
 |0,_,i,hi=>absurd hi (dQ _)
 |n+1,h,i,hi=>by
  unfold ju at h;split at h
  . exact absurd h ‹_›
  . rename_i h0;by_cases e:i=n
    . rw[e];exact h
    . exact qG (n:=n) (by simpa using h0) i (by omega)
theorem tH{f:Nat->Nat}:∀{n},(∀i,i<n->f i=0)->ju f n=0
 |0,_=>rfl
 |n+1,h=>by
  have:=tH (n:=n) λi b=>h i (by omega)
  unfold ju;rw[this];exact h n (by omega)
theorem qM{f:Nat->Nat}{k:Nat}(h:ju f k=0)(b:f k≠0):∀n,k<n->ju f n=f k
 |0,hn=>absurd hn (dQ _)
 |n+1,hn=>by
  unfold ju;by_cases e:k=n
  . subst e;rw[h];rfl
  . rw[qM h b n (by omega),if_pos b]
def Pg.kindOk(p:Pg):Bool:=decide (p.kind=1)||decide (p.kind=2)||decide (p.kind=3)
theorem Pg.kindOk_iff{p:Pg}:p.kindOk=true↔p.kind=1\/p.kind=2\/p.kind=3:=by unfold Pg.kindOk;simp[or_assoc]
def Pg.nextOk(p:Pg):Bool:= !(decide (p.kind=3)&&decide (p.next≠0)&& !kO p.next)
def Pg.check(p:Pg):Nat:=if p.kindOk=false then 22 else if p.form=false then 5 else if ju p.itemE p.items.length≠0 then ju p.itemE p.items.length else if p.nextOk=false then 15 else 0
structure Sound(p:Pg):Prop where
 k:p.kindOk=true
 f:p.form=true
 i:∀i,i<p.items.length->p.itemE i=0
 n:p.nextOk=true
theorem Pg.check_zero{p:Pg}:p.check=0↔Sound p:=by
 unfold Pg.check;constructor
 . intro h;split at h
   . cases h
   split at h
   . cases h
   split at h
   . rename_i b;exact absurd h b
   split at h
   . cases h
   . rename_i b d e f;exact⟨by simpa using b,by simpa using d,qG (by simpa using e),by simpa using f⟩
 . intro h;rw[if_neg (by rw[h.k];simp),if_neg (by rw[h.f];simp),tH h.i,if_neg (by simp),if_neg (by rw[h.n];simp)]
def Pg.kids(p:Pg):List Int:=if p.kind=2 then p.items.map It.child else if p.kind=1 then (p.items.map It.child).filter (λc=>decide (c≠0)) else if p.kind=3/\p.next≠0 then [p.next] else []
end Go.Proofs.YtbdkogimlbnlmaaGreat
