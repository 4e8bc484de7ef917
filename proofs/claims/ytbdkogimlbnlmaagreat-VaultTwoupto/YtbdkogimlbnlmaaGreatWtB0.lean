import Derived.Deep.RegionHeld3
import Derived.Below
import Derived.CallsIn
import Derived.ControlIn
import Derived.DataReads
import Derived.Deep.AppendLies
import Derived.Deep.RegionHeld
import Derived.Laws.AppendOwn
import Derived.Laws.CopyRow
import Derived.Laws.Entries
import Derived.Laws.MakeOwn
import Derived.Laws.Rows
import Derived.Laws.Sem
import Derived.Laws.Tables
import Derived.OneCell
import Derived.OrdersIn
import Derived.OwnWalk
import Derived.RangeFuncLeaves
import Derived.RangeFuncRecord
import Derived.Tactics
import GoSem.Core.Sem
import GoSem.Core.Value
import GoSem.Core.World
import Derived.Test.YtbdkogimlbnlmaaGreatProg
import Derived.WalkKit
import Derived.WalkSpells
import Derived.WalkLawsBesides
import Derived.Deep.WholeRow
import Derived.Outline
import Derived.KernelRfl
import Derived.Laws.BitsAllLaws
import Derived.Deep.OwnRows
import Derived.Deep.RegionHeldLaw
import Derived.Deep.RegionLaw
import Derived.Laws.Cover3
import Derived.BigRegion
import Derived.BigQuiet
import Derived.Deep.QuietTactic
import Derived.Deep.LoopGhost
import Derived.Deep.RegionWith
set_option linter.unusedVariables false
set_option linter.unusedSimpArgs false
set_option maxHeartbeats 1600000
namespace Go.Proofs.YtbdkogimlbnlmaaGreat
variable {a a0 a1 a2:Act}{ops:Array Oper}{Q:Exit->Act->World->Prop}{fuel:Nat}{o0 o1:Oper}{P:Program}{v0 v1:Value}{w:World}{S:World->Prop}
abbrev ae:=@List.length_append
abbrev af:=@Array.getElem?_eq_some_iff
abbrev ai:=@Nat.le_refl
abbrev aq:=@List.getD_eq_getElem?_getD
abbrev au:=@Go.cell_of_row
abbrev ax:=@decide_eq_false
abbrev ay:=@decide_eq_true
abbrev az:=@Go.World.alloc_heap_new
abbrev aE:=@Option.some.injEq
abbrev aF:=@Nat.zero_le
abbrev aH:=@Go.heap_alloc_new
abbrev aM:=@Go.heap_setCell_same
abbrev aO:=@Nat.le_trans
abbrev aQ:=@List.mem_singleton
abbrev aR:=@List.append_assoc
abbrev aS:=@List.length_set
abbrev aU:=@List.getElem?_eq_getElem
abbrev aY:=@congrArg
abbrev aZ:=@Nat.lt_of_lt_of_le
abbrev a7:=@List.length_map
abbrev be:=@List.length_replicate
abbrev bg:=@List.length_cons
abbrev bh:=@List.length_nil
abbrev bi:=@List.length_take
abbrev bj:=@List.getElem?_append_right
abbrev bm:=@List.mem_append
abbrev bq:=@Go.frozen_of_row
abbrev br:=@List.getElem?_append_left
abbrev bu:=@Go.wp_region_held_drew
abbrev bz:=@List.getElem?_eq_some_iff
abbrev bB:=@List.not_mem_nil
abbrev bC:=@List.map_cons
abbrev bE:=@Go.Value.slice.injEq
abbrev bG:=@List.mem_map
abbrev bH:=@Nat.zero_add
abbrev bL:=@List.map_append
abbrev bM:=@decide_eq_true_eq
abbrev bN:=@List.length_pos_iff
abbrev bO:=@Go.Result.andThen_ok
abbrev bQ:=@Bool.and_eq_true
abbrev bT:=@List.mem_cons
abbrev bU:=@Go.bodyPost_ret
abbrev bY:=@List.length_eq_zero_iff
abbrev bZ:=@List.getElem?_set_ne
abbrev co:=@List.mem_of_getElem?
abbrev cu:=@Go.wpList_store_row
abbrev cw:=@List.getElem?_take
abbrev cE:=@Nat.add_zero
abbrev cF:=@List.append_nil
abbrev cH:=@List.pairwise_cons
abbrev cJ:=@List.map_toArray
abbrev cM:=@List.drop_eq_getElem_cons
abbrev cO:=@List.nil_append
abbrev cQ:=@List.mem_range
abbrev cR:=@List.take_append_drop
abbrev cU:=@List.take_length
abbrev cY:=@Go.setRow_heap
abbrev cZ:=@List.map_nil
abbrev c9:=@Int.toNat_natCast
abbrev da:=@List.size_toArray
abbrev db:=@Nat.min_eq_left
abbrev dc:=@Go.info_parts
abbrev de:=@Go.run_underlying
abbrev df:=@List.take_of_length_le
abbrev dh:=@List.pairwise_append
abbrev di:=@List.length_drop
abbrev dl:=@List.cons_append
abbrev dm:=@List.getElem?_map
abbrev dq:=@Go.World.putObj_heap_other
abbrev dr:=@decide_eq_false_iff_not
abbrev dt:=@Go.Sem.run_bind
abbrev du:=@Go.Sem.run_pure
abbrev dv:=@Nat.sub_self
abbrev dw:=@Array.replicate_succ
abbrev dy:=@Array.replicate_zero
abbrev dz:=@List.getElem?_eq_none
abbrev dA:=@List.append_toArray
abbrev dB:=@Nat.mul_le_mul_right
abbrev dC:=@List.drop_eq_nil_of_le
abbrev dE:=@Go.run_append_lies
abbrev dF:=@List.pairwise_singleton
abbrev dG:=@List.push_toArray
abbrev dH:=@List.flatten_cons
abbrev dJ:=@List.take_append_of_le_length
abbrev dL:=@and_true
abbrev dM:=@List.getElem?_set_self
abbrev dN:=@List.mem_cons_self
abbrev dO:=@Nat.not_lt_zero
abbrev dP:=@Go.Obj.cells.injEq
abbrev dQ:=@List.take_succ_eq_append_getElem
abbrev dR:=@Nat.mul_one
abbrev dS:=@List.ext_getElem?
abbrev dT:=@Go.cell_of_one
abbrev dU:=@List.getElem?_cons_succ
abbrev dW:=@Array.toList_setIfInBounds
abbrev dX:=@Nat.zero_mul
abbrev dY:=@List.mem_cons_of_mem
abbrev dZ:=@List.getElem_mem
abbrev d9:=@List.set_append_right
abbrev eb:=@Nat.le_succ
abbrev ed:=@List.cons.injEq
abbrev ee:=@Go.run_takeDeferred
abbrev em:=@Nat.lt_irrefl
abbrev eu:=@Go.results_none
abbrev ew:=@Bool.false_and
abbrev eE:=@Classical.byContradiction
abbrev eG:=@Bool.and_eq_false_iff
abbrev eH:=@Go.wpList_plain
abbrev eJ:=@List.length_range
abbrev eK:=@Int.le_refl
abbrev eO:=@Go.wpAnyH_ready
abbrev eQ:=@Go.callsIn_wide
abbrev eU:=@Nat.add_assoc
abbrev eV:=@Array.getElem?_toList
abbrev eW:=@List.getElem?_toArray
abbrev eY:=@List.set_cons_zero
abbrev eZ:=@List.take_left'
abbrev e7:=@Go.World.ownsRow_nil
abbrev e8:=@Bool.or_false
abbrev fa:=@Nat.add_sub_cancel_left
abbrev fb:=@Go.callsIn_of_wp_marks
abbrev fd:=@List.take_take
abbrev fh:=@Go.results_cell_row
abbrev fj:=@Array.getElem?_modify
abbrev fk:=@Bool.eq_iff_iff
abbrev fp:=@List.mem_filter
abbrev fq:=@List.length_filter_le
abbrev fs:=@Prod.mk.injEq
abbrev ft:=@Go.wpAnyIn_ready
abbrev fu:=@Nat.mod_lt
abbrev fw:=@List.pairwise_iff_getElem
abbrev fB:=@List.mem_or_eq_of_mem_set
abbrev fC:=@List.mem_of_mem_take
abbrev fD:=@List.drop_zero
abbrev fE:=@Nat.lt_succ_self
abbrev fF:=@List.toList_toArray
abbrev fG:=@Array.getElem?_setIfInBounds_ne
abbrev fH:=@List.take_set
abbrev fI:=@Bool.true_and
abbrev fJ:=@List.eq_nil_iff_forall_not_mem
abbrev fK:=@Go.Result.ok.injEq
abbrev fM:=@List.range_succ
abbrev fN:=@List.filter_append
abbrev fO:=@Go.World.putObj_heap_same
abbrev fP:=@Nat.le_of_lt
abbrev fQ:=@Iff.rfl
abbrev fR:=@List.take_zero
abbrev fT:=@Go.size_madeCells
abbrev fU:=@Go.wpIn_wide
abbrev fW:=@List.mem_flatten
abbrev fY:=@List.dropLast_concat
abbrev fZ:=@List.mem_append_left
abbrev gd:=@or_false
abbrev gh:=@Go.callsIn_of_wp
abbrev gm:=@Option.map_some
abbrev gq:=@List.set_cons_succ
abbrev gu:=@Bool.and_false
abbrev gz:=@Go.heap_alloc_old
abbrev gA:=@List.getElem?_replicate
abbrev gB:=@List.getElem?_cons_zero
abbrev gE:=@List.pairwise_map
abbrev gF:=@List.take_add_one
abbrev gG:=@Go.World.cells?_some
abbrev gH:=@Go.run_storeCells_at
abbrev gI:=@Nat.add_mul
abbrev gJ:=@List.filter_eq_nil_iff
abbrev gM:=@Nat.le_of_not_lt
abbrev gN:=@Go.World.cell?_spot
abbrev gO:=@List.eq_nil_or_concat
abbrev gQ:=@List.concat_eq_append
abbrev gR:=@List.mem_append_right
abbrev gS:=@List.getElem?_of_mem
abbrev gU:=@Array.toArray_toList
abbrev gW:=@Nat.not_succ_le_self
abbrev gY:=@List.drop_left'
abbrev gZ:=@Nat.min_self
abbrev g7:=@Nat.le_of_eq
abbrev g8:=@List.length_zip
abbrev g9:=@getElem!_pos
abbrev ia:=@Go.wp_store_row
abbrev ie:=@Go.wpIn_region_any
theorem _root_.Go.RowKit.Hid.o{p:Prop}(h:Go.RowKit.Hid p):p:=h
theorem _root_.Go.Shut.o{p:Prop}(h:Shut p):p:=h
theorem pt:(∀(a:Act)(t:Tmp)(v:Value),a.put (some t) v={a with tmps:=a.tmps.setIfInBounds t v})/\(∀(a:Act)(v:Value),a.put none v=a)/\(∀{α:Type}(l:List α)(i:Nat)(h:i<l.toArray.size),l.toArray[i]=l[i]'(by simpa using h))/\(∀{α:Type}(a:α)(l:List α)(h:0<(a::l).length),(a::l)[0]=a)/\(∀{α:Type}(a:α)(l:List α)(i:Nat)(h:i+1<(a::l).length),(a::l)[i+1]=l[i]'(by simpa using h))/\(∀{α:Type}(l:List α)(i:Nat)(a:α),l.toArray.setIfInBounds i a=(l.set i a).toArray)/\(∀{α:Type}(a b:α)(l:List α),(a::l).set 0 b=b::l)/\(∀{α:Type}(a b:α)(l:List α)(i:Nat),(a::l).set (i+1) b=a::l.set i b):=by
 refine⟨λ_ _ _=>rfl,λ_ _=>rfl,λ_ _ _=>by simp,λ_ _ _=>rfl,λ_ _ _ _=>rfl,λ_ _ _=>by simp,λ_ _ _=>rfl,λ_ _ _ _=>rfl⟩
theorem tk{P:Program}{md:Region.Mode}{ops:Array Oper}{Q:Exit->Act->World->Prop}{S:World->Prop}(i:Nat){oi:Oper}{v:Value}{fuel:Nat}{listed l:Array Bool}{a b:Act}{w:World}(h:wpAnyH P md ops Q S fuel l b w)(hi:ops[i]?=some oi:=by exact rfl)
 (hk:(Region.noSelect ops&&(Region.free md ops listed i&&(Region.ready md ops listed).contains i))=true:=by kernel_rfl)
 (hQ:∀c a w,Q (.panic c) (a.put oi.dst v) w->Q (.panic c) a w:=by exact λ_ _ _ h=>h) (hw:Region.wanted oi (yielded ops a.tmps)=true:=by exact rfl) (hS:S w:=by assumption)
 (hy:∀w,S w->(execOp a.eval oi).run P w=.ok (.value v) w:=by (intro _ s;(try dsimp only at s);go_simp<;>with_reducible rfl))
 (hl:listed.setIfInBounds i true=l:=by ((try simp only[pt]);exact rfl)) (hb:a.put oi.dst v=b:=by ((try simp only[pt]);exact rfl)):wpAnyH P md ops Q S (fuel+1) listed a w:=by
 simp only[bQ] at hk;exact wpAnyH_take hi hk.1 hk.2.1 hk.2.2 hQ (.inl ⟨hw,hy⟩) hS (hl▸hb▸h)
theorem tu{P:Program}{md:Region.Mode}{ops:Array Oper}{Q:Exit->Act->World->Prop}{S:World->Prop}(i:Nat){oi:Oper}{fuel:Nat}{listed l:Array Bool}{a b:Act}{w:World}(h:wpAnyH P md ops Q S fuel l b w)(hi:ops[i]?=some oi:=by exact rfl)
 (hk:(Region.noSelect ops&&(Region.free md ops listed i&&(Region.ready md ops listed).contains i))=true:=by kernel_rfl)
 (hQ:∀c a w,Q (.panic c) (a.put oi.dst undef) w->Q (.panic c) a w:=by exact λ_ _ _ h=>h) (hw:Region.wanted oi (yielded ops a.tmps)=false:=by exact rfl) (hS:S w:=by assumption)
 (hl:listed.setIfInBounds i true=l:=by ((try simp only[pt]);exact rfl)) (hb:a.put oi.dst undef=b:=by ((try simp only[pt]);exact rfl)):wpAnyH P md ops Q S (fuel+1) listed a w:=by
 simp only[bQ] at hk;exact wpAnyH_take hi hk.1 hk.2.1 hk.2.2 hQ (.inr ⟨hw,rfl⟩) hS (hl▸hb▸h)
theorem tw{P:Program}{md:Region.Mode}{ops:Array Oper}{Q:Exit->Act->World->Prop}{S:World->Prop}(i:Nat){o:Oper}{fuel:Nat}{listed:Array Bool}{a:Act}{w:World}
 (h:∀K':Act->World->Prop,Shut (∀a w,S w->(S w->wpAnyH P md ops Q S fuel (listed.setIfInBounds i true) a w)->K' a w)->if Region.wanted o (yielded ops a.tmps)=true then Oper.wp P o a w K' Q else K' (a.put o.dst undef) w)
 (ho:ops[i]?=some o:=by exact rfl) (hr:Region.ready md ops listed=[i]:=by kernel_rfl):wpAnyH P md ops Q S (fuel+1) listed a w:=
 eO hr (by simp) (AllReadyH.cons ho h AllReadyH.nil)
theorem td{md:Region.Mode}{listed:Array Bool}(h:Q .normal a w)(hr:Region.ready md ops listed=[]:=by kernel_rfl):wpAnyH P md ops Q S fuel listed a w:=
 wpAnyH_done hr h _
def Tc(P:Program)(md:Region.Mode)(ops:Array Oper)(Q:Exit->Act->World->Prop)(S:World->Prop)(i:Nat)(o:Oper)(v:Value)(l k:Array Bool)(a b:Act):Prop:=ops[i]?=some o/\(Region.noSelect ops&&(Region.free md ops l i&&(Region.ready md ops l).contains i))=true/\(∀c a w,Q (.panic c) (a.put o.dst v) w->Q (.panic c) a w)/\Region.wanted o (yielded ops a.tmps)=true/\(∀w,S w->(execOp a.eval o).run P w=.ok (.value v) w)/\l.setIfInBounds i true=k/\a.put o.dst v=b
theorem tc{md:Region.Mode}{i:Nat}{o:Oper}{v:Value}{l k:Array Bool}{b:Act}(hS:S w)(c:Tc P md ops Q S i o v l k a b)(h:wpAnyH P md ops Q S fuel k b w):wpAnyH P md ops Q S (fuel+1) l a w:=tk i h c.1 c.2.1 c.2.2.1 c.2.2.2.1 hS c.2.2.2.2.1 c.2.2.2.2.2.1 c.2.2.2.2.2.2
theorem tkb{md:Region.Mode}{l0 l1 l2:Array Bool}(i0 i1:Nat)(h:wpAnyH P md ops Q S fuel l2 a2 w)(s:S w:=by assumption)(c0:Tc P md ops Q S i0 o0 v0 l0 l1 a0 a1:=by exact⟨rfl,by kernel_rfl,λ_ _ _ h=>h,rfl,by (intro _ s;(try dsimp only at s);go_simp<;>with_reducible rfl),by ((try simp only[pt]);exact rfl),by ((try simp only[pt]);exact rfl)⟩)(c1:Tc P md ops Q S i1 o1 v1 l1 l2 a1 a2:=by exact⟨rfl,by kernel_rfl,λ_ _ _ h=>h,rfl,by (intro _ s;(try dsimp only at s);go_simp<;>with_reducible rfl),by ((try simp only[pt]);exact rfl),by ((try simp only[pt]);exact rfl)⟩):wpAnyH P md ops Q S (fuel+1+1) l0 a0 w:=tc s c0 (tc s c1 h)
theorem tkd{md:Region.Mode}{o2 o3:Oper}{v2 v3:Value}{l0 l1 l2 l3 l4:Array Bool}{a3 a4:Act}(i0 i1 i2 i3:Nat)(h:wpAnyH P md ops Q S fuel l4 a4 w)(s:S w:=by assumption)(c0:Tc P md ops Q S i0 o0 v0 l0 l1 a0 a1:=by exact⟨rfl,by kernel_rfl,λ_ _ _ h=>h,rfl,by (intro _ s;(try dsimp only at s);go_simp<;>with_reducible rfl),by ((try simp only[pt]);exact rfl),by ((try simp only[pt]);exact rfl)⟩)(c1:Tc P md ops Q S i1 o1 v1 l1 l2 a1 a2:=by exact⟨rfl,by kernel_rfl,λ_ _ _ h=>h,rfl,by (intro _ s;(try dsimp only at s);go_simp<;>with_reducible rfl),by ((try simp only[pt]);exact rfl),by ((try simp only[pt]);exact rfl)⟩)(c2:Tc P md ops Q S i2 o2 v2 l2 l3 a2 a3:=by exact⟨rfl,by kernel_rfl,λ_ _ _ h=>h,rfl,by (intro _ s;(try dsimp only at s);go_simp<;>with_reducible rfl),by ((try simp only[pt]);exact rfl),by ((try simp only[pt]);exact rfl)⟩)(c3:Tc P md ops Q S i3 o3 v3 l3 l4 a3 a4:=by exact⟨rfl,by kernel_rfl,λ_ _ _ h=>h,rfl,by (intro _ s;(try dsimp only at s);go_simp<;>with_reducible rfl),by ((try simp only[pt]);exact rfl),by ((try simp only[pt]);exact rfl)⟩):wpAnyH P md ops Q S (fuel+1+1+1+1) l0 a0 w:=tc s c0 (tc s c1 (tc s c2 (tc s c3 h)))
theorem wrd{id:Nat}{v:World}(s:Go.RowKit.Hid (∀W:World,Go.RowKit.Below v.heap.size v W->S W))(d:Go.RowKit.Below v.heap.size v w.drew)(h:S w.drew->wpAnyH P .any ops Q S ops.size (Array.replicate ops.size false) a w.drew)(hm:P.follows .mixedOrders=true:=by kernel_rfl):(Code.region id ops true).wp P Q a w:=bu hm (s.o _ d) h
end Go.Proofs.YtbdkogimlbnlmaaGreat
namespace Go.Proofs.YtbdkogimlbnlmaaGreat
open Go.RowKit
variable {p:Addr}{l:List Nat}{cap k:Nat}{S T:Nat->Prop}{a:Option Addr}{b c w w' w1:World}
theorem ig{p:Prop}(h:p):Hid p:=h
theorem size_alloc(w:World)(o:Obj):(w.alloc o).heap.size=w.heap.size+1:=by
 show(w.heap.push o).size=_;simp
theorem rI(l:List Nat)(h:k<l.length):l.getD k 0=l[k]:=by simp[h]
theorem bt{a:World}(h:Below w.heap.size w a)(k:Below a.heap.size a b):Below w.heap.size w b:=h.trans (k.mono h.size)
theorem block_lt_of_cell{a:Addr}{v:Value}(h:w.cell? a=some v):a.block<w.heap.size:=World.block_lt_of_cell? w a h
def Bs(w:World)(a:Option Addr)(l:List Nat):Prop:=
 (∀x∈l,x<256)/\l.length<=9223372036854775807/\(l=[]\/∃b off,a=some ⟨b,off,none⟩/\∀i,i<l.length->w.cell? ⟨b,off+i,none⟩=some (.int .u8 ((l.getD i 0:Nat):Int)))
theorem Bs.keep(h:Bs w a l)(hb:Below w.heap.size w w'):Bs w' a l:=by
 obtain⟨h1,h2,h3⟩:=h;refine⟨h1,h2,?_⟩;rcases h3 with h3|⟨b,off,rfl,hc⟩
 . exact .inl h3
 . exact .inr ⟨b,off,rfl,λi hi=>(hb.cell (p:=⟨b,off+i,none⟩) (block_lt_of_cell (hc i hi))).trans (hc i hi)⟩
theorem Bs.nil(w:World):Bs w none []:=⟨by simp,by simp,.inl rfl⟩
def vb(l:List Nat):List Value:=l.map λx=>Value.int .u8 ((x:Nat):Int)
theorem ov(a b:List Nat):vb (a++b)=vb a++vb b:=by unfold vb;rw[bL]
theorem ki(a:List Nat):(vb a).length=a.length:=by unfold vb;rw[a7]
theorem tR(l:List Nat)(i:Nat)(hi:i<l.length):(vb l)[i]?=some (.int .u8 ((l.getD i 0:Nat):Int)):=by simp[vb,hi]
theorem EY(l:List Nat):∀u∈vb l,u.oneCell'=true:=by
 intro u hu;obtain⟨x,_,rfl⟩:=bG.1 hu;rfl
theorem yP(l:List Nat)(h:k<l.length):l.take k++[l.getD k 0]=l.take (k+1):=by
 rw[dQ h,rI l h]
structure But(S:Nat->Prop)(w w':World):Prop where
 os:w'.os=w.os
 tape:w'.tape=w.tape
 output:w'.output=w.output
 size:w.heap.size<=w'.heap.size
 block:∀k,k<w.heap.size->¬S k->w'.heap[k]?=w.heap[k]?
theorem But.refl(S:Nat->Prop)(w:World):But S w w:=⟨rfl,rfl,rfl,ai _,λ_ _ _=>rfl⟩
theorem But.trans{a:World}(h:But S a b)(k:But T b c)(hT:∀x,x<a.heap.size->T x->S x):But S a c:=
 ⟨k.os.trans h.os,k.tape.trans h.tape,k.output.trans h.output,aO h.size k.size,λi hi hn=>(k.block i (aZ hi h.size) (λht=>hn (hT i hi ht))).trans (h.block i hi hn)⟩
theorem But.mono{a:World}(h:But S a b)(hT:∀x,x<a.heap.size->S x->T x):But T a b:=
 ⟨h.os,h.tape,h.output,h.size,λk hk hn=>h.block k hk λhs=>hn (hT k hk hs)⟩
theorem But.drew{a:World}(h:But S a w):But S a w.drew:=⟨h.os,h.tape,h.output,h.size,h.block⟩
theorem But.ofBelow(h:Below w.heap.size w w'):But S w w':=⟨h.os,h.tape,h.output,h.size,λk hk _=>h.block k hk⟩
theorem But.below(h:But S w w')(hS:∀k,k<w.heap.size->¬S k):Below w.heap.size w w':=⟨h.os,h.tape,h.output,h.size,λk hk=>h.block k hk (hS k hk)⟩
theorem But.alloc{a:World}(h:But S a w)(o:Obj):But S a (w.alloc o):=
 h.trans (T:=λ_=>False) (But.ofBelow ((Below.refl _ _).alloc (ai _) o)) (λ_ _ hf=>hf.elim)
theorem But.setCell{a:World}(h:But S a w)(hp:p.block<a.heap.size->S p.block)(u:Value):But S a (w.setCell p u):=
 h.trans (T:=λk=>k=p.block) ⟨rfl,rfl,rfl,by simp[World.setCell],λk _ hn=>Below.heap_setCell _ _ _ _ hn⟩ (λx hx e=>by subst e;exact hp hx)
theorem But.grown{a:World}{row:Option Nat}(h:But S a w)(hg:w.grownBy w' row)(hr:∀k,row=some k->k<a.heap.size->S k):But S a w':=
 h.trans (T:=λk=>row=some k) ⟨hg.os,hg.tape,hg.output,hg.size,λk hk hn=>hg.block k hk λe=>hn e.symm⟩ (λx hx e=>hr x e hx)
theorem But.andBelow{a:World}(h:But S a b)(k:Below b.heap.size b c):But S a c:=
 h.trans (T:=λ_=>False) (But.ofBelow k) (λ_ _ hf=>hf.elim)
theorem But.cell{S:Nat->Prop}{w w':World}(h:But S w w'){p:Addr}(hp:p.block<w.heap.size)(hn:¬S p.block):w'.cell? p=w.cell? p:=World.cell?_of_block (w:=w) (h.block p.block hp hn)
theorem But.frozen(h:But S w w')(hp:p.block<w.heap.size)(hn:¬S p.block):w'.frozen? p=w.frozen? p:=World.frozen?_of_block (w:=w) (h.block p.block hp hn)
theorem Bs.but(h:Bs w a l)(hb:But S w w')(hn:∀x,a=some x->l≠[]->¬S x.block):Bs w' a l:=by
 obtain⟨h1,h2,h3⟩:=h;refine⟨h1,h2,?_⟩;by_cases h0:l=[]
 . exact .inl h0
 rcases h3 with h3|⟨b,off,rfl,hc⟩
 . exact .inl h3
 . exact .inr ⟨b,off,rfl,λi hi=>(hb.cell (p:=⟨b,off+i,none⟩) (block_lt_of_cell (hc i hi)) (show ¬S b from hn ⟨b,off,none⟩ rfl h0)).trans (hc i hi)⟩
def Rw(w:World)(a:Option Addr)(cap:Nat)(l:List Nat):Prop:=w.ownsRow 0 5 1 (.slice a l.length cap) l.length (vb l)
theorem jN(a:Option Addr)(n c:Nat):(Value.slice a n c).ownBlock=a.map Addr.block:=by cases a<;>rfl
theorem map_some{a:Option Addr}{k:Nat}(h:a.map Addr.block=some k):∃x,a=some x/\x.block=k:=by
 cases a with
 |none=>simp at h
 |some x=>simp at h;exact⟨x,rfl,h⟩
theorem Rw.nil(w:World):Rw w none 0 []:=e7 w 0 5 1
theorem Rw.cases(h:Rw w a cap l):(a=none/\cap=0/\l=[])\/
 ∃g cur,a=some ⟨g,0,none⟩/\w.heap[g]?=some (.cells cur 5 (0,0))/\l.length<=cap/\cap<=maxLen/\cur.size=cap/\cur.toList.take l.length=vb l:=by
 obtain⟨_,h2⟩:=h;rcases h2 with⟨hv,h0⟩|⟨g,cap',cur,hv,_,hg,hn,hm,hs,ht⟩
 . simp only[bE] at hv;exact .inl ⟨hv.1,hv.2.2,bY.1 h0⟩
 . simp only[bE] at hv;obtain⟨h1,_,rfl⟩:=hv;exact .inr ⟨g,cur,h1,hg,hn,hm,by omega,by rw[dR] at ht;exact ht⟩
theorem Rw.mk{g:Nat}{cur:Array Value}(hg:w.heap[g]?=some (.cells cur 5 (0,0)))(hn:l.length<=cap)(hm:cap<=maxLen)(hs:cur.size=cap)(ht:cur.toList.take l.length=vb l):Rw w (some ⟨g,0,none⟩) cap l:=
 ⟨by rw[ki,dR],.inr ⟨g,cap,cur,rfl,aF _,hg,hn,hm,by omega,by rw[dR];exact ht⟩⟩
theorem Rw.lt(h:Rw w a cap l){x:Addr}(hx:a=some x):x.block<w.heap.size:=by
 rcases h.cases with⟨rfl,_⟩|⟨g,cur,rfl,hg,_⟩
 . cases hx
 . cases hx;exact(af.1 hg).1
theorem Rw.but(h:Rw w a cap l)(hb:But S w w')(hn:∀x,a=some x->¬S x.block):Rw w' a cap l:=by
 rcases h.cases with⟨rfl,rfl,rfl⟩|⟨g,cur,rfl,hg,h1,h2,h3,h4⟩
 . exact Rw.nil w'
 . exact Rw.mk ((hb.block g (af.1 hg).1 (hn _ rfl)).trans hg) h1 h2 h3 h4
theorem Rw.keep(h:Rw w a cap l)(hb:Below w.heap.size w w'):Rw w' a cap l:=
 h.but (S:=λ_=>False) (But.ofBelow hb) (λ_ _ hf=>hf)
theorem Rw.cell{w:World}{g cap:Nat}{l:List Nat}(h:Rw w (some ⟨g,0,none⟩) cap l){i:Nat}(hi:i<l.length):w.cell? ⟨g,i,none⟩=some (.int .u8 ((l.getD i 0:Nat):Int)):=by
 rcases h.cases with⟨h0,_⟩|⟨g',cur,h0,hg,h1,h2,h3,h4⟩
 . cases h0
 . simp only[aE,Addr.mk.injEq] at h0;obtain⟨rfl,_⟩:=h0;rw[au _ _ _ _ _ _ hg,<-tR l i hi,<-h4,cw,if_pos hi];simp
theorem Rw.bs(h:Rw w a cap l)(hl:∀x∈l,x<256)(hlen:l.length<=9223372036854775807):Bs w a l:=by
 refine⟨hl,hlen,?_⟩;rcases h.cases with⟨rfl,rfl,rfl⟩|⟨g,cur,rfl,hg,h1,h2,h3,h4⟩
 . exact .inl rfl
 . exact .inr ⟨g,0,rfl,λi hi=>by rw[bH];exact h.cell hi⟩
theorem Rw.len_le(h:Rw w a cap l):l.length<=9223372036854775807:=by
 rcases h.cases with⟨rfl,rfl,rfl⟩|⟨g,cur,rfl,hg,h1,h2,h3,h4⟩
 . simp
 . unfold maxLen at h2;omega
def New(w:World)(a a':Option Addr):Prop:=∀x,a'=some x->(∃y,a=some y/\y.block=x.block)\/w.heap.size<=x.block
theorem New.refl(w:World)(a:Option Addr):New w a a:=λx hx=>.inl ⟨x,hx,rfl⟩
theorem New.none(w:World)(a:Option Addr):New w a Option.none:=λx hx=>by cases hx
theorem New.trans{b c:Option Addr}(h:New w a b)(k:New w1 b c)(hs:w.heap.size<=w1.heap.size):New w a c:=by
 intro x hx;rcases k x hx with⟨y,hy,e⟩|h1
 . rcases h y hy with⟨z,hz,e2⟩|h2
   . exact .inl ⟨z,hz,e2.trans e⟩
   . exact .inr (by omega)
 . exact .inr (by omega)
theorem New.mono{b:Option Addr}(h:New w1 a b)(hs:w.heap.size<=w1.heap.size):New w a b:=(New.refl w a).trans h hs
theorem qr:(Tryz.prog.info? 5).map (λi=>(i.zero,i.size,i.bytes))=some (some (.int .u8 0),1,1):=by kernel_rfl
theorem vS(w:World)(ty:TypeId)(a:Option Addr)(n cap:Nat)(l:List Nat)(hn:n=l.length)(hR:Rw w a cap l)(ad:Addr)(c x:Nat)(hc:w.cell? ad=some (.int .u8 ((x:Nat):Int)))(hlen:l.length+1<=140737488355328):
 ∃g cap' w',(Builtin.append_ #[29,29] ty #[.slice a n cap,.slice (some ad) 1 c]).run Tryz.prog w=.ok (.slice (some ⟨g,0,none⟩) (n+1) cap') w'/\
  Rw w' (some ⟨g,0,none⟩) cap' (l++[x])/\New w a (some ⟨g,0,none⟩)/\w.grownBy w' (a.map Addr.block)/\g<w'.heap.size:=by
 subst hn;obtain⟨i0,hi,hz0,hz1,hz2⟩:=dc qr
 obtain⟨g,cap',w',hr,h1,h2,h3,h4⟩:=dE (P:=Tryz.prog) w 29 ty 0 5 i0 (.int .u8 0) 1 1 Tryz.underlying29 hi hz0 hz1 hz2 rfl (by decide) (.slice a l.length cap) l.length (vb l) hR ad 1 c [.int .u8 ((x:Nat):Int)] rfl
  (by intro j u hj
      match j,hj with
      |0,hj=>simp at hj;subst hj;simpa[Addr.add] using hc) (by intro u hu;simp at hu;subst hu;rfl) (by decide) (by unfold maxLen;omega) (by omega) (aF _) w.heap.size rfl
 rw[jN] at h2 h3;refine⟨g,cap',w',hr,?_,?_,h2,h4⟩
 . unfold Rw;rw[ov,ae];exact h1
 . intro y hy;simp only[aE] at hy;subst hy;rcases h3 with h3|h3
   . obtain⟨z,hz,e⟩:=map_some h3;exact .inl ⟨z,hz,e⟩
   . exact .inr (by show _<=g;omega)
theorem EH{w:World}{o:Oper}{a:Act}{K:Act->World->Prop}{Q:Exit->Act->World->Prop}(s x:Operand)
 (ho:o.op=.call {callee:=.builtin .append,args:=#[s,x],argTypes:=#[29,29]}) (ao:Option Addr) (n cap:Nat) (l:List Nat) (hs:a.eval s=.slice ao n cap) (hn:n=l.length) (hR:Rw w ao cap l)
 (ad:Addr) (c xx:Nat) (hx:a.eval x=.slice (some ad) 1 c) (hc:w.cell? ad=some (.int .u8 ((xx:Nat):Int))) (hlen:l.length+1<=140737488355328)
 (h:∀g cap' w',Rw w' (some ⟨g,0,none⟩) cap' (l++[xx])->New w ao (some ⟨g,0,none⟩)->w.grownBy w' (ao.map Addr.block)->g<w'.heap.size->K (a.put o.dst (.slice (some ⟨g,0,none⟩) (n+1) cap')) w'):o.wp Tryz.prog a w K Q:=by
 obtain⟨g,cap',w',hr,h1,h2,h3,h4⟩:=vS w o.type ao n cap l hn hR ad c xx hc hlen;unfold Oper.wp execOp;simp only[ho,resolve,invoke,builtin,dt,du,bO,cJ,bC,cZ,hs,hx,hr];exact h g cap' w' h1 h2 h3 h4
theorem xE{w:World}{ops:Array Oper}{rest:List Oper}{o:Oper}{a:Act}{Q:Exit->Act->World->Prop}(hgd:o.guard=none)(s x:Operand)
 (ho:o.op=.call {callee:=.builtin .append,args:=#[s,x],argTypes:=#[29,29]}) (ao:Option Addr) (n cap:Nat) (l:List Nat) (hs:a.eval s=.slice ao n cap) (hn:n=l.length) (hR:Rw w ao cap l)
 (ad:Addr) (c xx:Nat) (hx:a.eval x=.slice (some ad) 1 c) (hc:w.cell? ad=some (.int .u8 ((xx:Nat):Int))) (hlen:l.length+1<=140737488355328)
 (h:∀g cap' w',Rw w' (some ⟨g,0,none⟩) cap' (l++[xx])->New w ao (some ⟨g,0,none⟩)->w.grownBy w' (ao.map Addr.block)->g<w'.heap.size->wpList Tryz.prog ops Q rest (a.put o.dst (.slice (some ⟨g,0,none⟩) (n+1) cap')) w'):wpList Tryz.prog ops Q (o::rest) a w:=
 eH hgd λ_ hK=>EH s x ho ao n cap l hs hn hR ad c xx hx hc hlen λg cap' w' h1 h2 h3 h4=>hK _ _ (h g cap' w' h1 h2 h3 h4)
theorem Ds(w:World)(ty:TypeId)(a:Option Addr)(n cap:Nat)(l:List Nat)(hn:n=l.length)(hR:Rw w a cap l)(ab:Option Addr)(m c:Nat)(lb:List Nat)(hm:m=lb.length)(hB:Bs w ab lb)(hlen:l.length+lb.length<=140737488355328):
 ∃a' cap' w',(Builtin.append_ #[29,29] ty #[.slice a n cap,.slice ab m c]).run Tryz.prog w=.ok (.slice a' (n+m) cap') w'/\
  Rw w' a' cap' (l++lb)/\New w a a'/\w.grownBy w' (a.map Addr.block)/\(a≠none->a'≠none):=by
 subst hn hm;obtain⟨i0,hi,hz0,hz1,hz2⟩:=dc qr;by_cases h0:lb=[]
 . subst h0
   have hfc:∀z:Option Addr,(Builtin.firstCells 1 0 (.slice z 0 c)).run Tryz.prog w=.ok #[] w:=by
    intro z;cases z with
    |none=>rfl
    |some z=>simp[Builtin.firstCells,loadCells,loadCellsFrom]
   refine⟨a,cap,w,?_,by simpa using hR,New.refl _ _,⟨rfl,rfl,rfl,ai _,λ_ _ _=>rfl⟩,id⟩
   rcases hR.cases with⟨rfl,rfl,rfl⟩|⟨g,cur,rfl,hg,h1,h2,h3,h4⟩
   . simp[Builtin.append_,de Tryz.underlying29,sizeOf,typeInfo,hi,hz1,Builtin.lenOf,hfc]
   . simp[Builtin.append_,de Tryz.underlying29,sizeOf,typeInfo,hi,hz1,Builtin.lenOf,hfc,h1,storeCells]
 . rcases hB.2.2 with h|⟨b,off,rfl,hc⟩
   . exact absurd h h0
   . have hpos:0<lb.length:=bN.2 h0
     obtain⟨g,cap',w',hr,h1,h2,h3,h4⟩:=dE (P:=Tryz.prog) w 29 ty 0 5 i0 (.int .u8 0) 1 1 Tryz.underlying29 hi hz0 hz1 hz2 rfl (by decide) (.slice a l.length cap) l.length (vb l) hR ⟨b,off,none⟩ lb.length c (vb lb) (by rw[ki,dR])
      (by intro j u hj
          have hlt:j<lb.length:=by
           have:=(bz.1 hj).1;rwa [ki] at this
          rw[tR lb j hlt,aE] at hj;subst hj;have ea:(⟨b,off,none⟩:Addr).add j=⟨b,off+j,none⟩:=by unfold Addr.add;split<;>simp_all
          rw[ea];exact hc j hlt) (EY lb) hpos (by unfold maxLen;omega) (by omega) (aF _) w.heap.size rfl
     rw[jN] at h2 h3;refine⟨_,cap',w',hr,?_,?_,h2,λ_=>by simp⟩
     . unfold Rw;rw[ov,ae];exact h1
     . intro y hy;simp only[aE] at hy;subst hy;rcases h3 with h3|h3
       . obtain⟨z,hz,e⟩:=map_some h3;exact .inl ⟨z,hz,e⟩
       . exact .inr (by show _<=g;omega)
theorem Ez{w:World}{o:Oper}{a:Act}{K:Act->World->Prop}{Q:Exit->Act->World->Prop}(s x:Operand)
 (ho:o.op=.call {callee:=.builtin .append,args:=#[s,x],argTypes:=#[29,29]}) (ao:Option Addr) (n cap:Nat) (l:List Nat) (hs:a.eval s=.slice ao n cap) (hn:n=l.length) (hR:Rw w ao cap l)
 (ab:Option Addr) (m c:Nat) (lb:List Nat) (hx:a.eval x=.slice ab m c) (hm:m=lb.length) (hB:Bs w ab lb) (hlen:l.length+lb.length<=140737488355328)
 (h:∀a' cap' w',Rw w' a' cap' (l++lb)->New w ao a'->w.grownBy w' (ao.map Addr.block)->(ao≠none->a'≠none)->K (a.put o.dst (.slice a' (n+m) cap')) w'):o.wp Tryz.prog a w K Q:=by
 obtain⟨a',cap',w',hr,h1,h2,h3,h4⟩:=Ds w o.type ao n cap l hn hR ab m c lb hm hB hlen;unfold Oper.wp execOp;simp only[ho,resolve,invoke,builtin,dt,du,bO,cJ,bC,cZ,hs,hx,hr];exact h a' cap' w' h1 h2 h3 h4
theorem xI{w:World}{ops:Array Oper}{rest:List Oper}{o:Oper}{a:Act}{Q:Exit->Act->World->Prop}(hgd:o.guard=none)(s x:Operand)
 (ho:o.op=.call {callee:=.builtin .append,args:=#[s,x],argTypes:=#[29,29]}) (ao:Option Addr) (n cap:Nat) (l:List Nat) (hs:a.eval s=.slice ao n cap) (hn:n=l.length) (hR:Rw w ao cap l)
 (ab:Option Addr) (m c:Nat) (lb:List Nat) (hx:a.eval x=.slice ab m c) (hm:m=lb.length) (hB:Bs w ab lb) (hlen:l.length+lb.length<=140737488355328)
 (h:∀a' cap' w',Rw w' a' cap' (l++lb)->New w ao a'->w.grownBy w' (ao.map Addr.block)->(ao≠none->a'≠none)->wpList Tryz.prog ops Q rest (a.put o.dst (.slice a' (n+m) cap')) w'):wpList Tryz.prog ops Q (o::rest) a w:=
 eH hgd λ_ hK=>Ez s x ho ao n cap l hs hn hR ab m c lb hx hm hB hlen λa' cap' w' h1 h2 h3 h4=>hK _ _ (h a' cap' w' h1 h2 h3 h4)
end Go.Proofs.YtbdkogimlbnlmaaGreat
namespace Go.Proofs.YtbdkogimlbnlmaaGreat
def iP:List Nat->List Nat->Int
 | [],[]=>0
 | [],_::_=> -1
 |_::_,[]=>1
 |x::xs,y::ys=>if x<y then -1 else if y<x then 1 else iP xs ys
theorem rX:∀l,iP l l=0
 | []=>rfl
 |x::l=>by simp[iP,rX l]
theorem qW:∀{a b},iP a b=0->a=b
 | [],[],_=>rfl
 | [],_::_,h=>by simp[iP] at h
 |_::_,[],h=>by simp[iP] at h
 |x::xs,y::ys,h=>by
  simp only[iP] at h;split at h
  . cases h
  . split at h
    . cases h
    . rw[qW h,show x=y by omega]
theorem zg{a b:List Nat}:iP a b=0↔a=b:=⟨qW,λh=>by rw[h];exact rX b⟩
theorem sx:∀a b,iP b a= -iP a b
 | [],[]=>rfl
 | [],_::_=>rfl
 |_::_,[]=>rfl
 |x::xs,y::ys=>by
  simp only[iP];by_cases h:x<y
  . simp[h,show ¬y<x by omega]
  . by_cases h2:y<x
    . simp[h,h2]
    . simp[h,h2,sx xs ys]
theorem oD(a b:List Nat)(j:Nat)(ha:j<a.length)(hb:j<b.length):iP (a.drop j) (b.drop j)=if a.getD j 0<b.getD j 0 then -1 else if b.getD j 0<a.getD j 0 then 1 else iP (a.drop (j+1)) (b.drop (j+1)):=by
 rw[cM ha,cM hb];simp[iP,ha,hb]
theorem mU(a b:List Nat)(j:Nat)(h:a.length<=j\/b.length<=j)(hj:j<=a.length)(hj2:j<=b.length):iP (a.drop j) (b.drop j)=if a.length<b.length then -1 else if b.length<a.length then 1 else 0:=by
 by_cases h1:a.length<b.length
 . have:j=a.length:=by omega
   subst this;rw[if_pos h1,List.drop_length];obtain⟨x,xs,e⟩:∃x xs,b.drop a.length=x::xs:=⟨_,_,cM h1⟩;rw[e];rfl
 . by_cases h2:b.length<a.length
   . have:j=b.length:=by omega
     subst this;rw[if_neg h1,if_pos h2,List.drop_length];obtain⟨x,xs,e⟩:∃x xs,a.drop b.length=x::xs:=⟨_,_,cM h2⟩;rw[e];rfl
   . rw[if_neg h1,if_neg h2,show a.drop j=[] by simp;omega,show b.drop j=[] by simp;omega];rfl
def wd(y:Nat):Nat:=if h:y=0 then 0 else wd (y/256)+1
end Go.Proofs.YtbdkogimlbnlmaaGreat
namespace Go.Proofs.YtbdkogimlbnlmaaGreat
open Go.RowKit
variable {p:List Nat}{j:Nat}{aa:Option Addr}{w:World}
theorem drN(w:World)(n:Nat):Below w.heap.size w (w.drewN n):=⟨rfl,rfl,rfl,ai _,λ_ _=>rfl⟩
theorem iw{x:Int}(h: -9223372036854775808<=x)(h2:x<=9223372036854775807):IntKind.i64.wrap x=x:=by rw[IntKind.wrap_i64];omega
theorem w64(h:j<9223372036854775807):wrap64 ((j:Int)+1)=(j:Int)+1:=by unfold wrap64;omega
theorem eqf{k c:Int}(h:k≠c):(k==c)=false:=beq_eq_false_iff_ne.2 h
theorem Bs.at(hB:Bs w aa p)(hj:j<p.length):∃b off,aa=some ⟨b,off,none⟩/\w.cell? ⟨b,off+j,none⟩=some (.int .u8 ((p.getD j 0:Nat):Int)):=by
 rcases hB.2.2 with rfl|⟨b,off,rfl,hc⟩
 . simp at hj
 . exact⟨b,off,rfl,hc j hj⟩
theorem iF(n j:Nat)(x:Int)(hx:x=(j:Int)+1)(h:j<n):n-(intOf (.int .i64 x)).toNat<n-(intOf (.int .i64 (j:Int))).toNat:=by
 subst hx;simp only[intOf];omega
theorem wH{wx w2:World}{aj a':Option Addr}{o:Obj}(hN:New w none aj)(hb:Below w.heap.size w wx)(hg:(wx.alloc o).grownBy w2 (aj.map Addr.block))(hN2:New (wx.alloc o) aj a'):New w none a'/\Below w.heap.size w w2:=by
 refine⟨hN.trans hN2 (by rw[size_alloc];have:=hb.size;omega),?_⟩
 refine(hb.alloc hb.size o).grown hg (by rw[size_alloc];have:=hb.size;omega) λk hk=>?_
 obtain⟨x,hx,e⟩:=map_some hk;rcases hN x hx with⟨y,hy,_⟩|h
 . cases hy
 . omega
theorem vG(l c:Nat)(hlc:l<=c)(hc:c<=281474976710656)(w:World):(Instr.makeSlice 29 (.int .i64 (l:Int)) (.int .i64 (c:Int))).run Tryz.prog w=.ok (.slice (some ⟨w.heap.size,0,none⟩) l c) (w.alloc (.cells (madeCells #[.int .u8 0] c) 5)):=by
 obtain⟨i0,hi,hz0,hz1,hz2⟩:=dc qr;have hr:=run_make (P:=Tryz.prog) w 29 5 i0 (.int .u8 0) Tryz.underlying29 hi hz0 .i64 .i64 l c (by omega) (by omega) (by rw[hz2];omega) (by omega)
 simp only[c9,hz1,dR] at hr;exact hr
theorem oZ{w':World}(hB:Bs w aa p)(hb:Below w.heap.size w w')(hj:j<p.length):∃b off,aa=some ⟨b,off,none⟩/\w'.cell? ⟨b,off+j,none⟩=some (.int .u8 ((p.getD j 0:Nat):Int)):=by
 rcases hB.2.2 with rfl|⟨b,off,rfl,hc⟩
 . simp at hj
 . exact⟨b,off,rfl,(hb.cell (p:=⟨b,off+j,none⟩) (block_lt_of_cell (hc j hj))).trans (hc j hj)⟩
theorem sN(w:World)(aa:Option Addr)(n capa:Nat)(p:List Nat)(hB:Bs w aa p)(hn:n=p.length)(hlen:p.length<=140737488355328):
 Calls Tryz.prog 64 #[.slice aa n capa] w λx w'=>∃a' cap',x=.returned (.slice a' n cap')/\Rw w' a' cap' p/\New w none a'/\Below w.heap.size w w':=by
 subst hn;have hmk:∀w:World,(Instr.makeSlice 29 (.int .i64 0) (.int .i64 (p.length:Int))).run Tryz.prog w=.ok (.slice (some ⟨w.heap.size,0,none⟩) 0 p.length) (w.alloc (.cells (madeCells #[.int .u8 0] p.length) 5)):=vG 0 p.length (aF _) (by omega)
 have HB:=ig hB;clear hB;go_enter Tryz.func64,Tryz.ntmps64;go_wp2;go_loopw [3,4] (λv i wx=>∃(j:Nat)(aj:Option Addr)(cj:Nat),j<=p.length/\i=.int .i64 j/\v=.slice aj j cj/\(Rw wx aj cj (p.take j)/\New w none aj/\Below w.heap.size w wx)) (λ_ i _=>p.length-(intOf i).toNat)
 case atStart=>exact⟨0,some ⟨w.heap.size,0,none⟩,p.length,aF _,rfl,rfl,Rw.mk (cur:=madeCells #[.int .u8 0] p.length) (aH _ _) (aF _) (by unfold maxLen;omega) (fT _ _) (by simp[vb]),λx hx=>.inr (by simp only[aE] at hx;subst hx;exact ai _),(Below.refl _ _).alloc (ai _) _⟩
 case round=>
  obtain⟨j,aj,cj,hj,rfl,rfl,hG⟩:=hrel;have HG:=ig hG;clear hG;by_cases hlt:j<p.length
  . have hi:(j:Int)<(p.length:Int):=by omega
    obtain⟨bs,off,rfl,hcs⟩:=oZ HB.o HG.o.2.2 hlt;have HS:Hid (p.take j++[p.getD j 0]=p.take (j+1)):=yP p hlt;have hz:(p.take j).length=j:=by rw[bi];omega
    have hlw:=block_lt_of_cell hcs;generalize p.getD j 0=x at *;generalize p.take j=L at *;go_wp2_with (at_builtin;refine xE rfl _ _ rfl aj j cj L rfl hz.symm (HG.o.1.keep ((Below.refl _ _).alloc (ai _) _)) ⟨wr.heap.size,0,none⟩ 1 x rfl ?c1 (by omega) ?_)
    try case c1=>simp
    intro g cap' w2 hR hN hg _;obtain⟨h1,h2⟩:=wH HG.o.2.1 HG.o.2.2 hg hN;rw[HS.o] at hR;have HR:=ig hR;clear hR hN hg;go_wp2;go_roundw
    case rel=>exact⟨j+1,_,cap',by omega,by go_num,rfl,HR.o,h1,h2⟩
    case measure=>simp[intOf];omega
  . obtain rfl:j=p.length:=by omega
    go_wp2;go_ret;refine⟨aj,cj,rfl,?_⟩;have h:=HG.o;rw[cU] at h;exact h
theorem run_eql_slice_nil(a:Option Addr)(l c:Nat)(w:World):(binOp .eql 29 (.slice a l c) (.slice none 0 0)).run Tryz.prog w=.ok (.bool a.isNone) w:=by
 simp only[binOp];simp[run_equal_slice_nil w 29 5 a l c Tryz.underlying29]
theorem pu(w:World)(aa ab:Option Addr)(n m capa capb:Nat)(l k:List Nat)(hA:Bs w aa l)(hB:Bs w ab k)(hn:n=l.length)(hm:m=k.length):
 Calls Tryz.prog 88 #[.slice aa n capa,.slice ab m capb] w λx w'=>x=.returned (.int .i64 (iP l k))/\Below w.heap.size w w':=by
 subst hn hm;have hlen:=hA.2.1;have hlen2:=hB.2.1;have HA:=ig hA;have HB:=ig hB;clear hA hB;go_enter Tryz.func88,Tryz.ntmps88;go_wp2;go_loopw [5] (λi wx=>∃j:Nat,j<=l.length/\j<=k.length/\i=.int .i64 j/\(Below w.heap.size w wx/\iP (l.drop j) (k.drop j)=iP l k)) (λi _=>l.length-(intOf i).toNat)
 case atStart=>exact⟨0,aF _,aF _,rfl,Below.refl _ _,rfl⟩
 case round=>
  obtain⟨j,hj,hj2,rfl,hG⟩:=hrel;have HG:=ig hG;clear hG;by_cases hlt:j<l.length
  . by_cases hlt2:j<k.length
    . have hi:(j:Int)<(l.length:Int):=by omega
      have hi2:(j:Int)<(k.length:Int):=by omega
      have HS:=ig (oD l k j hlt hlt2);obtain⟨ba,oa,rfl,hca⟩:=oZ HA.o HG.o.1 hlt;obtain⟨bb,ob,rfl,hcb⟩:=oZ HB.o HG.o.1 hlt2;have hj1:=w64 (j:=j) (by omega)
      generalize l.getD j 0=x at *;generalize k.getD j 0=y at *;by_cases h1:x<y
      . have q1:(x:Int)<(y:Int):=by omega
        have HE:Hid (iP l k= -1):=by rw[<-HG.o.2,HS.o,if_pos h1];exact rfl
        go_wp2;go_quiet (fail)
        go_wp2;go_ret;exact⟨by rw[HE.o];first|done|rfl,bt HG.o.1 (drN _ _)⟩
      . have q1:¬(x:Int)<(y:Int):=by omega
        by_cases h2:y<x
        . have q2:(y:Int)<(x:Int):=by omega
          have HE:Hid (iP l k=1):=by rw[<-HG.o.2,HS.o,if_neg h1,if_pos h2];exact rfl
          go_wp2;go_quiet (fail)
          go_wp2;go_quiet (fail)
          go_wp2;go_ret;exact⟨by rw[HE.o];first|done|rfl,bt (bt HG.o.1 (drN _ _)) (drN _ _)⟩
        . have q2:¬(y:Int)<(x:Int):=by omega
          have HE:Hid (iP (l.drop (j+1)) (k.drop (j+1))=iP l k):=by rw[<-HG.o.2,HS.o,if_neg h1,if_neg h2];exact rfl
          go_wp2;go_quiet (fail)
          go_wp2;go_quiet (fail)
          go_wp2;go_roundw
          case rel=>exact⟨j+1,by omega,by omega,aY (Value.int IntKind.i64) (by omega),bt HG.o.1 (drN _ _),HE.o⟩
          case measure=>first|exact iF _ _ _ hj1 hlt|exact iF _ _ _ rfl hlt
    . obtain rfl:j=k.length:=by omega
      have hi:((k.length:Nat):Int)<(l.length:Int):=by omega
      have HE:Hid (iP l k=1):=by rw[<-HG.o.2,mU l k k.length (.inr (ai _)) (by omega) (ai _),if_neg (by omega),if_pos (by omega)];exact rfl
      have hi2:¬(l.length:Int)<(k.length:Int):=by omega
      go_wp2;go_ret;exact⟨by rw[HE.o];first|done|rfl,HG.o.1⟩
  . obtain rfl:j=l.length:=by omega
    by_cases h1:l.length<k.length
    . have hi:((l.length:Nat):Int)<(k.length:Int):=by omega
      have HE:Hid (iP l k= -1):=by rw[<-HG.o.2,mU l k l.length (.inl (ai _)) (ai _) (by omega),if_pos (by omega)];exact rfl
      go_wp2;go_ret;exact⟨by rw[HE.o];first|done|rfl,HG.o.1⟩
    . have hi:¬((l.length:Nat):Int)<(k.length:Int):=by omega
      have hi2:¬((k.length:Nat):Int)<(l.length:Int):=by omega
      have HE:Hid (iP l k=0):=by rw[<-HG.o.2,mU l k l.length (.inl (ai _)) (ai _) (by omega),if_neg (by omega),if_neg (by omega)];exact rfl
      go_wp2;go_ret;exact⟨by rw[HE.o];first|done|rfl,HG.o.1⟩
theorem u5(w:World)(aa ab:Option Addr)(n m capa capb:Nat)(l k:List Nat)(hA:Bs w aa l)(hB:Bs w ab k)(hn:n=l.length)(hm:m=k.length):
 Calls Tryz.prog 29 #[.slice aa n capa,.slice ab m capb] w λx w'=>x=.returned (.bool (decide (l=k)))/\Below w.heap.size w w':=by
 have R:=ig (pu w aa ab n m capa capb l k hA hB hn hm);clear hA hB hn hm;by_cases h:l=k
 . have hd:decide (l=k)=true:=ay h;rw[hd];have hz:iP l k=0:=zg.2 h;rw[hz] at R;clear hd hz h;go_enter Tryz.func29,Tryz.ntmps29;go_wp2_with fail
   refine R.o.mono ?_;rintro e w1 ⟨rfl,hb⟩;go_wp2;go_ret;exact⟨rfl,hb⟩
 . have hd:decide (l=k)=false:=ax h;rw[hd];have hz:(iP l k==0)=false:=eqf λe=>h (qW e)
   clear hd h;generalize iP l k=c at *;go_enter Tryz.func29,Tryz.ntmps29;go_wp2_with fail
   refine R.o.mono ?_;rintro e w1 ⟨rfl,hb⟩;go_wp2;go_ret;exact⟨by simp_all,hb⟩
theorem ky(w:World)(aa ab:Option Addr)(n m capa capb:Nat)(l:List Nat)(hA:Bs w aa l)(hB:Bs w ab l)(hn:n=l.length)(hm:m=l.length):
 Calls Tryz.prog 29 #[.slice aa n capa,.slice ab m capb] w λx w'=>x=.returned (.bool true)/\Below w.heap.size w w':=
 (u5 w aa ab n m capa capb l l hA hB hn hm).mono λx w' h=>⟨by rw[h.1];simp,h.2⟩
end Go.Proofs.YtbdkogimlbnlmaaGreat
namespace Go.Proofs.YtbdkogimlbnlmaaGreat
def B8(l:List Nat):Prop:=∀x∈l,x<256
theorem B8.nil:B8 []:=λx h=>by cases h
end Go.Proofs.YtbdkogimlbnlmaaGreat
