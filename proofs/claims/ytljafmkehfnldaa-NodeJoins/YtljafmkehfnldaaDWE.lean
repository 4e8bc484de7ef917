import Derived.Test.YtljafmkehfnldaaDWC
import Derived.Test.YtljafmkehfnldaaDZT
namespace Go.Proofs.Ytljafmkehfnldaa
set_option linter.unusedVariables false
set_option linter.unusedSimpArgs false
open Go.RowKit
/-- an item in rows of bytes -/
structure Yo (W : World) (y : Iv) : Prop where
  k : Rw W y.aK y.cK y.key
  v : Rw W y.aV y.cV y.val
  k8 : B8 y.key
  v8 : B8 y.val
  nc : N64 y.child
  ns : N64 y.size
theorem Yo.ii {W : World} {y : Iv} (h : Yo W y) : Ii W y := ⟨h.k.bs h.k8 h.k.len_le, h.k.cap, h.v.bs h.v8 h.v.len_le, h.v.cap, h.nc, h.ns⟩
theorem Yo.keep {W W' : World} {y : Iv} (h : Yo W y) (hb : Below W.heap.size W W') : Yo W' y := ⟨h.k.keep hb, h.v.keep hb, h.k8, h.v8, h.nc, h.ns⟩
theorem Yo.grown {W1 W2 : World} {a : Option Addr} {c : Nat} {L : List Iv} {y : Iv} (h : Yo W1 y) (hJ : Jw W1 a c L) (hg : W1.grownBy W2 (a.map Addr.block)) : Yo W2 y :=
  ⟨h.k.but (hJ.butg hg) (fun _ hx ⟨_, hy, e⟩ => hJ.ne h.k hy hx e), h.v.but (hJ.butg hg) (fun _ hx ⟨_, hy, e⟩ => hJ.ne h.v hy hx e), h.k8, h.v8, h.nc, h.ns⟩
set_option maxHeartbeats 4000000 in
set_option maxRecDepth 8000 in
theorem keyed_any (w : World) (x : Iv) (aS : Option Addr) (cs : Nat) (s : List Nat) (hX : Ii w x) (hxs : x.key.length ≤ 140737488355264 ∧ x.val.length ≤ 140737488355264) (hB : Bs w aS s) (hs : s.length ≤ 140737488355264) :
    Calls Try.prog 57 #[x.vl, .slice aS s.length cs] w fun e w' => ∃ y : Iv, e = .returned y.vl ∧ Yo w' y ∧ y.it = x.it.keyed s ∧ Below w.heap.size w w' := by
  have CX := hide fun (W : World) (hb : Below w.heap.size w W) => CopyItem_any W x (hX.keep hb) hxs.1 hxs.2
  have CB := hide fun (W : World) (hb : Below w.heap.size w W) => CopyBytes_at W aS s.length cs s (hB.keep hb) rfl hs
  have IX := hide hX
  have S8 := hide hB.1
  clear hX hxs hB hs
  obtain ⟨xK, xcK, xkey, xV, xcV, xval, xch, xsz⟩ := x
  unfold Iv.vl at CX ⊢
  simp only [Iv.cs] at CX IX ⊢
  have U2 := hide (two_blocks w (.cells #[.slice xK xkey.length xcK, .slice xV xval.length xcV, .int .i64 xch, .int .i64 xsz] 37) (.cells #[.slice none 0 0, .slice none 0 0, .int .i64 0, .int .i64 0] 37) (Below.refl _ _))
  go_enter Try.func57, Try.ntmps57
  go_wp2_with fail
  refine (CX.out _ U2.out.2.2.1).mono ?_
  rintro _ w3 ⟨y, rfl, hy, ey⟩
  have A3 := hide (al w3 (.cells #[.slice y.aK y.key.length y.cK, .slice y.aV y.val.length y.cV, .int .i64 y.child, .int .i64 y.size] 37))
  have X3 := hide (heap_alloc_new w3 (.cells #[.slice y.aK y.key.length y.cK, .slice y.aV y.val.length y.cV, .int .i64 y.child, .int .i64 y.size] 37))
  have BR := hide (blk_keep U2.out.2.1 (bt hy.k.b A3.out))
  have B3 := hide (bt U2.out.2.2.1 (bt hy.k.b A3.out))
  have IY := hide ((hy.keep A3.out))
  have EY := hide ey
  have hz : w.heap.size + 1 < w3.heap.size := by have := hy.k.b.size; have k := (Array.getElem?_eq_some_iff.1 (blk_keep U2.out.2.1 hy.k.b)).1; omega
  clear hy ey U2 CX
  go_wp2_with fail
  refine (CB.out _ B3.out).mono ?_
  rintro _ w4 ⟨a4, c4, rfl, hO⟩
  have X4 := hide (blk_keep X3.out hO.b)
  have O4 := hide hO
  have BR4 := hide (blk_keep BR.out hO.b)
  have B4 := hide (bt B3.out hO.b)
  have IY4 := hide (IY.out.keep hO.b)
  clear hO CB
  obtain ⟨x0, x1, x2, x3⟩ := cells4 X4.out
  have f0 := frz X4.out 0
  have hB := But.cell1 w4 w3.heap.size 0 (.slice a4 s.length c4)
  have X5 := hide (heap_setCell_same w4 w3.heap.size 0 _ 37 (.slice a4 s.length c4) X4.out)
  have BR5 := hide ((Below.heap_setCell w4 ⟨w3.heap.size, 0, none⟩ (.slice a4 s.length c4) (w.heap.size + 1) (show w.heap.size + 1 ≠ w3.heap.size by omega)).trans BR4.out)
  have B5 : Hid (Below w.heap.size w (w4.setCell ⟨w3.heap.size, 0, none⟩ (.slice a4 s.length c4))) := ((But.ofBelow (S := fun k => k = w3.heap.size) B4.out).trans hB (fun _ _ e => e)).below (fun k hk e => by omega)
  have V5 := hide (IY4.out.v.r.but hB (fun x hx e => IY4.out.v.r.nty (show Bx w4 37 _ _ from X4.out) (by decide) hx e))
  have K5 := hide (O4.out.r.but hB (fun x hx e => O4.out.r.nty (show Bx w4 37 _ _ from X4.out) (by decide) hx e))
  clear hB
  go_upto_region 3 with fail
  clear x0 x1 x2 x3 f0
  generalize w4.setCell ⟨w3.heap.size, 0, none⟩ (.slice a4 s.length c4) = w5 at *
  obtain ⟨x0, x1, x2, x3⟩ := cells4 X5.out
  go_wp2_with (first | (refine wpList_store_row rfl 37 _ _ rfl (w.heap.size + 1) _ rfl rfl 37 _ BR5.out sizeItem rfl (by simp [Value.oneCell']) ?_) | fail)
  refine bodyPost_ret (v := .agg _) (results_cell_row Try.results57 _ _ (w.heap.size + 1) 37 _ (0, 0) _ rfl (setRow_heap _ _ _ _ _ _ BR5.out) Try.underlying37 rfl sizeItem) rfl ?_
  have k6 := K5.out.but (but_setRow w5 (w.heap.size + 1) #[.slice a4 s.length c4, .slice y.aV y.val.length y.cV, .int .i64 y.child, .int .i64 y.size]) (fun x hx e => K5.out.nty (show Bx w5 37 _ _ from BR5.out) (by decide) hx e)
  have v6 := V5.out.but (but_setRow w5 (w.heap.size + 1) #[.slice a4 s.length c4, .slice y.aV y.val.length y.cV, .int .i64 y.child, .int .i64 y.size]) (fun x hx e => V5.out.nty (show Bx w5 37 _ _ from BR5.out) (by decide) hx e)
  have nn := it_n EY.out ⟨IX.out.nc, IX.out.ns⟩
  refine ⟨⟨a4, c4, s, y.aV, y.cV, y.val, y.child, y.size⟩, rfl, ⟨k6, v6, S8.out, IY.out.v8, nn.1, nn.2⟩, ?_, below_row _ B5.out (by omega)⟩
  have e1 : y.val = xval := congrArg It.val EY.out
  have e2 : y.child = xch := congrArg It.child EY.out
  have e3 : y.size = xsz := congrArg It.size EY.out
  simp only [Iv.it, It.keyed, e1, e2, e3]
def jl (kind : Int) (R : List Iv) (s : List Nat) : List It := (if kind = 2 then ((R.getD 0 Iv.zero).it).keyed s else (R.getD 0 Iv.zero).it) :: (R.drop 1).map Iv.it
theorem jl_len {kind : Int} {R : List Iv} {s : List Nat} (h : 1 ≤ R.length) : (jl kind R s).length = R.length := by
  simp only [jl, List.length_cons, List.length_map, List.length_drop]; omega
theorem jl_at {kind : Int} {R : List Iv} {s : List Nat} {k : Nat} (hk : k < R.length) : (jl kind R s).getD k It.zero = if k = 0 ∧ kind = 2 then ((R.getD 0 Iv.zero).it).keyed s else (R.getD k Iv.zero).it := by
  unfold jl
  cases k with
  | zero =>
    rw [List.getD_cons_zero]
    by_cases h : kind = 2 <;> simp [h]
  | succ k =>
    rw [List.getD_cons_succ, it_getD, if_neg (by omega)]
    simp [Nat.add_comm]
theorem jl_take {kind : Int} {R : List Iv} {s : List Nat} {k : Nat} (hk : k < R.length) : (jl kind R s).take (k + 1) = (jl kind R s).take k ++ [(jl kind R s).getD k It.zero] := by
  have h : k < (jl kind R s).length := by rw [jl_len (by omega)]; exact hk
  rw [List.take_succ_eq_append_getElem h]; simp [h]
end Go.Proofs.Ytljafmkehfnldaa
