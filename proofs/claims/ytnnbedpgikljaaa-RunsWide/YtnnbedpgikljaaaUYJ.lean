import Derived.Test.YtnnbedpgikljaaaUYI
import Derived.Test.YtnnbedpgikljaaaUI
namespace Go.Proofs.Ytnnbedpgikljaaa
set_option linter.unusedVariables false
open Go.RowKit Go.Shelf
attribute [local go_sem] Oper.semAt_some

/-! ### goes -/
theorem nums_nm {L : List Rn} (h : ∀ r ∈ L, r.1 ≤ r.2 ∧ Nm r.1 ∧ Nm r.2) : ∀ x ∈ nums L, Nm x := by
  intro x hx
  unfold nums at hx
  obtain ⟨l, hl, h1⟩ := List.mem_flatten.1 hx
  obtain ⟨r, hr, rfl⟩ := List.mem_map.1 hl
  obtain ⟨i, hi, rfl⟩ := List.mem_map.1 h1
  have hi' := List.mem_range.1 hi
  obtain ⟨a1, a2, a3⟩ := h r hr
  unfold cnt at hi'
  unfold Nm at *
  omega
theorem results_cellB {fn : Func} {p : Tmp} (h : fn.results = #[.cell p 4]) (tmps : Array Value) (w : World) (g : Nat) (v : Value) (hp : tmps.getD p undef = .pointer (some ⟨g, 0, none⟩)) (hc : w.cell? ⟨g, 0, none⟩ = some v) :
    (results fn tmps).run Try.prog w = .ok v w := by
  have hp' : tmps[p]?.getD undef = .pointer (some ⟨g, 0, none⟩) := by simpa using hp
  simp [results, h, hp', asAddr, loadVar, Try.isAgg4, run_load, hc]
theorem eqFnIn (d n : Nat) (lb : Array Value) (w : World) : (Op.equalIn (d + 1) 64 (.func (.func n) #[] lb) .nilFunc).run Try.prog w = .ok false w := by
  simp [Op.equalIn, run_underlying Try.underlying64]
theorem run_eqFn (n : Nat) (lb : Array Value) (w : World) : (binOp .eql 64 (.func (.func n) #[] lb) .nilFunc).run Try.prog w = .ok (.bool false) w := by
  simp only [binOp]
  simp [Op.equal, Op.maxDepth, eqFnIn 9999 n lb w]
set_option maxHeartbeats 4000000 in
set_option maxRecDepth 10000 in
theorem goes_any (w w0 : World) (lb : Array Value) (L : List Rn) (X : Nat → Prop) (hseq : Seqs Try.prog 46 lb enI (nums L) w0 X) (h0X : But (fun k => ¬ X k) w0 w) (hXw : ∀ k, X k → k < w.heap.size ∧ k < w0.heap.size)
    (bo : Nat) (ao : Option Addr) (co : Nat) (hR : Rt w bo ao co L) (k : Nat) (hk : k ≤ 900) (hN : ∀ x ∈ nums L, Nm x) :
    Calls Try.prog 23 #[.func (.func 46) #[] lb, .pointer (some ⟨bo, 0, none⟩), .int .i64 ((k : Nat) : Int)] w fun e w' => e = .returned (.bool true) ∧ Below w.heap.size w w' := by
  refine (callsIn_wide (n := 0)).1 ?_
  refine callsIn_of_wp_marks Try.func23 rfl trivial ?_ rfl
  simp only [Try.ntmps23, List.size_toArray, List.length_cons, List.length_nil, Nat.reduceAdd, Nat.reduceSub, Array.replicate_succ, Array.replicate_zero, List.push_toArray, List.append_toArray, List.nil_append, List.cons_append]
  obtain ⟨Wa, hWa⟩ : ∃ Wa, (w.alloc (.cells #[.int .i64 (k : Int)] 3)).alloc (.cells #[.bool false] 4) = Wa := ⟨_, rfl⟩
  have ba : Below w.heap.size w Wa := by rw [← hWa]; exact bt (al _ _) (al _ _)
  have sa : Wa.heap.size = w.heap.size + 1 + 1 := by rw [← hWa, size_alloc, size_alloc]
  have ka : Wa.heap[w.heap.size]? = some (.cells #[.int .i64 (k : Int)] 3 (0, 0)) := by
    rw [← hWa]
    have c := World.alloc_heap_new w (.cells #[.int .i64 (k : Int)] 3)
    exact ((al _ _).block w.heap.size (Array.getElem?_eq_some_iff.1 c).1).trans c
  have ra : Wa.heap[w.heap.size + 1]? = some (.cells #[.bool false] 4 (0, 0)) := by
    rw [← hWa]
    have c := World.alloc_heap_new (w.alloc (.cells #[.int .i64 (k : Int)] 3)) (.cells #[.bool false] 4)
    rwa [size_alloc] at c
  have C1 := hide (rFirst_any Wa bo ao co L (k + 1) (hR.keep ba) (by omega))
  have kc := cell_of_one ka
  have HW := hide hWa
  clear hWa hR
  obtain ⟨want, hwant⟩ : ∃ want, want = (nums L).take (k + 1) := ⟨_, rfl⟩
  rw [← hwant] at C1
  have e1 : (((k + 1 : Nat)) : Int) = (k : Int) + 1 := by omega
  rw [e1] at C1
  have hq := run_eqFn
  gi_wp2_with fail
  refine ⟨trivial, rfl, ?_⟩
  rw [HW.out]
  refine (callsIn_wide.2 C1.out).mono ?_
  rintro e W1 ⟨a', cap', rfl, hX⟩
  have XX := hide hX
  have b1 := hX.b
  have nw0 : want.length ≤ k + 1 := by rw [hwant, List.length_take]; omega
  have nw1 : want.length ≤ (nums L).length := by rw [hwant, List.length_take]; omega
  have HWN := hide hwant
  obtain ⟨nw, hnw⟩ : ∃ nw : Nat, nw = want.length := ⟨_, rfl⟩
  have NW := hide hnw
  rw [← hnw] at nw0 ⊢
  have nw2 : nw ≤ (nums L).length := by rw [hnw]; exact nw1
  clear hX hq e1 hwant C1 hnw nw1
  gi_wp2_with fail
  obtain ⟨Wc, hWc⟩ : ∃ Wc, (W1.alloc (.cells #[.slice a' nw cap'] 92)).alloc (.cells #[.int .i64 0] 3) = Wc := ⟨_, rfl⟩
  have bc : Below W1.heap.size W1 Wc := by rw [← hWc]; exact bt (al _ _) (al _ _)
  have sc : Wc.heap.size = W1.heap.size + 1 + 1 := by rw [← hWc, size_alloc, size_alloc]
  have v0 : Wc.heap[W1.heap.size]? = some (.cells #[.slice a' nw cap'] 92 (0, 0)) := by
    rw [← hWc]
    have c := World.alloc_heap_new W1 (.cells #[.slice a' nw cap'] 92)
    exact ((al _ _).block W1.heap.size (Array.getElem?_eq_some_iff.1 c).1).trans c
  have n0 : Wc.heap[W1.heap.size + 1]? = some (.cells #[.int .i64 0] 3 (0, 0)) := by
    rw [← hWc]
    have c := World.alloc_heap_new (W1.alloc (.cells #[.slice a' nw cap'] 92)) (.cells #[.int .i64 0] 3)
    rwa [size_alloc] at c
  have s1 := b1.size
  have k0 : Wc.heap[w.heap.size]? = some (.cells #[.int .i64 (k : Int)] 3 (0, 0)) := ((bt b1 bc).block w.heap.size (by omega)).trans ka
  have r0 : Wc.heap[w.heap.size + 1]? = some (.cells #[.bool false] 4 (0, 0)) := ((bt b1 bc).block (w.heap.size + 1) (by omega)).trans ra
  have XL := hide (show ∀ x, a' = some x → x.block < W1.heap.size ∧ w.heap.size + 1 + 1 ≤ x.block from fun x hx => ⟨XX.out.row.lt hx, by
    rcases XX.out.na x hx with ⟨z, hz, _⟩ | h2
    · cases hz
    · omega⟩)
  have XC := hide (XX.out.keep bc)
  rw [hWc]
  clear hWc XX HW kc ka ra
  have bw : Below w.heap.size w Wc := bt (bt ba b1) bc
  obtain ⟨f, hf⟩ : ∃ f : Nat, f = W1.heap.size := ⟨_, rfl⟩
  obtain ⟨s, hs⟩ : ∃ s : Nat, s = w.heap.size := ⟨_, rfl⟩
  rw [← hf] at sc v0 n0 s1 XL ⊢
  rw [← hs] at sa k0 r0 XL ⊢
  have hsf : s + 1 < f := by omega
  have hXf : ∀ q, X q → q < s := fun q hq => by rw [hs]; exact (hXw q hq).1
  have HSs := hide hs
  have sz1 := bw.size
  rw [← hs] at sz1
  clear hf
  refine wp_range (gf := 46) (lb := lb) rfl (enters_of Try.func46 (by kernel_rfl) rfl) hseq (h0X.andBelow bw)
    (fun q hq => by have := hXw q hq; omega) (fun _ => rfl) (fun q => q = s + 1 ∨ q = f + 1)
    (fun q hq => ⟨fun h => by have := hXf q h; omega, by omega⟩)
    (fun pre Wx => But (fun q => q = s + 1 ∨ q = f + 1) Wc Wx ∧ pre.length ≤ k ∧ Wx.heap[s + 1]? = some (.cells #[.bool false] 4 (0, 0)) ∧ Wx.heap[f + 1]? = some (.cells #[.int .i64 ((pre.length : Nat) : Int)] 3 (0, 0)))
    (fun c pre Wx => c = .exit 0 ∧ pre.length = k + 1 ∧ But (fun q => q = s + 1 ∨ q = f + 1) Wc Wx ∧ Wx.heap[s + 1]? = some (.cells #[.bool false] 4 (0, 0)) ∧ Wx.heap[f + 1]? = some (.cells #[.int .i64 ((k + 1 : Nat) : Int)] 3 (0, 0)))
    (fun s X1 X2 hs hn hb => ⟨hs.1.trans hb (fun x hx h => by omega), hs.2.1, hb.same hs.2.2.1 (by omega), hb.same hs.2.2.2 (by omega)⟩)
    (fun c s X1 X2 hs hn hb => ⟨hs.1, hs.2.1, hs.2.2.1.trans hb (fun x hx h => by omega), hb.same hs.2.2.2.1 (by omega), hb.same hs.2.2.2.2 (by omega)⟩)
    ⟨But.refl _ _, Nat.zero_le _, r0, n0⟩ ?round ?done ?stop
  case round =>
    clear hs
    rintro l' pre x rest W2 hxs ⟨hB, hle, hr, hn⟩ hl1 hl2
    unfold enI
    gi_wp2
    refine ⟨Below.refl _ _, fun W3 h3 => ?_⟩
    have sz2 := hB.size
    have b23 : But (fun q => q = l') W2 W3 := h3
    have r3 := b23.same hr (by omega)
    have n3 := b23.same hn (by omega)
    have hB3 : But (fun q => q = s + 1 ∨ q = f + 1) Wc W3 := hB.trans b23 (fun z hz h => by omega)
    have v3 := hB3.same v0 (by omega)
    have k3 := hB3.same k0 (by omega)
    have n3c := cell_of_one n3
    have v3c := cell_of_one v3
    have k3c := cell_of_one k3
    have n3f := free_of_one n3
    have hlx : pre.length < (nums L).length := by rw [hxs, List.length_append, List.length_cons]; omega
    have hwl : pre.length < want.length := by rw [HWN.out, List.length_take]; omega
    have hwx : want.getD pre.length 0 = x := by
      rw [HWN.out, hxs, List.getD_eq_getElem?_getD, List.getElem?_take, if_pos (by omega), List.getElem?_append_right (Nat.le_refl _), Nat.sub_self]
      rfl
    have hnm := hN x (by rw [hxs]; simp)
    obtain ⟨gi, rfl⟩ := XC.out.row.addr (by omega)
    have hgi := XL.out _ rfl
    simp only at hgi
    have ic3 := XC.out.row.cell (ic_get want hwl)
    rw [hwx] at ic3
    have x3 : W3.cell? ⟨gi, pre.length, none⟩ = some (.int .i64 x) := (hB3.cell (p := ⟨gi, pre.length, none⟩) (by show gi < _; omega) (fun h => by have h' : gi = s + 1 ∨ gi = f + 1 := h; omega)).trans ic3
    have lw : pre.length < nw := by rw [NW.out]; exact hwl
    have hcv : IntKind.i64.wrap x = x := wrapI (by unfold Nm at hnm; omega) (by unfold Nm at hnm; omega)
    have lp1 : (pre ++ [x]).length = pre.length + 1 := by simp
    have LP := hide lp1
    have HB3 := hide hB3
    have R3 := hide r3
    have N3 := hide n3
    clear h3 b23 hB hxs hlx hwl hwx hnm ic3 lp1 hB3 v3 k3 hr hn
    generalize pre.length = m at *
    have z1 : (m : Int) < (nw : Int) := by omega
    have z2 : decide ((nw : Int) ≤ (m : Int)) = false := decide_eq_false (by omega)
    have z3 : decide (nw ≤ m) = false := decide_eq_false (by omega)
    have z4 : (x == x) = true := by simp
    have hw1 := hide (show But (fun q => q = s + 1 ∨ q = f + 1) W3 (W3.setCell ⟨f + 1, 0, none⟩ (.int .i64 ((m : Int) + 1))) from (But.refl _ _).setCell (p := ⟨f + 1, 0, none⟩) (fun _ => .inr rfl) _)
    have hk4 : (W3.setCell ⟨f + 1, 0, none⟩ (.int .i64 ((m : Int) + 1))).cell? ⟨s, 0, none⟩ = some (.int .i64 (k : Int)) := (hw1.out.cell (p := ⟨s, 0, none⟩) (block_lt_of_cell k3c) (fun h => by have h' : s = s + 1 ∨ s = f + 1 := h; omega)).trans k3c
    have hn4 := hide (one_setCell (u := .int .i64 ((m : Int) + 1)) N3.out)
    have hr4 := hide (show (W3.setCell ⟨f + 1, 0, none⟩ (.int .i64 ((m : Int) + 1))).heap[s + 1]? = some (.cells #[.bool false] 4 (0, 0)) from (Below.heap_setCell _ _ _ _ (by show s + 1 ≠ f + 1; omega)).trans R3.out)
    by_cases hend : m = k
    · subst hend
      gi_wp2
      exact ⟨hw1.out, rfl, LP.out, HB3.out.trans hw1.out (fun _ _ h => h), hr4.out, hn4.out⟩
    · have z5 : m + 1 ≤ k := by omega
      gi_wp2
      exact ⟨hw1.out, HB3.out.trans hw1.out (fun _ _ h => h), by rw [LP.out]; exact z5, hr4.out, by rw [LP.out]; exact hn4.out⟩
  case done =>
    clear hs
    rintro D Wx hD ⟨hB, hle, hr, hn⟩ hBw hK
    have e0 : (nums L).length = nw := by rw [NW.out, HWN.out, List.length_take]; omega
    rw [e0] at hn
    have v3c := cell_of_one (hB.same v0 (by omega))
    have n3c := cell_of_one hn
    have r3f := free_of_one hr
    have r3c := cell_of_one hr
    have bW := hide ((But.ofBelow (S := fun _ => False) bw).trans hBw (fun z hz h => by have := HSs.out; omega))
    have HR := hide hr
    have HK := hide hK
    have HB := hide hB
    clear hn hr hK hB hBw hseq hle
    gi_wp2
    refine ⟨by simp, .inl ⟨_, _, rfl, run_takeDeferred ((setD D (by show D ≠ s + 1; omega)).trans HK.out), ?_⟩⟩
    refine ⟨_, results_cellB rfl _ _ (s + 1) (.bool true) rfl ?_, rfl, ?_⟩
    · have q1 : (Wx.setCell ⟨s + 1, 0, none⟩ (.bool true)).heap[s + 1]? = _ := one_setCell (u := .bool true) HR.out
      rw [cell_of_row _ _ _ _ _ _ ((World.putObj_heap_other (by omega)).trans q1)]
      rfl
    · exact ((bW.out.setCell (fun h => by have h' : s + 1 < w.heap.size := h; have := HSs.out; omega) _).putObj (fun h => by have := HSs.out; omega) _).below (fun _ _ h => h)
  case stop =>
    clear hs
    rintro D c pre rest Wx hD hxs ⟨rfl, h1, hB, hr, hn⟩ hBw hK
    have e0 : k + 1 = nw := by
      have : (nums L).length = pre.length + rest.length := by rw [hxs, List.length_append]
      rw [NW.out, HWN.out, List.length_take]
      omega
    rw [e0] at hn
    have v3c := cell_of_one (hB.same v0 (by omega))
    have n3c := cell_of_one hn
    have r3f := free_of_one hr
    have r3c := cell_of_one hr
    have bW := hide ((But.ofBelow (S := fun _ => False) bw).trans hBw (fun z hz h => by have := HSs.out; omega))
    have HR := hide hr
    have HK := hide hK
    clear hn hr hK hB hBw hseq hxs e0
    gi_wp2
    refine ⟨by simp, .inl ⟨_, _, rfl, run_takeDeferred ((setD D (by show D ≠ s + 1; omega)).trans HK.out), ?_⟩⟩
    refine ⟨_, results_cellB rfl _ _ (s + 1) (.bool true) rfl ?_, rfl, ?_⟩
    · have q1 : (Wx.setCell ⟨s + 1, 0, none⟩ (.bool true)).heap[s + 1]? = _ := one_setCell (u := .bool true) HR.out
      rw [cell_of_row _ _ _ _ _ _ ((World.putObj_heap_other (by omega)).trans q1)]
      rfl
    · exact ((bW.out.setCell (fun h => by have h' : s + 1 < w.heap.size := h; have := HSs.out; omega) _).putObj (fun h => by have := HSs.out; omega) _).below (fun _ _ h => h)
end Go.Proofs.Ytnnbedpgikljaaa
