import Derived.Test.YtceeeofkigkpkaaGreatUH
namespace Go.Proofs.YtceeeofkigkpkaaGreat
open Go.RowKit Go.Shelf
attribute [local go_sem] Oper.semAt_some

/-! ### how many -/
def mxi : Nat := 9223372036854775807
theorem results_cell1 {fn : Func} {p : Tmp} (h : fn.results = #[.cell p 3]) (tmps : Array Value) (w : World) (g : Nat) (v : Value) (hp : tmps.getD p undef = .pointer (some ⟨g, 0, none⟩)) (hc : w.cell? ⟨g, 0, none⟩ = some v) :
    (results fn tmps).run Tryz.prog w = .ok v w := by
  have hp' : tmps[p]?.getD undef = .pointer (some ⟨g, 0, none⟩) := by simpa using hp
  simp [results, h, hp', asAddr, loadVar, Tryz.isAgg3, run_load, hc]
theorem setD {w : World} {p : Addr} {v : Value} (D : Nat) (h : D ≠ p.block) : (w.setCell p v).heap[D]? = w.heap[D]? := Below.heap_setCell _ _ _ _ h
set_option maxHeartbeats 4000000 in
set_option maxRecDepth 10000 in
theorem howMany_any (w w0 : World) (gf : Nat) (lb : Array Value) (xs : List Rn) (X : Nat → Prop) (hseq : Seqs Tryz.prog gf lb enR xs w0 X) (h0X : But (fun k => ¬ X k) w0 w) (hXw : ∀ k, X k → k < w.heap.size ∧ k < w0.heap.size) (eg : ∀ args w, (callFunc gf args).run Tryz.prog w = .ok (.enter gf args) w)
    (hb : ∀ r ∈ xs, Nm r.1 ∧ Nm r.2 ∧ r.1 ≤ r.2) :
    Calls Tryz.prog 61 #[.func (.func gf) #[] lb] w fun e w' => e = .returned (.int .i64 ((min (sz xs) mxi : Nat) : Int)) ∧ Below w.heap.size w w' := by
  obtain ⟨ans, hans⟩ : ∃ ans : Nat, min (sz xs) mxi = ans := ⟨_, rfl⟩
  rw [hans]
  refine (callsIn_wide (n := 0)).1 ?_
  refine callsIn_of_wp_marks Tryz.func61 rfl trivial ?_ rfl
  simp only [Tryz.ntmps61, List.size_toArray, List.length_cons, List.length_nil, Nat.reduceAdd, Nat.reduceSub, Array.replicate_succ, Array.replicate_zero, List.push_toArray, List.append_toArray, List.nil_append, List.cons_append]
  gi_wp2_with fail
  obtain ⟨Wc, hWc⟩ : ∃ Wc, (w.alloc (.cells #[.int .i64 0] 3)).alloc (.cells #[.int .i64 0] 3) = Wc := ⟨_, rfl⟩
  have bc : Below w.heap.size w Wc := by rw [← hWc]; exact bt (al _ _) (al _ _)
  have sWc : Wc.heap.size = w.heap.size + 1 + 1 := by rw [← hWc, size_alloc, size_alloc]
  have r0 : Wc.heap[w.heap.size]? = some (.cells #[.int .i64 0] 3 (0, 0)) := by
    rw [← hWc]
    have c := World.alloc_heap_new w (.cells #[.int .i64 0] 3)
    exact ((al _ _).block w.heap.size (Array.getElem?_eq_some_iff.1 c).1).trans c
  have n0 : Wc.heap[w.heap.size + 1]? = some (.cells #[.int .i64 0] 3 (0, 0)) := by
    rw [← hWc]
    have c := World.alloc_heap_new (w.alloc (.cells #[.int .i64 0] 3)) (.cells #[.int .i64 0] 3)
    rwa [size_alloc] at c
  rw [hWc]
  clear hWc
  have hans' := hide hans
  clear hans
  refine wp_range (gf := gf) (lb := lb) rfl eg hseq (h0X.andBelow bc)
    (fun k hk => by have := hXw k hk; omega) (fun _ => rfl) (fun k => k = w.heap.size ∨ k = w.heap.size + 1)
    (fun k hk => ⟨fun h => by have := hXw k h; omega, by omega⟩)
    (fun pre Wx => But (fun k => k = w.heap.size ∨ k = w.heap.size + 1) Wc Wx ∧ sz pre ≤ mxi ∧ Wx.heap[w.heap.size]? = some (.cells #[.int .i64 0] 3 (0, 0)) ∧ Wx.heap[w.heap.size + 1]? = some (.cells #[.int .i64 ((sz pre : Nat) : Int)] 3 (0, 0)))
    (fun c pre Wx => c = .ret ∧ mxi ≤ sz pre ∧ Wx.heap[w.heap.size]? = some (.cells #[.int .i64 9223372036854775807] 3 (0, 0)))
    (fun s X1 X2 hs hn hb => ⟨hs.1.trans hb (fun x hx h => by omega), hs.2.1, hb.same hs.2.2.1 (by omega), hb.same hs.2.2.2 (by omega)⟩)
    (fun c s X1 X2 hs hn hb => ⟨hs.1, hs.2.1, hb.same hs.2.2 (by omega)⟩)
    ⟨But.refl _ _, Nat.zero_le _, r0, n0⟩ ?round ?done ?stop
  case round =>
    rintro l' pre x rest W2 hxs ⟨hB, hsz, hr, hn⟩ hl1 hl2
    unfold enR rcs
    gi_wp2
    refine ⟨al _ _, fun W3 h3 => ?_⟩
    have sz2 := hB.size
    have b23 : But (fun k => k = l') W2 W3 := (But.ofBelow (al _ _)).trans h3 (fun _ _ h => h)
    have r3 := b23.same hr (by omega)
    have n3 := b23.same hn (by omega)
    have r3c : W3.cell? ⟨w.heap.size, 0, none⟩ = some (.int .i64 0) := by rw [cell_of_row _ _ _ _ _ _ r3]; rfl
    have n3c : W3.cell? ⟨w.heap.size + 1, 0, none⟩ = some (.int .i64 ((sz pre : Nat) : Int)) := by rw [cell_of_row _ _ _ _ _ _ n3]; rfl
    have r3f : W3.frozen? ⟨w.heap.size, 0, none⟩ = false := frozen_of_row _ _ _ _ _ r3
    have n3f : W3.frozen? ⟨w.heap.size + 1, 0, none⟩ = false := frozen_of_row _ _ _ _ _ n3
    have m0 := World.alloc_heap_new W2 (.cells #[.int .i64 x.1, .int .i64 x.2] 92)
    have m3 := h3.same m0 (by omega)
    have m1 : W3.cell? ⟨W2.heap.size, 0, none⟩ = some (.int .i64 x.1) := by rw [cell_of_row _ _ _ _ _ _ m3]; rfl
    have m2 : W3.cell? ⟨W2.heap.size, 1, none⟩ = some (.int .i64 x.2) := by rw [cell_of_row _ _ _ _ _ _ m3]; rfl
    obtain ⟨⟨x1, x2⟩, ⟨x3, x4⟩, x5⟩ := hb x (by rw [hxs]; simp)
    have hsx : sz (pre ++ [x]) = sz pre + (x.2 - x.1 + 1).toNat := by rw [sz_append]; rfl
    have hB3 : But (fun k => k = w.heap.size ∨ k = w.heap.size + 1) Wc W3 := hB.trans b23 (fun z hz h => by omega)
    obtain ⟨d, hd⟩ : ∃ d : Nat, (d : Int) = x.2 - x.1 := ⟨(x.2 - x.1).toNat, by omega⟩
    have hsx' : sz (pre ++ [x]) = sz pre + d + 1 := by omega
    generalize sz pre = s at *
    clear m0 m3 h3 b23 hB hxs hsx
    unfold mxi at hsz
    have hd' : x.2 - x.1 = (d : Int) := hd.symm
    have hw1r : (W3.setCell ⟨w.heap.size + 1, 0, none⟩ (.int .i64 ((s : Int) + ((d : Int) + 1)))).heap[w.heap.size]? = W3.heap[w.heap.size]? := Below.heap_setCell _ _ _ _ (by simp)
    have hcv : IntKind.u64.wrap (IntKind.u64.wrap x.2 - IntKind.u64.wrap x.1) = (d : Int) := by rw [IntKind.wrap_u64, IntKind.wrap_u64, IntKind.wrap_u64]; omega
    have hd64 : (d : Int) < 18446744073709551616 := by omega
    have hsx2 := hide hsx'
    clear hsx' hd
    by_cases hg : (9223372036854775807 : Int) - (s : Int) ≤ (d : Int)
    · gi_wp2
      have hw1 : But (fun k => k = w.heap.size ∨ k = w.heap.size + 1) W3 (W3.setCell ⟨w.heap.size, 0, none⟩ (.int .i64 9223372036854775807)) := (But.refl _ _).setCell (fun _ => .inl rfl) _
      exact ⟨hw1, rfl, by rw [hsx2.out]; unfold mxi; omega, by rw [heap_setCell_same _ _ _ _ _ _ r3]; rfl⟩
    · gi_wp2
      have hw1 : But (fun k => k = w.heap.size ∨ k = w.heap.size + 1) W3 (W3.setCell ⟨w.heap.size + 1, 0, none⟩ (.int .i64 ((s : Int) + ((d : Int) + 1)))) := (But.refl _ _).setCell (fun _ => .inr rfl) _
      refine ⟨hw1, hB3.trans hw1 (fun _ _ h => h), by rw [hsx2.out]; unfold mxi; omega, (hw1r.trans r3), ?_⟩
      rw [heap_setCell_same _ _ _ _ _ _ n3, hsx2.out, show ((s + d + 1 : Nat) : Int) = (s : Int) + ((d : Int) + 1) by omega]
      rfl
  case done =>
    rintro D Wx hD ⟨hB, hsz, hr, hn⟩ hBw hK
    have rc' : Wx.cell? ⟨w.heap.size, 0, none⟩ = some (.int .i64 0) := by rw [cell_of_row _ _ _ _ _ _ hr]; rfl
    have nc' : Wx.cell? ⟨w.heap.size + 1, 0, none⟩ = some (.int .i64 ((sz xs : Nat) : Int)) := by rw [cell_of_row _ _ _ _ _ _ hn]; rfl
    have rf' : Wx.frozen? ⟨w.heap.size, 0, none⟩ = false := frozen_of_row _ _ _ _ _ hr
    have ea : ans = sz xs := by rw [← hans'.out]; exact Nat.min_eq_left hsz
    have bW := (But.ofBelow (S := fun _ => False) bc).trans hBw (fun z hz h => by omega)
    have sz' := hB.size
    rw [← ea] at nc'
    clear ea hn hseq
    gi_wp2
    refine ⟨by simp, .inl ⟨_, _, rfl, run_takeDeferred ((setD D (by show D ≠ w.heap.size; omega)).trans hK), ?_⟩⟩
    refine ⟨_, results_cell1 rfl _ _ w.heap.size _ rfl ?_, rfl, ?_⟩
    · have q1 : (Wx.setCell ⟨w.heap.size, 0, none⟩ (.int .i64 (ans : Int))).heap[w.heap.size]? = _ := heap_setCell_same _ _ _ _ _ _ hr
      rw [cell_of_row _ _ _ _ _ _ ((World.putObj_heap_other (by omega)).trans q1)]
      rfl
    · exact ((bW.setCell (fun h => absurd h (Nat.lt_irrefl _)) _).putObj (fun h => by omega) _).below (fun _ _ h => h)
  case stop =>
    rintro D c pre rest Wx hD hxs ⟨rfl, h1, hr⟩ hBw hK
    have ea : (ans : Int) = 9223372036854775807 := by
      have h2 : sz xs = sz pre + sz rest := by rw [hxs, sz_append]
      have h3 : min (sz xs) mxi = mxi := by omega
      rw [← hans'.out, h3]
      rfl
    have bW := (But.ofBelow (S := fun _ => False) bc).trans hBw (fun z hz h => by omega)
    gi_wp2
    refine ⟨by simp, .inl ⟨_, _, rfl, run_takeDeferred hK, ?_⟩⟩
    refine ⟨_, results_cell1 rfl _ _ w.heap.size (.int .i64 9223372036854775807) rfl ?_, ?_, ?_⟩
    · rw [cell_of_row _ _ _ _ _ _ ((World.putObj_heap_other (by omega)).trans hr)]
      rfl
    · rw [ea]
    · exact (bW.putObj (fun h => by omega) _).below (fun _ _ h => h)
end Go.Proofs.YtceeeofkigkpkaaGreat
