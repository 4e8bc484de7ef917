import Derived.Test.YtiopkjmkfmffiaaUYO
namespace Go.Proofs.Ytiopkjmkfmffiaa
set_option linter.unusedVariables false
open Go.ChangeShapes Go.WideShapes Go.ChangeAt Go.RowKit

/-! ### calls that came in, by weight -/
theorem bytesRRun : Try.prog.bytesOf 86 = 16 := by kernel_rfl
theorem bytesOp5 : Try.prog.bytesOf 40 = 72 := by kernel_rfl
set_option maxRecDepth 100000 in
theorem open_rruns_w {H : Type} {enc : TypeId × Value → H} {W : World} {fuel : Nat} {cs : List Value} {d : DataW H} {p : List MemPlace}
    (hf : DataW.trod enc Try.prog W 0 (fun _ => true) true fuel 36 cs = some (d, p)) (hd : ∀ x ∈ d.weights Try.prog 36, x ≤ reachBytes) :
    ∃ (a : Option Addr) (L : List Rn) (cap : Nat), cs = [.slice a L.length cap] ∧ Ir W a L ∧ (∀ r ∈ L, N64 r.1 ∧ N64 r.2) ∧ L.length ≤ 8796093021952 := by
  rcases Deep.open_slice Try.underlying36 hf with ⟨hcs, _⟩ | ⟨x, len, cap, m, n, D, Pl, hcs, _, hl, hm, hmm, hx, hrows⟩
  · exact ⟨none, [], 0, hcs, .inl rfl, by simp, by simp⟩
  · simp only [Prod.mk.injEq] at hx
    obtain ⟨rfl, _⟩ := hx
    simp only [if_true] at hmm
    subst hmm
    have hlen : len ≤ 8796093021952 := by
      have h2 := hd _ (by simp only [DataW.weights, Try.underlying36, List.mem_cons]; exact .inl rfl)
      rw [List.length_map, List.length_range, bytesRRun] at h2
      unfold reachBytes at h2
      omega
    by_cases h0 : len = 0
    · subst h0
      exact ⟨some x, [], m, hcs, .inl rfl, by simp, by simp⟩
    · obtain ⟨b, off, spot⟩ := x
      have hspot : spot = none := by
        obtain ⟨cs, hc, ht⟩ := hrows 0 (by omega)
        obtain ⟨f, rfl, _⟩ := open_rrun ht
        generalize hk : (0 : Nat) = k0 at hc
        rw [cellsRRun] at hc
        obtain ⟨_, _, hce⟩ := World.cells?_some hc
        have e0 := (hce 0 (by decide)).trans (show [Value.int .i64 f.1, Value.int .i64 f.2][0]? = some (.int .i64 f.1) from rfl)
        have hs0 := World.cell?_spot e0
        subst hk
        simpa [Addr.add] using hs0
      subst hspot
      have each : ∀ r, r < len → ∃ v : Rn, (W.cell? ⟨b, off + r * 2, none⟩ = some (.int .i64 v.1) ∧ W.cell? ⟨b, off + r * 2 + 1, none⟩ = some (.int .i64 v.2)) ∧ N64 v.1 ∧ N64 v.2 := by
        intro r hr
        obtain ⟨cs, hc, ht⟩ := hrows r (by omega)
        obtain ⟨v, rfl, hok⟩ := open_rrun ht
        rw [cellsRRun] at hc
        obtain ⟨_, _, hce⟩ := World.cells?_some hc
        have hh : ∀ j u, j < 2 → [Value.int .i64 v.1, Value.int .i64 v.2][j]? = some u → W.cell? ⟨b, off + r * 2 + j, none⟩ = some u := fun j u hj hu => by
          have h := hce j hj
          rw [Deep.add_add, Addr.add_mid, ← Nat.add_assoc] at h
          exact h.trans hu
        exact ⟨v, ⟨hh 0 _ (by omega) rfl, hh 1 _ (by omega) rfl⟩, hok⟩
      haveI : Inhabited Rn := ⟨Rn.zero⟩
      obtain ⟨F, hF⟩ := Deep.choose_lt each
      have hget : ∀ r, r < len → ((List.range len).map F).getD r Rn.zero = F r := fun r hr => by simp [hr]
      have hlenL : ((List.range len).map F).length = len := by simp
      refine ⟨some ⟨b, off, none⟩, (List.range len).map F, m, by rw [hlenL]; exact hcs, .inr ⟨b, off, rfl, fun r hr => ?_⟩, fun v hv => ?_, by rw [hlenL]; exact hlen⟩
      · rw [hlenL] at hr
        rw [hget r hr]
        exact (hF r hr).1
      · obtain ⟨r, hr, rfl⟩ := List.mem_map.1 hv
        exact (hF r (List.mem_range.1 hr)).2
set_option maxRecDepth 100000 in
theorem open_op5_w {H : Type} {enc : TypeId × Value → H} {W : World} {fuel : Nat} {cs : List Value} {d : DataW H} {p : List MemPlace}
    (h : DataW.trod enc Try.prog W 0 (fun _ => true) true fuel 40 cs = some (d, p)) (hd : ∀ x ∈ d.weights Try.prog 40, x ≤ reachBytes) :
    ∃ o : Opv, cs = o.cs ∧ o.good W := by
  obtain ⟨y0, y1, y2, y3, y4, y5, y6, n, hx, hl, h0, h1, h2, h3, h4, h5, h6⟩ := trod_struct7 Try.underlying40 h
  obtain ⟨c0, c1, c2, c3, c4, c5, c6, rfl⟩ := list7 (hl.trans cellsOp5)
  simp only [cellsInt', cellsRRuns, List.drop_zero, List.drop_succ_cons, List.take_succ_cons, List.take_zero] at h0 h1 h2 h3 h4 h5 h6
  have hd' : d = .agg [y0.1, y1.1, y2.1, y3.1, y4.1, y5.1, y6.1] := hx
  have w6 : ∀ x ∈ y6.1.weights Try.prog 36, x ≤ reachBytes := fun x hx => hd x (by
    rw [hd']
    simp only [DataW.weights, Try.underlying40, List.map_cons, List.map_nil, DataW.weightsEach, List.mem_append]
    simp [hx])
  obtain ⟨k0, e0, _, w0⟩ := DataW.trod_int Try.underlying3 h0
  obtain ⟨k1, e1, _, w1⟩ := DataW.trod_int Try.underlying3 h1
  obtain ⟨k2, e2, _, w2⟩ := DataW.trod_int Try.underlying3 h2
  obtain ⟨k3, e3, _, w3⟩ := DataW.trod_int Try.underlying3 h3
  obtain ⟨k4, e4, _, w4⟩ := DataW.trod_int Try.underlying3 h4
  obtain ⟨k5, e5, _, w5⟩ := DataW.trod_int Try.underlying3 h5
  obtain ⟨aL, L, cL, e6, i6, b6, l6⟩ := open_rruns_w (d := y6.1) (p := y6.2) h6 w6
  simp only [List.cons.injEq, and_true] at e0 e1 e2 e3 e4 e5 e6
  subst e0 e1 e2 e3 e4 e5 e6
  exact ⟨⟨k0, k1, k2, k3, k4, k5, aL, L, cL⟩, rfl, ⟨le_i64 w0, le_i64 w1, le_i64 w2, le_i64 w3, le_i64 w4, le_i64 w5, Rf.of_ir i6, b6, l6⟩⟩
set_option maxRecDepth 100000 in
theorem open_ops5w {H : Type} {enc : TypeId × Value → H} {W : World} {a : Option Addr} {len cap : Nat} {d : DataW H} {p : List MemPlace}
    (h : DataW.Trod enc Try.prog W 0 (fun _ => true) true 22 (.slice a len cap) d p) (hd : ∀ x ∈ d.weights Try.prog 22, x ≤ reachBytes) :
    ∃ S : List Opv, len = S.length ∧ Os W a S ∧ (∀ o ∈ S, o.good W) ∧ S.length ≤ 1954687338609 := by
  obtain ⟨fuel, hf⟩ := h
  rcases Deep.open_slice Try.underlying22 hf with ⟨hcs, _⟩ | ⟨x, len', cap', m, n, D, Pl, hcs, _, hl, hm, hmm, hx, hrows⟩
  · simp only [Value.cells, List.cons.injEq, and_true, Value.slice.injEq] at hcs
    obtain ⟨rfl, rfl, rfl⟩ := hcs
    exact ⟨[], rfl, .inl rfl, by simp, by simp⟩
  · simp only [Value.cells, List.cons.injEq, and_true, Value.slice.injEq] at hcs
    obtain ⟨rfl, rfl, rfl⟩ := hcs
    simp only [Prod.mk.injEq] at hx
    obtain ⟨rfl, _⟩ := hx
    simp only [if_true] at hmm
    subst hmm
    have hlen : len ≤ 1954687338609 := by
      have h2 := hd _ (by simp only [DataW.weights, Try.underlying22, List.mem_cons]; exact .inl rfl)
      rw [List.length_map, List.length_range, bytesOp5] at h2
      unfold reachBytes at h2
      omega
    by_cases h0 : len = 0
    · subst h0
      exact ⟨[], rfl, .inl rfl, by simp, by simp⟩
    · have hmemD : ∀ r, r < len → D r ∈ (List.range len).map D := fun r hr => List.mem_map.2 ⟨r, List.mem_range.2 hr, rfl⟩
      have hbD : ∀ r, r < len → ∀ x ∈ (D r).weights Try.prog 40, x ≤ reachBytes := fun r hr x hx => hd x (weights_elem Try.underlying22 (hmemD r hr) x hx)
      obtain ⟨b, off, spot⟩ := x
      have hspot : spot = none := by
        obtain ⟨cs, hc, ht⟩ := hrows 0 (by omega)
        obtain ⟨f, rfl, _⟩ := open_op5_w ht (hbD 0 (by omega))
        generalize hk : (0 : Nat) = k0 at hc
        rw [cellsOp5] at hc
        obtain ⟨_, _, hce⟩ := World.cells?_some hc
        have e0 := (hce 0 (by decide)).trans (show f.cs[0]? = some (.int .i64 f.k) from rfl)
        have hs0 := World.cell?_spot e0
        subst hk
        simpa [Addr.add] using hs0
      subst hspot
      have each : ∀ r, r < len → ∃ v : Opv, (∀ j u, v.cs[j]? = some u → W.cell? ⟨b, off + r * 7 + j, none⟩ = some u) ∧ v.good W := by
        intro r hr
        obtain ⟨cs, hc, ht⟩ := hrows r (by omega)
        obtain ⟨v, rfl, h1⟩ := open_op5_w ht (hbD r hr)
        rw [cellsOp5] at hc
        obtain ⟨_, _, hce⟩ := World.cells?_some hc
        refine ⟨v, fun j u hu => ?_, h1⟩
        have hj : j < 7 := (List.getElem?_eq_some_iff.1 hu).1
        have h := hce j hj
        rw [Deep.add_add, Addr.add_mid, ← Nat.add_assoc] at h
        exact h.trans hu
      haveI : Inhabited Opv := ⟨Opv.zero⟩
      obtain ⟨F, hF⟩ := Deep.choose_lt each
      have hget : ∀ r, r < len → ((List.range len).map F).getD r Opv.zero = F r := fun r hr => by simp [hr]
      have hlenL : ((List.range len).map F).length = len := by simp
      refine ⟨(List.range len).map F, hlenL.symm, .inr ⟨b, off, rfl, fun r hr => ?_⟩, fun v hv => ?_, by rw [hlenL]; exact hlen⟩
      · rw [hlenL] at hr
        rw [hget r hr]
        exact (hF r hr).1
      · obtain ⟨r, hr, rfl⟩ := List.mem_map.1 hv
        exact (hF r (List.mem_range.1 hr)).2
end Go.Proofs.Ytiopkjmkfmffiaa
