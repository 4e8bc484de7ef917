import Derived.Test.YtlneomgjjkfnoabGreatPYOX
import Derived.Test.YtlneomgjjkfnoabGreatPQE
namespace Go.Proofs.YtlneomgjjkfnoabGreat
open Go.ChangeShapes Go.WideShapes Go.ChangeAt Go.RowKit

theorem open_item7 {H : Type} {enc : TypeId × Value → H} {W : World} {fuel : Nat} {cs : List Value} {d : DataW H} {p : List MemPlace}
    (h : DataW.trod enc Tryz.prog W 0 (fun _ => true) true fuel 55 cs = some (d, p)) (hd : Lit' 55 d) :
    ∃ r : Iv, cs = r.cs.toList ∧ Ii W r ∧ r.key.length ≤ 140737488355264 ∧ r.val.length ≤ 140737488355264 := by
  obtain ⟨y0, y1, y2, y3, n, hx, hl, h0, h1, h2, h3⟩ := trod_struct4 Tryz.underlying55 h
  obtain ⟨c0, c1, c2, c3, rfl⟩ := list4 (hl.trans cellsItem)
  simp only [cellsBytes, cellsInt, List.drop_zero, List.drop_succ_cons, List.take_succ_cons, List.take_zero] at h0 h1 h2 h3
  obtain ⟨z2, e2, _, k2⟩ := DataW.trod_int Tryz.underlying3 h2
  obtain ⟨z3, e3, _, k3⟩ := DataW.trod_int Tryz.underlying3 h3
  have hd' : d = .agg [y0.1, y1.1, y2.1, y3.1] := hx
  have w0 : Lit' 25 y0.1 := by
    rcases hd with hd | hd
    · refine .inl fun x hx => hd x ?_
      rw [hd']
      simp only [DataW.weights, Tryz.underlying55, List.map_cons, List.map_nil, DataW.weightsEach, List.mem_append]
      simp [hx]
    · refine .inr ?_
      rw [hd'] at hd
      simp only [Rows.uptoBulk, Rows.uptoBulkAll] at hd
      omega
  have w1 : Lit' 25 y1.1 := by
    rcases hd with hd | hd
    · refine .inl fun x hx => hd x ?_
      rw [hd']
      simp only [DataW.weights, Tryz.underlying55, List.map_cons, List.map_nil, DataW.weightsEach, List.mem_append]
      simp [hx]
    · refine .inr ?_
      rw [hd'] at hd
      simp only [Rows.uptoBulk, Rows.uptoBulkAll] at hd
      omega
  obtain ⟨a0, l0, q0, e0, b0, n0, m0, _⟩ := open_bytes_cs (d := y0.1) (p := y0.2) h0 w0
  obtain ⟨a1, l1, q1, e1, b1, n1, m1, _⟩ := open_bytes_cs (d := y1.1) (p := y1.2) h1 w1
  simp only [List.cons.injEq, and_true] at e0 e1 e2 e3
  subst e0 e1 e2 e3
  exact ⟨⟨a0, q0, l0, a1, q1, l1, z2, z3⟩, rfl, ⟨b0, m0, b1, m1, n64 k2, n64 k3⟩, by dsimp only; omega, by dsimp only; omega⟩
set_option maxRecDepth 100000 in
/-- items that came in -/
theorem open_items7 {H : Type} {enc : TypeId × Value → H} {W : World} {fuel : Nat} {cs : List Value} {d : DataW H} {p : List MemPlace}
    (hf : DataW.trod enc Tryz.prog W 0 (fun _ => true) true fuel 24 cs = some (d, p)) (hd : Lit' 24 d) :
    ∃ (a : Option Addr) (L : List Iv) (cap : Nat), cs = [.slice a L.length cap] ∧ Js W a L ∧ L.length ≤ 2199023255488 ∧ L.length ≤ cap ∧ ∀ r ∈ L, r.key.length ≤ 140737488355264 ∧ r.val.length ≤ 140737488355264 := by
  rcases Deep.open_slice Tryz.underlying24 hf with ⟨hcs, _⟩ | ⟨x, len, cap, m, n, D, Pl, hcs, _, hl, hm, hmm, hx, hrows⟩
  · exact ⟨none, [], 0, hcs, ⟨by simp, by simp, .inl rfl⟩, by simp, Nat.le_refl _, by simp⟩
  · simp only [Prod.mk.injEq] at hx
    obtain ⟨rfl, _⟩ := hx
    simp only [if_true] at hmm
    subst hmm
    have hlen : len ≤ 2199023255488 := by
      rcases hd with hd | hd
      · have h2 := hd _ (by simp only [DataW.weights, Tryz.underlying24, List.mem_cons]; exact .inl rfl)
        rw [List.length_map, List.length_range, bytesItem] at h2
        unfold reachBytes at h2
        omega
      · simp only [Rows.uptoBulk] at hd
        have h1 := bulk_length ((List.range len).map D)
        rw [List.length_map, List.length_range] at h1
        omega
    by_cases h0 : len = 0
    · subst h0
      exact ⟨some x, [], m, hcs, ⟨by simp, by simp, .inl rfl⟩, by simp, Nat.zero_le _, by simp⟩
    · have hmemD : ∀ r, r < len → D r ∈ (List.range len).map D := fun r hr => List.mem_map.2 ⟨r, List.mem_range.2 hr, rfl⟩
      have hbD : ∀ r, r < len → Lit' 55 (D r) := fun r hr => by
        rcases hd with hd | hd
        · refine .inl fun x hx => hd x ?_
          simp only [DataW.weights, Tryz.underlying24, List.mem_cons, List.mem_append]
          exact .inr (.inl (weightsAll_mem (hmemD r hr) x hx))
        · have h1 := bulk_mem (hmemD r hr)
          simp only [Rows.uptoBulk] at hd
          exact .inr (by omega)
      obtain ⟨b, off, spot⟩ := x
      have hspot : spot = none := by
        obtain ⟨cs, hc, ht⟩ := hrows 0 (by omega)
        obtain ⟨f, rfl, _⟩ := open_item7 ht (hbD 0 (by omega))
        generalize hk : (0 : Nat) = k0 at hc
        rw [cellsItem] at hc
        obtain ⟨_, _, hce⟩ := World.cells?_some hc
        have e0 := (hce 0 (by decide)).trans (show f.cs.toList[0]? = some (.slice f.aK f.key.length f.cK) from rfl)
        have hs0 := World.cell?_spot e0
        subst hk
        simpa [Addr.add] using hs0
      subst hspot
      have each : ∀ r, r < len → ∃ v   : Iv, W.rangeAt b (off + r * 4) v.cs.toList ∧ Ii W v ∧ v.key.length ≤ 140737488355264 ∧ v.val.length ≤ 140737488355264 := by
        intro r hr
        obtain ⟨cs, hc, ht⟩ := hrows r (by omega)
        obtain ⟨v, rfl, h1⟩ := open_item7 ht (hbD r hr)
        rw [cellsItem] at hc
        obtain ⟨_, _, hce⟩ := World.cells?_some hc
        refine ⟨v, fun j u hu => ?_, h1⟩
        have hj : j < 4 := (List.getElem?_eq_some_iff.1 hu).1
        have h := hce j hj
        rw [Deep.add_add, Addr.add_mid, ← Nat.add_assoc] at h
        exact h.trans hu
      haveI : Inhabited Iv := ⟨Iv.zero⟩
      obtain ⟨F, hF⟩ := Deep.choose_lt each
      have hget : ∀ r, r < len → ((List.range len).map F).getD r Iv.zero = F r := fun r hr => by simp [hr]
      have hlenL : ((List.range len).map F).length = len := by simp
      refine ⟨some ⟨b, off, none⟩, (List.range len).map F, m, by rw [hlenL]; exact hcs, ⟨fun v hv => ?_, by rw [hlenL]; omega, .inr ⟨b, off, rfl, fun r hr => ?_⟩⟩, by rw [hlenL]; exact hlen, by rw [hlenL]; exact hl, fun v hv => ?_⟩
      · obtain ⟨r, hr, rfl⟩ := List.mem_map.1 hv
        exact (hF r (List.mem_range.1 hr)).2.1
      · rw [hlenL] at hr
        rw [hget r hr]
        exact (hF r hr).1
      · obtain ⟨r, hr, rfl⟩ := List.mem_map.1 hv
        exact (hF r (List.mem_range.1 hr)).2.2
theorem open_page7 {H : Type} {enc : TypeId × Value → H} {W : World} {fuel : Nat} {cs : List Value} {d : DataW H} {p : List MemPlace}
    (h : DataW.trod enc Tryz.prog W 0 (fun _ => true) true fuel 27 cs = some (d, p)) (hd : Lit' 27 d) :
    ∃ r : Pv, cs = r.cs.toList ∧ Pi W r ∧ r.data.length ≤ 140737488355264 ∧ ∀ x ∈ r.items, x.key.length ≤ 140737488355264 ∧ x.val.length ≤ 140737488355264 := by
  obtain ⟨y0, y1, y2, y3, y4, n, hx, hl, h0, h1, h2, h3, h4⟩ := trod_struct5 Tryz.underlying27 h
  obtain ⟨c0, c1, c2, c3, c4, rfl⟩ := list5 (hl.trans cellsPage)
  simp only [cellsBytes, cellsInt, cellsItems, List.drop_zero, List.drop_succ_cons, List.take_succ_cons, List.take_zero] at h0 h1 h2 h3 h4
  obtain ⟨z0, e0, _, k0⟩ := DataW.trod_int Tryz.underlying3 h0
  obtain ⟨z1, e1, _, k1⟩ := DataW.trod_int Tryz.underlying3 h1
  obtain ⟨z4, e4, _, k4⟩ := DataW.trod_int Tryz.underlying3 h4
  have hd' : d = .agg [y0.1, y1.1, y2.1, y3.1, y4.1] := hx
  have w2 : Lit' 24 y2.1 := by
    rcases hd with hd | hd
    · refine .inl fun x hx => hd x ?_
      rw [hd']
      simp only [DataW.weights, Tryz.underlying27, List.map_cons, List.map_nil, DataW.weightsEach, List.mem_append]
      simp [hx]
    · refine .inr ?_
      rw [hd'] at hd
      simp only [Rows.uptoBulk, Rows.uptoBulkAll] at hd
      omega
  have w3 : Lit' 25 y3.1 := by
    rcases hd with hd | hd
    · refine .inl fun x hx => hd x ?_
      rw [hd']
      simp only [DataW.weights, Tryz.underlying27, List.map_cons, List.map_nil, DataW.weightsEach, List.mem_append]
      simp [hx]
    · refine .inr ?_
      rw [hd'] at hd
      simp only [Rows.uptoBulk, Rows.uptoBulkAll] at hd
      omega
  obtain ⟨a2, l2, q2, e2, b2, n2, m2, s2⟩ := open_items7 (d := y2.1) (p := y2.2) h2 w2
  obtain ⟨a3, l3, q3, e3, b3, n3, m3, _⟩ := open_bytes_cs (d := y3.1) (p := y3.2) h3 w3
  simp only [List.cons.injEq, and_true] at e0 e1 e2 e3 e4
  subst e0 e1 e2 e3 e4
  exact ⟨⟨z0, z1, a2, q2, l2, a3, q3, l3, z4⟩, rfl, ⟨b2, m2, b3, m3, n64 k0, n64 k1, n64 k4⟩, by dsimp only; omega, s2⟩
theorem cellsOp : Tryz.prog.cellsOf 29 = 9 := by kernel_rfl
theorem bytesOp : Tryz.prog.bytesOf 29 = 120 := by kernel_rfl
theorem list9 {α : Type} {l : List α} (h : l.length = 9) : ∃ a0 a1 a2 a3 a4 a5 a6 a7 a8, l = [a0, a1, a2, a3, a4, a5, a6, a7, a8] := by
  match l, h with
  | [a0, a1, a2, a3, a4, a5, a6, a7, a8], _ => exact ⟨a0, a1, a2, a3, a4, a5, a6, a7, a8, rfl⟩
theorem open_op7 {H : Type} {enc : TypeId × Value → H} {W : World} {fuel : Nat} {cs : List Value} {d : DataW H} {p : List MemPlace}
    (h : DataW.trod enc Tryz.prog W 0 (fun _ => true) true fuel 29 cs = some (d, p)) (hd : Lit' 29 d) :
    ∃ o : Ov, cs = o.cs.toList ∧ Oi W o ∧ Oc o := by
  obtain ⟨y0, y1, y2, y3, y4, n, hx, hl, h0, h1, h2, h3, h4⟩ := trod_struct5 Tryz.underlying29 h
  obtain ⟨c0, c1, c2, c3, c4, c5, c6, c7, c8, rfl⟩ := list9 (hl.trans cellsOp)
  simp only [cellsBytes, cellsInt, cellsPage, List.drop_zero, List.drop_succ_cons, List.take_succ_cons, List.take_zero] at h0 h1 h2 h3 h4
  obtain ⟨z0, e0, _, k0⟩ := DataW.trod_int Tryz.underlying3 h0
  obtain ⟨z1, e1, _, k1⟩ := DataW.trod_int Tryz.underlying3 h1
  obtain ⟨z2, e2, _, k2⟩ := DataW.trod_int Tryz.underlying3 h2
  have hd' : d = .agg [y0.1, y1.1, y2.1, y3.1, y4.1] := hx
  have w3 : Lit' 27 y3.1 := by
    rcases hd with hd | hd
    · refine .inl fun x hx => hd x ?_
      rw [hd']
      simp only [DataW.weights, Tryz.underlying29, List.map_cons, List.map_nil, DataW.weightsEach, List.mem_append]
      simp [hx]
    · refine .inr ?_
      rw [hd'] at hd
      simp only [Rows.uptoBulk, Rows.uptoBulkAll] at hd
      omega
  have w4 : Lit' 25 y4.1 := by
    rcases hd with hd | hd
    · refine .inl fun x hx => hd x ?_
      rw [hd']
      simp only [DataW.weights, Tryz.underlying29, List.map_cons, List.map_nil, DataW.weightsEach, List.mem_append]
      simp [hx]
    · refine .inr ?_
      rw [hd'] at hd
      simp only [Rows.uptoBulk, Rows.uptoBulkAll] at hd
      omega
  obtain ⟨P, e3, hP, hd3, hx3⟩ := open_page7 (d := y3.1) (p := y3.2) h3 w3
  obtain ⟨a4, l4, q4, e4, b4, n4, m4, _⟩ := open_bytes_cs (d := y4.1) (p := y4.2) h4 w4
  obtain ⟨kind, level, aI, cI, items, aD, cD, data, next⟩ := P
  simp only [List.cons.injEq, and_true] at e0 e1 e2 e4
  subst e0 e1 e2 e4
  simp only [Pv.cs, List.cons.injEq, and_true] at e3
  obtain ⟨rfl, rfl, rfl, rfl, rfl⟩ := e3
  exact ⟨⟨z0, z1, z2, ⟨kind, level, aI, cI, items, aD, cD, data, next⟩, a4, q4, l4⟩, rfl, ⟨hP, b4, m4⟩, ⟨hd3, hx3⟩⟩
set_option maxRecDepth 100000 in
/-- calls that came in -/
theorem open_ops7 {H : Type} {enc : TypeId × Value → H} {W : World} {a : Option Addr} {len cap : Nat} {d : DataW H} {p : List MemPlace}
    (h : DataW.Trod enc Tryz.prog W 0 (fun _ => true) true 22 (.slice a len cap) d p) (hd : Lit' 22 d) :
    ∃ L : List Ov, len = L.length ∧ Oz W a L := by
  obtain ⟨fuel, hf⟩ := h
  rcases Deep.open_slice Tryz.underlying22 hf with ⟨hcs, _⟩ | ⟨x, len', cap', m, n, D, Pl, hcs, _, hl, hm, hmm, hx, hrows⟩
  · simp only [Value.cells, List.cons.injEq, and_true, Value.slice.injEq] at hcs
    obtain ⟨rfl, rfl, rfl⟩ := hcs
    exact ⟨[], rfl, by simp, by simp, .inl rfl⟩
  · simp only [Value.cells, List.cons.injEq, and_true, Value.slice.injEq] at hcs
    obtain ⟨rfl, rfl, rfl⟩ := hcs
    simp only [Prod.mk.injEq] at hx
    obtain ⟨rfl, _⟩ := hx
    simp only [if_true] at hmm
    subst hmm
    have hlen : len ≤ 140737488355328 := by
      rcases hd with hd | hd
      · have h2 := hd _ (by simp only [DataW.weights, Tryz.underlying22, List.mem_cons]; exact .inl rfl)
        rw [List.length_map, List.length_range, bytesOp] at h2
        unfold reachBytes at h2
        omega
      · simp only [Rows.uptoBulk] at hd
        have h1 := bulk_length ((List.range len).map D)
        rw [List.length_map, List.length_range] at h1
        omega
    by_cases h0 : len = 0
    · subst h0
      exact ⟨[], rfl, by simp, by simp, .inl rfl⟩
    · have hmemD : ∀ r, r < len → D r ∈ (List.range len).map D := fun r hr => List.mem_map.2 ⟨r, List.mem_range.2 hr, rfl⟩
      have hbD : ∀ r, r < len → Lit' 29 (D r) := fun r hr => by
        rcases hd with hd | hd
        · refine .inl fun x hx => hd x ?_
          simp only [DataW.weights, Tryz.underlying22, List.mem_cons, List.mem_append]
          exact .inr (.inl (weightsAll_mem (hmemD r hr) x hx))
        · have h1 := bulk_mem (hmemD r hr)
          simp only [Rows.uptoBulk] at hd
          exact .inr (by omega)
      obtain ⟨b, off, spot⟩ := x
      have hspot : spot = none := by
        obtain ⟨cs, hc, ht⟩ := hrows 0 (by omega)
        obtain ⟨f, rfl, _⟩ := open_op7 ht (hbD 0 (by omega))
        generalize hk : (0 : Nat) = k0 at hc
        rw [cellsOp] at hc
        obtain ⟨_, _, hce⟩ := World.cells?_some hc
        have e0 := (hce 0 (by decide)).trans (show f.cs.toList[0]? = some (.int .i64 f.kd) from rfl)
        have hs0 := World.cell?_spot e0
        subst hk
        simpa [Addr.add] using hs0
      subst hspot
      have each : ∀ r, r < len → ∃ v : Ov, W.rangeAt b (off + r * 9) v.cs.toList ∧ Oi W v ∧ Oc v := by
        intro r hr
        obtain ⟨cs, hc, ht⟩ := hrows r (by omega)
        obtain ⟨v, rfl, h1, h2⟩ := open_op7 ht (hbD r hr)
        rw [cellsOp] at hc
        obtain ⟨_, _, hce⟩ := World.cells?_some hc
        refine ⟨v, fun j u hu => ?_, h1, h2⟩
        have hj : j < 9 := (List.getElem?_eq_some_iff.1 hu).1
        have h := hce j hj
        rw [Deep.add_add, Addr.add_mid, ← Nat.add_assoc] at h
        exact h.trans hu
      haveI : Inhabited Ov := ⟨Ov.zero⟩
      obtain ⟨F, hF⟩ := Deep.choose_lt each
      have hget : ∀ r, r < len → ((List.range len).map F).getD r Ov.zero = F r := fun r hr => by simp [hr]
      have hlenL : ((List.range len).map F).length = len := by simp
      refine ⟨(List.range len).map F, hlenL.symm, fun v hv => ?_, by rw [hlenL]; exact hlen, .inr ⟨b, off, rfl, fun r hr => ?_⟩⟩
      · obtain ⟨r, hr, rfl⟩ := List.mem_map.1 hv
        exact (hF r (List.mem_range.1 hr)).2
      · rw [hlenL] at hr
        rw [hget r hr]
        exact (hF r hr).1
end Go.Proofs.YtlneomgjjkfnoabGreat
