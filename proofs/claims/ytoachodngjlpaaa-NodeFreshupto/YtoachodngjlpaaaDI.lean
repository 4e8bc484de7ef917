import Derived.Test.YtoachodngjlpaaaDH
namespace Go.Proofs.Ytoachodngjlpaaa
set_option linter.unusedVariables false
set_option linter.unusedSimpArgs false
open Go.RowKit
theorem results_cell_one {P : Program} {fn : Func} {p q : Tmp} {ty : TypeId} (h : fn.results = #[.cell p ty, .tmp q]) (tmps : Array Value) (w : World) (g : Nat) (t : TypeId) (cs : Array Value) (fr : Nat × Nat) (d : TypeDesc)
    (hp : tmps.getD p undef = .pointer (some ⟨g, 0, none⟩)) (hg : w.heap[g]? = some (.cells cs t fr))
    (hu : P.underlying ty = some d) (hd : (match d with | .struct _ | .array _ _ => true | _ => false) = true) (hi : (P.info? ty).map (·.size) = some cs.size) :
    (results fn tmps).run P w = .ok (.tuple #[.agg cs, tmps.getD q undef]) w := by
  have hp' : tmps[p]?.getD undef = .pointer (some ⟨g, 0, none⟩) := by simpa using hp
  simp [results, h, hp', asAddr, run_loadVar_row w g t ty cs fr d hg hu hd hi]
theorem Px.make {W : World} {ps : List Pc} (hj : ∀ y ∈ ps, Js W y.a y.L) (hs : ∀ y ∈ ps, ∀ r ∈ y.L, r.key.length ≤ 140737488355264 ∧ r.val.length ≤ 140737488355264) (hn : (flt ps).length ≤ 2199023255520) : Px (W.alloc (.cells (ps.map Pc.vl).toArray 22)) W.heap.size ps :=
  ⟨heap_alloc_new _ _, fun y hy => (hj y hy).keep (al _ _), hs, hn⟩
/-- items that are not too long -/
def Sml (L : List Iv) : Prop := ∀ r ∈ L, r.key.length ≤ 140737488355264 ∧ r.val.length ≤ 140737488355264
theorem Px.one {W : World} {a1 : Option Addr} {n1 c1 : Nat} {L1 : List Iv} (h1 : Js W a1 L1) (e1 : n1 = L1.length) (s1 : Sml L1) (hn : L1.length ≤ 2199023255520) : Px (W.alloc (.cells #[.slice a1 n1 c1] 22)) W.heap.size [⟨a1, c1, L1⟩] := by
  subst e1
  refine Px.make (ps := [⟨a1, c1, L1⟩]) (fun y hy => ?_) (fun y hy => ?_) (by simpa [flt] using hn)
  · rw [List.mem_singleton.1 hy]; exact h1
  · rw [List.mem_singleton.1 hy]; exact s1
theorem Px.two {W : World} {a1 a2 : Option Addr} {n1 c1 n2 c2 : Nat} {L1 L2 : List Iv} (h1 : Js W a1 L1) (e1 : n1 = L1.length) (s1 : Sml L1) (h2 : Js W a2 L2) (e2 : n2 = L2.length) (s2 : Sml L2) (hn : L1.length + L2.length ≤ 2199023255520) : Px (W.alloc (.cells #[.slice a1 n1 c1, .slice a2 n2 c2] 22)) W.heap.size [⟨a1, c1, L1⟩, ⟨a2, c2, L2⟩] := by
  subst e1 e2
  refine Px.make (ps := [⟨a1, c1, L1⟩, ⟨a2, c2, L2⟩]) (fun y hy => ?_) (fun y hy => ?_) (by simpa [flt] using hn)
  · simp only [List.mem_cons, List.not_mem_nil, or_false] at hy
    rcases hy with rfl | rfl
    · exact h1
    · exact h2
  · simp only [List.mem_cons, List.not_mem_nil, or_false] at hy
    rcases hy with rfl | rfl
    · exact s1
    · exact s2
theorem Px.three {W : World} {a1 a2 a3 : Option Addr} {n1 c1 n2 c2 n3 c3 : Nat} {L1 L2 L3 : List Iv} (h1 : Js W a1 L1) (e1 : n1 = L1.length) (s1 : Sml L1) (h2 : Js W a2 L2) (e2 : n2 = L2.length) (s2 : Sml L2) (h3 : Js W a3 L3) (e3 : n3 = L3.length) (s3 : Sml L3) (hn : L1.length + (L2.length + L3.length) ≤ 2199023255520) : Px (W.alloc (.cells #[.slice a1 n1 c1, .slice a2 n2 c2, .slice a3 n3 c3] 22)) W.heap.size [⟨a1, c1, L1⟩, ⟨a2, c2, L2⟩, ⟨a3, c3, L3⟩] := by
  subst e1 e2 e3
  refine Px.make (ps := [⟨a1, c1, L1⟩, ⟨a2, c2, L2⟩, ⟨a3, c3, L3⟩]) (fun y hy => ?_) (fun y hy => ?_) (by simpa [flt] using hn)
  · simp only [List.mem_cons, List.not_mem_nil, or_false] at hy
    rcases hy with rfl | rfl | rfl
    · exact h1
    · exact h2
    · exact h3
  · simp only [List.mem_cons, List.not_mem_nil, or_false] at hy
    rcases hy with rfl | rfl | rfl
    · exact s1
    · exact s2
    · exact s3
theorem Sml.take {L : List Iv} (h : Sml L) (n : Nat) : Sml (L.take n) := fun r hr => h r (List.mem_of_mem_take hr)
theorem Sml.drop {L : List Iv} (h : Sml L) (n : Nat) : Sml (L.drop n) := fun r hr => h r (List.mem_of_mem_drop hr)
theorem Sml.one {x : Iv} (h : x.key.length ≤ 140737488355264 ∧ x.val.length ≤ 140737488355264) : Sml [x] := fun r hr => by rw [List.mem_singleton.1 hr]; exact h
theorem below_row {w W : World} {g : Nat} (cs : Array Value) (h : Below w.heap.size w W) (hg : w.heap.size ≤ g) : Below w.heap.size w (W.setRow g cs) := ((But.ofBelow (S := fun k => k = g) h).trans (but_setRow _ _ _) (fun _ _ e => e)).below (fun k hk e => by omega)
theorem three_blocks (w : World) (o p q : Obj) : (((w.alloc o).alloc p).alloc q).heap[w.heap.size]? = some o ∧ (((w.alloc o).alloc p).alloc q).heap[w.heap.size + 1]? = some p ∧ (((w.alloc o).alloc p).alloc q).heap[w.heap.size + 2]? = some q ∧ Below w.heap.size w (((w.alloc o).alloc p).alloc q) := by
  have h := two_blocks w o p (Below.refl _ _)
  refine ⟨blk_keep h.1 (al _ q), blk_keep h.2.1 (al _ q), ?_, bt h.2.2.1 (al _ q)⟩
  have k := heap_alloc_new ((w.alloc o).alloc p) q
  rw [size_alloc, size_alloc] at k
  exact k
theorem row_far {W : World} {g k : Nat} {o : Obj} (cs : Array Value) (h : W.heap[k]? = some o) (hn : k ≠ g) : (W.setRow g cs).heap[k]? = some o := ((but_setRow W g cs).block k (Array.getElem?_eq_some_iff.1 h).1 hn).trans h
set_option maxHeartbeats 2000000 in
set_option maxRecDepth 8000 in
theorem Insert_any (w : World) (p : Pv) (i : Int) (x : Iv) (hP : Pi w p) (hd : p.data.length ≤ 140737488355264) (hs : Sml p.items) (hX : Ii w x) (hxs : x.key.length ≤ 140737488355264 ∧ x.val.length ≤ 140737488355264) :
    Calls Try.prog 7 #[p.vl, .int .i64 i, x.vl] w fun e w' => ∃ q : Pv, e = .returned (.tuple #[q.vl, .bool (Pg.ins p.pg i x.it).2]) ∧ Pn w w' q ∧ q.pg = (Pg.ins p.pg i x.it).1 ∧ Below w.heap.size w w' := by
  have RP := hide fun (W : World) (hb : Below w.heap.size w W) => hP.keep hb
  have hL := hP.it.2.1
  have hci := hP.ci
  have WI := hide fun (W : World) (hb : Below w.heap.size w W) (b n : Nat) (ps : List Pc) (hn : n = ps.length) (hnn : n ≤ 8) (hx : Px W b ps) => with_any W p b ps n hn hnn (hP.bd.keep hb) ⟨hP.nk, hP.nl, hP.nn⟩ hd hx
  have FI := hide fun (W : World) (hb : Below w.heap.size w W) (n : Nat) (hn : n ≤ p.items.length) => first_any W p n (hP.keep hb) hn
  have FR := hide fun (W : World) (hb : Below w.heap.size w W) (n : Nat) (hn : n ≤ p.items.length) => from_any W p n (hP.keep hb) hn
  have SM := hide hs
  have OX := hide fun (W : World) (hb : Below w.heap.size w W) => one_any W x (hX.keep hb)
  have SX := hide hxs
  obtain ⟨aK, cK, key, aV, cV, val, child, size⟩ := x
  obtain ⟨kind, level, aI, cI, L, aD, cD, data, next⟩ := p
  unfold Pv.vl Iv.vl
  simp only [Pv.cs, Iv.cs] at *
  unfold Pv.vl at WI FI FR
  unfold Iv.vl at OX
  simp only [Pv.cs, Iv.cs] at WI FI FR OX
  have U3 := hide (three_blocks w (.cells #[.int .i64 kind, .int .i64 level, .slice aI L.length cI, .slice aD data.length cD, .int .i64 next] 25) (.cells #[.slice aK key.length cK, .slice aV val.length cV, .int .i64 child, .int .i64 size] 29) (.cells #[.int .i64 0, .int .i64 0, .slice none 0 0, .slice none 0 0, .int .i64 0] 25))
  obtain ⟨m, hm⟩ : ∃ m, L.length = m := ⟨_, rfl⟩
  have HM := hide hm
  clear hP hd hs hX hxs
  have EP : Hid ((⟨kind, level, aI, cI, L, aD, cD, data, next⟩ : Pv).pg.items = L.map Iv.it) := rfl
  simp only [hm] at WI FI FR U3 hL hci ⊢
  clear hm
  by_cases hq : i < 0 ∨ (m : Int) < i ∨ 8 ≤ m
  · have MZ : Hid (Pg.ins (⟨kind, level, aI, cI, L, aD, cD, data, next⟩ : Pv).pg i (⟨aK, cK, key, aV, cV, val, child, size⟩ : Iv).it = (Pg.zero, false)) := by
      show _ = _
      unfold Pg.ins
      rw [EP.out, List.length_map, HM.out, if_pos hq]
    rw [MZ.out]
    have HX : Hid ((((w.alloc (.cells #[.int .i64 kind, .int .i64 level, .slice aI m cI, .slice aD data.length cD, .int .i64 next] 25)).alloc (.cells #[.slice aK key.length cK, .slice aV val.length cV, .int .i64 child, .int .i64 size] 29)).alloc (.cells #[.int .i64 0, .int .i64 0, .slice none 0 0, .slice none 0 0, .int .i64 0] 25)).heap[w.heap.size + 2]? = some (.cells #[.int .i64 0, .int .i64 0, .slice none 0 0, .slice none 0 0, .int .i64 0] 25 (0, 0))) := U3.out.2.2.1
    have AB : Hid (Below w.heap.size w (((w.alloc (.cells #[.int .i64 kind, .int .i64 level, .slice aI m cI, .slice aD data.length cD, .int .i64 next] 25)).alloc (.cells #[.slice aK key.length cK, .slice aV val.length cV, .int .i64 child, .int .i64 size] 29)).alloc (.cells #[.int .i64 0, .int .i64 0, .slice none 0 0, .slice none 0 0, .int .i64 0] 25))) := U3.out.2.2.2
    clear WI FI FR RP
    rcases hq with hq | hq | hq
    · have hqn : i < 0 := hq
      go_enter Try.func7, Try.ntmps7
      go_wp2_with (first | (refine wpList_store_row rfl 25 _ _ rfl (w.heap.size + 2) _ rfl rfl 25 _ HX.out sizePage rfl (by simp [Value.oneCell']) ?_) | fail)
      refine bodyPost_ret (v := .tuple #[.agg _, _]) (results_cell_one Try.results7 _ _ (w.heap.size + 2) 25 _ (0, 0) _ rfl (setRow_heap _ _ _ _ _ _ HX.out) Try.underlying25 rfl sizePage) rfl ?_
      exact ⟨Pv.zero, rfl, Pn.zero _ _, rfl, below_row _ AB.out (by omega)⟩
    · have hqn : (m : Int) < i := hq
      have h0 : ¬ i < 0 := by omega
      go_enter Try.func7, Try.ntmps7
      go_wp2_with (first | (refine wpList_store_row rfl 25 _ _ rfl (w.heap.size + 2) _ rfl rfl 25 _ HX.out sizePage rfl (by simp [Value.oneCell']) ?_) | fail)
      refine bodyPost_ret (v := .tuple #[.agg _, _]) (results_cell_one Try.results7 _ _ (w.heap.size + 2) 25 _ (0, 0) _ rfl (setRow_heap _ _ _ _ _ _ HX.out) Try.underlying25 rfl sizePage) rfl ?_
      exact ⟨Pv.zero, rfl, Pn.zero _ _, rfl, below_row _ AB.out (by omega)⟩
    · have hqn : (8 : Int) ≤ (m : Int) := by omega
      by_cases h0 : i < 0
      · go_enter Try.func7, Try.ntmps7
        go_wp2_with (first | (refine wpList_store_row rfl 25 _ _ rfl (w.heap.size + 2) _ rfl rfl 25 _ HX.out sizePage rfl (by simp [Value.oneCell']) ?_) | fail)
        refine bodyPost_ret (v := .tuple #[.agg _, _]) (results_cell_one Try.results7 _ _ (w.heap.size + 2) 25 _ (0, 0) _ rfl (setRow_heap _ _ _ _ _ _ HX.out) Try.underlying25 rfl sizePage) rfl ?_
        exact ⟨Pv.zero, rfl, Pn.zero _ _, rfl, below_row _ AB.out (by omega)⟩
      by_cases h1 : (m : Int) < i
      · go_enter Try.func7, Try.ntmps7
        go_wp2_with (first | (refine wpList_store_row rfl 25 _ _ rfl (w.heap.size + 2) _ rfl rfl 25 _ HX.out sizePage rfl (by simp [Value.oneCell']) ?_) | fail)
        refine bodyPost_ret (v := .tuple #[.agg _, _]) (results_cell_one Try.results7 _ _ (w.heap.size + 2) 25 _ (0, 0) _ rfl (setRow_heap _ _ _ _ _ _ HX.out) Try.underlying25 rfl sizePage) rfl ?_
        exact ⟨Pv.zero, rfl, Pn.zero _ _, rfl, below_row _ AB.out (by omega)⟩
      go_enter Try.func7, Try.ntmps7
      go_wp2_with (first | (refine wpList_store_row rfl 25 _ _ rfl (w.heap.size + 2) _ rfl rfl 25 _ HX.out sizePage rfl (by simp [Value.oneCell']) ?_) | fail)
      refine bodyPost_ret (v := .tuple #[.agg _, _]) (results_cell_one Try.results7 _ _ (w.heap.size + 2) 25 _ (0, 0) _ rfl (setRow_heap _ _ _ _ _ _ HX.out) Try.underlying25 rfl sizePage) rfl ?_
      exact ⟨Pv.zero, rfl, Pn.zero _ _, rfl, below_row _ AB.out (by omega)⟩
  · obtain ⟨n, rfl⟩ : ∃ n : Nat, i = (n : Int) := ⟨i.toNat, by omega⟩
    have hnm : n ≤ m := by omega
    have hnI : (n : Int) ≤ (m : Int) := by omega
    have h8 : (m : Int) < 8 := by omega
    have h0 : ¬ ((m : Int) < (n : Int)) := by omega
    have MZ : Hid (Pg.ins (⟨kind, level, aI, cI, L, aD, cD, data, next⟩ : Pv).pg (n : Int) (⟨aK, cK, key, aV, cV, val, child, size⟩ : Iv).it = ((⟨kind, level, aI, cI, L, aD, cD, data, next⟩ : Pv).pg.wi ((L.take n ++ ((⟨aK, cK, key, aV, cV, val, child, size⟩ : Iv) :: L.drop n)).map Iv.it), true)) := by
      show _ = _
      unfold Pg.ins
      rw [EP.out, List.length_map, HM.out, if_neg hq]
      simp [List.map_append, List.map_take, List.map_drop]
    rw [MZ.out]
    have hLn : L.length ≤ 2199023255520 := by rw [HM.out]; exact hL
    go_enter Try.func7, Try.ntmps7
    go_wp2_with fail
    have BP := hide U3.out.1
    have BI := hide U3.out.2.1
    have BR := hide U3.out.2.2.1
    have B3 := hide U3.out.2.2.2
    clear U3
    generalize (((w.alloc (.cells #[.int .i64 kind, .int .i64 level, .slice aI m cI, .slice aD data.length cD, .int .i64 next] 25)).alloc (.cells #[.slice aK key.length cK, .slice aV val.length cV, .int .i64 child, .int .i64 size] 29)).alloc (.cells #[.int .i64 0, .int .i64 0, .slice none 0 0, .slice none 0 0, .int .i64 0] 25)) = w3 at *
    have SS := hide fun (W : World) (hb : Below w3.heap.size w3 W) => And.intro (cells5 (blk_keep BP.out hb)) (cells4 (blk_keep BI.out hb))
    have D3 := hide (dr2 w3)
    refine wp_region_held_drew (S := fun W => (W.cell? ⟨w.heap.size, 0, none⟩ = some (.int .i64 kind) ∧ W.cell? ⟨w.heap.size, 1, none⟩ = some (.int .i64 level) ∧ W.cell? ⟨w.heap.size, 2, none⟩ = some (.slice aI m cI) ∧ W.cell? ⟨w.heap.size, 3, none⟩ = some (.slice aD data.length cD) ∧ W.cell? ⟨w.heap.size, 4, none⟩ = some (.int .i64 next)) ∧ (W.cell? ⟨w.heap.size + 1, 0, none⟩ = some (.slice aK key.length cK) ∧ W.cell? ⟨w.heap.size + 1, 1, none⟩ = some (.slice aV val.length cV) ∧ W.cell? ⟨w.heap.size + 1, 2, none⟩ = some (.int .i64 child) ∧ W.cell? ⟨w.heap.size + 1, 3, none⟩ = some (.int .i64 size))) (by kernel_rfl) (SS.out _ D3.out) (fun hHeld => ?_)
    refine wpAnyH_take (i := 0) (v := ?vah0) rfl (by kernel_rfl) (by kernel_rfl) (by kernel_rfl) (fun _ _ _ h => h) (Or.inl ⟨by rfl, ?hyh0⟩) (by assumption) ?rah0
    case hyh0 => (intro wq hSw; (try dsimp only at hSw); obtain ⟨⟨e0, e1, e2, e3, e4⟩, f0, f1, f2, f3⟩ := hSw; go_simp <;> with_reducible rfl)
    try simp only [Act.put, List.getElem_toArray, List.getElem_cons_zero, List.setIfInBounds_toArray, List.set_cons_zero, List.set_cons_succ]
    refine wpAnyH_take (i := 1) (v := ?vah1) rfl (by kernel_rfl) (by kernel_rfl) (by kernel_rfl) (fun _ _ _ h => h) (Or.inl ⟨by rfl, ?hyh1⟩) (by assumption) ?rah1
    case hyh1 => (intro wq hSw; (try dsimp only at hSw); obtain ⟨⟨e0, e1, e2, e3, e4⟩, f0, f1, f2, f3⟩ := hSw; go_simp <;> with_reducible rfl)
    try simp only [Act.put, List.getElem_toArray, List.getElem_cons_zero, List.getElem_cons_succ, List.setIfInBounds_toArray, List.set_cons_zero, List.set_cons_succ]
    refine wpAnyH_take (i := 2) (v := ?vah2) rfl (by kernel_rfl) (by kernel_rfl) (by kernel_rfl) (fun _ _ _ h => h) (Or.inl ⟨by rfl, ?hyh2⟩) (by assumption) ?rah2
    case hyh2 => (intro wq hSw; (try dsimp only at hSw); obtain ⟨⟨e0, e1, e2, e3, e4⟩, f0, f1, f2, f3⟩ := hSw; go_simp <;> with_reducible rfl)
    try simp only [Act.put, List.getElem_toArray, List.getElem_cons_zero, List.getElem_cons_succ, List.setIfInBounds_toArray, List.set_cons_zero, List.set_cons_succ]
    refine wpAnyH_take (i := 4) (v := ?vah4) rfl (by kernel_rfl) (by kernel_rfl) (by kernel_rfl) (fun _ _ _ h => h) (Or.inl ⟨by rfl, ?hyh4⟩) (by assumption) ?rah4
    case hyh4 => (intro wq hSw; (try dsimp only at hSw); obtain ⟨⟨e0, e1, e2, e3, e4⟩, f0, f1, f2, f3⟩ := hSw; go_simp <;> with_reducible rfl)
    try simp only [Act.put, List.getElem_toArray, List.getElem_cons_zero, List.getElem_cons_succ, List.setIfInBounds_toArray, List.set_cons_zero, List.set_cons_succ]
    refine wpAnyH_take (i := 6) (v := ?vah6) rfl (by kernel_rfl) (by kernel_rfl) (by kernel_rfl) (fun _ _ _ h => h) (Or.inl ⟨by rfl, ?hyh6⟩) (by assumption) ?rah6
    case hyh6 => (intro wq hSw; (try dsimp only at hSw); obtain ⟨⟨e0, e1, e2, e3, e4⟩, f0, f1, f2, f3⟩ := hSw; go_simp <;> with_reducible rfl)
    try simp only [Act.put, List.getElem_toArray, List.getElem_cons_zero, List.getElem_cons_succ, List.setIfInBounds_toArray, List.set_cons_zero, List.set_cons_succ]
    refine wpAnyH_take (i := 7) (v := ?vah7) rfl (by kernel_rfl) (by kernel_rfl) (by kernel_rfl) (fun _ _ _ h => h) (Or.inl ⟨by rfl, ?hyh7⟩) (by assumption) ?rah7
    case hyh7 => (intro wq hSw; (try dsimp only at hSw); obtain ⟨⟨e0, e1, e2, e3, e4⟩, f0, f1, f2, f3⟩ := hSw; go_simp <;> with_reducible rfl)
    try simp only [Act.put, List.getElem_toArray, List.getElem_cons_zero, List.getElem_cons_succ, List.setIfInBounds_toArray, List.set_cons_zero, List.set_cons_succ]
    refine wpAnyH_ready (rs := [3]) (by kernel_rfl) (by simp) ?_
    refine AllReadyH.cons rfl (fun K hK => ?_) AllReadyH.nil
    go_simp
    refine (FI.out _ (bt B3.out D3.out) n (by omega)).mono ?_
    rintro _ w5 ⟨a1, rfl, j1, b1⟩
    have J1 := hide j1
    have B5 := hide (bt D3.out b1)
    clear j1 b1
    go_wp2_with fail
    refine hK.out _ _ (SS.out _ B5.out) (fun hHeld => ?_)
    clear hK K
    try simp only [Act.put, List.getElem_toArray, List.getElem_cons_zero, List.getElem_cons_succ, List.setIfInBounds_toArray, List.set_cons_zero, List.set_cons_succ]
    refine wpAnyH_ready (rs := [5]) (by kernel_rfl) (by simp) ?_
    refine AllReadyH.cons rfl (fun K hK => ?_) AllReadyH.nil
    go_simp
    refine (OX.out _ (bt B3.out B5.out)).mono ?_
    rintro _ w6 ⟨g2, rfl, j2, b2⟩
    have J2 := hide j2
    have B56 := hide b2
    have B6 := hide (bt B5.out b2)
    clear j2 b2
    go_wp2_with fail
    refine hK.out _ _ (SS.out _ B6.out) (fun hHeld => ?_)
    clear hK K
    try simp only [Act.put, List.getElem_toArray, List.getElem_cons_zero, List.getElem_cons_succ, List.setIfInBounds_toArray, List.set_cons_zero, List.set_cons_succ]
    refine wpAnyH_ready (rs := [8]) (by kernel_rfl) (by simp) ?_
    refine AllReadyH.cons rfl (fun K hK => ?_) AllReadyH.nil
    go_simp
    refine (FR.out _ (bt B3.out B6.out) (n) (by omega)).mono ?_
    rintro _ w7 ⟨a3, c3, rfl, j3, b3⟩
    have J3 := hide j3
    have B67 := hide b3
    have B7 := hide (bt B6.out b3)
    clear j3 b3
    go_wp2_with fail
    refine hK.out _ _ (SS.out _ B7.out) (fun hHeld => ?_)
    clear hK K
    try simp only [Act.put, List.getElem_toArray, List.getElem_cons_zero, List.getElem_cons_succ, List.setIfInBounds_toArray, List.set_cons_zero, List.set_cons_succ]
    have PX := hide (Px.three (n1 := n) (c1 := n) (n2 := 1) (c2 := 1) (n3 := m - (n)) (c3 := c3) (J1.out.keep (bt B56.out B67.out)) (by rw [List.length_take, HM.out]; omega) (SM.out.take n) (J2.out.keep B67.out) rfl (Sml.one SX.out) J3.out (by rw [List.length_drop, HM.out]) (SM.out.drop (n)) (by rw [List.length_take, List.length_drop, HM.out]; simp only [List.length_cons, List.length_nil]; omega))
    refine wpAnyH_ready (rs := [9]) (by kernel_rfl) (by simp) ?_
    refine AllReadyH.cons rfl (fun K hK => ?_) AllReadyH.nil
    go_simp
    have B8 := hide (bt B7.out (al w7 (.cells #[.slice a1 n n, .slice (some ⟨g2, 0, none⟩) 1 1, .slice a3 (m - (n)) c3] 22)))
    refine hK.out _ _ (SS.out _ B8.out) (fun hHeld => ?_)
    clear hK K
    try simp only [Act.put, List.getElem_toArray, List.getElem_cons_zero, List.getElem_cons_succ, List.setIfInBounds_toArray, List.set_cons_zero, List.set_cons_succ]
    refine wpAnyH_ready (rs := [10]) (by kernel_rfl) (by simp) ?_
    refine AllReadyH.cons rfl (fun K hK => ?_) AllReadyH.nil
    go_simp
    refine (WI.out _ (bt B3.out B8.out) _ 3 _ rfl (by decide) PX.out).mono ?_
    rintro _ w9 ⟨q, rfl, hq9, hg9, b9⟩
    have Q9 := hide (hq9.pre (bt B3.out B8.out).size)
    have G9 := hide hg9
    have B9 := hide (bt B8.out b9)
    clear hq9 hg9 b9
    go_wp2_with fail
    refine hK.out _ _ (SS.out _ B9.out) (fun hHeld => ?_)
    clear hK K
    try simp only [Act.put, List.getElem_toArray, List.getElem_cons_zero, List.getElem_cons_succ, List.setIfInBounds_toArray, List.set_cons_zero, List.set_cons_succ]
    have BR9 := hide (blk_keep BR.out B9.out)
    refine wpAnyH_ready (rs := [11]) (by kernel_rfl) (by simp) ?_
    refine AllReadyH.cons rfl (fun K hK => ?_) AllReadyH.nil
    rw [if_pos (by rfl)]
    refine wp_store_row 25 _ _ rfl (w.heap.size + 2) _ rfl rfl 25 _ BR9.out sizePage rfl (by simp [Value.oneCell']) ?_
    refine hK.out _ _ (⟨cells5 (row_far _ (blk_keep BP.out B9.out) (by omega)), cells4 (row_far _ (blk_keep BI.out B9.out) (by omega))⟩) (fun hHeld => ?_)
    clear hK K
    try simp only [Act.put, List.getElem_toArray, List.getElem_cons_zero, List.getElem_cons_succ, List.setIfInBounds_toArray, List.set_cons_zero, List.set_cons_succ]
    refine wpAnyH_take (i := 12) (v := ?vah12) rfl (by kernel_rfl) (by kernel_rfl) (by kernel_rfl) (fun _ _ _ h => h) (Or.inl ⟨by rfl, ?hyh12⟩) (by assumption) ?rah12
    case hyh12 => (intro wq hSw; (try dsimp only at hSw); obtain ⟨⟨e0, e1, e2, e3, e4⟩, f0, f1, f2, f3⟩ := hSw; go_simp <;> with_reducible rfl)
    try simp only [Act.put, List.getElem_toArray, List.getElem_cons_zero, List.getElem_cons_succ, List.setIfInBounds_toArray, List.set_cons_zero, List.set_cons_succ]
    refine wpAnyH_done (by kernel_rfl) ?_ _
    clear hHeld
    go_wp2_with fail
    refine bodyPost_ret (v := .tuple #[.agg _, _]) (results_cell_one Try.results7 _ _ (w.heap.size + 2) 25 _ (0, 0) _ rfl (setRow_heap _ _ _ _ _ _ BR9.out) Try.underlying25 rfl sizePage) rfl ?_
    exact ⟨q, rfl, Q9.out.row BR9.out (by decide) (by decide) _, by rw [G9.out]; simp [flt, Pg.wi], below_row _ (bt B3.out B9.out) (by omega)⟩
set_option maxHeartbeats 2000000 in
set_option maxRecDepth 8000 in
theorem Replace_any (w : World) (p : Pv) (i : Int) (x : Iv) (hP : Pi w p) (hd : p.data.length ≤ 140737488355264) (hs : Sml p.items) (hX : Ii w x) (hxs : x.key.length ≤ 140737488355264 ∧ x.val.length ≤ 140737488355264) :
    Calls Try.prog 8 #[p.vl, .int .i64 i, x.vl] w fun e w' => ∃ q : Pv, e = .returned (.tuple #[q.vl, .bool (Pg.rep p.pg i x.it).2]) ∧ Pn w w' q ∧ q.pg = (Pg.rep p.pg i x.it).1 ∧ Below w.heap.size w w' := by
  have RP := hide fun (W : World) (hb : Below w.heap.size w W) => hP.keep hb
  have hL := hP.it.2.1
  have hci := hP.ci
  have WI := hide fun (W : World) (hb : Below w.heap.size w W) (b n : Nat) (ps : List Pc) (hn : n = ps.length) (hnn : n ≤ 8) (hx : Px W b ps) => with_any W p b ps n hn hnn (hP.bd.keep hb) ⟨hP.nk, hP.nl, hP.nn⟩ hd hx
  have FI := hide fun (W : World) (hb : Below w.heap.size w W) (n : Nat) (hn : n ≤ p.items.length) => first_any W p n (hP.keep hb) hn
  have FR := hide fun (W : World) (hb : Below w.heap.size w W) (n : Nat) (hn : n ≤ p.items.length) => from_any W p n (hP.keep hb) hn
  have SM := hide hs
  have HA := hide fun (W : World) => has_any W p i
  have OX := hide fun (W : World) (hb : Below w.heap.size w W) => one_any W x (hX.keep hb)
  have SX := hide hxs
  obtain ⟨aK, cK, key, aV, cV, val, child, size⟩ := x
  obtain ⟨kind, level, aI, cI, L, aD, cD, data, next⟩ := p
  unfold Pv.vl Iv.vl
  simp only [Pv.cs, Iv.cs] at *
  unfold Pv.vl at WI FI FR HA
  unfold Iv.vl at OX
  simp only [Pv.cs, Iv.cs] at WI FI FR HA OX
  have U3 := hide (three_blocks w (.cells #[.int .i64 kind, .int .i64 level, .slice aI L.length cI, .slice aD data.length cD, .int .i64 next] 25) (.cells #[.slice aK key.length cK, .slice aV val.length cV, .int .i64 child, .int .i64 size] 29) (.cells #[.int .i64 0, .int .i64 0, .slice none 0 0, .slice none 0 0, .int .i64 0] 25))
  obtain ⟨m, hm⟩ : ∃ m, L.length = m := ⟨_, rfl⟩
  have HM := hide hm
  clear hP hd hs hX hxs
  have EP : Hid ((⟨kind, level, aI, cI, L, aD, cD, data, next⟩ : Pv).pg.items = L.map Iv.it) := rfl
  simp only [hm] at WI FI FR U3 hL hci HA ⊢
  clear hm
  by_cases hq : i < 0 ∨ (m : Int) ≤ i
  · have MZ : Hid (Pg.rep (⟨kind, level, aI, cI, L, aD, cD, data, next⟩ : Pv).pg i (⟨aK, cK, key, aV, cV, val, child, size⟩ : Iv).it = (Pg.zero, false)) := by
      show _ = _
      unfold Pg.rep
      rw [EP.out, List.length_map, HM.out, if_pos hq]
    rw [MZ.out]
    have HX : Hid ((((w.alloc (.cells #[.int .i64 kind, .int .i64 level, .slice aI m cI, .slice aD data.length cD, .int .i64 next] 25)).alloc (.cells #[.slice aK key.length cK, .slice aV val.length cV, .int .i64 child, .int .i64 size] 29)).alloc (.cells #[.int .i64 0, .int .i64 0, .slice none 0 0, .slice none 0 0, .int .i64 0] 25)).heap[w.heap.size + 2]? = some (.cells #[.int .i64 0, .int .i64 0, .slice none 0 0, .slice none 0 0, .int .i64 0] 25 (0, 0))) := U3.out.2.2.1
    have AB : Hid (Below w.heap.size w (((w.alloc (.cells #[.int .i64 kind, .int .i64 level, .slice aI m cI, .slice aD data.length cD, .int .i64 next] 25)).alloc (.cells #[.slice aK key.length cK, .slice aV val.length cV, .int .i64 child, .int .i64 size] 29)).alloc (.cells #[.int .i64 0, .int .i64 0, .slice none 0 0, .slice none 0 0, .int .i64 0] 25))) := U3.out.2.2.2
    have HF := hide (HA.out (((w.alloc (.cells #[.int .i64 kind, .int .i64 level, .slice aI m cI, .slice aD data.length cD, .int .i64 next] 25)).alloc (.cells #[.slice aK key.length cK, .slice aV val.length cV, .int .i64 child, .int .i64 size] 29)).alloc (.cells #[.int .i64 0, .int .i64 0, .slice none 0 0, .slice none 0 0, .int .i64 0] 25)))
    rw [show (decide (0 ≤ i) && decide (i < (m : Int))) = false from by simp; omega] at HF
    clear WI FI FR RP HA
    go_enter Try.func8, Try.ntmps8
    go_wp2_with fail
    refine HF.out.mono ?_
    rintro _ w4 ⟨rfl, h4⟩
    replace HX := hide (blk_keep HX.out h4)
    replace AB := hide (bt AB.out h4)
    clear HF h4
    go_wp2_with (first | (refine wpList_store_row rfl 25 _ _ rfl (w.heap.size + 2) _ rfl rfl 25 _ HX.out sizePage rfl (by simp [Value.oneCell']) ?_) | fail)
    refine bodyPost_ret (v := .tuple #[.agg _, _]) (results_cell_one Try.results8 _ _ (w.heap.size + 2) 25 _ (0, 0) _ rfl (setRow_heap _ _ _ _ _ _ HX.out) Try.underlying25 rfl sizePage) rfl ?_
    exact ⟨Pv.zero, rfl, Pn.zero _ _, rfl, below_row _ AB.out (by omega)⟩
  · obtain ⟨n, rfl⟩ : ∃ n : Nat, i = (n : Int) := ⟨i.toNat, by omega⟩
    have hnm : n + 1 ≤ m := by omega
    have hnI : (n : Int) + 1 ≤ (m : Int) := by omega
    have hnt : (n : Int) < (m : Int) := by omega
    have MZ : Hid (Pg.rep (⟨kind, level, aI, cI, L, aD, cD, data, next⟩ : Pv).pg (n : Int) (⟨aK, cK, key, aV, cV, val, child, size⟩ : Iv).it = ((⟨kind, level, aI, cI, L, aD, cD, data, next⟩ : Pv).pg.wi ((L.take n ++ ((⟨aK, cK, key, aV, cV, val, child, size⟩ : Iv) :: L.drop (n + 1))).map Iv.it), true)) := by
      show _ = _
      unfold Pg.rep
      rw [EP.out, List.length_map, HM.out, if_neg hq]
      simp [List.map_append, List.map_take, List.map_drop]
    rw [MZ.out]
    have hLn : L.length ≤ 2199023255520 := by rw [HM.out]; exact hL
    have HF := hide fun (W : World) => HA.out W
    rw [show (decide (0 ≤ (n : Int)) && decide ((n : Int) < (m : Int))) = true from by simp; omega] at HF
    clear HA
    go_enter Try.func8, Try.ntmps8
    go_wp2_with fail
    refine (HF.out _).mono ?_
    rintro _ w3 ⟨rfl, h4⟩
    have BP := hide (blk_keep U3.out.1 h4)
    have BI := hide (blk_keep U3.out.2.1 h4)
    have BR := hide (blk_keep U3.out.2.2.1 h4)
    have B3 := hide (bt U3.out.2.2.2 h4)
    clear h4 HF U3
    go_wp2_with fail
    have SS := hide fun (W : World) (hb : Below w3.heap.size w3 W) => And.intro (cells5 (blk_keep BP.out hb)) (cells4 (blk_keep BI.out hb))
    have D3 := hide (dr2 w3)
    have WN : Hid (IntKind.i64.wrap ((n : Int) + 1) = ((n + 1 : Nat) : Int)) := (wrapI (by omega) (by omega)).trans (by omega)
    refine wp_region_held_drew (S := fun W => (W.cell? ⟨w.heap.size, 0, none⟩ = some (.int .i64 kind) ∧ W.cell? ⟨w.heap.size, 1, none⟩ = some (.int .i64 level) ∧ W.cell? ⟨w.heap.size, 2, none⟩ = some (.slice aI m cI) ∧ W.cell? ⟨w.heap.size, 3, none⟩ = some (.slice aD data.length cD) ∧ W.cell? ⟨w.heap.size, 4, none⟩ = some (.int .i64 next)) ∧ (W.cell? ⟨w.heap.size + 1, 0, none⟩ = some (.slice aK key.length cK) ∧ W.cell? ⟨w.heap.size + 1, 1, none⟩ = some (.slice aV val.length cV) ∧ W.cell? ⟨w.heap.size + 1, 2, none⟩ = some (.int .i64 child) ∧ W.cell? ⟨w.heap.size + 1, 3, none⟩ = some (.int .i64 size))) (by kernel_rfl) (SS.out _ D3.out) (fun hHeld => ?_)
    refine wpAnyH_take (i := 0) (v := ?vah0) rfl (by kernel_rfl) (by kernel_rfl) (by kernel_rfl) (fun _ _ _ h => h) (Or.inl ⟨by rfl, ?hyh0⟩) (by assumption) ?rah0
    case hyh0 => (intro wq hSw; (try dsimp only at hSw); obtain ⟨⟨e0, e1, e2, e3, e4⟩, f0, f1, f2, f3⟩ := hSw; go_simp <;> with_reducible rfl)
    try simp only [Act.put, List.getElem_toArray, List.getElem_cons_zero, List.setIfInBounds_toArray, List.set_cons_zero, List.set_cons_succ]
    refine wpAnyH_take (i := 1) (v := ?vah1) rfl (by kernel_rfl) (by kernel_rfl) (by kernel_rfl) (fun _ _ _ h => h) (Or.inl ⟨by rfl, ?hyh1⟩) (by assumption) ?rah1
    case hyh1 => (intro wq hSw; (try dsimp only at hSw); obtain ⟨⟨e0, e1, e2, e3, e4⟩, f0, f1, f2, f3⟩ := hSw; go_simp <;> with_reducible rfl)
    try simp only [Act.put, List.getElem_toArray, List.getElem_cons_zero, List.getElem_cons_succ, List.setIfInBounds_toArray, List.set_cons_zero, List.set_cons_succ]
    refine wpAnyH_take (i := 2) (v := ?vah2) rfl (by kernel_rfl) (by kernel_rfl) (by kernel_rfl) (fun _ _ _ h => h) (Or.inl ⟨by rfl, ?hyh2⟩) (by assumption) ?rah2
    case hyh2 => (intro wq hSw; (try dsimp only at hSw); obtain ⟨⟨e0, e1, e2, e3, e4⟩, f0, f1, f2, f3⟩ := hSw; go_simp <;> with_reducible rfl)
    try simp only [Act.put, List.getElem_toArray, List.getElem_cons_zero, List.getElem_cons_succ, List.setIfInBounds_toArray, List.set_cons_zero, List.set_cons_succ]
    refine wpAnyH_take (i := 4) (v := ?vah4) rfl (by kernel_rfl) (by kernel_rfl) (by kernel_rfl) (fun _ _ _ h => h) (Or.inl ⟨by rfl, ?hyh4⟩) (by assumption) ?rah4
    case hyh4 => (intro wq hSw; (try dsimp only at hSw); obtain ⟨⟨e0, e1, e2, e3, e4⟩, f0, f1, f2, f3⟩ := hSw; go_simp <;> with_reducible rfl)
    try simp only [Act.put, List.getElem_toArray, List.getElem_cons_zero, List.getElem_cons_succ, List.setIfInBounds_toArray, List.set_cons_zero, List.set_cons_succ]
    refine wpAnyH_take (i := 6) (v := ?vah6) rfl (by kernel_rfl) (by kernel_rfl) (by kernel_rfl) (fun _ _ _ h => h) (Or.inl ⟨by rfl, ?hyh6⟩) (by assumption) ?rah6
    case hyh6 => (intro wq hSw; (try dsimp only at hSw); obtain ⟨⟨e0, e1, e2, e3, e4⟩, f0, f1, f2, f3⟩ := hSw; go_simp <;> with_reducible rfl)
    try simp only [Act.put, List.getElem_toArray, List.getElem_cons_zero, List.getElem_cons_succ, List.setIfInBounds_toArray, List.set_cons_zero, List.set_cons_succ]
    refine wpAnyH_take (i := 7) (v := ?vah7) rfl (by kernel_rfl) (by kernel_rfl) (by kernel_rfl) (fun _ _ _ h => h) (Or.inl ⟨by rfl, ?hyh7⟩) (by assumption) ?rah7
    case hyh7 => (intro wq hSw; (try dsimp only at hSw); obtain ⟨⟨e0, e1, e2, e3, e4⟩, f0, f1, f2, f3⟩ := hSw; go_simp <;> with_reducible rfl)
    try simp only [Act.put, List.getElem_toArray, List.getElem_cons_zero, List.getElem_cons_succ, List.setIfInBounds_toArray, List.set_cons_zero, List.set_cons_succ]
    refine wpAnyH_take (i := 8) (v := ?vah8) rfl (by kernel_rfl) (by kernel_rfl) (by kernel_rfl) (fun _ _ _ h => h) (Or.inl ⟨by rfl, ?hyh8⟩) (by assumption) ?rah8
    case hyh8 => (intro wq hSw; (try dsimp only at hSw); obtain ⟨⟨e0, e1, e2, e3, e4⟩, f0, f1, f2, f3⟩ := hSw; go_simp <;> with_reducible rfl)
    try simp only [Act.put, List.getElem_toArray, List.getElem_cons_zero, List.getElem_cons_succ, List.setIfInBounds_toArray, List.set_cons_zero, List.set_cons_succ]
    refine wpAnyH_ready (rs := [3]) (by kernel_rfl) (by simp) ?_
    refine AllReadyH.cons rfl (fun K hK => ?_) AllReadyH.nil
    go_simp
    refine (FI.out _ (bt B3.out D3.out) n (by omega)).mono ?_
    rintro _ w5 ⟨a1, rfl, j1, b1⟩
    have J1 := hide j1
    have B5 := hide (bt D3.out b1)
    clear j1 b1
    go_wp2_with fail
    refine hK.out _ _ (SS.out _ B5.out) (fun hHeld => ?_)
    clear hK K
    try simp only [Act.put, List.getElem_toArray, List.getElem_cons_zero, List.getElem_cons_succ, List.setIfInBounds_toArray, List.set_cons_zero, List.set_cons_succ]
    refine wpAnyH_ready (rs := [5]) (by kernel_rfl) (by simp) ?_
    refine AllReadyH.cons rfl (fun K hK => ?_) AllReadyH.nil
    go_simp
    refine (OX.out _ (bt B3.out B5.out)).mono ?_
    rintro _ w6 ⟨g2, rfl, j2, b2⟩
    have J2 := hide j2
    have B56 := hide b2
    have B6 := hide (bt B5.out b2)
    clear j2 b2
    go_wp2_with fail
    refine hK.out _ _ (SS.out _ B6.out) (fun hHeld => ?_)
    clear hK K
    try simp only [Act.put, List.getElem_toArray, List.getElem_cons_zero, List.getElem_cons_succ, List.setIfInBounds_toArray, List.set_cons_zero, List.set_cons_succ]
    refine wpAnyH_ready (rs := [9]) (by kernel_rfl) (by simp) ?_
    refine AllReadyH.cons rfl (fun K hK => ?_) AllReadyH.nil
    go_simp
    rw [WN.out]
    refine (FR.out _ (bt B3.out B6.out) (n + 1) (by omega)).mono ?_
    rintro _ w7 ⟨a3, c3, rfl, j3, b3⟩
    have J3 := hide j3
    have B67 := hide b3
    have B7 := hide (bt B6.out b3)
    clear j3 b3
    go_wp2_with fail
    refine hK.out _ _ (SS.out _ B7.out) (fun hHeld => ?_)
    clear hK K
    try simp only [Act.put, List.getElem_toArray, List.getElem_cons_zero, List.getElem_cons_succ, List.setIfInBounds_toArray, List.set_cons_zero, List.set_cons_succ]
    have PX := hide (Px.three (n1 := n) (c1 := n) (n2 := 1) (c2 := 1) (n3 := m - (n + 1)) (c3 := c3) (J1.out.keep (bt B56.out B67.out)) (by rw [List.length_take, HM.out]; omega) (SM.out.take n) (J2.out.keep B67.out) rfl (Sml.one SX.out) J3.out (by rw [List.length_drop, HM.out]) (SM.out.drop (n + 1)) (by rw [List.length_take, List.length_drop, HM.out]; simp only [List.length_cons, List.length_nil]; omega))
    refine wpAnyH_ready (rs := [10]) (by kernel_rfl) (by simp) ?_
    refine AllReadyH.cons rfl (fun K hK => ?_) AllReadyH.nil
    go_simp
    have B8 := hide (bt B7.out (al w7 (.cells #[.slice a1 n n, .slice (some ⟨g2, 0, none⟩) 1 1, .slice a3 (m - (n + 1)) c3] 22)))
    refine hK.out _ _ (SS.out _ B8.out) (fun hHeld => ?_)
    clear hK K
    try simp only [Act.put, List.getElem_toArray, List.getElem_cons_zero, List.getElem_cons_succ, List.setIfInBounds_toArray, List.set_cons_zero, List.set_cons_succ]
    refine wpAnyH_ready (rs := [11]) (by kernel_rfl) (by simp) ?_
    refine AllReadyH.cons rfl (fun K hK => ?_) AllReadyH.nil
    go_simp
    refine (WI.out _ (bt B3.out B8.out) _ 3 _ rfl (by decide) PX.out).mono ?_
    rintro _ w9 ⟨q, rfl, hq9, hg9, b9⟩
    have Q9 := hide (hq9.pre (bt B3.out B8.out).size)
    have G9 := hide hg9
    have B9 := hide (bt B8.out b9)
    clear hq9 hg9 b9
    go_wp2_with fail
    refine hK.out _ _ (SS.out _ B9.out) (fun hHeld => ?_)
    clear hK K
    try simp only [Act.put, List.getElem_toArray, List.getElem_cons_zero, List.getElem_cons_succ, List.setIfInBounds_toArray, List.set_cons_zero, List.set_cons_succ]
    have BR9 := hide (blk_keep BR.out B9.out)
    refine wpAnyH_ready (rs := [12]) (by kernel_rfl) (by simp) ?_
    refine AllReadyH.cons rfl (fun K hK => ?_) AllReadyH.nil
    rw [if_pos (by rfl)]
    refine wp_store_row 25 _ _ rfl (w.heap.size + 2) _ rfl rfl 25 _ BR9.out sizePage rfl (by simp [Value.oneCell']) ?_
    refine hK.out _ _ (⟨cells5 (row_far _ (blk_keep BP.out B9.out) (by omega)), cells4 (row_far _ (blk_keep BI.out B9.out) (by omega))⟩) (fun hHeld => ?_)
    clear hK K
    try simp only [Act.put, List.getElem_toArray, List.getElem_cons_zero, List.getElem_cons_succ, List.setIfInBounds_toArray, List.set_cons_zero, List.set_cons_succ]
    refine wpAnyH_take (i := 13) (v := ?vah13) rfl (by kernel_rfl) (by kernel_rfl) (by kernel_rfl) (fun _ _ _ h => h) (Or.inl ⟨by rfl, ?hyh13⟩) (by assumption) ?rah13
    case hyh13 => (intro wq hSw; (try dsimp only at hSw); obtain ⟨⟨e0, e1, e2, e3, e4⟩, f0, f1, f2, f3⟩ := hSw; go_simp <;> with_reducible rfl)
    try simp only [Act.put, List.getElem_toArray, List.getElem_cons_zero, List.getElem_cons_succ, List.setIfInBounds_toArray, List.set_cons_zero, List.set_cons_succ]
    refine wpAnyH_done (by kernel_rfl) ?_ _
    clear hHeld
    go_wp2_with fail
    refine bodyPost_ret (v := .tuple #[.agg _, _]) (results_cell_one Try.results8 _ _ (w.heap.size + 2) 25 _ (0, 0) _ rfl (setRow_heap _ _ _ _ _ _ BR9.out) Try.underlying25 rfl sizePage) rfl ?_
    exact ⟨q, rfl, Q9.out.row BR9.out (by decide) (by decide) _, by rw [G9.out]; simp [flt, Pg.wi], below_row _ (bt B3.out B9.out) (by omega)⟩
set_option maxHeartbeats 2000000 in
set_option maxRecDepth 8000 in
theorem Remove_any (w : World) (p : Pv) (i : Int) (hP : Pi w p) (hd : p.data.length ≤ 140737488355264) (hs : Sml p.items) :
    Calls Try.prog 9 #[p.vl, .int .i64 i] w fun e w' => ∃ q : Pv, e = .returned (.tuple #[q.vl, .bool (Pg.rem p.pg i).2]) ∧ Pn w w' q ∧ q.pg = (Pg.rem p.pg i).1 ∧ Below w.heap.size w w' := by
  have RP := hide fun (W : World) (hb : Below w.heap.size w W) => hP.keep hb
  have hL := hP.it.2.1
  have hci := hP.ci
  have WI := hide fun (W : World) (hb : Below w.heap.size w W) (b n : Nat) (ps : List Pc) (hn : n = ps.length) (hnn : n ≤ 8) (hx : Px W b ps) => with_any W p b ps n hn hnn (hP.bd.keep hb) ⟨hP.nk, hP.nl, hP.nn⟩ hd hx
  have FI := hide fun (W : World) (hb : Below w.heap.size w W) (n : Nat) (hn : n ≤ p.items.length) => first_any W p n (hP.keep hb) hn
  have FR := hide fun (W : World) (hb : Below w.heap.size w W) (n : Nat) (hn : n ≤ p.items.length) => from_any W p n (hP.keep hb) hn
  have SM := hide hs
  have HA := hide fun (W : World) => has_any W p i
  obtain ⟨kind, level, aI, cI, L, aD, cD, data, next⟩ := p
  unfold Pv.vl
  simp only [Pv.cs] at *
  unfold Pv.vl at WI FI FR HA
  simp only [Pv.cs] at WI FI FR HA
  have U3 := hide (two_blocks w (.cells #[.int .i64 kind, .int .i64 level, .slice aI L.length cI, .slice aD data.length cD, .int .i64 next] 25) (.cells #[.int .i64 0, .int .i64 0, .slice none 0 0, .slice none 0 0, .int .i64 0] 25) (Below.refl _ _))
  obtain ⟨m, hm⟩ : ∃ m, L.length = m := ⟨_, rfl⟩
  have HM := hide hm
  clear hP hd hs
  have EP : Hid ((⟨kind, level, aI, cI, L, aD, cD, data, next⟩ : Pv).pg.items = L.map Iv.it) := rfl
  simp only [hm] at WI FI FR U3 hL hci HA ⊢
  clear hm
  by_cases hq : i < 0 ∨ (m : Int) ≤ i
  · have MZ : Hid (Pg.rem (⟨kind, level, aI, cI, L, aD, cD, data, next⟩ : Pv).pg i = (Pg.zero, false)) := by
      show _ = _
      unfold Pg.rem
      rw [EP.out, List.length_map, HM.out, if_pos hq]
    rw [MZ.out]
    have HX : Hid (((w.alloc (.cells #[.int .i64 kind, .int .i64 level, .slice aI m cI, .slice aD data.length cD, .int .i64 next] 25)).alloc (.cells #[.int .i64 0, .int .i64 0, .slice none 0 0, .slice none 0 0, .int .i64 0] 25)).heap[w.heap.size + 1]? = some (.cells #[.int .i64 0, .int .i64 0, .slice none 0 0, .slice none 0 0, .int .i64 0] 25 (0, 0))) := U3.out.2.1
    have AB : Hid (Below w.heap.size w ((w.alloc (.cells #[.int .i64 kind, .int .i64 level, .slice aI m cI, .slice aD data.length cD, .int .i64 next] 25)).alloc (.cells #[.int .i64 0, .int .i64 0, .slice none 0 0, .slice none 0 0, .int .i64 0] 25))) := U3.out.2.2.1
    have HF := hide (HA.out ((w.alloc (.cells #[.int .i64 kind, .int .i64 level, .slice aI m cI, .slice aD data.length cD, .int .i64 next] 25)).alloc (.cells #[.int .i64 0, .int .i64 0, .slice none 0 0, .slice none 0 0, .int .i64 0] 25)))
    rw [show (decide (0 ≤ i) && decide (i < (m : Int))) = false from by simp; omega] at HF
    clear WI FI FR RP HA
    go_enter Try.func9, Try.ntmps9
    go_wp2_with fail
    refine HF.out.mono ?_
    rintro _ w4 ⟨rfl, h4⟩
    replace HX := hide (blk_keep HX.out h4)
    replace AB := hide (bt AB.out h4)
    clear HF h4
    go_wp2_with (first | (refine wpList_store_row rfl 25 _ _ rfl (w.heap.size + 1) _ rfl rfl 25 _ HX.out sizePage rfl (by simp [Value.oneCell']) ?_) | fail)
    refine bodyPost_ret (v := .tuple #[.agg _, _]) (results_cell_one Try.results9 _ _ (w.heap.size + 1) 25 _ (0, 0) _ rfl (setRow_heap _ _ _ _ _ _ HX.out) Try.underlying25 rfl sizePage) rfl ?_
    exact ⟨Pv.zero, rfl, Pn.zero _ _, rfl, below_row _ AB.out (by omega)⟩
  · obtain ⟨n, rfl⟩ : ∃ n : Nat, i = (n : Int) := ⟨i.toNat, by omega⟩
    have hnm : n + 1 ≤ m := by omega
    have hnI : (n : Int) + 1 ≤ (m : Int) := by omega
    have hnt : (n : Int) < (m : Int) := by omega
    have MZ : Hid (Pg.rem (⟨kind, level, aI, cI, L, aD, cD, data, next⟩ : Pv).pg (n : Int) = ((⟨kind, level, aI, cI, L, aD, cD, data, next⟩ : Pv).pg.wi ((L.take n ++ L.drop (n + 1)).map Iv.it), true)) := by
      show _ = _
      unfold Pg.rem
      rw [EP.out, List.length_map, HM.out, if_neg hq]
      simp [List.map_append, List.map_take, List.map_drop]
    rw [MZ.out]
    have hLn : L.length ≤ 2199023255520 := by rw [HM.out]; exact hL
    have HF := hide fun (W : World) => HA.out W
    rw [show (decide (0 ≤ (n : Int)) && decide ((n : Int) < (m : Int))) = true from by simp; omega] at HF
    clear HA
    go_enter Try.func9, Try.ntmps9
    go_wp2_with fail
    refine (HF.out _).mono ?_
    rintro _ w3 ⟨rfl, h4⟩
    have BP := hide (blk_keep U3.out.1 h4)
    have BR := hide (blk_keep U3.out.2.1 h4)
    have B3 := hide (bt U3.out.2.2.1 h4)
    clear h4 HF U3
    go_wp2_with fail
    have SS := hide fun (W : World) (hb : Below w3.heap.size w3 W) => cells5 (blk_keep BP.out hb)
    have D3 := hide (dr2 w3)
    have WN : Hid (IntKind.i64.wrap ((n : Int) + 1) = ((n + 1 : Nat) : Int)) := (wrapI (by omega) (by omega)).trans (by omega)
    refine wp_region_held_drew (S := fun W => W.cell? ⟨w.heap.size, 0, none⟩ = some (.int .i64 kind) ∧ W.cell? ⟨w.heap.size, 1, none⟩ = some (.int .i64 level) ∧ W.cell? ⟨w.heap.size, 2, none⟩ = some (.slice aI m cI) ∧ W.cell? ⟨w.heap.size, 3, none⟩ = some (.slice aD data.length cD) ∧ W.cell? ⟨w.heap.size, 4, none⟩ = some (.int .i64 next)) (by kernel_rfl) (SS.out _ D3.out) (fun hHeld => ?_)
    refine wpAnyH_take (i := 0) (v := ?vah0) rfl (by kernel_rfl) (by kernel_rfl) (by kernel_rfl) (fun _ _ _ h => h) (Or.inl ⟨by rfl, ?hyh0⟩) (by assumption) ?rah0
    case hyh0 => (intro wq hSw; (try dsimp only at hSw); obtain ⟨e0, e1, e2, e3, e4⟩ := hSw; go_simp <;> with_reducible rfl)
    try simp only [Act.put, List.getElem_toArray, List.getElem_cons_zero, List.setIfInBounds_toArray, List.set_cons_zero, List.set_cons_succ]
    refine wpAnyH_take (i := 1) (v := ?vah1) rfl (by kernel_rfl) (by kernel_rfl) (by kernel_rfl) (fun _ _ _ h => h) (Or.inl ⟨by rfl, ?hyh1⟩) (by assumption) ?rah1
    case hyh1 => (intro wq hSw; (try dsimp only at hSw); obtain ⟨e0, e1, e2, e3, e4⟩ := hSw; go_simp <;> with_reducible rfl)
    try simp only [Act.put, List.getElem_toArray, List.getElem_cons_zero, List.getElem_cons_succ, List.setIfInBounds_toArray, List.set_cons_zero, List.set_cons_succ]
    refine wpAnyH_take (i := 2) (v := ?vah2) rfl (by kernel_rfl) (by kernel_rfl) (by kernel_rfl) (fun _ _ _ h => h) (Or.inl ⟨by rfl, ?hyh2⟩) (by assumption) ?rah2
    case hyh2 => (intro wq hSw; (try dsimp only at hSw); obtain ⟨e0, e1, e2, e3, e4⟩ := hSw; go_simp <;> with_reducible rfl)
    try simp only [Act.put, List.getElem_toArray, List.getElem_cons_zero, List.getElem_cons_succ, List.setIfInBounds_toArray, List.set_cons_zero, List.set_cons_succ]
    refine wpAnyH_take (i := 4) (v := ?vah4) rfl (by kernel_rfl) (by kernel_rfl) (by kernel_rfl) (fun _ _ _ h => h) (Or.inl ⟨by rfl, ?hyh4⟩) (by assumption) ?rah4
    case hyh4 => (intro wq hSw; (try dsimp only at hSw); obtain ⟨e0, e1, e2, e3, e4⟩ := hSw; go_simp <;> with_reducible rfl)
    try simp only [Act.put, List.getElem_toArray, List.getElem_cons_zero, List.getElem_cons_succ, List.setIfInBounds_toArray, List.set_cons_zero, List.set_cons_succ]
    refine wpAnyH_take (i := 5) (v := ?vah5) rfl (by kernel_rfl) (by kernel_rfl) (by kernel_rfl) (fun _ _ _ h => h) (Or.inl ⟨by rfl, ?hyh5⟩) (by assumption) ?rah5
    case hyh5 => (intro wq hSw; (try dsimp only at hSw); obtain ⟨e0, e1, e2, e3, e4⟩ := hSw; go_simp <;> with_reducible rfl)
    try simp only [Act.put, List.getElem_toArray, List.getElem_cons_zero, List.getElem_cons_succ, List.setIfInBounds_toArray, List.set_cons_zero, List.set_cons_succ]
    refine wpAnyH_take (i := 6) (v := ?vah6) rfl (by kernel_rfl) (by kernel_rfl) (by kernel_rfl) (fun _ _ _ h => h) (Or.inl ⟨by rfl, ?hyh6⟩) (by assumption) ?rah6
    case hyh6 => (intro wq hSw; (try dsimp only at hSw); obtain ⟨e0, e1, e2, e3, e4⟩ := hSw; go_simp <;> with_reducible rfl)
    try simp only [Act.put, List.getElem_toArray, List.getElem_cons_zero, List.getElem_cons_succ, List.setIfInBounds_toArray, List.set_cons_zero, List.set_cons_succ]
    refine wpAnyH_ready (rs := [3]) (by kernel_rfl) (by simp) ?_
    refine AllReadyH.cons rfl (fun K hK => ?_) AllReadyH.nil
    go_simp
    refine (FI.out _ (bt B3.out D3.out) n (by omega)).mono ?_
    rintro _ w5 ⟨a1, rfl, j1, b1⟩
    have J1 := hide j1
    have B5 := hide (bt D3.out b1)
    clear j1 b1
    go_wp2_with fail
    refine hK.out _ _ (SS.out _ B5.out) (fun hHeld => ?_)
    clear hK K
    try simp only [Act.put, List.getElem_toArray, List.getElem_cons_zero, List.getElem_cons_succ, List.setIfInBounds_toArray, List.set_cons_zero, List.set_cons_succ]
    refine wpAnyH_ready (rs := [7]) (by kernel_rfl) (by simp) ?_
    refine AllReadyH.cons rfl (fun K hK => ?_) AllReadyH.nil
    go_simp
    rw [WN.out]
    refine (FR.out _ (bt B3.out B5.out) (n + 1) (by omega)).mono ?_
    rintro _ w7 ⟨a3, c3, rfl, j3, b3⟩
    have J3 := hide j3
    have B67 := hide b3
    have B7 := hide (bt B5.out b3)
    clear j3 b3
    go_wp2_with fail
    refine hK.out _ _ (SS.out _ B7.out) (fun hHeld => ?_)
    clear hK K
    try simp only [Act.put, List.getElem_toArray, List.getElem_cons_zero, List.getElem_cons_succ, List.setIfInBounds_toArray, List.set_cons_zero, List.set_cons_succ]
    have PX := hide (Px.two (n1 := n) (c1 := n) (n2 := m - (n + 1)) (c2 := c3) (J1.out.keep B67.out) (by rw [List.length_take, HM.out]; omega) (SM.out.take n) J3.out (by rw [List.length_drop, HM.out]) (SM.out.drop (n + 1)) (by rw [List.length_take, List.length_drop, HM.out]; omega))
    refine wpAnyH_ready (rs := [8]) (by kernel_rfl) (by simp) ?_
    refine AllReadyH.cons rfl (fun K hK => ?_) AllReadyH.nil
    go_simp
    have B8 := hide (bt B7.out (al w7 (.cells #[.slice a1 n n, .slice a3 (m - (n + 1)) c3] 22)))
    refine hK.out _ _ (SS.out _ B8.out) (fun hHeld => ?_)
    clear hK K
    try simp only [Act.put, List.getElem_toArray, List.getElem_cons_zero, List.getElem_cons_succ, List.setIfInBounds_toArray, List.set_cons_zero, List.set_cons_succ]
    refine wpAnyH_ready (rs := [9]) (by kernel_rfl) (by simp) ?_
    refine AllReadyH.cons rfl (fun K hK => ?_) AllReadyH.nil
    go_simp
    refine (WI.out _ (bt B3.out B8.out) _ 2 _ rfl (by decide) PX.out).mono ?_
    rintro _ w9 ⟨q, rfl, hq9, hg9, b9⟩
    have Q9 := hide (hq9.pre (bt B3.out B8.out).size)
    have G9 := hide hg9
    have B9 := hide (bt B8.out b9)
    clear hq9 hg9 b9
    go_wp2_with fail
    refine hK.out _ _ (SS.out _ B9.out) (fun hHeld => ?_)
    clear hK K
    try simp only [Act.put, List.getElem_toArray, List.getElem_cons_zero, List.getElem_cons_succ, List.setIfInBounds_toArray, List.set_cons_zero, List.set_cons_succ]
    have BR9 := hide (blk_keep BR.out B9.out)
    refine wpAnyH_ready (rs := [10]) (by kernel_rfl) (by simp) ?_
    refine AllReadyH.cons rfl (fun K hK => ?_) AllReadyH.nil
    rw [if_pos (by rfl)]
    refine wp_store_row 25 _ _ rfl (w.heap.size + 1) _ rfl rfl 25 _ BR9.out sizePage rfl (by simp [Value.oneCell']) ?_
    refine hK.out _ _ (cells5 (row_far _ (blk_keep BP.out B9.out) (by omega))) (fun hHeld => ?_)
    clear hK K
    try simp only [Act.put, List.getElem_toArray, List.getElem_cons_zero, List.getElem_cons_succ, List.setIfInBounds_toArray, List.set_cons_zero, List.set_cons_succ]
    refine wpAnyH_take (i := 11) (v := ?vah11) rfl (by kernel_rfl) (by kernel_rfl) (by kernel_rfl) (fun _ _ _ h => h) (Or.inl ⟨by rfl, ?hyh11⟩) (by assumption) ?rah11
    case hyh11 => (intro wq hSw; (try dsimp only at hSw); obtain ⟨e0, e1, e2, e3, e4⟩ := hSw; go_simp <;> with_reducible rfl)
    try simp only [Act.put, List.getElem_toArray, List.getElem_cons_zero, List.getElem_cons_succ, List.setIfInBounds_toArray, List.set_cons_zero, List.set_cons_succ]
    refine wpAnyH_done (by kernel_rfl) ?_ _
    clear hHeld
    go_wp2_with fail
    refine bodyPost_ret (v := .tuple #[.agg _, _]) (results_cell_one Try.results9 _ _ (w.heap.size + 1) 25 _ (0, 0) _ rfl (setRow_heap _ _ _ _ _ _ BR9.out) Try.underlying25 rfl sizePage) rfl ?_
    exact ⟨q, rfl, Q9.out.row BR9.out (by decide) (by decide) _, by rw [G9.out]; simp [flt, Pg.wi], below_row _ (bt B3.out B9.out) (by omega)⟩
end Go.Proofs.Ytoachodngjlpaaa
