import Derived.Test.YtceeeofkigkpkaaGreatEF
namespace Go.Proofs.YtceeeofkigkpkaaGreat
set_option linter.unusedVariables false
open Go.RowKit

/-! ### an act is kept -/
theorem infoAct : (Tryz.prog.info? 76).map (fun i => (i.zero, i.size, i.bytes)) = some (some (.agg #[.nilFunc]), 1, 8) := by kernel_rfl
theorem run_apA (w : World) (ty : TypeId) (a : Option Addr) (n cap : Nat) (B : List (Nat × Nat × Nat)) (hR : Gw 76 1 w a cap n (B.map clo)) (ad : Addr) (c : Nat) (t : Nat × Nat × Nat) (hc : w.cell? ad = some (clo t)) (hlen : n + 1 ≤ 17592186044416) :
    ∃ g cap' w', (Builtin.append_ #[68, 68] ty #[.slice a n cap, .slice (some ad) 1 c]).run Tryz.prog w = .ok (.slice (some ⟨g, 0, none⟩) (n + 1) cap') w' ∧
      Gw 76 1 w' (some ⟨g, 0, none⟩) cap' (n + 1) ((B ++ [t]).map clo) ∧ New w a (some ⟨g, 0, none⟩) ∧ But (InA a) w w' := by
  obtain ⟨i0, hi, hz0, hz1, hz2⟩ := info_parts infoAct
  have hb : (n + 1) * 8 ≤ 140737488355328 := by omega
  obtain ⟨g, cap', w', hr, h1, h2, h3, h4⟩ := run_append_lies (P := Tryz.prog) w 68 ty 0 76 i0 (.agg #[.nilFunc]) 1 8 Tryz.underlying68 hi hz0 hz1 hz2 rfl (by decide) (.slice a n cap) n (B.map clo) hR ad 1 c [clo t] rfl
    (by intro j u hj
        match j, hj with
        | 0, hj => simp at hj; subst hj; simpa [Addr.add] using hc) (by intro u hu; simp at hu; subst hu; rfl) (by decide) (by unfold maxLen; omega) hb (Nat.zero_le _) w.heap.size rfl
  rw [ob_eq] at h2 h3
  refine ⟨g, cap', w', hr, by rw [List.map_append]; exact h1, ?_, But.inA h2⟩
  intro y hy
  simp only [Option.some.injEq] at hy
  subst hy
  rcases h3 with h3 | h3
  · obtain ⟨z, hz, e⟩ := map_some h3
    exact .inl ⟨z, hz, e⟩
  · exact .inr (by show _ ≤ g; omega)
theorem step_apA {w : World} {ops : Array Oper} {o : Oper} {a : Act} {K : Act → World → Prop} {Q : Exit → Act → World → Prop} {E : Prop} (hgd : o.guard = none) (s x : Operand)
    (ho : o.op = .call { callee := .builtin .append, args := #[s, x], argTypes := #[68, 68] }) (ao : Option Addr) (n cap : Nat) (B : List (Nat × Nat × Nat)) (hs : a.eval s = .slice ao n cap) (hR : Gw 76 1 w ao cap n (B.map clo))
    (ad : Addr) (c : Nat) (t : Nat × Nat × Nat) (hx : a.eval x = .slice (some ad) 1 c) (hc : w.cell? ad = some (clo t)) (hlen : n + 1 ≤ 17592186044416)
    (h : ∀ g cap' w', Gw 76 1 w' (some ⟨g, 0, none⟩) cap' (n + 1) ((B ++ [t]).map clo) → New w ao (some ⟨g, 0, none⟩) → But (InA ao) w w' → K (a.put o.dst (.slice (some ⟨g, 0, none⟩) (n + 1) cap')) w') :
    if Region.wanted o (yielded ops a.tmps) = true then Oper.wp Tryz.prog o a w K Q else E := by
  have hw : Region.wanted o (yielded ops a.tmps) = true := by simp [Region.wanted, hgd]
  rw [if_pos hw]
  obtain ⟨g, cap', w', hr, h1, h2, h3⟩ := run_apA w o.type ao n cap B hR ad c t hc hlen
  unfold Oper.wp execOp
  simp only [ho, resolve, invoke, builtin, Sem.run_bind, Sem.run_pure, Result.andThen_ok, List.map_toArray, List.map_cons, List.map_nil, hs, hx, hr]
  exact h g cap' w' h1 h2 h3
theorem zip_snoc {α β : Type} (A : List α) (B : List β) (a : α) (b : β) (h : A.length = B.length) : (A ++ [a]).zip (B ++ [b]) = A.zip B ++ [(a, b)] := by
  rw [List.zip_append h]; rfl
abbrev tin (t : Nat × Nat × Nat) (k : Nat) : Prop := k = t.1 ∨ k = t.2.1 ∨ k = t.2.2
def tint9 (col : Nat → Nat) (t : Nat × Nat × Nat) (k : Nat) : Nat := if tin t k then 9 else col k
theorem tint9_in {col : Nat → Nat} {t : Nat × Nat × Nat} {k : Nat} (h : tin t k) : tint9 col t k = 9 := if_pos h
theorem tint9_out {col : Nat → Nat} {t : Nat × Nat × Nat} {k : Nat} (h : ¬ tin t k) : tint9 col t k = col k := if_neg h
theorem Pq.grow {w W w5 : World} {b : Nat} {P : Po} {D : Pd} {col : Nat → Nat} (h : Pq w b P D col) (hW : Below w.heap.size w W) {g cap' : Nat} {t : Nat × Nat × Nat} {x : Nat × Pg}
    (hR : Gw 76 1 w5 (some ⟨g, 0, none⟩) cap' (P.ac.length + 1) ((D.B ++ [t]).map clo)) (hN : New W D.aa (some ⟨g, 0, none⟩)) (hB : But (InA D.aa) W w5) (ht : Cl w b t x) (hc : ∀ k, tin t k → col k = 0) :
    Pq (w5.setCell ⟨b, 7, none⟩ (.slice (some ⟨g, 0, none⟩) (P.ac.length + 1) cap')) b { P with ac := P.ac ++ [x] } { D with aa := some ⟨g, 0, none⟩, ac := cap', B := D.B ++ [t] } (tint9 (recol col w w5 8) t) ∧
      But (fun k => col k ≠ 0) w (w5.setCell ⟨b, 7, none⟩ (.slice (some ⟨g, 0, none⟩) (P.ac.length + 1) cap')) ∧ (∀ k, k < w.heap.size → ¬ tin t k → tint9 (recol col w w5 8) t k = col k) := by
  have bw5 : But (fun k => k = b ∨ InA D.aa k) w (w5.setCell ⟨b, 7, none⟩ (.slice (some ⟨g, 0, none⟩) (P.ac.length + 1) cap')) := ((But.ofBelow hW).trans hB (fun k _ hk => .inr hk)).setCell (p := ⟨b, 7, none⟩) (fun _ => .inl rfl) _
  have ne : ∀ {k : Nat}, col k ≠ 1 → col k ≠ 8 → ¬ (k = b ∨ InA D.aa k) := fun h1 h8 e => by
    rcases e with rfl | ⟨y, hy, rfl⟩
    · exact h1 h.cb
    · exact h8 (h.cc y hy)
  have tl : ∀ k, tin t k → k < w.heap.size := fun k hk => by
    rcases hk with rfl | rfl | rfl
    · exact block_lt_of_cell ht.p
    · exact block_lt_of_cell ht.n
    · exact block_lt_of_cell ht.c
  have nt : ∀ {k : Nat}, col k ≠ 0 → ¬ tin t k := fun h1 h2 => h1 (hc _ h2)
  have old : ∀ {k : Nat}, col k ≠ 0 → tint9 (recol col w w5 8) t k = col k := fun hk => (tint9_out (nt hk)).trans (recol_old (h.lt _ hk))
  have hb5 : w5.heap[b]? = some (.cells (boxC P D) 70 (0, 0)) := ((But.ofBelow (S := InA D.aa) hW).trans hB (fun _ _ h => h)).same h.box (fun ⟨y, hy, e⟩ => by have := h.cc y hy; rw [e, h.cb] at this; cases this)
  have gb : g ≠ b := fun e => by
    have := hN ⟨g, 0, none⟩ rfl
    rcases this with ⟨y, hy, e2⟩ | h2
    · have h8 := h.cc y hy
      rw [e2] at h8
      have : col g = 8 := h8
      rw [e, h.cb] at this
      cases this
    · have h2 : W.heap.size ≤ g := h2
      have := h.lb
      have := hW.size
      omega
  have sb : But (fun k => k = b) w5 (w5.setCell ⟨b, 7, none⟩ (.slice (some ⟨g, 0, none⟩) (P.ac.length + 1) cap')) := (But.refl (fun k => k = b) w5).setCell (p := ⟨b, 7, none⟩) (fun _ => rfl) _
  refine ⟨⟨?_, bw5.same h.pgs (ne (by rw [h.cg]; decide) (by rw [h.cg]; decide)), fun s hs => (h.set s hs).but bw5 (ne (by rw [h.cs s hs]; omega) (by rw [h.cs s hs]; omega)) (fun y hy => ne (by rw [h.ca s hs y hy]; omega) (by rw [h.ca s hs y hy]; omega)), ?_, ?_, ?_, (old (by rw [h.cb]; decide)).trans h.cb, (old (by rw [h.cg]; decide)).trans h.cg, fun s hs => (old (by rw [h.cs s hs]; omega)).trans (h.cs s hs), fun s hs y hy => (old (by rw [h.ca s hs y hy]; omega)).trans (h.ca s hs y hy), ?_, ?_, ?_⟩, ?_, ?_⟩
  · rw [heap_setCell_same _ _ _ _ _ _ hb5]
    show some (Obj.cells _ _ _) = some (Obj.cells (boxC _ _) _ _)
    unfold boxC
    simp
  · rw [List.length_append]
    exact hR.but sb (fun y hy e => by cases hy; exact gb e)
  · rw [List.length_append, List.length_append, h.acl]; rfl
  · intro q hq
    rw [zip_snoc _ _ _ _ h.acl] at hq
    rcases List.mem_append.1 hq with hq | hq
    · obtain ⟨c1, c2, c3⟩ := h.cB _ (zip_left hq).1
      exact (h.acb q hq).but bw5 (ne (by rw [c1]; decide) (by rw [c1]; decide)) (ne (by rw [c2]; decide) (by rw [c2]; decide)) (ne (by rw [c3]; decide) (by rw [c3]; decide))
    · obtain rfl := List.mem_singleton.1 hq
      have z1 := hc t.1 (.inl rfl)
      have z2 := hc t.2.1 (.inr (.inl rfl))
      have z3 := hc t.2.2 (.inr (.inr rfl))
      exact ht.but bw5 (ne (by rw [z1]; decide) (by rw [z1]; decide)) (ne (by rw [z2]; decide) (by rw [z2]; decide)) (ne (by rw [z3]; decide) (by rw [z3]; decide))
  · rintro y hy
    simp only [Option.some.injEq] at hy
    subst hy
    show tint9 (recol col w w5 8) t g = 8
    rcases hN ⟨g, 0, none⟩ rfl with ⟨y, hy, e2⟩ | h2
    · have h8 : col g = 8 := by rw [← (show y.block = g from e2)]; exact h.cc y hy
      exact (old (by rw [h8]; decide)).trans h8
    · have h2 : W.heap.size ≤ g := h2
      have s1 := hW.size
      have hg : g < w5.heap.size := hR.lt rfl
      rw [tint9_out (fun hk => by have := tl _ hk; omega)]
      exact recol_new (by omega) hg
  · intro u hu
    rcases List.mem_append.1 hu with hu | hu
    · obtain ⟨c1, c2, c3⟩ := h.cB u hu
      exact ⟨(old (by rw [c1]; decide)).trans c1, (old (by rw [c2]; decide)).trans c2, (old (by rw [c3]; decide)).trans c3⟩
    · obtain rfl := List.mem_singleton.1 hu
      exact ⟨tint9_in (.inl rfl), tint9_in (.inr (.inl rfl)), tint9_in (.inr (.inr rfl))⟩
  · intro k hk
    have s1 := bw5.size
    by_cases e : tin t k
    · exact Nat.lt_of_lt_of_le (tl k e) s1
    · rw [tint9_out e] at hk
      have s2 : w.heap.size ≤ w5.heap.size := Nat.le_trans hW.size hB.size
      exact Nat.lt_of_lt_of_le (recol_lt s2 hk) sb.size
  · exact bw5.mono fun k _ hk => by
      rcases hk with rfl | ⟨y, hy, rfl⟩
      · rw [h.cb]; decide
      · rw [h.cc y hy]; decide
  · intro k hk hn
    rw [tint9_out hn]
    exact recol_old hk
set_option maxHeartbeats 4000000 in
set_option maxRecDepth 8000 in
theorem act_any (w : World) (b : Nat) (P : Po) (col : Nat → Nat) (h : Pl w b P col) (n : Nat) (h1 : 1 ≤ n) (h2 : n ≤ P.pg.length) (c : Int) (hc : 0 ≤ c ∧ c ≤ P.rf) (hm : P.ac.length + 1 ≤ 17592186044416) :
    Calls Tryz.prog 48 #[.pointer (some ⟨b, 0, none⟩), .int .i64 ((n : Nat) : Int), .int .i64 c] w fun e w' => e = .returned (.tuple #[]) ∧ ∃ col', Pl w' b (P.act n c) col' ∧ Fr w col w' col' := by
  obtain ⟨D, h⟩ := h
  obtain ⟨i, rfl⟩ : ∃ i : Nat, n = i + 1 := ⟨n - 1, by omega⟩
  have hi : i < P.pg.length := by omega
  have hl2 := h.ok.l2
  obtain ⟨W1, hW1⟩ : ∃ W1, (w.alloc (.cells #[.pointer (some ⟨b, 0, none⟩)] 27)).alloc (.cells #[.int .i64 ((i : Int) + 1)] 3) = W1 := ⟨_, rfl⟩
  have b1 : Below w.heap.size w W1 := by rw [← hW1]; exact bt (al _ _) (al _ _)
  have sz1 : W1.heap.size = w.heap.size + 1 + 1 := by rw [← hW1, size_alloc, size_alloc]
  have p1 : W1.cell? ⟨w.heap.size, 0, none⟩ = some (.pointer (some ⟨b, 0, none⟩)) := by
    rw [← hW1]
    exact ((al _ _).cell (p := ⟨w.heap.size, 0, none⟩) (by rw [size_alloc]; show w.heap.size < _; omega)).trans (cell_alloc_new w _ _)
  have n1 : W1.cell? ⟨w.heap.size + 1, 0, none⟩ = some (.int .i64 ((i : Int) + 1)) := by
    rw [← hW1]
    have := cell_alloc_new (w.alloc (.cells #[.pointer (some ⟨b, 0, none⟩)] 27)) (.int .i64 ((i : Int) + 1)) 3
    rwa [size_alloc] at this
  have q1 := h.q.keep b1
  have c1 := q1.c1
  obtain ⟨d1, d2⟩ := q1.pgAt hi
  have s1 : IntKind.i64.wrap (i : Int) = (i : Int) := wrapI (by omega) (by omega)
  have s2 : wrap64 (i : Int) = (i : Int) := by unfold wrap64; omega
  have hiI : (i : Int) < (P.pg.length : Int) := by omega
  have HM := hide h
  have HC := hide hc
  have HP2 := hide hl2
  have B1 := hide b1
  have c1' : W1.drew.cell? ⟨b, 1, none⟩ = _ := c1
  have d1' : W1.drew.cell? ⟨D.g, i * 2, none⟩ = _ := d1
  have d2' : W1.drew.cell? ⟨D.g, i * 2 + 1, none⟩ = _ := d2
  have p1' : W1.drew.cell? ⟨w.heap.size, 0, none⟩ = _ := p1
  have n1' : W1.drew.cell? ⟨w.heap.size + 1, 0, none⟩ = _ := n1
  have aW := al W1 (.cells #[.int .i64 0, .bool false] 74)
  have qA := q1.keep aW
  have e1 := qA.c1
  obtain ⟨e2, e3⟩ := qA.pgAt hi
  have e4 : (W1.alloc (.cells #[.int .i64 0, .bool false] 74)).cell? ⟨w.heap.size, 0, none⟩ = _ := (aW.cell (p := ⟨w.heap.size, 0, none⟩) (block_lt_of_cell p1)).trans p1
  have e5 : (W1.alloc (.cells #[.int .i64 0, .bool false] 74)).cell? ⟨w.heap.size + 1, 0, none⟩ = _ := (aW.cell (p := ⟨w.heap.size + 1, 0, none⟩) (block_lt_of_cell n1)).trans n1
  have e1' : (W1.alloc (.cells #[.int .i64 0, .bool false] 74)).drew.cell? ⟨b, 1, none⟩ = _ := e1
  have e2' : (W1.alloc (.cells #[.int .i64 0, .bool false] 74)).drew.cell? ⟨D.g, i * 2, none⟩ = _ := e2
  have e3' : (W1.alloc (.cells #[.int .i64 0, .bool false] 74)).drew.cell? ⟨D.g, i * 2 + 1, none⟩ = _ := e3
  have e4' : (W1.alloc (.cells #[.int .i64 0, .bool false] 74)).drew.cell? ⟨w.heap.size, 0, none⟩ = _ := e4
  have e5' : (W1.alloc (.cells #[.int .i64 0, .bool false] 74)).drew.cell? ⟨w.heap.size + 1, 0, none⟩ = _ := e5
  obtain ⟨x, hx⟩ : ∃ x, P.pg.getD i Pg.zero = x := ⟨_, rfl⟩
  have HXX := hide hx
  rw [hx] at d1 d2 d1' d2' e2 e3 e2' e3'
  obtain ⟨x0, x1⟩ := x
  simp only at d1 d2 d1' d2' e2 e3 e2' e3'
  clear h hc hl2 b1 q1 hx qA aW
  have HW1 := hide hW1
  clear hW1
  go_enter Tryz.func48, Tryz.ntmps48
  go_wp2
  rw [HW1.out]
  go_region
  clear e1 e2 e3 e4 e5 e1' e2' e3' e4' e5' c1 c1' d1 d2 d1' d2' p1' n1'
  have X3 := two_cells W1 x0 x1
  have a3 := al W1 (.cells #[.int .i64 x0, .bool x1] 74)
  have b3 : Below W1.heap.size W1 (W1.alloc (.cells #[.int .i64 x0, .bool x1] 74)).drew := bt a3 (drw _)
  have X3' := two_keep' X3 (drw _)
  rw [sz1] at X3'
  obtain ⟨W3, hW3⟩ : ∃ W3, (W1.alloc (.cells #[.int .i64 x0, .bool x1] 74)).drew = W3 := ⟨_, rfl⟩
  rw [hW3] at X3' b3 ⊢
  have cl3 : Cl W3 b (w.heap.size, w.heap.size + 1, w.heap.size + 1 + 1) (i + 1, (x0, x1)) := ⟨(b3.cell (p := ⟨w.heap.size, 0, none⟩) (block_lt_of_cell p1)).trans p1, by rw [show (((i + 1, (x0, x1)) : Nat × Pg).1 : Int) = (i : Int) + 1 by simp]; exact (b3.cell (p := ⟨w.heap.size + 1, 0, none⟩) (block_lt_of_cell n1)).trans n1, X3'.1, X3'.2⟩
  have k0 := X3'.1
  have k1 := X3'.2
  have k2 := (b3.cell (p := ⟨w.heap.size, 0, none⟩) (block_lt_of_cell p1)).trans p1
  have k3 := (b3.cell (p := ⟨w.heap.size + 1, 0, none⟩) (block_lt_of_cell n1)).trans n1
  have B3 := hide (bt B1.out b3)
  have M3 : Pm W3 b P col D := ⟨HM.out.q.keep B3.out, HM.out.ok, HM.out.mem⟩
  have SET := hide (set_any W3 b P D col M3 (i + 1) h1 h2 (c, x1) HC.out)
  rw [show (((i + 1 : Nat)) : Int) = (i : Int) + 1 by omega] at SET
  have CL3 := hide cl3
  clear cl3 X3 a3 b3 X3' hW3 M3 p1 n1 HW1
  go_wp2_with fail
  refine SET.out.mono ?_
  rintro _ w4 ⟨rfl, col4, ⟨D4, h4⟩, f4⟩
  have tz : ∀ k, tin (w.heap.size, w.heap.size + 1, w.heap.size + 1 + 1) k → col k = 0 ∧ w.heap.size ≤ k ∧ k < W3.heap.size := fun k hk => by
    have s3 := block_lt_of_cell k0
    have s3 : w.heap.size + 1 + 1 < W3.heap.size := s3
    have g : w.heap.size ≤ k ∧ k < W3.heap.size := by
      rcases hk with rfl | rfl | rfl
      · exact ⟨Nat.le_refl _, by show w.heap.size < _; omega⟩
      · exact ⟨by show _ ≤ w.heap.size + 1; omega, by show w.heap.size + 1 < _; omega⟩
      · exact ⟨by show _ ≤ w.heap.size + 1 + 1; omega, s3⟩
    refine ⟨?_, g⟩
    by_cases hz : col k = 0
    · exact hz
    · have := HM.out.q.lt k hz
      omega
  have tz4 : ∀ k, tin (w.heap.size, w.heap.size + 1, w.heap.size + 1 + 1) k → col4 k = 0 := fun k hk => (f4.c k (tz k hk).2.2).trans (tz k hk).1
  have cl4 := CL3.out.but f4.b (fun h => h (tz _ (.inl rfl)).1) (fun h => h (tz _ (.inr (.inl rfl))).1) (fun h => h (tz _ (.inr (.inr rfl))).1)
  have CL4 := hide cl4
  have H4 := hide h4
  have F4 := hide f4
  have TZ := hide tz
  have TZ4 := hide tz4
  have m0 := cl4.p
  clear cl4 tz tz4 k0 k1 k2 k3 CL3 SET
  simp only at m0
  have c7 := h4.q.c7
  have f7 := h4.q.free 7
  obtain ⟨t, ht⟩ : ∃ t, (w.heap.size, w.heap.size + 1, w.heap.size + 1 + 1) = t := ⟨_, rfl⟩
  have aw := al w4 (.cells #[.func (.func 60) #[] #[.pointer (some ⟨w.heap.size, 0, none⟩), .pointer (some ⟨w.heap.size + 1, 0, none⟩), .pointer (some ⟨w.heap.size + 1 + 1, 0, none⟩)]] 76)
  have nw := cell_alloc_new w4 (.func (.func 60) #[] #[.pointer (some ⟨w.heap.size, 0, none⟩), .pointer (some ⟨w.heap.size + 1, 0, none⟩), .pointer (some ⟨w.heap.size + 1 + 1, 0, none⟩)]) 76
  obtain ⟨W5, hW5⟩ : ∃ W5, W5 = w4.alloc (.cells #[.func (.func 60) #[] #[.pointer (some ⟨w.heap.size, 0, none⟩), .pointer (some ⟨w.heap.size + 1, 0, none⟩), .pointer (some ⟨w.heap.size + 1 + 1, 0, none⟩)]] 76) := ⟨_, rfl⟩
  rw [← hW5] at aw nw
  have B5 := hide (bt aw (drw _))
  have q5 := h4.q.keep B5.out
  have G5 := hide q5.acr
  have m5 : W5.drew.cell? ⟨w.heap.size, 0, none⟩ = some (.pointer (some ⟨b, 0, none⟩)) := (B5.out.cell (p := ⟨w.heap.size, 0, none⟩) (block_lt_of_cell m0)).trans m0
  have m5' : W5.cell? ⟨w.heap.size, 0, none⟩ = some (.pointer (some ⟨b, 0, none⟩)) := m5
  have c75 := q5.c7
  have c75' : W5.cell? ⟨b, 7, none⟩ = _ := c75
  have f75 := q5.free 7
  have m0' : w4.drew.cell? ⟨w.heap.size, 0, none⟩ = some (.pointer (some ⟨b, 0, none⟩)) := m0
  have c7' : w4.drew.cell? ⟨b, 7, none⟩ = _ := c7
  have NW := hide (show W5.drew.cell? ⟨w4.heap.size, 0, none⟩ = some (clo t) by rw [← ht]; exact nw)
  have eP : P.act (i + 1) c = { P.put (i + 1) (c, x1) with ac := (P.put (i + 1) (c, x1)).ac ++ [(i + 1, (x0, x1))] } := by
    unfold Po.act Po.put Po.at
    rw [show i + 1 - 1 = i from rfl, HXX.out]
  have FIN := hide (show ∀ (g cap' : Nat) (w5 : World), Gw 76 1 w5 (some ⟨g, 0, none⟩) cap' (P.ac.length + 1) ((D4.B ++ [t]).map clo) → New W5.drew D4.aa (some ⟨g, 0, none⟩) → But (InA D4.aa) W5.drew w5 →
      ∃ col', Pl (w5.setCell ⟨b, 7, none⟩ (.slice (some ⟨g, 0, none⟩) (P.ac.length + 1) cap')) b (P.act (i + 1) c) col' ∧ Fr w col (w5.setCell ⟨b, 7, none⟩ (.slice (some ⟨g, 0, none⟩) (P.ac.length + 1) cap')) col' from fun g cap' w5 hR hN hB => by
    obtain ⟨g1, g2, g3⟩ := h4.q.grow (W := W5.drew) (w5 := w5) B5.out hR hN hB (by rw [← ht]; exact CL4.out) (by rw [← ht]; exact TZ4.out)
    have ok := HM.out.ok.act h1 h2 HC.out
    rw [eP] at ok ⊢
    have b3 := B3.out.size
    refine ⟨_, ⟨_, g1, ok, h4.mem⟩, ⟨((But.ofBelow (S := fun k => col k ≠ 0) B3.out).trans f4.b (fun _ _ h => h)).trans g2 (fun k hk h => by rw [f4.c k (by omega)] at h; exact h), fun k hk => ?_⟩⟩
    have s4 := f4.b.size
    rw [g3 k (by omega) (fun hk2 => by rw [← ht] at hk2; have := (TZ.out k hk2).2.1; omega)]
    exact f4.c k (by omega))
  have CB := hide h4.q.cb
  have CC := hide h4.q.cc
  have LB := hide h4.q.lb
  clear h4 f4 aw nw q5
  subst hW5
  rw [show (P.put (i + 1) (c, x1)).ac.length = P.ac.length from rfl] at *
  clear eP
  generalize hac : P.ac.length = nn at *
  clear hac
  go_wp2_with fail
  go_region_law
    (refine step_apA rfl _ _ rfl D4.aa nn D4.ac D4.B (by first | (simp [Act.eval]; done) | simp [Act.eval, Act.put]) G5.out ⟨w4.heap.size, 0, none⟩ 1 t (by first | (simp [Act.eval]; done) | simp [Act.eval, Act.put]) NW.out hm ?_
     intro g cap' w5 hR hN hB
     have cS : w5.cell? ⟨b, 7, none⟩ = _ := (hB.cell (p := ⟨b, 7, none⟩) (block_lt_of_cell c75) (fun ⟨y, hy, e⟩ => by have := CC.out y hy; rw [e] at this; have e2 : col4 b = 8 := this; rw [CB.out] at e2; cases e2)).trans c75
     have fS : w5.frozen? ⟨b, 7, none⟩ = false := (hB.frozen (p := ⟨b, 7, none⟩) (block_lt_of_cell c75) (fun ⟨y, hy, e⟩ => by have := CC.out y hy; rw [e] at this; have e2 : col4 b = 8 := this; rw [CB.out] at e2; cases e2)).trans f75
     have mS : w5.cell? ⟨w.heap.size, 0, none⟩ = _ := (hB.cell (p := ⟨w.heap.size, 0, none⟩) (block_lt_of_cell m5) (fun ⟨y, hy, e⟩ => by have := CC.out y hy; rw [e] at this; have e2 : col4 w.heap.size = 8 := this; rw [TZ4.out _ (.inl rfl)] at e2; cases e2)).trans m5
     have FF := hide (FIN.out g cap' w5 hR hN hB)
     clear hR hN hB)
  all_goals
    go_end0
    exact ⟨rfl, FF.out⟩
end Go.Proofs.YtceeeofkigkpkaaGreat
