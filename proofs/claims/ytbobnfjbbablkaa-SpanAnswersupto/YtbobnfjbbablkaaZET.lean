import Derived.Test.YtbobnfjbbablkaaZES
namespace Go.Proofs.Ytbobnfjbbablkaa
open Go.RowKit

theorem CopyBytes_at (w : World) (aa : Option Addr) (n capa : Nat) (p : List Nat) (hB : Bs w aa p) (hn : n = p.length) (hlen : p.length ≤ 1048576) :
    Calls Try.prog 48 #[.slice aa n capa] w fun x w' => ∃ a' cap', x = .returned (.slice a' p.length cap') ∧ Own w w' a' cap' p := by
  subst hn
  exact (CopyBytes_any w aa p.length capa p hB rfl (by omega)).mono fun _ _ ⟨a', c', h1, h2, h3, h4⟩ => ⟨a', c', h1, h2, h3, h4⟩
set_option maxHeartbeats 3200000 in
theorem CopyRange_any (w : World) (r : Rv) (hR : Ri w r) (hl : r.lo.length ≤ 1048576) (hh : r.hi.length ≤ 1048576) :
    Calls Try.prog 49 #[r.val] w fun e w' => ∃ q : Rv, e = .returned q.val ∧ Ro w w' q ∧ q.rg = r.rg := by
  have S1 := hide fun w1 (hb : Below w.heap.size w w1) => CopyBytes_at w1 r.aL r.lo.length r.cL r.lo (hR.bl.keep hb) rfl hl
  have S2 := hide fun w1 (hb : Below w.heap.size w w1) => CopyBytes_at w1 r.aH r.hi.length r.cH r.hi (hR.bh.keep hb) rfl hh
  have L8 := hide hR.bl.1
  have H8 := hide hR.bh.1
  clear hR
  unfold Rv.val
  obtain ⟨aL, cL, lo, aH, cH, hi, op⟩ := r
  dsimp only [Rv.cs] at *
  go_enter Try.func49, Try.ntmps49
  go_wp2
  have T0 : Hid (Below ((w.alloc (.cells #[.slice aL lo.length cL, .slice aH hi.length cH, .bool op] 26)).alloc (.cells #[.slice none 0 0, .slice none 0 0, .bool false] 26)).heap.size ((w.alloc (.cells #[.slice aL lo.length cL, .slice aH hi.length cH, .bool op] 26)).alloc (.cells #[.slice none 0 0, .slice none 0 0, .bool false] 26)) ((w.alloc (.cells #[.slice aL lo.length cL, .slice aH hi.length cH, .bool op] 26)).alloc (.cells #[.slice none 0 0, .slice none 0 0, .bool false] 26)).drew) := (Below.refl _ _).drew
  have C0 := row3_cells (two_blocks w _ _ T0.out).1
  have hn : w.heap.size + 1 ≠ w.heap.size := by omega
  go_region_held3 (fun w' => w'.cell? ⟨w.heap.size, 0, none⟩ = some (.slice aL lo.length cL) ∧ w'.cell? ⟨w.heap.size, 1, none⟩ = some (.slice aH hi.length cH) ∧ w'.cell? ⟨w.heap.size, 2, none⟩ = some (.bool op))
    (first | with_reducible exact C0 | with_reducible exact three_set C0 hn _ _ _)
    (first | (go_at_call 48; with_reducible refine (S1.out _ (two_blocks w _ _ T0.out).2.2.1).mono ?_; rintro e w1 ⟨g1, d1, rfl, o1⟩; have hb1 := o1.b; have Z1 := hide (fun x (hx : g1 = some x) => Nat.le_trans (two_blocks w _ _ T0.out).2.2.2 (o1.fresh hx)); have L1 := hide (fun x (hx : g1 = some x) => o1.r.lt hx); have T0 := hide (bt T0.out hb1); have C0 := row3_cells (two_blocks w _ _ T0.out).1; have R1 := hide o1.r; clear hb1 o1) | (go_at_call 48; with_reducible refine (S2.out _ (two_blocks w _ _ T0.out).2.2.1).mono ?_; rintro e w2 ⟨g2, d2, rfl, o2⟩; have hb2 := o2.b; have Z2 := hide (fun x y (hx : g1 = some x) (hy : g2 = some y) => Nat.lt_of_lt_of_le (L1.out x hx) (o2.fresh hy)); have Z3 := hide (fun y (hy : g2 = some y) => Nat.le_trans (two_blocks w _ _ T0.out).2.2.2 (o2.fresh hy)); have T0 := hide (bt T0.out hb2); have C0 := row3_cells (two_blocks w _ _ T0.out).1; obtain ⟨⟨y0, y1, y2⟩, y3, y4, y5⟩ := six (two_blocks w _ _ T0.out).2.1; have R1 := hide (R1.out.keep hb2); have R2 := hide o2.r; clear hb2 o2))
  clear C0
  have M1 := hide (set3_heap (two_blocks w _ _ T0.out).2.1 (.slice g1 lo.length d1) (.slice g2 hi.length d2) (.bool op))
  have BB := hide ((But.refl (fun k => k = w.heap.size + 1) w2).set3 rfl (.slice g1 lo.length d1) (.slice g2 hi.length d2) (.bool op))
  have TB := hide (two_blocks w _ _ T0.out).2.2.1
  clear y0 y1 y2 y3 y4 y5 T0
  go_wp2
  refine bodyPost_ret (v := .agg _) (results_cell_row Try.results49 _ _ (w.heap.size + 1) 26 _ (0, 0) _ rfl M1.out Try.underlying26 rfl sizeRange) rfl ?_
  have bel : Below w.heap.size w _ := ((But.ofBelow (S := fun k => k = w.heap.size + 1) TB.out).trans BB.out fun _ _ e => e).below fun k hk e => by omega
  have w1 := R1.out.but BB.out fun x hx e => by have := Z1.out x hx; omega
  have w2' := R2.out.but BB.out fun x hx e => by have := Z3.out x hx; omega
  exact ⟨⟨g1, d1, lo, g2, d2, hi, op⟩, rfl, ⟨⟨w1, fun x hx => .inr (by have := Z1.out x hx; omega), bel⟩, ⟨w2', fun x hx => .inr (by have := Z3.out x hx; omega), bel⟩, fun x y hx hy e => by have := Z2.out x y hx hy; omega, L8.out, H8.out⟩, rfl⟩
theorem fam1 {W W' : World} {a : Option Addr} {c : Nat} {l : List Nat} (o : Own W W' a c l) (h8 : B8 l) : Fam W W' [⟨a, c, l⟩] := ⟨fun t ht => by rw [List.mem_singleton.1 ht]; exact ⟨o, h8⟩, List.pairwise_singleton _ _⟩
theorem step_apQ {w : World} {ops : Array Oper} {o : Oper} {a : Act} {K : Act → World → Prop} {Q : Exit → Act → World → Prop} {E : Prop} (hgd : o.guard = none) (s x : Operand)
    (ho : o.op = .call { callee := .builtin .append, args := #[s, x], argTypes := #[27, 27] }) (ao : Option Addr) (n cap : Nat) (L : List Rv) (hs : a.eval s = .slice ao n cap) (hn : n = L.length) (hR : Qw w ao cap L)
    (ad : Addr) (c : Nat) (v : Rv) (hx : a.eval x = .slice (some ad) 1 c) (hc : ∀ j u, v.cs.toList[j]? = some u → w.cell? (ad.add j) = some u) (hlen : L.length + 1 ≤ 4294967296)
    (h : ∀ g cap' w', Qw w' (some ⟨g, 0, none⟩) cap' (L ++ [v]) → New w ao (some ⟨g, 0, none⟩) → w.grownBy w' (ao.map Addr.block) → K (a.put o.dst (.slice (some ⟨g, 0, none⟩) (n + 1) cap')) w') :
    if Region.wanted o (yielded ops a.tmps) = true then Oper.wp Try.prog o a w K Q else E := by
  have hw : Region.wanted o (yielded ops a.tmps) = true := by simp [Region.wanted, hgd]
  rw [if_pos hw]
  exact wp_apQ s x ho ao n cap L hs hn hR ad c v hx hc hlen h
end Go.Proofs.Ytbobnfjbbablkaa
