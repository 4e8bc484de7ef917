import Derived.Test.YtbobnfjbbablkaaZEH
import Derived.Test.YtbobnfjbbablkaaVB
namespace Go.Proofs.Ytbobnfjbbablkaa
open Go.RowKit

theorem four_blocks {w : World} {g : Nat} {a b c d : Value} {t : TypeId} (h : w.heap[g]? = some (.cells #[a, b, c, d] t (0, 0))) : w.cell? ⟨g, 0, none⟩ = some a ∧ w.cell? ⟨g, 1, none⟩ = some b ∧ w.cell? ⟨g, 2, none⟩ = some c ∧ w.cell? ⟨g, 3, none⟩ = some d := by
  refine ⟨?_, ?_, ?_, ?_⟩ <;> rw [cell_of_row _ _ _ _ _ _ h] <;> rfl
set_option maxHeartbeats 3200000 in
theorem gsame_any (w : World) (a b : Av) (hak : Bs w a.aK a.k) (ham : Qs w a.aM a.M) (hbk : Bs w b.aK b.k) (hbm : Qs w b.aM b.M) (he : a.an = b.an) :
    Calls Try.prog 13 #[.agg a.cs, .agg b.cs] w fun e w' => e = .returned (.bool true) ∧ Below w.heap.size w w' := by
  obtain ⟨an, ai, aK, cK, ak, aM, cM, M⟩ := a
  obtain ⟨bn, bi, bK, dK, bk, bM, dM, P⟩ := b
  simp only [Av.an, An.mk.injEq] at he
  obtain ⟨rfl, rfl, rfl, hM⟩ := he
  have EB := hide fun w1 (hb : Below w.heap.size w w1) => EqBytes_same w1 aK bK ak.length ak.length cK dK ak (hak.keep hb) (hbk.keep hb) rfl rfl
  have SR := hide fun w1 (hb : Below w.heap.size w w1) => sameRanges_any w1 aM bM M.length cM P.length dM M P (ham.keep hb) (hbm.keep hb) rfl rfl
  rw [decide_eq_true hM] at SR
  clear hak ham hbk hbm hM
  dsimp only [Av.cs]
  go_enter Try.func13, Try.ntmps13
  go_wp2_with fail
  refine (EB.out _ (bt (al _ _) (al _ _))).mono ?_
  rintro e w1 ⟨rfl, hb⟩
  obtain ⟨m0, m1, hb1, hs1⟩ := two_blocks _ _ _ hb
  obtain ⟨k0, k1, k2, k3⟩ := four_blocks m0
  obtain ⟨j0, j1, j2, j3⟩ := four_blocks m1
  have T1 := hide hb1
  clear hb hb1 m0 m1 hs1
  go_wp2_with fail
  refine (SR.out _ T1.out).mono ?_
  rintro e w2 ⟨rfl, hb⟩
  have T2 := hide (bt T1.out hb)
  clear hb k0 k1 k2 k3 j0 j1 j2 j3
  go_wp2
  go_ret
  exact ⟨by simp, T2.out⟩
/-- a list that Spare made -/
structure Sl (W : World) (a : Option Addr) (c : Nat) (l : List Nat) : Prop where
  at' : ∃ g, a = some ⟨g, 0, none⟩ ∧ W.rowIs g 5 (l.length + 64) (spF l)
  c : c = l.length + 64
  n : l.length ≤ 1048576
  l8 : B8 l
theorem Sl.keep {W W' : World} {a : Option Addr} {c : Nat} {l : List Nat} (h : Sl W a c l) (hb : Below W.heap.size W W') : Sl W' a c l := by
  obtain ⟨⟨g, e, hr⟩, h2, h3, h4⟩ := h
  exact ⟨⟨g, e, rowIs_below hr hb⟩, h2, h3, h4⟩
theorem Sl.but {S : Nat → Prop} {W W' : World} {a : Option Addr} {c : Nat} {l : List Nat} (h : Sl W a c l) (hb : But S W W') (hn : ∀ x, a = some x → ¬ S x.block) : Sl W' a c l := by
  obtain ⟨⟨g, e, hr⟩, h2, h3, h4⟩ := h
  exact ⟨⟨g, e, rowIs_but hr hb (hn _ e)⟩, h2, h3, h4⟩
theorem Sl.rw' {W : World} {a : Option Addr} {c : Nat} {l : List Nat} (h : Sl W a c l) : Rw W a c l := by
  obtain ⟨⟨g, rfl, cs, hg, hs, hc⟩, rfl, h3, h4⟩ := h
  refine Rw.mk hg (by omega) (by unfold maxLen; omega) hs ?_
  apply List.ext_getElem?
  intro i
  rw [List.getElem?_take]
  by_cases hi : i < l.length
  · rw [if_pos hi, vb_get l i hi]
    have := hc i (by omega)
    rw [Array.getElem?_toList, this]
    unfold spF
    rw [if_pos hi]
  · rw [if_neg hi]
    symm
    rw [List.getElem?_eq_none_iff, vb_length]
    omega
theorem Sl.bs {W : World} {a : Option Addr} {c : Nat} {l : List Nat} (h : Sl W a c l) : Bs W a l := h.rw'.bs h.l8 h.rw'.len_le
/-- Spare, its block a letter -/
theorem Spare_at (w : World) (aa : Option Addr) (n capa : Nat) (l : List Nat) (hB : Bs w aa l) (hn : n = l.length) (hlen : l.length ≤ 1048576) :
    Calls Try.prog 31 #[.slice aa n capa] w fun x w' => ∃ g, x = .returned (.slice (some ⟨g, 0, none⟩) l.length (l.length + 64)) ∧ w'.rowIs g 5 (l.length + 64) (spF l) ∧ w.heap.size ≤ g ∧ g < w'.heap.size ∧ Below w.heap.size w w' :=
  (Spare_any w aa n capa l hB hn (by omega)).mono fun _ _ ⟨h1, h2, h3⟩ => ⟨w.heap.size, h1, h2, Nat.le_refl _, h2.lt, h3⟩
/-- a range that spareRange made -/
structure Sr (w W : World) (q r : Rv) : Prop where
  e : q.rg = r.rg
  l : Sl W q.aL q.cL q.lo
  h : Sl W q.aH q.cH q.hi
  nl : New w none q.aL
  nh : New w none q.aH
  ap : ∀ x y, q.aL = some x → q.aH = some y → x.block ≠ y.block
  b : Below w.heap.size w W
theorem Sr.keep {w W W' : World} {q r : Rv} (h : Sr w W q r) (hb : Below W.heap.size W W') : Sr w W' q r := ⟨h.e, h.l.keep hb, h.h.keep hb, h.nl, h.nh, h.ap, bt h.b hb⟩
theorem Sr.pre {w w0 W : World} {q r : Rv} (hb : Below w.heap.size w w0) (h : Sr w0 W q r) : Sr w W q r := ⟨h.e, h.l, h.h, h.nl.mono hb.size, h.nh.mono hb.size, h.ap, bt hb h.b⟩
theorem Sr.ro {w W : World} {q r : Rv} (h : Sr w W q r) : Ro w W q := ⟨⟨h.l.rw', h.nl, h.b⟩, ⟨h.h.rw', h.nh, h.b⟩, h.ap, h.l.l8, h.h.l8⟩
set_option maxHeartbeats 3200000 in
theorem gspareRange_any (w : World) (r : Rv) (hR : Ri w r) (hl : r.lo.length ≤ 1048576) (hh : r.hi.length ≤ 1048576) :
    Calls Try.prog 32 #[r.val] w fun e w' => ∃ q : Rv, e = .returned q.val ∧ Sr w w' q r := by
  have S1 := hide fun w1 (hb : Below w.heap.size w w1) => Spare_at w1 r.aL r.lo.length r.cL r.lo (hR.bl.keep hb) rfl hl
  have S2 := hide fun w1 (hb : Below w.heap.size w w1) => Spare_at w1 r.aH r.hi.length r.cH r.hi (hR.bh.keep hb) rfl hh
  have L8 := hide hR.bl.1
  have H8 := hide hR.bh.1
  clear hR
  unfold Rv.val
  obtain ⟨aL, cL, lo, aH, cH, hi, op⟩ := r
  dsimp only [Rv.cs] at *
  go_enter Try.func32, Try.ntmps32
  go_wp2
  have T0 : Hid (Below ((w.alloc (.cells #[.slice aL lo.length cL, .slice aH hi.length cH, .bool op] 26)).alloc (.cells #[.slice none 0 0, .slice none 0 0, .bool false] 26)).heap.size ((w.alloc (.cells #[.slice aL lo.length cL, .slice aH hi.length cH, .bool op] 26)).alloc (.cells #[.slice none 0 0, .slice none 0 0, .bool false] 26)) ((w.alloc (.cells #[.slice aL lo.length cL, .slice aH hi.length cH, .bool op] 26)).alloc (.cells #[.slice none 0 0, .slice none 0 0, .bool false] 26)).drew) := (Below.refl _ _).drew
  have C0 := row3_cells (two_blocks w _ _ T0.out).1
  have hn : w.heap.size + 1 ≠ w.heap.size := by omega
  go_region_held3 (fun w' => w'.cell? ⟨w.heap.size, 0, none⟩ = some (.slice aL lo.length cL) ∧ w'.cell? ⟨w.heap.size, 1, none⟩ = some (.slice aH hi.length cH) ∧ w'.cell? ⟨w.heap.size, 2, none⟩ = some (.bool op))
    (first | with_reducible exact C0 | with_reducible exact three_set C0 hn _ _ _)
    (first | (go_at_call 31; with_reducible refine (S1.out _ (two_blocks w _ _ T0.out).2.2.1).mono ?_; rintro e w1 ⟨g1, rfl, hr1, hn1, hl1, hb1⟩; have Z1 := hide (Nat.le_trans (two_blocks w _ _ T0.out).2.2.2 hn1); have T0 := hide (bt T0.out hb1); have C0 := row3_cells (two_blocks w _ _ T0.out).1; have R1 := hide hr1; have L1 := hide hl1; clear hb1 hr1 hn1 hl1) | (go_at_call 31; with_reducible refine (S2.out _ (two_blocks w _ _ T0.out).2.2.1).mono ?_; rintro e w2 ⟨g2, rfl, hr2, hn2, hl2, hb2⟩; have Z2 := hide (Nat.lt_of_lt_of_le L1.out hn2); have T0 := hide (bt T0.out hb2); have C0 := row3_cells (two_blocks w _ _ T0.out).1; obtain ⟨⟨y0, y1, y2⟩, y3, y4, y5⟩ := six (two_blocks w _ _ T0.out).2.1; have R1 := hide (rowIs_below R1.out hb2); have R2 := hide hr2; clear hb2 hr2 hn2 hl2))
  clear C0
  have M1 := hide (set3_heap (two_blocks w _ _ T0.out).2.1 (.slice (some ⟨g1, 0, none⟩) lo.length (lo.length + 64)) (.slice (some ⟨g2, 0, none⟩) hi.length (hi.length + 64)) (.bool op))
  have BB := hide ((But.refl (fun k => k = w.heap.size + 1) w2).set3 rfl (.slice (some ⟨g1, 0, none⟩) lo.length (lo.length + 64)) (.slice (some ⟨g2, 0, none⟩) hi.length (hi.length + 64)) (.bool op))
  have TB := hide (two_blocks w _ _ T0.out).2.2.1
  clear y0 y1 y2 y3 y4 y5 T0
  go_wp2
  refine bodyPost_ret (v := .agg _) (results_cell_row Try.results32 _ _ (w.heap.size + 1) 26 _ (0, 0) _ rfl M1.out Try.underlying26 rfl sizeRange) rfl ?_
  have bel : Below w.heap.size w _ := ((But.ofBelow (S := fun k => k = w.heap.size + 1) TB.out).trans BB.out fun _ _ e => e).below fun k hk e => by omega
  have n1 := Z1.out
  have n2 := Z2.out
  refine ⟨⟨some ⟨g1, 0, none⟩, lo.length + 64, lo, some ⟨g2, 0, none⟩, hi.length + 64, hi, op⟩, rfl, rfl, ⟨⟨g1, rfl, rowIs_but R1.out BB.out (by omega)⟩, rfl, hl, L8.out⟩, ⟨⟨g2, rfl, rowIs_but R2.out BB.out (by omega)⟩, rfl, hh, H8.out⟩, newHere w _ (by omega), newHere w _ (by omega), ?_, bel⟩
  intro x y hx hy
  cases hx
  cases hy
  show g1 ≠ g2
  omega
set_option maxHeartbeats 3200000 in
theorem gkeptRange_any (w : World) (q r : Rv) (hL : Sl w q.aL q.cL q.lo) (hH : Sl w q.aH q.cH q.hi) (hR : Ri w r) (he : q.rg = r.rg) :
    Calls Try.prog 47 #[q.val, r.val] w fun e w' => e = .returned (.bool true) ∧ Below w.heap.size w w' := by
  obtain ⟨aL, cL, lo, aH, cH, hi, op⟩ := q
  obtain ⟨bL, dL, ko, bH, dH, ki, oq⟩ := r
  simp only [Rv.rg, Rg.mk.injEq] at he
  obtain ⟨rfl, rfl, rfl⟩ := he
  obtain ⟨⟨g, e1, hr⟩, e2, hn, h8⟩ := hL
  obtain ⟨⟨k, e3, hk⟩, e4, hm, m8⟩ := hH
  dsimp only at e1 e2 e3 e4 hn hm hr hk h8 m8
  subst e1 e2 e3 e4
  have K1 := hide fun w1 (hb : Below w.heap.size w w1) => Kept_any w1 g (lo.length + 64) bL lo.length lo.length dL lo (rowIs_below hr hb) (hR.bl.keep hb) rfl rfl rfl (by omega)
  have K2 := hide fun w1 (hb : Below w.heap.size w w1) => Kept_any w1 k (hi.length + 64) bH hi.length hi.length dH hi (rowIs_below hk hb) (hR.bh.keep hb) rfl rfl rfl (by omega)
  clear hr hk hR h8 m8
  unfold Rv.val
  dsimp only [Rv.cs]
  go_enter Try.func47, Try.ntmps47
  go_wp2_with fail
  refine (K1.out _ (bt (al _ _) (al _ _))).mono ?_
  rintro e w1 ⟨rfl, hb⟩
  obtain ⟨m0, m1, hb1, hs1⟩ := two_blocks _ _ _ hb
  obtain ⟨k0, k1, k2⟩ := row3_cells m0
  obtain ⟨j0, j1, j2⟩ := row3_cells m1
  have T1 := hide hb1
  clear hb hb1 m0 m1 hs1
  go_wp2_with fail
  refine (K2.out _ T1.out).mono ?_
  rintro e w2 ⟨rfl, hb⟩
  have T2 := hide (bt T1.out hb)
  clear hb k0 k1 k2 j0 j1 j2
  go_wp2
  go_ret
  exact ⟨by simp, T2.out⟩
end Go.Proofs.Ytbobnfjbbablkaa
