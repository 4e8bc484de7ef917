import Derived.Test.YtbobnfjbbablkabZBB
import Derived.Test.YtbobnfjbbablkabZBDA
namespace Go.Proofs.Ytbobnfjbbablkab
open Go.RowKit

theorem beq_cast (a b : Nat) : ((((a : Nat) : Int)) == ((b : Nat) : Int)) = decide (a = b) := by
  rw [Bool.eq_iff_iff]; simp; omega
theorem heap2a (w : World) (o p : Obj) : ((w.alloc o).alloc p).heap[w.heap.size]? = some o := by
  rw [heap_alloc_old _ _ (by rw [size_alloc]; omega)]; exact heap_alloc_new _ _
theorem heap2b (w : World) (o p : Obj) (cs : Array Value) : (((w.alloc o).alloc p).setRow w.heap.size cs).heap[w.heap.size + 1]? = some p := by
  rw [setRow_other _ _ _ _ (by omega)]
  have := heap_alloc_new (w.alloc o) p; rw [size_alloc] at this; exact this
structure Vf (w W : World) (g : Nat) (a b c x y z : Value) (qa qb : Rv) : Prop where
  bel : Below w.heap.size w W
  six : (W.cell? ⟨w.heap.size, 0, none⟩ = some a ∧ W.cell? ⟨w.heap.size, 1, none⟩ = some b ∧ W.cell? ⟨w.heap.size, 2, none⟩ = some c) ∧ W.cell? ⟨w.heap.size + 1, 0, none⟩ = some x ∧ W.cell? ⟨w.heap.size + 1, 1, none⟩ = some y ∧ W.cell? ⟨w.heap.size + 1, 2, none⟩ = some z
  l : W.cell? ⟨g, 0, none⟩ = some (.slice qa.aL qa.lo.length qa.cL) ∧ W.cell? ⟨g, 1, none⟩ = some (.slice qa.aH qa.hi.length qa.cH) ∧ W.cell? ⟨g, 2, none⟩ = some (.bool qa.op)
  h : W.cell? ⟨g + 1, 0, none⟩ = some (.slice qb.aL qb.lo.length qb.cL) ∧ W.cell? ⟨g + 1, 1, none⟩ = some (.slice qb.aH qb.hi.length qb.cH) ∧ W.cell? ⟨g + 1, 2, none⟩ = some (.bool qb.op)
  ia : Ri W qa
  ib : Ri W qb
theorem low_high {w w5 : World} {a b c x y z : Value} {qa qb : Rv} (S : (w5.cell? ⟨w.heap.size, 0, none⟩ = some a ∧ w5.cell? ⟨w.heap.size, 1, none⟩ = some b ∧ w5.cell? ⟨w.heap.size, 2, none⟩ = some c) ∧ w5.cell? ⟨w.heap.size + 1, 0, none⟩ = some x ∧ w5.cell? ⟨w.heap.size + 1, 1, none⟩ = some y ∧ w5.cell? ⟨w.heap.size + 1, 2, none⟩ = some z) (T : Below w.heap.size w w5) (ra : Ri w5 qa) (rb : Ri w5 qb) :
    Vf w ((((w5.alloc (.cells #[.slice none 0 0, .slice none 0 0, .bool false] 24)).alloc (.cells #[.slice none 0 0, .slice none 0 0, .bool false] 24)).setRow w5.heap.size qa.cs).setRow (w5.heap.size + 1) qb.cs) w5.heap.size a b c x y z qa qb := by
  have hb : Below w5.heap.size w5 ((((w5.alloc (.cells #[.slice none 0 0, .slice none 0 0, .bool false] 24)).alloc (.cells #[.slice none 0 0, .slice none 0 0, .bool false] 24)).setRow w5.heap.size qa.cs).setRow (w5.heap.size + 1) qb.cs) :=
    below_setRow (below_setRow (bt (al _ _) (al _ _)) (Nat.le_refl _) _) (by omega) _
  have ha := setRow_heap _ _ _ qa.cs _ _ (heap2a w5 (.cells #[.slice none 0 0, .slice none 0 0, .bool false] 24) (.cells #[.slice none 0 0, .slice none 0 0, .bool false] 24))
  refine ⟨bt T hb, s6_keep S hb, row3_cells (t := 24) ?_, row3_cells (t := 24) ?_, ra.keep hb, rb.keep hb⟩
  · rw [setRow_other _ _ _ _ (by omega)]
    exact ha
  · exact setRow_heap _ _ _ _ _ _ (heap2b w5 _ _ _)
theorem s9_keep {w w' : World} {g k j : Nat} {a b c x y z p q r : Value} (h : (w.cell? ⟨g, 0, none⟩ = some a ∧ w.cell? ⟨g, 1, none⟩ = some b ∧ w.cell? ⟨g, 2, none⟩ = some c) ∧ (w.cell? ⟨k, 0, none⟩ = some x ∧ w.cell? ⟨k, 1, none⟩ = some y ∧ w.cell? ⟨k, 2, none⟩ = some z) ∧ w.cell? ⟨j, 0, none⟩ = some p ∧ w.cell? ⟨j, 1, none⟩ = some q ∧ w.cell? ⟨j, 2, none⟩ = some r) (hb : Below w.heap.size w w') : (w'.cell? ⟨g, 0, none⟩ = some a ∧ w'.cell? ⟨g, 1, none⟩ = some b ∧ w'.cell? ⟨g, 2, none⟩ = some c) ∧ (w'.cell? ⟨k, 0, none⟩ = some x ∧ w'.cell? ⟨k, 1, none⟩ = some y ∧ w'.cell? ⟨k, 2, none⟩ = some z) ∧ w'.cell? ⟨j, 0, none⟩ = some p ∧ w'.cell? ⟨j, 1, none⟩ = some q ∧ w'.cell? ⟨j, 2, none⟩ = some r := ⟨three_keep h.1 hb, three_keep h.2.1 hb, three_keep h.2.2 hb⟩
set_option maxHeartbeats 3200000 in
theorem spanSets_N (w : World) (r : Rv) (hR : Ri w r) (s : Rv) (hS : Ri w s) (ax : Option Addr) (cx : Nat) (x : List Nat) (hX : Bs w ax x) (hk : isK x = false) :
    Calls Try.prog 5 #[.agg r.cs, .agg s.cs, .slice ax x.length cx] w fun e w' => e = .returned (.bool true) ∧ Below w.heap.size w w' := by
  have hv : ∀ q : Rg, has q x = false := fun q => by unfold has; rw [hk]; rfl
  have FX := hide fixed_any
  have HX := hide fun w1 (hb : Below w.heap.size w w1) => Has_any w1 r ax x.length cx x (hR.keep hb) (hX.keep hb) rfl
  have HY := hide fun w1 (hb : Below w.heap.size w w1) => Has_any w1 s ax x.length cx x (hS.keep hb) (hX.keep hb) rfl
  rw [hv] at HX HY
  have hl : ((x.length : Nat) : Int) < 1 ∨ (24 : Int) < ((x.length : Nat) : Int) := by
    by_cases h : 0 < x.length ∧ x.length ≤ 24
    · rw [isK_iff.2 h] at hk; cases hk
    · omega
  clear hR hS hX hk hv
  unfold Rv.val at *
  unfold Rv.cs at *
  by_cases x1 : ((x.length : Nat) : Int) < 1
  · clear hl
    go_enter Try.func5, Try.ntmps5
    go_wp2_with fail
    refine (FX.out _).mono ?_
    rintro e w1 ⟨rfl, hb⟩
    obtain ⟨m0, m1, hb1, hs1⟩ := two_blocks _ _ _ hb
    obtain ⟨⟨k0, k1, k2⟩, j0, j1, j2⟩ := And.intro (row3_cells m0) (row3_cells m1)
    have T1 := hide hb1
    clear hb hb1 m0 m1 hs1
    go_wp2_with fail
    refine (HX.out _ T1.out).mono ?_
    rintro e w2 ⟨rfl, hb⟩
    have S1 := s6_keep (And.intro (And.intro k0 (And.intro k1 k2)) (And.intro j0 (And.intro j1 j2))) hb
    have T1 := hide (bt T1.out hb)
    clear hb k0 k1 k2 j0 j1 j2
    obtain ⟨⟨k0, k1, k2⟩, j0, j1, j2⟩ := S1
    go_wp2_with fail
    refine (HY.out _ T1.out).mono ?_
    rintro e w3 ⟨rfl, hb⟩
    have T1 := hide (bt T1.out hb)
    clear hb k0 k1 k2 j0 j1 j2
    go_wp2
    go_ret
    exact ⟨by simp, T1.out⟩
  · have x2 : (24 : Int) < ((x.length : Nat) : Int) := by omega
    clear hl
    go_enter Try.func5, Try.ntmps5
    go_wp2_with fail
    refine (FX.out _).mono ?_
    rintro e w1 ⟨rfl, hb⟩
    obtain ⟨m0, m1, hb1, hs1⟩ := two_blocks _ _ _ hb
    obtain ⟨⟨k0, k1, k2⟩, j0, j1, j2⟩ := And.intro (row3_cells m0) (row3_cells m1)
    have T1 := hide hb1
    clear hb hb1 m0 m1 hs1
    go_wp2_with fail
    refine (HX.out _ T1.out).mono ?_
    rintro e w2 ⟨rfl, hb⟩
    have S1 := s6_keep (And.intro (And.intro k0 (And.intro k1 k2)) (And.intro j0 (And.intro j1 j2))) hb
    have T1 := hide (bt T1.out hb)
    clear hb k0 k1 k2 j0 j1 j2
    obtain ⟨⟨k0, k1, k2⟩, j0, j1, j2⟩ := S1
    go_wp2_with fail
    refine (HY.out _ T1.out).mono ?_
    rintro e w3 ⟨rfl, hb⟩
    have T1 := hide (bt T1.out hb)
    clear hb k0 k1 k2 j0 j1 j2
    go_wp2
    go_ret
    exact ⟨by simp, T1.out⟩
end Go.Proofs.Ytbobnfjbbablkab
