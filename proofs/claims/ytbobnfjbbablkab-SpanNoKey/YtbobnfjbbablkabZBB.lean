import Derived.Test.YtbobnfjbbablkabZBA
namespace Go.Proofs.Ytbobnfjbbablkab
open Go.RowKit

theorem form_isSome (r : Rg) : (form r).isSome = has r (least r.lo) := by
  unfold form
  cases h : has r (least r.lo) <;> simp
set_option maxHeartbeats 1600000 in
theorem eEmpty_any (w : World) (r : Rv) (hR : Ri w r) :
    Calls Try.prog 8 #[r.val] w fun e w' => e = .returned (.bool (!has r.rg (least r.lo))) ∧ Below w.heap.size w w' := by
  have E := hide fun w1 (hb : Below w.heap.size w w1) => eends_any w1 r (hR.keep hb)
  have hs := form_isSome r.rg
  clear hR
  rw [show has r.rg (least r.lo) = (form r.rg).isSome from hs.symm]
  clear hs
  unfold Rv.val Rv.cs at *
  generalize form r.rg = f at *
  go_enter Try.func8, Try.ntmps8
  go_wp2_with fail
  refine (E.out _ (al _ _)).mono ?_
  rintro e w1 ⟨a1, c1, a2, c2, rfl, _, _, _, _, hb⟩
  have HB1 := hide (bt (al _ _) hb)
  clear hb
  go_wp2
  go_ret
  exact ⟨by cases f <;> rfl, HB1.out⟩
theorem ends_eq {f g : Option Fm} (hf : f.isSome = true) (hg : g.isSome = true) : decide (f = g) = (decide (endL f = endL g) && decide (endH f = endH g)) := by
  obtain ⟨x, rfl⟩ := Option.isSome_iff_exists.1 hf
  obtain ⟨y, rfl⟩ := Option.isSome_iff_exists.1 hg
  rw [← Bool.decide_and, decide_eq_decide]
  unfold endL endH
  simp only [Option.some.injEq]
  exact Prod.ext_iff
theorem ends_ne {f g : Option Fm} (h : f.isSome = false ∨ g.isSome = false) : decide (f = g) = (f.isSome == g.isSome) := by
  cases f <;> cases g <;> simp_all
set_option maxHeartbeats 3200000 in
theorem eEqual_any (w : World) (r s : Rv) (hR : Ri w r) (hS : Ri w s) :
    Calls Try.prog 10 #[r.val, s.val] w fun e w' => e = .returned (.bool (decide (form r.rg = form s.rg))) ∧ Below w.heap.size w w' := by
  have E1 := hide fun w1 (hb : Below w.heap.size w w1) => eends_any w1 r (hR.keep hb)
  have E2 := hide fun w1 (hb : Below w.heap.size w w1) => eends_any w1 s (hS.keep hb)
  clear hR hS
  unfold Rv.val Rv.cs at *
  generalize form r.rg = f at *
  generalize form s.rg = g at *
  by_cases hh : f.isSome = false ∨ g.isSome = false
  · rw [ends_ne hh]
    generalize f.isSome = p at *
    generalize g.isSome = q at *
    have main : p = false ∨ p = true ∧ q = false := by
      rcases hh with h | h
      · exact .inl h
      · cases p
        · exact .inl rfl
        · exact .inr ⟨rfl, h⟩
    clear hh
    rcases main with rfl | ⟨rfl, rfl⟩
    · go_enter Try.func10, Try.ntmps10
      go_wp2_with fail
      refine (E1.out _ (bt (al _ _) (al _ _))).mono ?_
      rintro e w1 ⟨a1, c1, a2, c2, rfl, b1, b2, _, _, hb⟩
      obtain ⟨m0, m1, hb1, hs1⟩ := two_blocks _ _ _ hb
      obtain ⟨k0, k1, k2⟩ := row3_cells m1
      have HB1 := hide hb1
      clear hb hb1 m0 m1 b1 b2
      go_wp2_with fail
      refine (E2.out _ HB1.out).mono ?_
      rintro e w2 ⟨a3, c3, a4, c4, rfl, b3, b4, _, _, hb⟩
      have HB2 := hide (bt HB1.out hb)
      clear hb b3 b4
      go_wp2
      go_ret
      exact ⟨by cases q <;> rfl, HB2.out⟩
    · go_enter Try.func10, Try.ntmps10
      go_wp2_with fail
      refine (E1.out _ (bt (al _ _) (al _ _))).mono ?_
      rintro e w1 ⟨a1, c1, a2, c2, rfl, b1, b2, _, _, hb⟩
      obtain ⟨m0, m1, hb1, hs1⟩ := two_blocks _ _ _ hb
      obtain ⟨k0, k1, k2⟩ := row3_cells m1
      have HB1 := hide hb1
      clear hb hb1 m0 m1 b1 b2
      go_wp2_with fail
      refine (E2.out _ HB1.out).mono ?_
      rintro e w2 ⟨a3, c3, a4, c4, rfl, b3, b4, _, _, hb⟩
      have HB2 := hide (bt HB1.out hb)
      clear hb b3 b4
      go_wp2
      go_ret
      exact ⟨rfl, HB2.out⟩
  · have hf : f.isSome = true := by
      cases h : f.isSome
      · exact absurd (.inl h) hh
      · rfl
    have hg : g.isSome = true := by
      cases h : g.isSome
      · exact absurd (.inr h) hh
      · rfl
    rw [ends_eq hf hg]
    rw [hf] at E1
    rw [hg] at E2
    clear hh hf hg
    generalize endL f = x1 at *
    generalize endH f = x2 at *
    generalize endL g = y1 at *
    generalize endH g = y2 at *
    cases hx : decide (x1 = y1) with
    | false =>
      go_enter Try.func10, Try.ntmps10
      go_wp2_with fail
      refine (E1.out _ (bt (al _ _) (al _ _))).mono ?_
      rintro e w1 ⟨a1, c1, a2, c2, rfl, b1, b2, _, _, hb⟩
      obtain ⟨m0, m1, hb1, hs1⟩ := two_blocks _ _ _ hb
      obtain ⟨k0, k1, k2⟩ := row3_cells m1
      have HB1 := hide hb1
      have B1 := hide b1
      clear hb hb1 m0 m1 b1 b2
      go_wp2_with fail
      refine (E2.out _ HB1.out).mono ?_
      rintro e w2 ⟨a3, c3, a4, c4, rfl, b3, b4, _, _, hb⟩
      have HB2 := hide (bt HB1.out hb)
      have EQ := hide (EqBytes_any w2 a1 a3 x1.length y1.length c1 c3 x1 y1 (B1.out.keep hb) b3 rfl rfl)
      rw [hx] at EQ
      clear hb b3 b4 hx
      go_wp2_with fail
      refine EQ.out.mono ?_
      rintro e w3 ⟨rfl, hb⟩
      have HB3 := hide (bt HB2.out hb)
      clear hb
      go_wp2
      go_ret
      exact ⟨rfl, HB3.out⟩
    | true =>
      go_enter Try.func10, Try.ntmps10
      go_wp2_with fail
      refine (E1.out _ (bt (al _ _) (al _ _))).mono ?_
      rintro e w1 ⟨a1, c1, a2, c2, rfl, b1, b2, _, _, hb⟩
      obtain ⟨m0, m1, hb1, hs1⟩ := two_blocks _ _ _ hb
      obtain ⟨k0, k1, k2⟩ := row3_cells m1
      have HB1 := hide hb1
      have B1 := hide b1
      have B2 := hide b2
      clear hb hb1 m0 m1 b1 b2
      go_wp2_with fail
      refine (E2.out _ HB1.out).mono ?_
      rintro e w2 ⟨a3, c3, a4, c4, rfl, b3, b4, _, _, hb⟩
      have HB2 := hide (bt HB1.out hb)
      have EQ := hide (EqBytes_any w2 a1 a3 x1.length y1.length c1 c3 x1 y1 (B1.out.keep hb) b3 rfl rfl)
      have EQ2 := hide fun w3 (hb3 : Below w2.heap.size w2 w3) => EqBytes_any w3 a2 a4 x2.length y2.length c2 c4 x2 y2 ((B2.out.keep hb).keep hb3) (b4.keep hb3) rfl rfl
      rw [hx] at EQ
      clear hb b3 b4 hx
      go_wp2_with fail
      refine EQ.out.mono ?_
      rintro e w3 ⟨rfl, hb⟩
      have HB3 := hide (bt HB2.out hb)
      have HB23 := hide hb
      clear hb
      go_wp2_with fail
      refine (EQ2.out _ HB23.out).mono ?_
      rintro e w4 ⟨rfl, hb⟩
      have HB4 := hide (bt HB3.out hb)
      clear hb
      go_wp2
      go_ret
      exact ⟨rfl, HB4.out⟩
theorem drew1 (w : World) : Below w.heap.size w w.drew := (Below.refl _ _).drew
theorem s6_keep {w w' : World} {g k : Nat} {a b c x y z : Value} (h : (w.cell? ⟨g, 0, none⟩ = some a ∧ w.cell? ⟨g, 1, none⟩ = some b ∧ w.cell? ⟨g, 2, none⟩ = some c) ∧ w.cell? ⟨k, 0, none⟩ = some x ∧ w.cell? ⟨k, 1, none⟩ = some y ∧ w.cell? ⟨k, 2, none⟩ = some z) (hb : Below w.heap.size w w') : (w'.cell? ⟨g, 0, none⟩ = some a ∧ w'.cell? ⟨g, 1, none⟩ = some b ∧ w'.cell? ⟨g, 2, none⟩ = some c) ∧ w'.cell? ⟨k, 0, none⟩ = some x ∧ w'.cell? ⟨k, 1, none⟩ = some y ∧ w'.cell? ⟨k, 2, none⟩ = some z := ⟨three_keep h.1 hb, three_keep h.2 hb⟩
set_option maxRecDepth 100000 in
set_option maxHeartbeats 3200000 in
theorem spanEmptyEqual_any (w : World) (r : Rv) (hR : Ri w r) (_ : Rb' r) (s : Rv) (hS : Ri w s) (_ : Rb' s) :
    Calls Try.prog 3 #[.agg r.cs, .agg s.cs] w fun e w' => e = .returned (.bool true) ∧ Below w.heap.size w w' := by
  have FX := hide fixed_any
  have M1 := hide fun w1 (hb : Below w.heap.size w w1) => Empty_any w1 r (hR.keep hb)
  have M2 := hide fun w1 (hb : Below w.heap.size w w1) => eEmpty_any w1 r (hR.keep hb)
  have Q1 := hide fun w1 (hb : Below w.heap.size w w1) => Equal_any w1 r s (hR.keep hb) (hS.keep hb)
  have Q2 := hide fun w1 (hb : Below w.heap.size w w1) => eEqual_any w1 r s (hR.keep hb) (hS.keep hb)
  have Q3 := hide fun w1 (hb : Below w.heap.size w w1) => Equal_any w1 r r (hR.keep hb) (hR.keep hb)
  have hdd : decide (form r.rg = form r.rg) = true := decide_eq_true rfl
  rw [hdd] at Q3
  clear hR hS hdd
  generalize (!has r.rg (least r.lo)) = p at *
  generalize decide (form r.rg = form s.rg) = q at *
  unfold Rv.val at *
  unfold Rv.cs at *
  have hpp : (p == p) = true := by simp
  have hqq : (q == q) = true := by simp
  go_enter Try.func3, Try.ntmps3
  go_wp2
  obtain ⟨m0, m1, hb1, hs1⟩ := two_blocks w (.cells #[.slice r.aL r.lo.length r.cL, .slice r.aH r.hi.length r.cH, .bool r.op] 24) (.cells #[.slice s.aL s.lo.length s.cL, .slice s.aH s.hi.length s.cH, .bool s.op] 24) (drew1 _)
  have S1 := And.intro (row3_cells m0) (row3_cells m1)
  have T1 := hide hb1
  clear m0 m1 hb1 hs1
  go_region_held3 (fun w' => (w'.cell? ⟨w.heap.size, 0, none⟩ = some (.slice r.aL r.lo.length r.cL) ∧ w'.cell? ⟨w.heap.size, 1, none⟩ = some (.slice r.aH r.hi.length r.cH) ∧ w'.cell? ⟨w.heap.size, 2, none⟩ = some (.bool r.op)) ∧ w'.cell? ⟨w.heap.size + 1, 0, none⟩ = some (.slice s.aL s.lo.length s.cL) ∧ w'.cell? ⟨w.heap.size + 1, 1, none⟩ = some (.slice s.aH s.hi.length s.cH) ∧ w'.cell? ⟨w.heap.size + 1, 2, none⟩ = some (.bool s.op))
    (with_reducible exact S1)
    (first | (go_at_call 6; refine (FX.out _).mono ?_; rintro e w9 ⟨rfl, hb⟩; have S1 := s6_keep S1 hb; have T1 := hide (bt T1.out hb); clear hb) | (go_at_call 7; with_reducible refine (M1.out _ T1.out).mono ?_; rintro e w9 ⟨rfl, hb⟩; have S1 := s6_keep S1 hb; have T1 := hide (bt T1.out hb); clear hb) | (go_at_call 8; with_reducible refine (M2.out _ T1.out).mono ?_; rintro e w9 ⟨rfl, hb⟩; have S1 := s6_keep S1 hb; have T1 := hide (bt T1.out hb); clear hb) | (go_at_call 9; with_reducible refine (Q1.out _ T1.out).mono ?_; rintro e w9 ⟨rfl, hb⟩; have S1 := s6_keep S1 hb; have T1 := hide (bt T1.out hb); clear hb) | (go_at_call 10; with_reducible refine (Q2.out _ T1.out).mono ?_; rintro e w9 ⟨rfl, hb⟩; have S1 := s6_keep S1 hb; have T1 := hide (bt T1.out hb); clear hb) | (go_at_call 9; with_reducible refine (Q3.out _ T1.out).mono ?_; rintro e w9 ⟨rfl, hb⟩; have S1 := s6_keep S1 hb; have T1 := hide (bt T1.out hb); clear hb))
  go_wp2
  go_ret
  exact ⟨by simp, T1.out⟩
end Go.Proofs.Ytbobnfjbbablkab
