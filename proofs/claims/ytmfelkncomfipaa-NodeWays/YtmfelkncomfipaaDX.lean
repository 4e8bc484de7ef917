import Derived.Test.YtmfelkncomfipaaDV
import Derived.Test.YtmfelkncomfipaaDC
namespace Go.Proofs.Ytmfelkncomfipaa
set_option linter.unusedVariables false
set_option linter.unusedSimpArgs false
open Go.RowKit
/-! ### do neighbours fit? -/
def Fit (l r : Pg) (s : List Nat) : Prop := l.check = 0 ∧ r.check = 0 ∧ l.kind = r.kind ∧ l.level = r.level ∧ l.kind ≠ 3 ∧ 1 ≤ s.length ∧ s.length ≤ 24 ∧ (l.at (l.items.length - 1)).key < s ∧ (if l.kind = 1 then s ≤ (r.at 0).key else s < (r.at 1).key)
theorem Sound.two {p : Pg} (h : Sound p) (h3 : p.kind ≠ 3) : 1 ≤ p.items.length ∧ p.items.length ≤ 8 ∧ (p.kind ≠ 1 → 2 ≤ p.items.length) ∧ (p.kind = 1 ∨ p.kind = 2) := by
  have k := Pg.kindOk_iff.1 h.k
  have f := h.f
  unfold Pg.form at f
  rw [if_neg h3] at f
  by_cases h1 : p.kind = 1
  · rw [if_pos h1] at f
    simp at f
    exact ⟨f.2.2, f.1.2, fun h => absurd h1 h, .inl h1⟩
  · rw [if_neg h1] at f
    simp at f
    exact ⟨by omega, f.1.2, fun _ => f.2.2, by omega⟩
set_option maxHeartbeats 16000000 in
set_option maxRecDepth 8000 in
theorem fits_any (w : World) (l r : Pv) (aS : Option Addr) (cs : Nat) (s : List Nat) (hl : Pi w l) (hr : Pi w r) (hB : Bs w aS s) (hsl : s.length ≤ 140737488355328) :
    Calls Try.prog 16 #[l.vl, r.vl, .slice aS s.length cs] w fun e w' => ∃ b : Bool, e = .returned (.bool b) ∧ (b = true ↔ Fit l.pg r.pg s) ∧ Below w.heap.size w w' := by
  have K1 := hide fun (W : World) (hb : Below w.heap.size w W) => iCheck_any W l (hl.keep hb)
  have K2 := hide fun (W : World) (hb : Below w.heap.size w W) => iCheck_any W r (hr.keep hb)
  have J1 := hide hl.it
  have J2 := hide hr.it
  have BB := hide hB
  have hL1 := hl.it.2.1
  have hL2 := hr.it.2.1
  have FD : Hid (Fit l.pg r.pg s ↔ l.pg.check = 0 ∧ r.pg.check = 0 ∧ l.kind = r.kind ∧ l.level = r.level ∧ l.kind ≠ 3 ∧ 1 ≤ s.length ∧ s.length ≤ 24 ∧ (l.items.getD (l.items.length - 1) Iv.zero).key < s ∧ (if l.kind = 1 then s ≤ (r.items.getD 0 Iv.zero).key else s < (r.items.getD 1 Iv.zero).key)) := by
    show _ ↔ _
    unfold Fit
    rw [Pv.at, Pv.at, Pv.at, show l.pg.items.length = l.items.length from List.length_map _]
    exact Iff.rfl
  have TW1 := hide fun (h : l.pg.check = 0) (h3 : l.kind ≠ 3) => Sound.two (Pg.check_zero.1 h) h3
  have TW2 := hide fun (h : r.pg.check = 0) (h3 : r.kind ≠ 3) => Sound.two (Pg.check_zero.1 h) h3
  obtain ⟨F, hF⟩ : ∃ F, Fit l.pg r.pg s = F := ⟨_, rfl⟩
  rw [hF] at FD ⊢
  clear hF hl hr hB
  obtain ⟨kind, level, aI, cI, L, aD, cD, data, next⟩ := l
  obtain ⟨kind2, level2, aI2, cI2, L2, aD2, cD2, data2, next2⟩ := r
  unfold Pv.vl at *
  simp only [Pv.cs] at *
  generalize Pg.check (Pv.pg ⟨kind, level, aI, cI, L, aD, cD, data, next⟩) = c1 at *
  generalize Pg.check (Pv.pg ⟨kind2, level2, aI2, cI2, L2, aD2, cD2, data2, next2⟩) = c2 at *
  have TA1 : Hid (c1 = 0 → kind ≠ 3 → 1 ≤ L.length ∧ (kind ≠ 1 → 2 ≤ L.length) ∧ (kind = 1 ∨ kind = 2)) := fun h h3 => by
    have k := TW1.out h h3
    simp only [Pv.pg, List.length_map] at k
    exact ⟨k.1, k.2.2.1, k.2.2.2⟩
  have TA2 : Hid (c2 = 0 → kind2 ≠ 3 → 1 ≤ L2.length ∧ (kind2 ≠ 1 → 2 ≤ L2.length) ∧ (kind2 = 1 ∨ kind2 = 2)) := fun h h3 => by
    have k := TW2.out h h3
    simp only [Pv.pg, List.length_map] at k
    exact ⟨k.1, k.2.2.1, k.2.2.2⟩
  clear TW1 TW2
  obtain ⟨m, hm⟩ : ∃ m, L.length = m := ⟨_, rfl⟩
  obtain ⟨m2, hm2⟩ : ∃ m2, L2.length = m2 := ⟨_, rfl⟩
  have HM := hide hm
  have HM2 := hide hm2
  simp only [hm, hm2] at K1 K2 hL1 hL2 FD TA1 TA2 ⊢
  clear hm hm2
  have U := hide fun (cs1 cs2 : Array Value) => two_blocks w (.cells cs1 25) (.cells cs2 25) (Below.refl _ _)
  obtain ⟨ns, hns⟩ : ∃ ns, s.length = ns := ⟨_, rfl⟩
  have HNS := hide hns
  rw [hns] at hsl FD ⊢
  clear hns
  by_cases h1 : c1 = 0
  · by_cases h2 : c2 = 0
    · subst h1 h2
      by_cases h3 : kind = kind2
      · subst h3
        by_cases h4 : level = level2
        · subst h4
          by_cases h5 : kind = 3
          · subst h5
            go_enter Try.func16, Try.ntmps16
            go_wp2_with fail
            refine (K1.out _ (U.out _ _).2.2.1).mono ?_
            rintro _ w1 ⟨rfl, b1⟩
            have BP := hide (blk_keep (U.out _ _).1 b1)
            have BQ := hide (blk_keep (U.out _ _).2.1 b1)
            have B1 := hide (bt (U.out _ _).2.2.1 b1)
            clear b1
            obtain ⟨x0, x1, x2, x3, x4⟩ := cells5 BP.out
            obtain ⟨y0, y1, y2, y3, y4⟩ := cells5 BQ.out
            go_wp2_with fail
            refine (K2.out _ B1.out).mono ?_
            rintro _ w2 ⟨rfl, b2⟩
            replace BP := hide (blk_keep BP.out b2)
            replace BQ := hide (blk_keep BQ.out b2)
            have B2 := hide (bt B1.out b2)
            clear b2 x0 x1 x2 x3 x4 y0 y1 y2 y3 y4
            obtain ⟨x0, x1, x2, x3, x4⟩ := cells5 BP.out
            obtain ⟨y0, y1, y2, y3, y4⟩ := cells5 BQ.out
            go_wp2_with fail
            go_ret
            exact ⟨false, rfl, ⟨fun h => (by cases h), fun h => absurd (FD.out.1 h) (fun k => k.2.2.2.2.1 rfl)⟩, B2.out⟩
          · have h5b : (kind == 3) = false := by simpa using h5
            obtain ⟨t1, t2, t3⟩ := TA1.out rfl h5
            obtain ⟨t4, t5, t6⟩ := TA2.out rfl h5
            by_cases h6 : ns < 1
            · have h6b : decide ((ns : Int) < 1) = true := decide_eq_true (by omega)
              go_enter Try.func16, Try.ntmps16
              go_wp2_with fail
              refine (K1.out _ (U.out _ _).2.2.1).mono ?_
              rintro _ w1 ⟨rfl, b1⟩
              have BP := hide (blk_keep (U.out _ _).1 b1)
              have BQ := hide (blk_keep (U.out _ _).2.1 b1)
              have B1 := hide (bt (U.out _ _).2.2.1 b1)
              clear b1
              obtain ⟨x0, x1, x2, x3, x4⟩ := cells5 BP.out
              obtain ⟨y0, y1, y2, y3, y4⟩ := cells5 BQ.out
              go_wp2_with fail
              refine (K2.out _ B1.out).mono ?_
              rintro _ w2 ⟨rfl, b2⟩
              replace BP := hide (blk_keep BP.out b2)
              replace BQ := hide (blk_keep BQ.out b2)
              have B2 := hide (bt B1.out b2)
              clear b2 x0 x1 x2 x3 x4 y0 y1 y2 y3 y4
              obtain ⟨x0, x1, x2, x3, x4⟩ := cells5 BP.out
              obtain ⟨y0, y1, y2, y3, y4⟩ := cells5 BQ.out
              go_wp2_with fail
              go_ret
              exact ⟨false, rfl, ⟨fun h => (by cases h), fun h => absurd (FD.out.1 h) (fun k => by have := k.2.2.2.2.2.1; omega)⟩, B2.out⟩
            by_cases h7 : 24 < ns
            · have h6b : decide ((ns : Int) < 1) = false := decide_eq_false (by omega)
              have h7b : decide (24 < (ns : Int)) = true := decide_eq_true (by omega)
              go_enter Try.func16, Try.ntmps16
              go_wp2_with fail
              refine (K1.out _ (U.out _ _).2.2.1).mono ?_
              rintro _ w1 ⟨rfl, b1⟩
              have BP := hide (blk_keep (U.out _ _).1 b1)
              have BQ := hide (blk_keep (U.out _ _).2.1 b1)
              have B1 := hide (bt (U.out _ _).2.2.1 b1)
              clear b1
              obtain ⟨x0, x1, x2, x3, x4⟩ := cells5 BP.out
              obtain ⟨y0, y1, y2, y3, y4⟩ := cells5 BQ.out
              go_wp2_with fail
              refine (K2.out _ B1.out).mono ?_
              rintro _ w2 ⟨rfl, b2⟩
              replace BP := hide (blk_keep BP.out b2)
              replace BQ := hide (blk_keep BQ.out b2)
              have B2 := hide (bt B1.out b2)
              clear b2 x0 x1 x2 x3 x4 y0 y1 y2 y3 y4
              obtain ⟨x0, x1, x2, x3, x4⟩ := cells5 BP.out
              obtain ⟨y0, y1, y2, y3, y4⟩ := cells5 BQ.out
              go_wp2_with fail
              go_ret
              exact ⟨false, rfl, ⟨fun h => (by cases h), fun h => absurd (FD.out.1 h) (fun k => by have := k.2.2.2.2.2.2.1; omega)⟩, B2.out⟩
            have h6b : decide ((ns : Int) < 1) = false := decide_eq_false (by omega)
            have h7b : decide (24 < (ns : Int)) = false := decide_eq_false (by omega)
            have hmL : m - 1 < L.length := by rw [HM.out]; omega
            obtain ⟨p, rfl⟩ : ∃ p, m = p + 1 := ⟨m - 1, by omega⟩
            rw [Nat.add_sub_cancel] at hmL FD
            obtain ⟨bL, oL, rfl, rg⟩ := J1.out.at hmL
            have RG := hide fun (W : World) (hb : Below w.heap.size w W) => (range4 (range_below rg hb)).1
            have IL := hide (J1.out.1 _ (getD_memR hmL))
            have CC := hide fun (W : World) (hb : Below w.heap.size w W) => Compare_any W (L.getD p Iv.zero).aK aS (L.getD p Iv.zero).key.length ns (L.getD p Iv.zero).cK cs _ s (IL.out.bk.keep hb) (BB.out.keep hb) rfl HNS.out.symm
            clear rg hmL
            by_cases h8 : (L.getD p Iv.zero).key < s
            · rw [cmp_lt h8] at CC
              by_cases hk : kind = 1
              · subst hk
                have hm2I : (0 : Int) < (m2 : Int) := by omega
                rw [if_pos rfl] at FD
                have hml2 : 0 < L2.length := by rw [HM2.out]; omega
                obtain ⟨bR, oR, rfl, rg2⟩ := J2.out.at hml2
                have RG2 := hide fun (W : World) (hb : Below w.heap.size w W) => (range4 (range_below rg2 hb)).1
                have IR := hide (J2.out.1 _ (getD_memR hml2))
                have CD := hide fun (W : World) (hb : Below w.heap.size w W) => Compare_any W aS (L2.getD 0 Iv.zero).aK ns (L2.getD 0 Iv.zero).key.length cs (L2.getD 0 Iv.zero).cK s _ (BB.out.keep hb) (IR.out.bk.keep hb) HNS.out.symm rfl
                simp only [Nat.zero_mul, Nat.one_mul, Nat.add_zero] at RG2
                clear rg2 hml2
                have FE : Hid (F ↔ s ≤ (L2.getD 0 Iv.zero).key) := ⟨fun h => (FD.out.1 h).2.2.2.2.2.2.2.2, fun h => FD.out.2 ⟨rfl, rfl, rfl, rfl, h5, by omega, by omega, h8, h⟩⟩
                obtain ⟨z, hz, hzf⟩ : ∃ z, cmpB s (L2.getD 0 Iv.zero).key = z ∧ (decide (z ≤ 0) = true ↔ F) := ⟨_, rfl, by rw [decide_eq_true_iff, FE.out]; exact cmpB_le⟩
                rw [hz] at CD
                have HZF := hide hzf
                clear hz hzf FE FD IR IL h8 TA1 TA2 t1 t2 t3 t4 t5 t6 h6 h7
                generalize L.getD p Iv.zero = v at *
                generalize L2.getD 0 Iv.zero = u at *
                obtain ⟨aK, cK, key, aV, cV, val, child, size⟩ := v
                obtain ⟨aK2, cK2, key2, aV2, cV2, val2, child2, size2⟩ := u
                have hpI : (0 : Int) ≤ (p : Int) := by omega
                go_enter Try.func16, Try.ntmps16
                go_wp2_with fail
                refine (K1.out _ (U.out _ _).2.2.1).mono ?_
                rintro _ w1 ⟨rfl, b1⟩
                have BP := hide (blk_keep (U.out _ _).1 b1)
                have BQ := hide (blk_keep (U.out _ _).2.1 b1)
                have B1 := hide (bt (U.out _ _).2.2.1 b1)
                clear b1
                obtain ⟨x0, x1, x2, x3, x4⟩ := cells5 BP.out
                obtain ⟨y0, y1, y2, y3, y4⟩ := cells5 BQ.out
                go_wp2_with fail
                refine (K2.out _ B1.out).mono ?_
                rintro _ w2 ⟨rfl, b2⟩
                replace BP := hide (blk_keep BP.out b2)
                replace BQ := hide (blk_keep BQ.out b2)
                have B2 := hide (bt B1.out b2)
                clear b2 x0 x1 x2 x3 x4 y0 y1 y2 y3 y4
                obtain ⟨x0, x1, x2, x3, x4⟩ := cells5 BP.out
                obtain ⟨y0, y1, y2, y3, y4⟩ := cells5 BQ.out
                have rl := RG.out _ B2.out
                go_wp2_with fail
                refine (CC.out _ B2.out).mono ?_
                rintro _ w3 ⟨rfl, b3⟩
                replace BP := hide (blk_keep BP.out b3)
                replace BQ := hide (blk_keep BQ.out b3)
                have B3 := hide (bt B2.out b3)
                clear b3 x0 x1 x2 x3 x4 y0 y1 y2 y3 y4 rl
                obtain ⟨x0, x1, x2, x3, x4⟩ := cells5 BP.out
                obtain ⟨y0, y1, y2, y3, y4⟩ := cells5 BQ.out
                have rr := RG2.out _ B3.out
                go_wp2_with fail
                refine (CD.out _ B3.out).mono ?_
                rintro _ w4 ⟨rfl, b4⟩
                have B4 := hide (bt B3.out b4)
                clear b4 x0 x1 x2 x3 x4 y0 y1 y2 y3 y4 rr
                go_wp2_with fail
                go_ret
                exact ⟨_, rfl, HZF.out, B4.out⟩
              · obtain rfl : kind = 2 := by omega
                have h2m : 2 ≤ m2 := t5 (by decide)
                have hm2I : (1 : Int) < (m2 : Int) := by omega
                rw [if_neg (by decide)] at FD
                have hml2 : 1 < L2.length := by rw [HM2.out]; omega
                obtain ⟨bR, oR, rfl, rg2⟩ := J2.out.at hml2
                have RG2 := hide fun (W : World) (hb : Below w.heap.size w W) => (range4 (range_below rg2 hb)).1
                have IR := hide (J2.out.1 _ (getD_memR hml2))
                have CD := hide fun (W : World) (hb : Below w.heap.size w W) => Compare_any W aS (L2.getD 1 Iv.zero).aK ns (L2.getD 1 Iv.zero).key.length cs (L2.getD 1 Iv.zero).cK s _ (BB.out.keep hb) (IR.out.bk.keep hb) HNS.out.symm rfl
                simp only [Nat.zero_mul, Nat.one_mul, Nat.add_zero] at RG2
                clear rg2 hml2
                have FE : Hid (F ↔ s < (L2.getD 1 Iv.zero).key) := ⟨fun h => (FD.out.1 h).2.2.2.2.2.2.2.2, fun h => FD.out.2 ⟨rfl, rfl, rfl, rfl, h5, by omega, by omega, h8, h⟩⟩
                obtain ⟨z, hz, hzf⟩ : ∃ z, cmpB s (L2.getD 1 Iv.zero).key = z ∧ (decide (z < 0) = true ↔ F) := ⟨_, rfl, by rw [decide_eq_true_iff, FE.out]; exact cmpB_neg⟩
                rw [hz] at CD
                have HZF := hide hzf
                clear hz hzf FE FD IR IL h8 TA1 TA2 t1 t2 t3 t4 t5 t6 h6 h7
                generalize L.getD p Iv.zero = v at *
                generalize L2.getD 1 Iv.zero = u at *
                obtain ⟨aK, cK, key, aV, cV, val, child, size⟩ := v
                obtain ⟨aK2, cK2, key2, aV2, cV2, val2, child2, size2⟩ := u
                have hpI : (0 : Int) ≤ (p : Int) := by omega
                go_enter Try.func16, Try.ntmps16
                go_wp2_with fail
                refine (K1.out _ (U.out _ _).2.2.1).mono ?_
                rintro _ w1 ⟨rfl, b1⟩
                have BP := hide (blk_keep (U.out _ _).1 b1)
                have BQ := hide (blk_keep (U.out _ _).2.1 b1)
                have B1 := hide (bt (U.out _ _).2.2.1 b1)
                clear b1
                obtain ⟨x0, x1, x2, x3, x4⟩ := cells5 BP.out
                obtain ⟨y0, y1, y2, y3, y4⟩ := cells5 BQ.out
                go_wp2_with fail
                refine (K2.out _ B1.out).mono ?_
                rintro _ w2 ⟨rfl, b2⟩
                replace BP := hide (blk_keep BP.out b2)
                replace BQ := hide (blk_keep BQ.out b2)
                have B2 := hide (bt B1.out b2)
                clear b2 x0 x1 x2 x3 x4 y0 y1 y2 y3 y4
                obtain ⟨x0, x1, x2, x3, x4⟩ := cells5 BP.out
                obtain ⟨y0, y1, y2, y3, y4⟩ := cells5 BQ.out
                have rl := RG.out _ B2.out
                go_wp2_with fail
                refine (CC.out _ B2.out).mono ?_
                rintro _ w3 ⟨rfl, b3⟩
                replace BP := hide (blk_keep BP.out b3)
                replace BQ := hide (blk_keep BQ.out b3)
                have B3 := hide (bt B2.out b3)
                clear b3 x0 x1 x2 x3 x4 y0 y1 y2 y3 y4 rl
                obtain ⟨x0, x1, x2, x3, x4⟩ := cells5 BP.out
                obtain ⟨y0, y1, y2, y3, y4⟩ := cells5 BQ.out
                have rr := RG2.out _ B3.out
                go_wp2_with fail
                refine (CD.out _ B3.out).mono ?_
                rintro _ w4 ⟨rfl, b4⟩
                have B4 := hide (bt B3.out b4)
                clear b4 x0 x1 x2 x3 x4 y0 y1 y2 y3 y4 rr
                go_wp2_with fail
                go_ret
                exact ⟨_, rfl, HZF.out, B4.out⟩
            · obtain ⟨z, hz, hzf⟩ : ∃ z, cmpB (L.getD p Iv.zero).key s = z ∧ decide (0 ≤ z) = true := ⟨_, rfl, decide_eq_true (cmpB_ge.2 (List.not_lt.1 h8))⟩
              rw [hz] at CC
              have FN : Hid (¬ F) := fun h => h8 (FD.out.1 h).2.2.2.2.2.2.2.1
              clear hz h8 IL FD TA1 TA2 t1 t2 t3 t4 t5 t6 h6 h7
              generalize L.getD p Iv.zero = v at *
              obtain ⟨aK, cK, key, aV, cV, val, child, size⟩ := v
              have hpI : (0 : Int) ≤ (p : Int) := by omega
              go_enter Try.func16, Try.ntmps16
              go_wp2_with fail
              refine (K1.out _ (U.out _ _).2.2.1).mono ?_
              rintro _ w1 ⟨rfl, b1⟩
              have BP := hide (blk_keep (U.out _ _).1 b1)
              have BQ := hide (blk_keep (U.out _ _).2.1 b1)
              have B1 := hide (bt (U.out _ _).2.2.1 b1)
              clear b1
              obtain ⟨x0, x1, x2, x3, x4⟩ := cells5 BP.out
              obtain ⟨y0, y1, y2, y3, y4⟩ := cells5 BQ.out
              go_wp2_with fail
              refine (K2.out _ B1.out).mono ?_
              rintro _ w2 ⟨rfl, b2⟩
              replace BP := hide (blk_keep BP.out b2)
              replace BQ := hide (blk_keep BQ.out b2)
              have B2 := hide (bt B1.out b2)
              clear b2 x0 x1 x2 x3 x4 y0 y1 y2 y3 y4
              obtain ⟨x0, x1, x2, x3, x4⟩ := cells5 BP.out
              obtain ⟨y0, y1, y2, y3, y4⟩ := cells5 BQ.out
              have rl := RG.out _ B2.out
              go_wp2_with fail
              refine (CC.out _ B2.out).mono ?_
              rintro _ w3 ⟨rfl, b3⟩
              have B3 := hide (bt B2.out b3)
              clear b3 x0 x1 x2 x3 x4 y0 y1 y2 y3 y4 rl
              go_wp2_with fail
              go_ret
              exact ⟨false, rfl, ⟨fun h => (by cases h), fun h => absurd h FN.out⟩, B3.out⟩
        · have h4b : (level != level2) = true := by simpa using h4
          go_enter Try.func16, Try.ntmps16
          go_wp2_with fail
          refine (K1.out _ (U.out _ _).2.2.1).mono ?_
          rintro _ w1 ⟨rfl, b1⟩
          have BP := hide (blk_keep (U.out _ _).1 b1)
          have BQ := hide (blk_keep (U.out _ _).2.1 b1)
          have B1 := hide (bt (U.out _ _).2.2.1 b1)
          clear b1
          obtain ⟨x0, x1, x2, x3, x4⟩ := cells5 BP.out
          obtain ⟨y0, y1, y2, y3, y4⟩ := cells5 BQ.out
          go_wp2_with fail
          refine (K2.out _ B1.out).mono ?_
          rintro _ w2 ⟨rfl, b2⟩
          replace BP := hide (blk_keep BP.out b2)
          replace BQ := hide (blk_keep BQ.out b2)
          have B2 := hide (bt B1.out b2)
          clear b2 x0 x1 x2 x3 x4 y0 y1 y2 y3 y4
          obtain ⟨x0, x1, x2, x3, x4⟩ := cells5 BP.out
          obtain ⟨y0, y1, y2, y3, y4⟩ := cells5 BQ.out
          go_wp2_with fail
          go_ret
          exact ⟨false, rfl, ⟨fun h => (by cases h), fun h => absurd (FD.out.1 h) (fun k => h4 k.2.2.2.1)⟩, B2.out⟩
      · have h3b : (kind != kind2) = true := by simpa using h3
        go_enter Try.func16, Try.ntmps16
        go_wp2_with fail
        refine (K1.out _ (U.out _ _).2.2.1).mono ?_
        rintro _ w1 ⟨rfl, b1⟩
        have BP := hide (blk_keep (U.out _ _).1 b1)
        have BQ := hide (blk_keep (U.out _ _).2.1 b1)
        have B1 := hide (bt (U.out _ _).2.2.1 b1)
        clear b1
        obtain ⟨x0, x1, x2, x3, x4⟩ := cells5 BP.out
        obtain ⟨y0, y1, y2, y3, y4⟩ := cells5 BQ.out
        go_wp2_with fail
        refine (K2.out _ B1.out).mono ?_
        rintro _ w2 ⟨rfl, b2⟩
        replace BP := hide (blk_keep BP.out b2)
        replace BQ := hide (blk_keep BQ.out b2)
        have B2 := hide (bt B1.out b2)
        clear b2 x0 x1 x2 x3 x4 y0 y1 y2 y3 y4
        obtain ⟨x0, x1, x2, x3, x4⟩ := cells5 BP.out
        obtain ⟨y0, y1, y2, y3, y4⟩ := cells5 BQ.out
        go_wp2_with fail
        go_ret
        exact ⟨false, rfl, ⟨fun h => (by cases h), fun h => absurd (FD.out.1 h) (fun k => h3 k.2.2.1)⟩, B2.out⟩
    · subst h1
      have h2b : ((c2 : Int) != 0) = true := by simp; omega
      go_enter Try.func16, Try.ntmps16
      go_wp2_with fail
      refine (K1.out _ (U.out _ _).2.2.1).mono ?_
      rintro _ w1 ⟨rfl, b1⟩
      have BP := hide (blk_keep (U.out _ _).1 b1)
      have BQ := hide (blk_keep (U.out _ _).2.1 b1)
      have B1 := hide (bt (U.out _ _).2.2.1 b1)
      clear b1
      obtain ⟨x0, x1, x2, x3, x4⟩ := cells5 BP.out
      obtain ⟨y0, y1, y2, y3, y4⟩ := cells5 BQ.out
      go_wp2_with fail
      refine (K2.out _ B1.out).mono ?_
      rintro _ w2 ⟨rfl, b2⟩
      replace BP := hide (blk_keep BP.out b2)
      replace BQ := hide (blk_keep BQ.out b2)
      have B2 := hide (bt B1.out b2)
      clear b2 x0 x1 x2 x3 x4 y0 y1 y2 y3 y4
      obtain ⟨x0, x1, x2, x3, x4⟩ := cells5 BP.out
      obtain ⟨y0, y1, y2, y3, y4⟩ := cells5 BQ.out
      go_wp2_with fail
      go_ret
      exact ⟨false, rfl, ⟨fun h => (by cases h), fun h => absurd (FD.out.1 h) (fun k => h2 k.2.1)⟩, B2.out⟩
  · have h1b : ((c1 : Int) != 0) = true := by simp; omega
    go_enter Try.func16, Try.ntmps16
    go_wp2_with fail
    refine (K1.out _ (U.out _ _).2.2.1).mono ?_
    rintro _ w1 ⟨rfl, b1⟩
    have BP := hide (blk_keep (U.out _ _).1 b1)
    have BQ := hide (blk_keep (U.out _ _).2.1 b1)
    have B1 := hide (bt (U.out _ _).2.2.1 b1)
    clear b1
    go_wp2_with fail
    go_ret
    exact ⟨false, rfl, ⟨fun h => (by cases h), fun h => absurd (FD.out.1 h) (fun k => h1 k.1)⟩, B1.out⟩
end Go.Proofs.Ytmfelkncomfipaa
