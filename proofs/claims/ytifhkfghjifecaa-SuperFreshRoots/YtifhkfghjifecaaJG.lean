import Derived.Test.YtifhkfghjifecaaJD
namespace Go.Proofs.Ytifhkfghjifecaa
open Go.RowKit

/-! ### the document's Plan -/
set_option maxRecDepth 8000 in
set_option maxHeartbeats 1600000 in
theorem rPlan_any (w : World) (b c r : Int) : Calls Try.prog 42 #[cfv b c r] w fun e w' => e = .returned (.tuple #[plA b c r, .int .i64 (plE b c r)]) ∧ Below w.heap.size w w' := by
  unfold plA plE
  have MB := hide fun w1 => MayBe_any w1 b c r
  unfold cfv at MB
  have HC := hide ((Bx.new w 25 (cf3 b c r)).keep (al _ (.cells z3 63)))
  have HP : Hid (Bx ((w.alloc (.cells (cf3 b c r) 25)).alloc (.cells z3 63)) 63 (w.heap.size + 1) z3) := by
    show Bx _ _ _ _
    have := Bx.new (w.alloc (.cells (cf3 b c r) 25)) 63 z3
    rwa [size_alloc] at this
  have HL := hide (bt (al w (.cells (cf3 b c r) 25)) (al _ (.cells z3 63)))
  have hsz := size_alloc w (.cells (cf3 b c r) 25)
  unfold cf3 z3 at *
  unfold cfv
  cases hm : mayB b c r with
  | false =>
    rw [hm] at MB
    clear hm
    go_enter Try.func42, Try.ntmps42
    go_wp2_with (first | (refine wpList_load_row rfl 25 _ rfl w.heap.size rfl 25 _ (0, 0) _ HC.out Try.underlying25 rfl sizeCfg ?_) | (go_at_call 62; refine (MB.out _).mono ?_; rintro y w1 ⟨rfl, hb⟩; have HP := hide (HP.out.keep hb); have HL := hide (bt HL.out hb); clear hb HC MB) | (refine wpList_store_row rfl 63 _ _ rfl (w.heap.size + 1) _ rfl rfl 63 _ HP.out sizePlan rfl (by simp [Value.oneCell']) ?_))
    refine bodyPost_ret (v := .tuple #[.agg _, _]) (results_cell_one Try.results42 _ _ (w.heap.size + 1) 63 _ (0, 0) _ rfl (setRow_heap _ _ _ _ _ _ HP.out) Try.underlying63 rfl sizePlan) rfl ⟨rfl, ?_⟩
    exact below_setRow HL.out (by omega) _
  | true =>
    obtain ⟨⟨h1, h2⟩, _⟩ := mayB_iff.1 hm
    have hpi := pgs_in h1 h2
    have hki := bnk_in h1 h2
    have RM := hide fun (q : Int) => pgs_room (b := b) (p := q)
    rw [hm] at MB
    clear hm hsz
    go_enter Try.func42, Try.ntmps42
    go_wp2_with (first | (refine wpList_load_row rfl 25 _ rfl w.heap.size rfl 25 _ (0, 0) _ HC.out Try.underlying25 rfl sizeCfg ?_))
    refine (MB.out _).mono ?_
    rintro y w1 ⟨rfl, hb⟩
    have HP := hide (HP.out.keep hb)
    have HL := hide (bt HL.out hb)
    have cB := (HC.out.keep hb).cell 0 rfl
    clear hb HC MB
    go_wp2
    go_loopw [4] (fun q wx => ∃ z : Int, q = .int .i64 z ∧ pgs b ≤ z ∧ z ≤ b ∧ wx = w1) (fun q _ => (intOf q).toNat)
    case atStart => exact ⟨b, rfl, (by have := (RM.out (pgs b)).2 (Int.le_refl _); have := Int.ediv_nonneg (show 0 ≤ pgs b + 239 by omega) (show (0 : Int) ≤ 240 by decide); omega), Int.le_refl _, rfl⟩
    case round =>
      obtain ⟨z, rfl, hz1, hz2, hww⟩ := hrel
      subst hww
      have hz0 : decide (0 < z) = true := by simp; omega
      have ht : (z + 240 - 1).tdiv 240 = (z + 239) / 240 := by
        rw [show z + 240 - 1 = z + 239 by omega]
        exact Int.tdiv_eq_ediv_of_nonneg (by omega)
      have hq : 1 ≤ (z + 239) / 240 ∧ (z + 239) / 240 ≤ 274 := by omega
      have hr := RM.out z
      have hzb : 1 ≤ z ∧ z ≤ 65536 := by omega
      by_cases he : z = pgs b
      · have hd : decide (b < 2 + 2 * ((z + 239) / 240) + z) = false := by
          have := hr.2 (by omega)
          simp; omega
        have hbk : (z + 239) / 240 = bnk b := by unfold bnk; rw [← he]
        have HZ := hide he
        have HK := hide hbk
        clear hr he hbk hz1 hz2
        generalize (z + 239) / 240 = Q at *
        go_wp2_with (refine wpList_store_row rfl 63 _ _ rfl (w.heap.size + 1) _ rfl rfl 63 _ HP.out sizePlan rfl (by simp [Value.oneCell']) ?_)
        refine bodyPost_ret (v := .tuple #[.agg _, _]) (results_cell_one Try.results42 _ _ (w.heap.size + 1) 63 _ (0, 0) _ rfl (setRow_heap _ _ _ _ _ _ HP.out) Try.underlying63 rfl sizePlan) rfl ⟨?_, below_setRow HL.out (by omega) _⟩
        unfold plv fsb
        rw [← HZ.out, ← HK.out]
        rfl
      · have hd : decide (b < 2 + 2 * ((z + 239) / 240) + z) = true := by
          have : ¬ (2 + 2 * ((z + 239) / 240) + z ≤ b) := fun h => by have := hr.1 h; omega
          simp; omega
        have hz3 : pgs b ≤ z - 1 := by omega
        clear hr
        go_wp2
        go_roundw
        case rel => exact ⟨z - 1, rfl, hz3, by omega, by first | rfl | trivial⟩
        case measure => simp [intOf]; omega
/-! ### which tree can be -/
theorem can_not {p : Int} {t : Ro} : can p t = true ↔ (t.r = 0 ∧ t.h = 0 ∧ t.n = 0) ∨ (1 ≤ t.r ∧ t.r ≤ p ∧ 1 ≤ t.h ∧ t.h ≤ 12 ∧ 1 ≤ t.n ∧ t.n ≤ p * 8) := by
  unfold can
  simp only [Bool.or_eq_true, Bool.and_eq_true, decide_eq_true_eq]
  constructor
  · rintro (⟨⟨a, b⟩, c⟩ | ⟨⟨⟨a, b⟩, c, d⟩, e, f⟩)
    · exact .inl ⟨a, b, c⟩
    · exact .inr ⟨a, b, c, d, e, f⟩
  · rintro (⟨a, b, c⟩ | ⟨a, b, c, d, e, f⟩)
    · exact .inl ⟨⟨a, b⟩, c⟩
    · exact .inr ⟨⟨⟨a, b⟩, c, d⟩, e, f⟩
set_option maxHeartbeats 3200000 in
theorem TreeCan_any (w : World) (p k f : Int) (t : Ro) (hp : 0 ≤ p ∧ p ≤ 65536) : Calls Try.prog 43 #[plv p k f, trv t] w fun e w' => e = .returned (.bool (can p t)) ∧ Below w.heap.size w w' := by
  have HL := hide (bt (al w (.cells #[.int .i64 p, .int .i64 k, .int .i64 f] 63)) (al _ (.cells #[.int .i64 t.r, .int .i64 t.h, .int .i64 t.n] 57)))
  unfold plv trv
  by_cases z0 : t.r = 0 ∧ t.h = 0 ∧ t.n = 0
  · have hm : can p t = true := can_not.2 (.inl z0)
    rw [hm]
    obtain ⟨e0, e1, e2⟩ := z0
    rw [e0, e1, e2] at HL ⊢
    clear hm e0 e1 e2
    go_enter Try.func43, Try.ntmps43
    go_wp2
    go_ret
    exact ⟨rfl, HL.out⟩
  · have hz : (t.r == 0) = false ∨ ((t.r == 0) = true ∧ (t.h == 0) = false) ∨ ((t.r == 0) = true ∧ (t.h == 0) = true ∧ (t.n == 0) = false) := by
      simp only [beqd, decide_eq_false_iff_not, decide_eq_true_eq]
      omega
    rcases hz with y0 | ⟨y0, y1⟩ | ⟨y0, y1, y2⟩
    all_goals
      by_cases h0 : 1 ≤ t.r
      · have d0 : decide (1 ≤ t.r) = true := by simpa using h0
        by_cases h1 : t.r ≤ p
        · have d1 : decide (t.r ≤ p) = true := by simpa using h1
          by_cases h2 : 1 ≤ t.h
          · have d2 : decide (1 ≤ t.h) = true := by simpa using h2
            by_cases h3 : t.h ≤ 12
            · have d3 : decide (t.h ≤ 12) = true := by simpa using h3
              by_cases h4 : 1 ≤ t.n
              · have d4 : decide (1 ≤ t.n) = true := by simpa using h4
                by_cases h5 : t.n ≤ p * 8
                · have d5 : decide (t.n ≤ p * 8) = true := by simpa using h5
                  have hm : can p t = true := can_not.2 (by omega)
                  rw [hm]
                  clear hm
                  go_enter Try.func43, Try.ntmps43
                  go_wp2
                  go_ret
                  exact ⟨rfl, HL.out⟩
                · have d5 : decide (t.n ≤ p * 8) = false := by simpa using h5
                  have hm : can p t = false := Bool.eq_false_iff.2 fun h => by have := can_not.1 h; omega
                  rw [hm]
                  clear hm
                  go_enter Try.func43, Try.ntmps43
                  go_wp2
                  go_ret
                  exact ⟨rfl, HL.out⟩
              · have d4 : decide (1 ≤ t.n) = false := by simpa using h4
                have hm : can p t = false := Bool.eq_false_iff.2 fun h => by have := can_not.1 h; omega
                rw [hm]
                clear hm
                go_enter Try.func43, Try.ntmps43
                go_wp2
                go_ret
                exact ⟨rfl, HL.out⟩
            · have d3 : decide (t.h ≤ 12) = false := by simpa using h3
              have hm : can p t = false := Bool.eq_false_iff.2 fun h => by have := can_not.1 h; omega
              rw [hm]
              clear hm
              go_enter Try.func43, Try.ntmps43
              go_wp2
              go_ret
              exact ⟨rfl, HL.out⟩
          · have d2 : decide (1 ≤ t.h) = false := by simpa using h2
            have hm : can p t = false := Bool.eq_false_iff.2 fun h => by have := can_not.1 h; omega
            rw [hm]
            clear hm
            go_enter Try.func43, Try.ntmps43
            go_wp2
            go_ret
            exact ⟨rfl, HL.out⟩
        · have d1 : decide (t.r ≤ p) = false := by simpa using h1
          have hm : can p t = false := Bool.eq_false_iff.2 fun h => by have := can_not.1 h; omega
          rw [hm]
          clear hm
          go_enter Try.func43, Try.ntmps43
          go_wp2
          go_ret
          exact ⟨rfl, HL.out⟩
      · have d0 : decide (1 ≤ t.r) = false := by simpa using h0
        have hm : can p t = false := Bool.eq_false_iff.2 fun h => by have := can_not.1 h; omega
        rw [hm]
        clear hm
        go_enter Try.func43, Try.ntmps43
        go_wp2
        go_ret
        exact ⟨rfl, HL.out⟩
end Go.Proofs.Ytifhkfghjifecaa
