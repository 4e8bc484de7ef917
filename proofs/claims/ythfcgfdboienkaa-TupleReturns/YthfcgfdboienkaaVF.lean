import Derived.Test.YthfcgfdboienkaaVD
namespace Go.Proofs.Ythfcgfdboienkaa
open Go.RowKit

set_option maxHeartbeats 3200000 in
theorem tValid_any (w : World) (v : VV) : Calls Try.prog 10 #[.agg v.pc] w fun e w' => e = .returned (.bool v.valid) ∧ ∃ o, w' = w.alloc o := by
  obtain ⟨k, b, i, r, re, im, t⟩ := v
  have sf := st_float
  have sc := st_complex
  have N := hide noBits_any
  rcases kinds7 k with rfl | rfl | rfl | rfl | rfl | rfl | hk | hk
  · cases b with
    | true =>
      rw [show (VV.mk 0 true i r re im t).valid = false by simp [VV.valid]]
      unfold VV.pc
      go_enter Try.func10, Try.ntmps10
      go_wp2
      go_ret
      exact ⟨by simp, _, rfl⟩
    | false =>
      by_cases hq : i = 0
      · subst hq
        by_cases hq : r = 0
        · subst hq
          by_cases hq : re = 0
          · subst hq
            by_cases hq : im = 0
            · subst hq
              rw [show (VV.mk 0 false 0 0 0 0 t).valid = t.toList.isEmpty by rw [ba_emp]; simp [VV.valid]]
              unfold VV.pc
              go_enter Try.func10, Try.ntmps10
              go_wp2_with fail
              refine (N.out _ _).mono ?_
              rintro e w1 ⟨rfl, rfl⟩
              go_wp2_with fail
              refine (N.out _ _).mono ?_
              rintro e w1 ⟨rfl, rfl⟩
              go_wp2_with fail
              refine (N.out _ _).mono ?_
              rintro e w1 ⟨rfl, rfl⟩
              go_wp2
              go_ret
              exact ⟨rfl, _, rfl⟩
            · rw [show (VV.mk 0 false 0 0 0 im t).valid = false by simp [VV.valid, hq]]
              unfold VV.pc
              have hq2 : decide (im = 0) = false := decide_eq_false hq
              clear hq
              go_enter Try.func10, Try.ntmps10
              go_wp2_with fail
              refine (N.out _ _).mono ?_
              rintro e w1 ⟨rfl, rfl⟩
              go_wp2_with fail
              refine (N.out _ _).mono ?_
              rintro e w1 ⟨rfl, rfl⟩
              go_wp2_with fail
              refine (N.out _ _).mono ?_
              rintro e w1 ⟨rfl, rfl⟩
              go_wp2
              go_ret
              exact ⟨by simp, _, rfl⟩
          · rw [show (VV.mk 0 false 0 0 re im t).valid = false by simp [VV.valid, hq]]
            unfold VV.pc
            have hq2 : decide (re = 0) = false := decide_eq_false hq
            clear hq
            go_enter Try.func10, Try.ntmps10
            go_wp2_with fail
            refine (N.out _ _).mono ?_
            rintro e w1 ⟨rfl, rfl⟩
            go_wp2_with fail
            refine (N.out _ _).mono ?_
            rintro e w1 ⟨rfl, rfl⟩
            go_wp2
            go_ret
            exact ⟨by simp, _, rfl⟩
        · rw [show (VV.mk 0 false 0 r re im t).valid = false by simp [VV.valid, hq]]
          unfold VV.pc
          have hq2 : decide (r = 0) = false := decide_eq_false hq
          clear hq
          go_enter Try.func10, Try.ntmps10
          go_wp2_with fail
          refine (N.out _ _).mono ?_
          rintro e w1 ⟨rfl, rfl⟩
          go_wp2
          go_ret
          exact ⟨by simp, _, rfl⟩
      · rw [show (VV.mk 0 false i r re im t).valid = false by simp [VV.valid, hq]]
        unfold VV.pc
        have hq2 : (i == 0) = false := eqf hq
        clear hq
        go_enter Try.func10, Try.ntmps10
        go_wp2
        go_ret
        exact ⟨by simp, _, rfl⟩
  · by_cases hq : i = 0
    · subst hq
      by_cases hq : r = 0
      · subst hq
        by_cases hq : re = 0
        · subst hq
          by_cases hq : im = 0
          · subst hq
            rw [show (VV.mk 1 b 0 0 0 0 t).valid = t.toList.isEmpty by rw [ba_emp]; simp [VV.valid]]
            unfold VV.pc
            go_enter Try.func10, Try.ntmps10
            go_wp2_with fail
            refine (N.out _ _).mono ?_
            rintro e w1 ⟨rfl, rfl⟩
            go_wp2_with fail
            refine (N.out _ _).mono ?_
            rintro e w1 ⟨rfl, rfl⟩
            go_wp2_with fail
            refine (N.out _ _).mono ?_
            rintro e w1 ⟨rfl, rfl⟩
            go_wp2
            go_ret
            exact ⟨rfl, _, rfl⟩
          · rw [show (VV.mk 1 b 0 0 0 im t).valid = false by simp [VV.valid, hq]]
            unfold VV.pc
            have hq2 : decide (im = 0) = false := decide_eq_false hq
            clear hq
            go_enter Try.func10, Try.ntmps10
            go_wp2_with fail
            refine (N.out _ _).mono ?_
            rintro e w1 ⟨rfl, rfl⟩
            go_wp2_with fail
            refine (N.out _ _).mono ?_
            rintro e w1 ⟨rfl, rfl⟩
            go_wp2_with fail
            refine (N.out _ _).mono ?_
            rintro e w1 ⟨rfl, rfl⟩
            go_wp2
            go_ret
            exact ⟨by simp, _, rfl⟩
        · rw [show (VV.mk 1 b 0 0 re im t).valid = false by simp [VV.valid, hq]]
          unfold VV.pc
          have hq2 : decide (re = 0) = false := decide_eq_false hq
          clear hq
          go_enter Try.func10, Try.ntmps10
          go_wp2_with fail
          refine (N.out _ _).mono ?_
          rintro e w1 ⟨rfl, rfl⟩
          go_wp2_with fail
          refine (N.out _ _).mono ?_
          rintro e w1 ⟨rfl, rfl⟩
          go_wp2
          go_ret
          exact ⟨by simp, _, rfl⟩
      · rw [show (VV.mk 1 b 0 r re im t).valid = false by simp [VV.valid, hq]]
        unfold VV.pc
        have hq2 : decide (r = 0) = false := decide_eq_false hq
        clear hq
        go_enter Try.func10, Try.ntmps10
        go_wp2_with fail
        refine (N.out _ _).mono ?_
        rintro e w1 ⟨rfl, rfl⟩
        go_wp2
        go_ret
        exact ⟨by simp, _, rfl⟩
    · rw [show (VV.mk 1 b i r re im t).valid = false by simp [VV.valid, hq]]
      unfold VV.pc
      have hq2 : (i == 0) = false := eqf hq
      clear hq
      go_enter Try.func10, Try.ntmps10
      go_wp2
      go_ret
      exact ⟨by simp, _, rfl⟩
  · cases b with
    | true =>
      rw [show (VV.mk 2 true i r re im t).valid = false by simp [VV.valid]]
      unfold VV.pc
      go_enter Try.func10, Try.ntmps10
      go_wp2
      go_ret
      exact ⟨by simp, _, rfl⟩
    | false =>
      by_cases hq : r = 0
      · subst hq
        by_cases hq : re = 0
        · subst hq
          by_cases hq : im = 0
          · subst hq
            rw [show (VV.mk 2 false i 0 0 0 t).valid = t.toList.isEmpty by rw [ba_emp]; simp [VV.valid]]
            unfold VV.pc
            go_enter Try.func10, Try.ntmps10
            go_wp2_with fail
            refine (N.out _ _).mono ?_
            rintro e w1 ⟨rfl, rfl⟩
            go_wp2_with fail
            refine (N.out _ _).mono ?_
            rintro e w1 ⟨rfl, rfl⟩
            go_wp2_with fail
            refine (N.out _ _).mono ?_
            rintro e w1 ⟨rfl, rfl⟩
            go_wp2
            go_ret
            exact ⟨rfl, _, rfl⟩
          · rw [show (VV.mk 2 false i 0 0 im t).valid = false by simp [VV.valid, hq]]
            unfold VV.pc
            have hq2 : decide (im = 0) = false := decide_eq_false hq
            clear hq
            go_enter Try.func10, Try.ntmps10
            go_wp2_with fail
            refine (N.out _ _).mono ?_
            rintro e w1 ⟨rfl, rfl⟩
            go_wp2_with fail
            refine (N.out _ _).mono ?_
            rintro e w1 ⟨rfl, rfl⟩
            go_wp2_with fail
            refine (N.out _ _).mono ?_
            rintro e w1 ⟨rfl, rfl⟩
            go_wp2
            go_ret
            exact ⟨by simp, _, rfl⟩
        · rw [show (VV.mk 2 false i 0 re im t).valid = false by simp [VV.valid, hq]]
          unfold VV.pc
          have hq2 : decide (re = 0) = false := decide_eq_false hq
          clear hq
          go_enter Try.func10, Try.ntmps10
          go_wp2_with fail
          refine (N.out _ _).mono ?_
          rintro e w1 ⟨rfl, rfl⟩
          go_wp2_with fail
          refine (N.out _ _).mono ?_
          rintro e w1 ⟨rfl, rfl⟩
          go_wp2
          go_ret
          exact ⟨by simp, _, rfl⟩
      · rw [show (VV.mk 2 false i r re im t).valid = false by simp [VV.valid, hq]]
        unfold VV.pc
        have hq2 : decide (r = 0) = false := decide_eq_false hq
        clear hq
        go_enter Try.func10, Try.ntmps10
        go_wp2_with fail
        refine (N.out _ _).mono ?_
        rintro e w1 ⟨rfl, rfl⟩
        go_wp2
        go_ret
        exact ⟨by simp, _, rfl⟩
  · cases b with
    | true =>
      rw [show (VV.mk 3 true i r re im t).valid = false by simp [VV.valid]]
      unfold VV.pc
      go_enter Try.func10, Try.ntmps10
      go_wp2
      go_ret
      exact ⟨by simp, _, rfl⟩
    | false =>
      by_cases hq : i = 0
      · subst hq
        by_cases hq : re = 0
        · subst hq
          by_cases hq : im = 0
          · subst hq
            rw [show (VV.mk 3 false 0 r 0 0 t).valid = t.toList.isEmpty by rw [ba_emp]; simp [VV.valid]]
            unfold VV.pc
            go_enter Try.func10, Try.ntmps10
            go_wp2_with fail
            refine (N.out _ _).mono ?_
            rintro e w1 ⟨rfl, rfl⟩
            go_wp2_with fail
            refine (N.out _ _).mono ?_
            rintro e w1 ⟨rfl, rfl⟩
            go_wp2_with fail
            refine (N.out _ _).mono ?_
            rintro e w1 ⟨rfl, rfl⟩
            go_wp2
            go_ret
            exact ⟨rfl, _, rfl⟩
          · rw [show (VV.mk 3 false 0 r 0 im t).valid = false by simp [VV.valid, hq]]
            unfold VV.pc
            have hq2 : decide (im = 0) = false := decide_eq_false hq
            clear hq
            go_enter Try.func10, Try.ntmps10
            go_wp2_with fail
            refine (N.out _ _).mono ?_
            rintro e w1 ⟨rfl, rfl⟩
            go_wp2_with fail
            refine (N.out _ _).mono ?_
            rintro e w1 ⟨rfl, rfl⟩
            go_wp2_with fail
            refine (N.out _ _).mono ?_
            rintro e w1 ⟨rfl, rfl⟩
            go_wp2
            go_ret
            exact ⟨by simp, _, rfl⟩
        · rw [show (VV.mk 3 false 0 r re im t).valid = false by simp [VV.valid, hq]]
          unfold VV.pc
          have hq2 : decide (re = 0) = false := decide_eq_false hq
          clear hq
          go_enter Try.func10, Try.ntmps10
          go_wp2_with fail
          refine (N.out _ _).mono ?_
          rintro e w1 ⟨rfl, rfl⟩
          go_wp2_with fail
          refine (N.out _ _).mono ?_
          rintro e w1 ⟨rfl, rfl⟩
          go_wp2
          go_ret
          exact ⟨by simp, _, rfl⟩
      · rw [show (VV.mk 3 false i r re im t).valid = false by simp [VV.valid, hq]]
        unfold VV.pc
        have hq2 : (i == 0) = false := eqf hq
        clear hq
        go_enter Try.func10, Try.ntmps10
        go_wp2
        go_ret
        exact ⟨by simp, _, rfl⟩
  · cases b with
    | true =>
      rw [show (VV.mk 4 true i r re im t).valid = false by simp [VV.valid]]
      unfold VV.pc
      go_enter Try.func10, Try.ntmps10
      go_wp2
      go_ret
      exact ⟨by simp, _, rfl⟩
    | false =>
      by_cases hq : i = 0
      · subst hq
        by_cases hq : r = 0
        · subst hq
          rw [show (VV.mk 4 false 0 0 re im t).valid = t.toList.isEmpty by rw [ba_emp]; simp [VV.valid]]
          unfold VV.pc
          go_enter Try.func10, Try.ntmps10
          go_wp2_with fail
          refine (N.out _ _).mono ?_
          rintro e w1 ⟨rfl, rfl⟩
          go_wp2_with fail
          refine (N.out _ _).mono ?_
          rintro e w1 ⟨rfl, rfl⟩
          go_wp2_with fail
          refine (N.out _ _).mono ?_
          rintro e w1 ⟨rfl, rfl⟩
          go_wp2
          go_ret
          exact ⟨rfl, _, rfl⟩
        · rw [show (VV.mk 4 false 0 r re im t).valid = false by simp [VV.valid, hq]]
          unfold VV.pc
          have hq2 : decide (r = 0) = false := decide_eq_false hq
          clear hq
          go_enter Try.func10, Try.ntmps10
          go_wp2_with fail
          refine (N.out _ _).mono ?_
          rintro e w1 ⟨rfl, rfl⟩
          go_wp2
          go_ret
          exact ⟨by simp, _, rfl⟩
      · rw [show (VV.mk 4 false i r re im t).valid = false by simp [VV.valid, hq]]
        unfold VV.pc
        have hq2 : (i == 0) = false := eqf hq
        clear hq
        go_enter Try.func10, Try.ntmps10
        go_wp2
        go_ret
        exact ⟨by simp, _, rfl⟩
  · cases b with
    | true =>
      rw [show (VV.mk 5 true i r re im t).valid = false by simp [VV.valid]]
      unfold VV.pc
      go_enter Try.func10, Try.ntmps10
      go_wp2
      go_ret
      exact ⟨by simp, _, rfl⟩
    | false =>
      by_cases hq : i = 0
      · subst hq
        by_cases hq : r = 0
        · subst hq
          by_cases hq : re = 0
          · subst hq
            by_cases hq : im = 0
            · subst hq
              rw [show (VV.mk 5 false 0 0 0 0 t).valid = true by simp [VV.valid]]
              unfold VV.pc
              go_enter Try.func10, Try.ntmps10
              go_wp2_with fail
              refine (N.out _ _).mono ?_
              rintro e w1 ⟨rfl, rfl⟩
              go_wp2_with fail
              refine (N.out _ _).mono ?_
              rintro e w1 ⟨rfl, rfl⟩
              go_wp2_with fail
              refine (N.out _ _).mono ?_
              rintro e w1 ⟨rfl, rfl⟩
              go_wp2
              go_ret
              exact ⟨by simp, _, rfl⟩
            · rw [show (VV.mk 5 false 0 0 0 im t).valid = false by simp [VV.valid, hq]]
              unfold VV.pc
              have hq2 : decide (im = 0) = false := decide_eq_false hq
              clear hq
              go_enter Try.func10, Try.ntmps10
              go_wp2_with fail
              refine (N.out _ _).mono ?_
              rintro e w1 ⟨rfl, rfl⟩
              go_wp2_with fail
              refine (N.out _ _).mono ?_
              rintro e w1 ⟨rfl, rfl⟩
              go_wp2_with fail
              refine (N.out _ _).mono ?_
              rintro e w1 ⟨rfl, rfl⟩
              go_wp2
              go_ret
              exact ⟨by simp, _, rfl⟩
          · rw [show (VV.mk 5 false 0 0 re im t).valid = false by simp [VV.valid, hq]]
            unfold VV.pc
            have hq2 : decide (re = 0) = false := decide_eq_false hq
            clear hq
            go_enter Try.func10, Try.ntmps10
            go_wp2_with fail
            refine (N.out _ _).mono ?_
            rintro e w1 ⟨rfl, rfl⟩
            go_wp2_with fail
            refine (N.out _ _).mono ?_
            rintro e w1 ⟨rfl, rfl⟩
            go_wp2
            go_ret
            exact ⟨by simp, _, rfl⟩
        · rw [show (VV.mk 5 false 0 r re im t).valid = false by simp [VV.valid, hq]]
          unfold VV.pc
          have hq2 : decide (r = 0) = false := decide_eq_false hq
          clear hq
          go_enter Try.func10, Try.ntmps10
          go_wp2_with fail
          refine (N.out _ _).mono ?_
          rintro e w1 ⟨rfl, rfl⟩
          go_wp2
          go_ret
          exact ⟨by simp, _, rfl⟩
      · rw [show (VV.mk 5 false i r re im t).valid = false by simp [VV.valid, hq]]
        unfold VV.pc
        have hq2 : (i == 0) = false := eqf hq
        clear hq
        go_enter Try.func10, Try.ntmps10
        go_wp2
        go_ret
        exact ⟨by simp, _, rfl⟩
  · rw [show (VV.mk k b i r re im t).valid = false by unfold VV.valid; rw [show decide ((0 : Int) ≤ k) = false by exact decide_eq_false (by omega)]; simp]
    have k0 : (k == 0) = false := eqf (by omega)
    have k1 : (k == 1) = false := eqf (by omega)
    have k2 : (k == 2) = false := eqf (by omega)
    have k3 : (k == 3) = false := eqf (by omega)
    have k4 : (k == 4) = false := eqf (by omega)
    have k5 : (k == 5) = false := eqf (by omega)
    unfold VV.pc
    go_enter Try.func10, Try.ntmps10
    go_wp2
    go_ret
    exact ⟨by simp, _, rfl⟩
  · rw [show (VV.mk k b i r re im t).valid = false by unfold VV.valid; rw [show decide ((0 : Int) ≤ k) = true by exact decide_eq_true (by omega)]; simp; intro h; omega]
    have k0 : (k == 0) = false := eqf (by omega)
    have k1 : (k == 1) = false := eqf (by omega)
    have k2 : (k == 2) = false := eqf (by omega)
    have k3 : (k == 3) = false := eqf (by omega)
    have k4 : (k == 4) = false := eqf (by omega)
    have k5 : (k == 5) = false := eqf (by omega)
    unfold VV.pc
    go_enter Try.func10, Try.ntmps10
    go_wp2
    go_ret
    exact ⟨by simp, _, rfl⟩
end Go.Proofs.Ythfcgfdboienkaa
