import Derived.Test.YtgoloefbphjipaaGreatHF
import Derived.Test.YtgoloefbphjipaaGreatHZ
namespace Go.Proofs.YtgoloefbphjipaaGreat
set_option linter.unusedVariables false
set_option linter.unusedSimpArgs false
open Go.RowKit
theorem rbPages_any (w : World) (n : Int) (hn : N64 n) : Calls Tryz.prog 19 #[.int .i64 n] w fun e w' => e = .returned (.int .i64 (bpn n)) ∧ w' = w := by
  unfold N64 at hn
  by_cases h : n ≤ 32
  · have e : bpn n = 0 := by unfold bpn; rw [if_pos h]
    rw [e]
    go_enter Tryz.func19, Tryz.ntmps19
    go_wp2
    go_ret
    exact ⟨rfl, rfl⟩
  · have hm : n.tmod 480 = n % 480 := Int.tmod_eq_emod_of_nonneg (by omega)
    have hd : n.tdiv 480 = n / 480 := Int.tdiv_eq_ediv_of_nonneg (by omega)
    by_cases h0 : n % 480 = 0
    · have e : bpn n = n / 480 := by unfold bpn; rw [if_neg h]; omega
      have t0 : (n % 480 == 0) = true := by simpa using h0
      rw [e]
      clear e h0
      go_enter Tryz.func19, Tryz.ntmps19
      go_wp2
      go_ret
      exact ⟨by first | rfl | simp [hd], rfl⟩
    · have e : Hid (bpn n = n / 480 + 1) := by show _ = _; unfold bpn; rw [if_neg h]; omega
      have t0 : (n % 480 == 0) = false := by simpa using h0
      have q1 : 0 ≤ n / 480 := by omega
      have q2 : n / 480 ≤ n - 1 := by omega
      rw [e.out]
      clear e
      go_enter Tryz.func19, Tryz.ntmps19
      go_wp2
      all_goals
        go_ret
        exact ⟨by first | rfl | simp [hd], rfl⟩
set_option maxHeartbeats 8000000 in
theorem blobPages_any (w : World) (n : Int) (hn : N64 n) : Calls Tryz.prog 4 #[.int .i64 n] w fun e w' => e = .returned (.bool true) ∧ Below w.heap.size w w' := by
  have FX := hide (fixed13_any w)
  have PA := hide fun (W : World) => bPages_any W n hn
  have PR := hide fun (W : World) => rbPages_any W n hn
  unfold N64 at hn
  have HB : Hid (bpn n = if n ≤ 32 then 0 else (n - 1) / 480 + 1) := rfl
  obtain ⟨p, hp⟩ : ∃ p, bpn n = p := ⟨_, rfl⟩
  have HP := hide hp
  rw [hp] at PA PR
  clear hp
  go_enter Tryz.func4, Tryz.ntmps4
  go_wp2_with fail
  refine FX.out.mono ?_
  rintro _ w1 ⟨rfl, hb⟩
  have B1 := hide hb
  clear hb FX
  go_wp2_with fail
  refine (PA.out _).mono ?_
  rintro _ w2 ⟨rfl, hw2⟩
  rw [hw2]
  clear hw2
  go_wp2_with fail
  refine (PR.out _).mono ?_
  rintro _ w3 ⟨rfl, hw3⟩
  rw [hw3]
  clear hw3
  have hne : (p != p) = false := by simp
  by_cases h : n ≤ 32
  · have p0 : (p == 0) = true := by have := HP.out; rw [HB.out, if_pos h] at this; simp [← this]
    go_wp2_with fail
    refine (PA.out _).mono ?_
    rintro _ w4 ⟨rfl, hw4⟩
    rw [hw4]
    clear hw4
    go_wp2_with fail
    go_ret
    exact ⟨by first | rfl | simp_all, B1.out⟩
  · have hd : (n - 1).tdiv 480 = (n - 1) / 480 := Int.tdiv_eq_ediv_of_nonneg (by omega)
    have hpv : p = (n - 1).tdiv 480 + 1 := by have := HP.out; rw [HB.out, if_neg h] at this; rw [← this, hd]
    have q1 : 0 ≤ (n - 1).tdiv 480 := by rw [hd]; omega
    have q2 : (n - 1).tdiv 480 ≤ n - 1 := by rw [hd]; omega
    have HPV := hide hpv
    have g1 : decide ((1 : Int) ≤ p) = true := decide_eq_true (by omega)
    have g2 : decide (p - 1 ≤ (n - 1).tdiv 480) = true := decide_eq_true (by omega)
    have g3 : decide ((n - 1).tdiv 480 < p) = true := decide_eq_true (by omega)
    have b1 : 1 ≤ p := by omega
    have b2 : p ≤ n := by omega
    clear hpv hd
    go_wp2_with fail
    refine (PA.out _).mono ?_
    rintro _ w4 ⟨rfl, hw4⟩
    rw [hw4]
    clear hw4
    go_wp2_with fail
    refine (PA.out _).mono ?_
    rintro _ w5 ⟨rfl, hw5⟩
    rw [hw5]
    clear hw5
    go_wp2_with fail
    refine (PA.out _).mono ?_
    rintro _ w6 ⟨rfl, hw6⟩
    rw [hw6]
    clear hw6
    go_wp2_with fail
    go_ret
    exact ⟨by first | rfl | simp_all, B1.out⟩
end Go.Proofs.YtgoloefbphjipaaGreat
