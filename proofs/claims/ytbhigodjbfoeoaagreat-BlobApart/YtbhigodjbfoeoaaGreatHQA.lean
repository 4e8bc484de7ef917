import Derived.Test.YtbhigodjbfoeoaaGreatHQ
namespace Go.Proofs.YtbhigodjbfoeoaaGreat
set_option linter.unusedVariables false
set_option linter.unusedSimpArgs false
open Go.RowKit
set_option maxHeartbeats 8000000 in
set_option maxRecDepth 16000 in
theorem blobApart_any (w : World) (n0 : Int) (hn0 : N64 n0) (a1 : Option Addr) (c1 : Nat) (T : List Br) (hT : Bl w a1 T) (hN : T.length ≤ 5864062014634) (hC : ∀ t ∈ T, t.l.length + 64 ≤ 140737488355328) :
    Calls Tryz.prog 7 #[.int .i64 n0, .slice a1 T.length c1] w fun e w' => e = .returned (.bool true) ∧ Below w.heap.size w w' := by
  by_cases hm : (1 ≤ n0 ∧ n0 ≤ 300) ∧ T.length ≤ 300
  · obtain ⟨p, rfl⟩ : ∃ p : Nat, n0 = (p : Int) := ⟨n0.toNat, by omega⟩
    exact blobApart_main w p (by omega) (by omega) a1 c1 T hT hm.2
  · have FX := hide (fixed13_any w)
    obtain ⟨tl, htl⟩ : ∃ tl, T.length = tl := ⟨_, rfl⟩
    rw [htl] at hm hN ⊢
    clear hT hC htl
    by_cases h1 : n0 < 1
    · have e1 : decide (n0 < 1) = true := decide_eq_true h1
      go_enter Tryz.func7, Tryz.ntmps7
      go_wp2_with fail
      refine FX.out.mono ?_
      rintro _ w1 ⟨rfl, hb1⟩
      go_wp2_with fail
      go_ret
      exact ⟨rfl, hb1⟩
    · have e1 : decide (n0 < 1) = false := decide_eq_false h1
      by_cases h2 : 300 < n0
      · have e2 : decide (300 < n0) = true := decide_eq_true h2
        go_enter Tryz.func7, Tryz.ntmps7
        go_wp2_with fail
        refine FX.out.mono ?_
        rintro _ w1 ⟨rfl, hb1⟩
        go_wp2_with fail
        go_ret
        exact ⟨rfl, hb1⟩
      · have e2 : decide (300 < n0) = false := decide_eq_false h2
        have e3 : decide ((300 : Int) < (tl : Int)) = true := decide_eq_true (by omega)
        go_enter Tryz.func7, Tryz.ntmps7
        go_wp2_with fail
        refine FX.out.mono ?_
        rintro _ w1 ⟨rfl, hb1⟩
        go_wp2_with fail
        go_ret
        exact ⟨rfl, hb1⟩
end Go.Proofs.YtbhigodjbfoeoaaGreat
