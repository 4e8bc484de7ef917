import Derived.Test.YtbhigodjbfoeoaaGreatWpHS
namespace Go.Proofs.YtbhigodjbfoeoaaGreat
set_option linter.unusedVariables false
set_option linter.unusedSimpArgs false
open Go.RowKit
set_option maxHeartbeats 8000000 in
set_option maxRecDepth 16000 in
theorem blobBack_any (w : World) (n0 : Int) (hn0 : N64 n0) (ak : Option Addr) (ck : Nat) (key : List Nat) (hK : Bs w ak key) (hNk : key.length + 64 ≤ 140737488355328) (hCk : key.length ≤ ck) (av : Option Addr) (cv : Nat) (l : List Nat) (hV : Bs w av l) (hNv : l.length + 64 ≤ 140737488355328) (hcv : l.length ≤ cv) (a1 : Option Addr) (c1 : Nat) (T : List Br) (hT : Bl w a1 T) (hN : T.length ≤ 5864062014634) (hC : ∀ t ∈ T, t.l.length + 64 ≤ 140737488355328) :
    Calls Tryz.prog 6 #[.int .i64 n0, .slice ak key.length ck, .slice av l.length cv, .slice a1 T.length c1] w fun e w' => e = .returned (.bool true) ∧ Below w.heap.size w w' := by
  by_cases hm : (1 ≤ n0 ∧ n0 ≤ 300) ∧ T.length ≤ 200
  · obtain ⟨p, rfl⟩ : ∃ p : Nat, n0 = (p : Int) := ⟨n0.toNat, by omega⟩
    exact blobBack_main w p (by omega) (by omega) ak ck key hK av cv l hV hcv a1 c1 T hT hm.2
  · have FX := hide (fixed13_any w)
    obtain ⟨tl, htl⟩ : ∃ tl, T.length = tl := ⟨_, rfl⟩
    obtain ⟨kn, hk⟩ : ∃ kn, key.length = kn := ⟨_, rfl⟩
    obtain ⟨ln, hl⟩ : ∃ ln, l.length = ln := ⟨_, rfl⟩
    rw [hk, hl]
    rw [htl] at hm hN ⊢
    clear hT hC htl hk hl hK hV hNk hNv hCk hcv
    by_cases h1 : n0 < 1
    · have e1 : decide (n0 < 1) = true := decide_eq_true h1
      go_enter Tryz.func6, Tryz.ntmps6
      go_wp2_with fail
      refine FX.out.mono ?_
      rintro _ w1 ⟨rfl, hb1⟩
      go_wp2_with fail
      go_ret
      exact ⟨rfl, hb1⟩
    · have e1 : decide (n0 < 1) = false := decide_eq_false h1
      by_cases h2 : 300 < n0
      · have e2 : decide (300 < n0) = true := decide_eq_true h2
        go_enter Tryz.func6, Tryz.ntmps6
        go_wp2_with fail
        refine FX.out.mono ?_
        rintro _ w1 ⟨rfl, hb1⟩
        go_wp2_with fail
        go_ret
        exact ⟨rfl, hb1⟩
      · have e2 : decide (300 < n0) = false := decide_eq_false h2
        have e3 : decide ((200 : Int) < (tl : Int)) = true := decide_eq_true (by omega)
        go_enter Tryz.func6, Tryz.ntmps6
        go_wp2_with fail
        refine FX.out.mono ?_
        rintro _ w1 ⟨rfl, hb1⟩
        go_wp2_with fail
        go_ret
        exact ⟨rfl, hb1⟩
end Go.Proofs.YtbhigodjbfoeoaaGreat
