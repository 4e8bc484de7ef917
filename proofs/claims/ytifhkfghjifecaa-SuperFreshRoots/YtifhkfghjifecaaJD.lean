import Derived.Test.YtifhkfghjifecaaIX
namespace Go.Proofs.Ytifhkfghjifecaa
open Go.RowKit

set_option maxHeartbeats 1600000 in
theorem MayBe_any (w : World) (b c r : Int) : Calls Try.prog 62 #[cfv b c r] w fun e w' => e = .returned (.bool (mayB b c r)) ∧ Below w.heap.size w w' := by
  have HA := hide (al w (.cells #[.int .i64 b, .int .i64 c, .int .i64 r] 25))
  unfold cfv
  by_cases h0 : 8 ≤ b
  · have d0 : decide (8 ≤ b) = true := by simpa using h0
    by_cases h1 : b ≤ 65536
    · have d1 : decide (b ≤ 65536) = true := by simpa using h1
      by_cases h2 : 1 ≤ c
      · have d2 : decide (1 ≤ c) = true := by simpa using h2
        by_cases h3 : c ≤ 16
        · have d3 : decide (c ≤ 16) = true := by simpa using h3
          by_cases h4 : 2 ≤ r
          · have d4 : decide (2 ≤ r) = true := by simpa using h4
            by_cases h5 : r < 65536
            · have d5 : decide (r < 65536) = true := by simpa using h5
              have hm : mayB b c r = true := mayB_iff.2 (by omega)
              rw [hm]
              clear hm
              go_enter Try.func62, Try.ntmps62
              go_wp2
              go_ret
              exact ⟨rfl, HA.out⟩
            · have d5 : decide (r < 65536) = false := by simpa using h5
              have hm : mayB b c r = false := Bool.eq_false_iff.2 fun h => by have := mayB_iff.1 h; omega
              rw [hm]
              clear hm
              go_enter Try.func62, Try.ntmps62
              go_wp2
              go_ret
              exact ⟨rfl, HA.out⟩
          · have d4 : decide (2 ≤ r) = false := by simpa using h4
            have hm : mayB b c r = false := Bool.eq_false_iff.2 fun h => by have := mayB_iff.1 h; omega
            rw [hm]
            clear hm
            go_enter Try.func62, Try.ntmps62
            go_wp2
            go_ret
            exact ⟨rfl, HA.out⟩
        · have d3 : decide (c ≤ 16) = false := by simpa using h3
          have hm : mayB b c r = false := Bool.eq_false_iff.2 fun h => by have := mayB_iff.1 h; omega
          rw [hm]
          clear hm
          go_enter Try.func62, Try.ntmps62
          go_wp2
          go_ret
          exact ⟨rfl, HA.out⟩
      · have d2 : decide (1 ≤ c) = false := by simpa using h2
        have hm : mayB b c r = false := Bool.eq_false_iff.2 fun h => by have := mayB_iff.1 h; omega
        rw [hm]
        clear hm
        go_enter Try.func62, Try.ntmps62
        go_wp2
        go_ret
        exact ⟨rfl, HA.out⟩
    · have d1 : decide (b ≤ 65536) = false := by simpa using h1
      have hm : mayB b c r = false := Bool.eq_false_iff.2 fun h => by have := mayB_iff.1 h; omega
      rw [hm]
      clear hm
      go_enter Try.func62, Try.ntmps62
      go_wp2
      go_ret
      exact ⟨rfl, HA.out⟩
  · have d0 : decide (8 ≤ b) = false := by simpa using h0
    have hm : mayB b c r = false := Bool.eq_false_iff.2 fun h => by have := mayB_iff.1 h; omega
    rw [hm]
    clear hm
    go_enter Try.func62, Try.ntmps62
    go_wp2
    go_ret
    exact ⟨rfl, HA.out⟩
def blA (p f x : Int) : Value := .tuple #[.int .i64 (if isF x 1 p = true then wrap64 (wrap64 (f + x) - 1) else 0), .bool (isF x 1 p)]
end Go.Proofs.Ytifhkfghjifecaa
