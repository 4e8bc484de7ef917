import Derived.Test.YtlkjpljfbmploaaWA
import Derived.Laws.BitsAllLaws
namespace Go.Proofs.Ytlkjpljfbmploaa
open Go.RowKit
set_option maxRecDepth 1000000 in
set_option maxHeartbeats 1600000 in
theorem len64_8 (w : World) : Calls Try.prog 79 #[.int .u64 255] w fun x w' => x = .returned (.int .i64 8) ∧ w' = w := by
  go_enter Try.func79, Try.ntmps79
  go_wp2
  go_ret
  exact ⟨by kernel_rfl, rfl⟩
theorem width8_any (w : World) : Calls Try.prog 65 #[] w fun x w' => x = .returned (.int .i64 1) ∧ w' = w := by
  go_enter Try.func65, Try.ntmps65
  go_wp2_with fail
  refine (len64_8 _).mono ?_
  rintro e w1 ⟨rfl, rfl⟩
  go_wp2
  go_ret
  exact ⟨rfl, rfl⟩
set_option maxRecDepth 1000000 in
set_option maxHeartbeats 1600000 in
theorem len64_16 (w : World) : Calls Try.prog 79 #[.int .u64 65535] w fun x w' => x = .returned (.int .i64 16) ∧ w' = w := by
  go_enter Try.func79, Try.ntmps79
  go_wp2
  go_ret
  exact ⟨by kernel_rfl, rfl⟩
theorem width16_any (w : World) : Calls Try.prog 68 #[] w fun x w' => x = .returned (.int .i64 2) ∧ w' = w := by
  go_enter Try.func68, Try.ntmps68
  go_wp2_with fail
  refine (len64_16 _).mono ?_
  rintro e w1 ⟨rfl, rfl⟩
  go_wp2
  go_ret
  exact ⟨rfl, rfl⟩
set_option maxRecDepth 1000000 in
set_option maxHeartbeats 1600000 in
theorem len64_32 (w : World) : Calls Try.prog 79 #[.int .u64 4294967295] w fun x w' => x = .returned (.int .i64 32) ∧ w' = w := by
  go_enter Try.func79, Try.ntmps79
  go_wp2
  go_ret
  exact ⟨by kernel_rfl, rfl⟩
theorem width32_any (w : World) : Calls Try.prog 69 #[] w fun x w' => x = .returned (.int .i64 4) ∧ w' = w := by
  go_enter Try.func69, Try.ntmps69
  go_wp2_with fail
  refine (len64_32 _).mono ?_
  rintro e w1 ⟨rfl, rfl⟩
  go_wp2
  go_ret
  exact ⟨rfl, rfl⟩
set_option maxRecDepth 1000000 in
set_option maxHeartbeats 1600000 in
theorem len64_64 (w : World) : Calls Try.prog 79 #[.int .u64 18446744073709551615] w fun x w' => x = .returned (.int .i64 64) ∧ w' = w := by
  go_enter Try.func79, Try.ntmps79
  go_wp2
  go_ret
  exact ⟨by kernel_rfl, rfl⟩
theorem width64_any (w : World) : Calls Try.prog 70 #[] w fun x w' => x = .returned (.int .i64 8) ∧ w' = w := by
  go_enter Try.func70, Try.ntmps70
  go_wp2_with fail
  refine (len64_64 _).mono ?_
  rintro e w1 ⟨rfl, rfl⟩
  go_wp2
  go_ret
  exact ⟨rfl, rfl⟩
end Go.Proofs.Ytlkjpljfbmploaa
