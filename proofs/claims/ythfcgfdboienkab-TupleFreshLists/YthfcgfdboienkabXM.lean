import Derived.Test.YthfcgfdboienkabXL
import Derived.Test.YthfcgfdboienkabXC
namespace Go.Proofs.Ythfcgfdboienkab
open Go.RowKit

def W1 : List VV := [⟨2, false, 256, 0, 0, 0, ⟨#[]⟩⟩, ⟨5, false, 0, 0, 0, 0, ⟨#[97]⟩⟩]
def W2 : List VV := [⟨2, false, -2, 0, 0, 0, ⟨#[]⟩⟩, ⟨1, true, 0, 0, 0, 0, ⟨#[]⟩⟩]
theorem wd_256 : wd 256 = 2 := wd_eq (by decide) (.inr (by decide))
theorem wd_1 : wd 1 = 1 := wd_eq (by decide) (.inr (by decide))
theorem encR_W1 : encR W1 = ([34, 1, 0, 64, 97, 0], 0) := by
  have h1 : (VV.mk 2 false 256 0 0 0 ⟨#[]⟩).bytes = [34, 1, 0] := by
    have : iw 256 = 2 := by unfold iw; rw [if_pos (by decide)]; exact wd_256
    unfold VV.bytes
    simp only [this]
    decide
  have h2 : (VV.mk 5 false 0 0 0 0 ⟨#[97]⟩).bytes = [64, 97, 0] := by decide
  unfold encR W1 enc
  simp only [List.map_cons, List.map_nil, h1, h2]
  decide
theorem decR_W2 : decR [30, 254, 3] = (W2, 0) := by
  have h1 : (VV.mk 2 false (-2) 0 0 0 ⟨#[]⟩).bytes = [30, 254] := by
    have : iw (-2) = 1 := by unfold iw; rw [if_neg (by decide)]; exact wd_1
    unfold VV.bytes
    simp only [this]
    decide
  have h2 : (VV.mk 1 true 0 0 0 0 ⟨#[]⟩).bytes = [3] := by decide
  have r1 : readR [30, 254, 3] = (VV.mk 2 false (-2) 0 0 0 ⟨#[]⟩, 2, 0) := by
    unfold readR
    rw [show vlen [30, 254, 3] = 2 by decide, show List.take 2 [30, 254, 3] = [30, 254] from rfl, show vget [30, 254] = VV.mk 2 false (-2) 0 0 0 ⟨#[]⟩ by rfl, h1]
    rfl
  have r2 : readR [3] = (VV.mk 1 true 0 0 0 0 ⟨#[]⟩, 1, 0) := by
    unfold readR
    rw [show vlen [3] = 1 by decide, show List.take 1 [3] = [3] from rfl, show vget [3] = VV.mk 1 true 0 0 0 0 ⟨#[]⟩ by rfl, h2]
    rfl
  rw [decA_start _ (by decide), decA_good (by simp) (by rw [r1]), r1]
  show decA _ [3] = _
  rw [decA_good (by simp) (by rw [r2]), r2]
  show decA _ [] = _
  rw [decA_nil]
  rfl
set_option maxHeartbeats 800000 in
theorem works_any (w : World) : Calls Try.prog 8 #[] w fun e w' => e = .returned (.bool true) ∧ Below w.heap.size w w' := by
  have E := hide tEncode_any
  have D := hide tDecode_any
  have sf := st_float
  have sc := st_complex
  have okW1 : ∀ v ∈ W1, v.ok := by
    intro v hv
    simp only [W1, List.mem_cons, List.not_mem_nil, or_false] at hv
    rcases hv with rfl | rfl <;> exact ⟨by decide, by decide, by decide, by decide, by decide, by decide, by decide, by decide⟩
  have okW2 : ∀ v ∈ W2, v.ok := by
    intro v hv
    simp only [W2, List.mem_cons, List.not_mem_nil, or_false] at hv
    rcases hv with rfl | rfl <;> exact ⟨by decide, by decide, by decide, by decide, by decide, by decide, by decide, by decide⟩
  have OK2 := hide okW2
  have P1 : Pw (w.alloc (.cells #[.int .i64 2, .bool false, .int .i64 256, .float .f64 0, .complex .f64 0 0, .string ⟨#[]⟩, .int .i64 5, .bool false, .int .i64 0, .float .f64 0, .complex .f64 0 0, .string ⟨#[97]⟩] 48)) (some ⟨w.heap.size, 0, none⟩) 2 W1 := Pw.mk (heap_alloc_new _ _) (by decide) (by unfold maxLen; omega) rfl rfl
  have E1 := E.out _ _ 2 2 W1 (P1.read okW1 (by decide)) rfl
  rw [encR_W1] at E1
  have E1 := hide E1
  clear P1 okW1 okW2 E
  go_enter Try.func8, Try.ntmps8
  go_wp2_with fail
  refine E1.out.mono ?_
  rintro e w1 ⟨a1, c1, rfl, h1⟩
  have R2 : Rw (w1.alloc (.cells #[.int .u8 30, .int .u8 254, .int .u8 3] 5)) (some ⟨w1.heap.size, 0, none⟩) 3 [30, 254, 3] := Rw.mk (heap_alloc_new _ _) (by decide) (by unfold maxLen; omega) rfl rfl
  have D1 := D.out _ _ 3 3 [30, 254, 3] (R2.bs (by decide) (by decide)) (by decide) rfl
  rw [decR_W2] at D1
  have D1 := hide D1
  have B1 := hide (bt (al _ _) h1.b)
  have H1 := hide h1
  clear h1 R2 E1 D
  go_wp2_with fail
  refine D1.out.mono ?_
  rintro e w2 ⟨a2, c2, rfl, h2, _⟩
  have B2 := hide (bt (bt B1.out (al _ _)) h2.b)
  have H2 := hide h2
  have O1 := hide ((H1.out.keep (al _ _)).keep h2.b)
  clear h2 D1 H1
  have R3 : Rw (w2.alloc (.cells #[.int .u8 34, .int .u8 1, .int .u8 0, .int .u8 64, .int .u8 97, .int .u8 0] 5)) (some ⟨w2.heap.size, 0, none⟩) 6 [34, 1, 0, 64, 97, 0] := Rw.mk (heap_alloc_new _ _) (by decide) (by unfold maxLen; omega) rfl rfl
  have Q1 := hide (EqBytes_same _ a1 (some ⟨w2.heap.size, 0, none⟩) 6 6 c1 6 [34, 1, 0, 64, 97, 0] ((O1.out.keep (al _ _)).r.bs (by decide) (by decide)) (R3.bs (by decide) (by decide)) rfl rfl)
  have B3 := hide (bt B2.out (al w2 (.cells #[.int .u8 34, .int .u8 1, .int .u8 0, .int .u8 64, .int .u8 97, .int .u8 0] 5)))
  have H3 := hide (H2.out.keep (al w2 (.cells #[.int .u8 34, .int .u8 1, .int .u8 0, .int .u8 64, .int .u8 97, .int .u8 0] 5)))
  clear R3
  go_wp2_with fail
  refine Q1.out.mono ?_
  rintro e w3 ⟨rfl, hb3⟩
  have B4 := hide (bt B3.out hb3)
  have H4 := hide (H3.out.keep hb3)
  clear hb3 Q1 O1 H3 B3 H2 B2 B1
  have RC : Rvw (w3.alloc (.cells #[.int .i64 2, .bool false, .int .i64 (-2), .int .u64 0, .int .u64 0, .int .u64 0, .string ⟨#[]⟩, .int .i64 1, .bool true, .int .i64 0, .int .u64 0, .int .u64 0, .int .u64 0, .string ⟨#[]⟩] 52)) (some ⟨w3.heap.size, 0, none⟩) 2 W2 := Rvw.mk (heap_alloc_new _ _) (by decide) (by unfold maxLen; omega) rfl rfl
  have K1 := hide (like_same _ a2 (some ⟨w3.heap.size, 0, none⟩) W2.length 2 c2 2 W2 ((H4.out.keep (al _ _)).r.read OK2.out (by decide)) (RC.read OK2.out (by decide)) rfl rfl)
  clear RC
  go_wp2_with fail
  refine K1.out.mono ?_
  rintro e w4 ⟨rfl, hb4⟩
  have B5 := hide (bt (B4.out.alloc B4.out.size _) hb4)
  clear hb4 K1
  go_wp2
  go_ret
  exact ⟨rfl, B5.out⟩
end Go.Proofs.Ythfcgfdboienkab
