import Derived.Test.YtkhdbeambmfdfaaK
namespace Go.Proofs.Ytkhdbeambmfdfaa
open Go.RowKit

set_option maxHeartbeats 400000 in
theorem rJoin_any (s t : Nat) (n : Int) (w : World) (hs : s < 4294967296) (ht : t < 4294967296) (hn : n ≤ 9223372036854775807) :
    Calls Try.prog 20 #[.int .u32 s, .int .u32 t, .int .i64 n] w fun e w' => e = .returned (.int .u32 (M.join s t n.toNat : Nat)) ∧ Below w.heap.size w w' := by
  have hG := rSteps_any s n w hs hn
  have HG := hide hG
  have e2 := xor32 _ t (M.st_lt (8 * n.toNat) hs) ht
  have HB : Hid (M.join s t n.toNat = M.st (8 * n.toNat) s ^^^ t) := rfl
  clear hG
  generalize M.join s t n.toNat = r at HB ⊢
  generalize M.st (8 * n.toNat) s = u at *
  generalize u ^^^ t = v at *
  go_enter Try.func20, Try.ntmps20
  go_wp2_with fail
  refine HG.out.mono ?_
  rintro e w1 ⟨rfl, hb1⟩
  go_wp2
  go_ret
  exact ⟨ret_int (by rw [HB.out]), hb1⟩

set_option maxHeartbeats 400000 in
theorem rZeros_any (n : Int) (w : World) (hn : n ≤ 9223372036854775807) :
    Calls Try.prog 22 #[.int .i64 n] w fun e w' => e = .returned (.int .u32 (M.zeros n.toNat : Nat)) ∧ Below w.heap.size w w' := by
  have hG := rSteps_any M.F n w M.F_lt hn
  rw [show ((M.F : Nat) : Int) = 4294967295 from rfl] at hG
  have HG := hide hG
  have e2 := not32 _ (M.st_lt (8 * n.toNat) M.F_lt)
  have HB : Hid (M.zeros n.toNat = M.neg (M.st (8 * n.toNat) M.F)) := rfl
  clear hG
  generalize M.zeros n.toNat = r at HB ⊢
  generalize M.st (8 * n.toNat) M.F = u at *
  generalize M.neg u = v at *
  have hsg : IntKind.u32.signed = false := rfl
  have hmx : IntKind.u32.max = 4294967295 := rfl
  go_enter Try.func22, Try.ntmps22
  go_wp2_with fail
  refine HG.out.mono ?_
  rintro e w1 ⟨rfl, hb1⟩
  go_wp2
  go_ret
  exact ⟨ret_int (by rw [HB.out]), hb1⟩
end Go.Proofs.Ytkhdbeambmfdfaa
