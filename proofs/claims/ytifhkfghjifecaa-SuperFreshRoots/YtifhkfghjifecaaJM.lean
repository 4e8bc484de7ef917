import Derived.Test.YtifhkfghjifecaaJK
namespace Go.Proofs.Ytifhkfghjifecaa
open Go.RowKit

/-! ### the document's numbers -/
theorem numV_at (l : List Nat) (i n : Nat) : numV ((l.drop i).take (n + 1)) = l.getD i 0 + 256 * numV ((l.drop (i + 1)).take n) := by
  by_cases h : i < l.length
  · rw [List.drop_eq_getElem_cons h, List.take_succ_cons, numV]
    simp [h]
  · rw [List.drop_eq_nil_of_le (by omega), List.drop_eq_nil_of_le (by omega)]
    simp [numV, h]
theorem or_num {Y c : Nat} (hY : Y < 72057594037927936) (hc : c < 256) : bits .or .i64 (wrap64 ((Y : Int) * 256)) (c : Int) = i64w (c + 256 * Y) := by
  show IntKind.i64.wrap ((BitVec.ofInt 64 (wrap64 ((Y : Int) * 256)) ||| BitVec.ofInt 64 (c : Int)).toNat : Int) = _
  have h1 : (BitVec.ofInt 64 (wrap64 ((Y : Int) * 256))).toNat = Y * 256 := by
    rw [BitVec.toNat_ofInt]
    unfold wrap64
    omega
  rw [BitVec.toNat_or, h1, ofInt_u64 c (by omega), nat_join 8 (Y * 256) c (by omega) (by omega), i64w_wrap (by omega), Nat.add_comm, Nat.mul_comm]
theorem i64w_small {Y : Nat} (h : Y < 9223372036854775808) : i64w Y = (Y : Int) := by unfold i64w; rw [if_pos h]
set_option maxHeartbeats 800000 in
theorem number_any (w : World) (a : Option Addr) (n cap : Nat) (l : List Nat) (hB : Bs w a l) (hn : n = l.length) (i k : Nat) (hk : k ≤ 8) (hi : i + k ≤ l.length) (hl : l.length ≤ 512) :
    Calls Try.prog 19 #[.slice a n cap, .int .i64 (i : Int), .int .i64 (k : Int)] w fun e w' => e = .returned (.int .i64 (i64w (nv l i k))) ∧ w' = w := by
  subst hn
  have HB := hide fun (j : Nat) (hj : j < l.length) => hB.at hj
  have H8 := hide fun (j : Nat) (hj : j < l.length) => hB.1 _ (show l.getD j 0 ∈ l by simp [hj])
  have HNL := hide fun (i k : Nat) => nv_lt (D := l) hB.1 i k
  clear hB
  go_enter Try.func19, Try.ntmps19
  go_wp2
  go_loopw [7, 8] (fun x y wx => ∃ j : Nat, j ≤ k ∧ y = .int .i64 ((j : Int) - 1) ∧ x = .int .i64 (i64w (nv l (i + j) (k - j))) ∧ wx = w) (fun _ y _ => (intOf y + 1).toNat)
  case atStart => exact ⟨k, Nat.le_refl _, rfl, by simp [nv, numV, i64w], rfl⟩
  case round =>
    obtain ⟨j, hj, rfl, rfl, rfl⟩ := hrel
    cases j with
    | zero =>
      go_wp2
      go_ret
      exact ⟨rfl, rfl⟩
    | succ j =>
      have e0 : (((j + 1 : Nat) : Int) - 1) = (j : Int) := by omega
      rw [e0]
      have hge : (0 : Int) ≤ (j : Int) := by omega
      have hlti : (i : Int) + (j : Int) < (l.length : Int) := by omega
      have h8 := H8.out (i + j) (by omega)
      obtain ⟨bk, off, rfl, hc⟩ := HB.out (i + j) (by omega)
      have hN : Hid (nv l (i + j) (k - j) = l.getD (i + j) 0 + 256 * nv l (i + (j + 1)) (k - (j + 1))) := by
        show _ = _
        unfold nv
        rw [show k - j = (k - (j + 1)) + 1 by omega, numV_at, Nat.add_assoc]
      have hY : nv l (i + (j + 1)) (k - (j + 1)) < 72057594037927936 := Nat.lt_of_lt_of_le (HNL.out _ _) (by
        have : 256 ^ (k - (j + 1)) ≤ 256 ^ 7 := Nat.pow_le_pow_right (by decide) (by omega)
        omega)
      rw [i64w_small (by omega)]
      generalize l.getD (i + j) 0 = c at *
      generalize nv l (i + (j + 1)) (k - (j + 1)) = Y at *
      have HOR := hide (or_num hY h8)
      rw [← hN.out] at HOR
      clear hN
      go_wp2
      go_roundw
      case rel => exact ⟨j, by omega, rfl, by rw [HOR.out], by first | rfl | trivial⟩
      case measure => simp [intOf]
end Go.Proofs.Ytifhkfghjifecaa
