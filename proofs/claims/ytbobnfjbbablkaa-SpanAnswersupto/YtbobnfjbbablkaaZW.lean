import Derived.Test.YtbobnfjbbablkaaZV
import Derived.Test.YtbobnfjbbablkaaZT
namespace Go.Proofs.Ytbobnfjbbablkaa
open Go.RowKit

set_option maxRecDepth 100000 in
set_option maxHeartbeats 1600000 in
theorem eCommon_any (w : World) (a b : Option Addr) (n c m d : Nat) (l k : List Nat) (hA : Bs w a l) (hB : Bs w b k) (hn : n = l.length) (hm : m = k.length) :
    Calls Try.prog 22 #[.slice a n c, .slice b m d] w fun e w' => e = .returned (.int .i64 (common l k : Nat)) ∧ Below w.heap.size w w' := by
  subst hn hm
  have hlen := hA.2.1
  have hlen2 := hB.2.1
  have HA := hide hA
  have HB := hide hB
  have HC := hide (common_at l k)
  clear hA hB
  go_enter Try.func22, Try.ntmps22
  go_wp2
  go_loopw [5] (fun i wx => ∃ j : Nat, j ≤ l.length ∧ j ≤ k.length ∧ i = .int .i64 j ∧ ((∀ i, i < j → l.getD i 0 = k.getD i 0) ∧ Below w.heap.size w wx)) (fun i _ => l.length - (intOf i).toNat)
  case atStart => exact ⟨0, Nat.zero_le _, Nat.zero_le _, rfl, fun i hi => by omega, Below.refl _ _⟩
  case round =>
    obtain ⟨j, hj, hj2, rfl, hG⟩ := hrel
    have HG := hide hG
    clear hG
    by_cases hlt : j < l.length
    · have hi1 : (j : Int) < (l.length : Int) := by omega
      by_cases hlt2 : j < k.length
      · have hi2 : (j : Int) < (k.length : Int) := by omega
        obtain ⟨b1, o1, rfl, hc1⟩ := byte_at HA.out HG.out.2 (j := j) (by omega)
        obtain ⟨b2, o2, rfl, hc2⟩ := byte_at HB.out HG.out.2 (j := j) (by omega)
        have hj1 := w64 (j := j) (by omega)
        by_cases hx : l.getD j 0 = k.getD j 0
        · have HS : Hid (∀ i, i < j + 1 → l.getD i 0 = k.getD i 0) := fun i hi => by
            by_cases e : i = j
            · rw [e]; exact hx
            · exact HG.out.1 i (by omega)
          rw [hx] at hc1
          generalize k.getD j 0 = x at *
          go_wp2
          go_quiet (fail)
          go_wp2
          go_roundw
          case rel => exact ⟨j + 1, by omega, by omega, by first | (go_num; done) | exact congrArg (Value.int IntKind.i64) (by omega), HS.out, bt HG.out.2 (drN _ _)⟩
          case measure => first | exact meas_up _ _ _ hj1 hlt | exact meas_up _ _ _ rfl hlt | (simp [intOf]; omega)
        · have HS : Hid (common l k = j) := HC.out j (by omega) (by omega) HG.out.1 (.inr (.inr hx))
          have hx1 : (((l.getD j 0 : Nat) : Int) == ((k.getD j 0 : Nat) : Int)) = false := eqf (by omega)
          generalize l.getD j 0 = x at *
          generalize k.getD j 0 = y at *
          go_wp2
          go_quiet (fail)
          go_wp2
          go_ret
          exact ⟨by rw [HS.out]; first | done | rfl, bt HG.out.2 (drN _ _)⟩
      · have hi2 : ¬ (j : Int) < (k.length : Int) := by omega
        have HS : Hid (common l k = j) := HC.out j hj hj2 HG.out.1 (.inr (.inl (by omega)))
        go_wp2
        go_quiet (fail)
        go_wp2
        go_ret
        exact ⟨by rw [HS.out]; first | done | rfl, bt HG.out.2 (drN _ _)⟩
    · have hi1 : ¬ (j : Int) < (l.length : Int) := by omega
      have HS : Hid (common l k = j) := HC.out j hj hj2 HG.out.1 (.inl (by omega))
      go_wp2
      go_quiet (fail)
      go_wp2
      go_ret
      exact ⟨by rw [HS.out]; first | done | rfl, bt HG.out.2 (drN _ _)⟩

theorem spanOrder_any (w : World) (a0 : Option Addr) (c0 : Nat) (l : List Nat) (hB0 : Bs w a0 l) (_ : l.length + 64 ≤ 140737488355328) (_ : l.length ≤ c0) (a1 : Option Addr) (c1 : Nat) (k : List Nat) (hB1 : Bs w a1 k) (_ : k.length + 64 ≤ 140737488355328) (_ : k.length ≤ c1) :
    Calls Try.prog 4 #[.slice a0 l.length c0, .slice a1 k.length c1] w fun e w' => e = .returned (.bool true) ∧ Below w.heap.size w w' := by
  have FX := hide (fixed_any w)
  have C1 := hide fun w1 (hb : Below w.heap.size w w1) => sCompare_any w1 a0 a1 l.length c0 k.length c1 l k (hB0.keep hb) (hB1.keep hb) rfl rfl
  have C2 := hide fun w1 (hb : Below w.heap.size w w1) => Compare_any w1 a0 a1 l.length k.length c0 c1 l k (hB0.keep hb) (hB1.keep hb) rfl rfl
  have C3 := hide fun w1 (hb : Below w.heap.size w w1) => Common_any w1 a0 a1 l.length c0 k.length c1 l k (hB0.keep hb) (hB1.keep hb) rfl rfl
  have C4 := hide fun w1 (hb : Below w.heap.size w w1) => eCommon_any w1 a0 a1 l.length c0 k.length c1 l k (hB0.keep hb) (hB1.keep hb) rfl rfl
  clear hB0 hB1
  generalize cmpB l k = z at *
  generalize common l k = y at *
  go_enter Try.func4, Try.ntmps4
  go_wp2_with fail
  refine FX.out.mono ?_
  rintro e w1 ⟨rfl, hb⟩
  have HB1 := hide hb
  clear hb
  go_wp2_with fail
  refine (C1.out _ HB1.out).mono ?_
  rintro e w9 ⟨rfl, hw⟩
  obtain rfl := hw.symm
  go_wp2_with fail
  refine (C2.out _ HB1.out).mono ?_
  rintro e w2 ⟨rfl, hb⟩
  have HB2 := hide (bt HB1.out hb)
  clear hb
  go_wp2_with fail
  refine (C3.out _ HB2.out).mono ?_
  rintro e w3 ⟨rfl, hb⟩
  have HB3 := hide (bt HB2.out hb)
  clear hb
  go_wp2_with fail
  refine (C4.out _ HB3.out).mono ?_
  rintro e w4 ⟨rfl, hb⟩
  have HB4 := hide (bt HB3.out hb)
  clear hb
  go_wp2
  go_ret
  exact ⟨by simp, HB4.out⟩
theorem spanNext_any (w : World) (a0 : Option Addr) (c0 : Nat) (l : List Nat) (hB0 : Bs w a0 l) (_ : l.length + 64 ≤ 140737488355328) (hC : l.length ≤ c0) :
    Calls Try.prog 5 #[.slice a0 l.length c0] w fun e w' => e = .returned (.bool true) ∧ Below w.heap.size w w' := by
  have FX := hide (fixed_any w)
  have C1 := hide fun w1 (hb : Below w.heap.size w w1) => Next_any w1 a0 l.length c0 l (hB0.keep hb) rfl hC
  have C2 := hide fun w1 (hb : Below w.heap.size w w1) => eNext_any w1 a0 l.length c0 l (hB0.keep hb) rfl hC
  have N8 := hide (next_b8 (B8_of hB0))
  clear hB0 hC
  generalize next l = z at *
  go_enter Try.func5, Try.ntmps5
  go_wp2_with fail
  refine FX.out.mono ?_
  rintro e w1 ⟨rfl, hb⟩
  have HB1 := hide hb
  clear hb
  go_wp2_with fail
  refine (C1.out _ HB1.out).mono ?_
  rintro e w2 ⟨a2, c2, rfl, o2⟩
  have HB2 := hide (bt HB1.out o2.b)
  have K2 := hide (o2.bs N8.out)
  clear o2
  go_wp2_with fail
  refine (C2.out _ HB2.out).mono ?_
  rintro e w3 ⟨a3, c3, rfl, k3, _, hb⟩
  have HB3 := hide (bt HB2.out hb)
  have K2' := hide (K2.out.keep hb)
  have K3 := hide k3
  clear hb k3
  go_wp2_with fail
  refine (EqBytes_same w3 a2 a3 z.length z.length c2 c3 z K2'.out K3.out rfl rfl).mono ?_
  rintro e w4 ⟨rfl, hb⟩
  have HB4 := hide (bt HB3.out hb)
  clear hb
  go_wp2
  go_ret
  exact ⟨by simp, HB4.out⟩
end Go.Proofs.Ytbobnfjbbablkaa
