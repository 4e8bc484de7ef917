import Derived.Test.YtifhkfghjifecaaJK
import Derived.BigQuiet
namespace Go.Proofs.Ytifhkfghjifecaa
open Go.RowKit

/-! ### the document's numbers -/
theorem numV_at (l : List Nat) (i n : Nat) : numV ((l.drop i).take (n + 1)) = l.getD i 0 + 256 * numV ((l.drop (i + 1)).take n) := by
  by_cases h : i < l.length
  · rw [List.drop_eq_getElem_cons h, List.take_succ_cons, numV]
    simp [h]
  · rw [List.drop_eq_nil_of_le (by omega), List.drop_eq_nil_of_le (by omega)]
    simp [numV, h]
theorem or_num {Y c : Nat} (hY : Y < 72057594037927936) (hc : c < 256) : bits .or .i64 (wrap64 ((Y : Int) * 256)) (c : Int) = i64w (c + 256 * Y) := by
  show IntKind.i64.wrap ((BitVec.ofInt 64 (wrap64 ((Y : Int) * 256)) ||| BitVec.ofInt 64 (c : Int)).toNat : Int) = _
  have h1 : (BitVec.ofInt 64 (wrap64 ((Y : Int) * 256))).toNat = Y * 256 := by
    rw [BitVec.toNat_ofInt]
    unfold wrap64
    omega
  rw [BitVec.toNat_or, h1, ofInt_u64 c (by omega), nat_join 8 (Y * 256) c (by omega) (by omega), i64w_wrap (by omega), Nat.add_comm, Nat.mul_comm]
theorem i64w_small {Y : Nat} (h : Y < 9223372036854775808) : i64w Y = (Y : Int) := by unfold i64w; rw [if_pos h]
set_option maxHeartbeats 800000 in
theorem number_any (w : World) (a : Option Addr) (n cap : Nat) (l : List Nat) (hB : Bs w a l) (hn : n = l.length) (i k : Nat) (hk : k ≤ 8) (hi : i + k ≤ l.length) (hl : l.length ≤ 512) :
    Calls Try.prog 19 #[.slice a n cap, .int .i64 (i : Int), .int .i64 (k : Int)] w fun e w' => e = .returned (.int .i64 (i64w (nv l i k))) ∧ w' = w := by
  subst hn
  have HB := hide fun (j : Nat) (hj : j < l.length) => hB.at hj
  have H8 := hide fun (j : Nat) (hj : j < l.length) => hB.1 _ (show l.getD j 0 ∈ l by simp [hj])
  have HNL := hide fun (i k : Nat) => nv_lt (D := l) hB.1 i k
  clear hB
  go_enter Try.func19, Try.ntmps19
  go_wp2
  go_loopw [7, 8] (fun x y wx => ∃ j : Nat, j ≤ k ∧ y = .int .i64 ((j : Int) - 1) ∧ x = .int .i64 (i64w (nv l (i + j) (k - j))) ∧ wx = w) (fun _ y _ => (intOf y + 1).toNat)
  case atStart => exact ⟨k, Nat.le_refl _, rfl, by simp [nv, numV, i64w], rfl⟩
  case round =>
    obtain ⟨j, hj, rfl, rfl, rfl⟩ := hrel
    cases j with
    | zero =>
      go_wp2
      go_ret
      exact ⟨rfl, rfl⟩
    | succ j =>
      have e0 : (((j + 1 : Nat) : Int) - 1) = (j : Int) := by omega
      rw [e0]
      have hge : (0 : Int) ≤ (j : Int) := by omega
      have hlti : (i : Int) + (j : Int) < (l.length : Int) := by omega
      have h8 := H8.out (i + j) (by omega)
      obtain ⟨bk, off, rfl, hc⟩ := HB.out (i + j) (by omega)
      have hN : Hid (nv l (i + j) (k - j) = l.getD (i + j) 0 + 256 * nv l (i + (j + 1)) (k - (j + 1))) := by
        show _ = _
        unfold nv
        rw [show k - j = (k - (j + 1)) + 1 by omega, numV_at, Nat.add_assoc]
      have hY : nv l (i + (j + 1)) (k - (j + 1)) < 72057594037927936 := Nat.lt_of_lt_of_le (HNL.out _ _) (by
        have : 256 ^ (k - (j + 1)) ≤ 256 ^ 7 := Nat.pow_le_pow_right (by decide) (by omega)
        omega)
      rw [i64w_small (by omega)]
      generalize l.getD (i + j) 0 = c at *
      generalize nv l (i + (j + 1)) (k - (j + 1)) = Y at *
      have HOR := hide (or_num hY h8)
      rw [← hN.out] at HOR
      clear hN
      go_wp2
      go_roundw
      case rel => exact ⟨j, by omega, rfl, by rw [HOR.out], by first | rfl | trivial⟩
      case measure => simp [intOf]
end Go.Proofs.Ytifhkfghjifecaa

namespace Go.Proofs.Ytifhkfghjifecaa
open Go.RowKit

/-! ### the document's Decode -/
theorem nv_take {b : List Nat} {i k : Nat} (h : i + k ≤ 508) : nv (b.take 508) i k = nv b i k := by
  unfold nv
  rw [List.drop_take, List.take_take, Nat.min_eq_left (by omega)]
theorem nv_end {b : List Nat} (h : b.length = 512) : nv b 508 4 = numV (b.drop 508) := by
  unfold nv
  rw [List.take_of_length_le (by rw [List.length_drop]; omega)]
set_option maxRecDepth 8000 in
set_option maxHeartbeats 1600000 in
theorem rD_len (w : World) (a : Option Addr) (n c : Nat) (b : List Nat) (hn : n = b.length) (hl : b.length ≠ 512) : Calls Try.prog 7 #[.slice a n c] w (DeQ w b) := by
  have h1 : deE b = 1 := by unfold deE; rw [if_pos hl]
  have HD := hide (fun w' hb => deQ_err (w := w) (w' := w') (b := b) (by rw [h1]; decide) hb)
  rw [h1] at HD
  have hn5 : (((n : Nat) : Int) == 512) = false := by simp; omega
  have hn6 : ¬ n = 512 := by omega
  have HX := hide (Bx.new w 28 z6)
  have HA := hide (al w (.cells z6 28))
  clear h1 hl hn
  unfold z6 at *
  go_enter Try.func7, Try.ntmps7
  go_wp2_with (refine wpList_store_row rfl 28 _ _ rfl w.heap.size _ rfl rfl 28 _ HX.out sizeSuper rfl (by simp [Value.oneCell']) ?_)
  refine bodyPost_ret (v := .tuple #[.agg _, _]) (results_cell_one Try.results7 _ _ w.heap.size 28 _ (0, 0) _ rfl (setRow_heap _ _ _ _ _ _ HX.out) Try.underlying28 rfl sizeSuper) rfl ?_
  exact HD.out _ (below_setRow HA.out (Nat.le_refl _) _)
/-- what the document's calls tell of these bytes -/
structure Nq (w : World) (a : Option Addr) (c : Nat) (b : List Nat) : Prop where
  n4 : ∀ w1, Below w.heap.size w w1 → ∀ i : Nat, i + 4 ≤ 512 → Calls Try.prog 19 #[.slice a 512 c, .int .i64 (i : Int), .int .i64 4] w1 fun e w' => e = .returned (.int .i64 ((nv b i 4 : Nat) : Int)) ∧ w' = w1
  n1 : ∀ w1, Below w.heap.size w w1 → ∀ i : Nat, i + 1 ≤ 512 → Calls Try.prog 19 #[.slice a 512 c, .int .i64 (i : Int), .int .i64 1] w1 fun e w' => e = .returned (.int .i64 ((nv b i 1 : Nat) : Int)) ∧ w' = w1
  n8 : ∀ w1, Below w.heap.size w w1 → Calls Try.prog 19 #[.slice a 512 c, .int .i64 4, .int .i64 8] w1 fun e w' => e = .returned (.int .i64 (i64w (nv b 4 8))) ∧ w' = w1
  of : ∀ w1, Below w.heap.size w w1 → ∀ c', Calls Try.prog 20 #[.slice a 508 c'] w1 fun e w' => e = .returned (.int .u32 ((M.of (b.take 508) : Nat) : Int)) ∧ w' = w1
theorem nq (w : World) (a : Option Addr) (c : Nat) (b : List Nat) (hB : Bs w a b) (hl : b.length = 512) : Nq w a c b := by
  refine ⟨fun w1 hb i hi => ?_, fun w1 hb i hi => ?_, fun w1 hb => ?_, fun w1 hb c' => ?_⟩
  · have h := number_any w1 a 512 c b (hB.keep hb) hl.symm i 4 (by decide) (by omega) (by omega)
    rw [i64w_small (by have := nv_lt hB.1 i 4; omega)] at h
    exact h
  · have h := number_any w1 a 512 c b (hB.keep hb) hl.symm i 1 (by decide) (by omega) (by omega)
    rw [i64w_small (by have := nv_lt hB.1 i 1; omega)] at h
    exact h
  · exact number_any w1 a 512 c b (hB.keep hb) hl.symm 4 8 (by decide) (by omega) (by omega)
  · obtain ⟨bk, off, rfl, _⟩ := hB.at (j := 0) (by omega)
    exact rOf_any _ 508 c' (b.take 508) w1 ((hB.keep hb).take 508) (by rw [List.length_take]; omega)
set_option maxRecDepth 8000 in
set_option maxHeartbeats 3200000 in
theorem rD_sum (w : World) (a : Option Addr) (c : Nat) (b : List Nat) (hB : Bs w a b) (hl : b.length = 512) (hc : 512 ≤ c) (hs : numV (b.drop 508) ≠ M.of (b.take 508)) : Calls Try.prog 7 #[.slice a 512 c] w (DeQ w b) := by
  have h1 : deE b = 6 := by unfold deE; rw [if_neg (by rw [hl]; simp), if_pos hs]
  have HD := hide (fun w' hb => deQ_err (w := w) (w' := w') (b := b) (by rw [h1]; decide) hb)
  rw [h1] at HD
  have Q := hide (nq w a c b hB hl)
  have hne : ((((nv b 508 4 : Nat) : Int)) == ((M.of (b.take 508) : Nat) : Int)) = false := by rw [nv_end hl, beqn]; simpa using hs
  have hof : M.of (b.take 508) < 4294967296 := M.of_lt (B8.take hB.1 508)
  have NS := hide fun (w1 : World) (hb : Below w.heap.size w w1) => Q.out.n4 w1 hb 508 (by omega)
  have OF := hide fun (w1 : World) (hb : Below w.heap.size w w1) => Q.out.of w1 hb
  have HX := hide (Bx.new w 28 z6)
  have HA := hide (al w (.cells z6 28))
  have h508 : (508 : Int) ≤ (c : Int) := by omega
  have hcn : (c == 508) = false := by simp; omega
  have hcn' : ¬ c = 508 := by omega
  obtain ⟨bk, off, rfl, _⟩ := hB.at (j := 0) (by omega)
  clear h1 hl hB hs
  generalize nv b 508 4 = nvv at *
  generalize M.of (b.take 508) = mo at *
  have hcv : IntKind.i64.wrap (mo : Int) = (mo : Int) := by rw [IntKind.wrap_i64]; omega
  have hne' : ¬ nvv = mo := by
    have h : ¬ (nvv : Int) = (mo : Int) := by simpa using hne
    omega
  unfold z6 at *
  go_enter Try.func7, Try.ntmps7
  go_wp2
  generalize w.alloc (.cells #[.int .i64 0, .int .i64 0, .int .i64 0, .int .i64 0, .int .i64 0, .slice none 0 0] 28) = W0 at *
  go_quiet (first | (go_at_call 19; exact Calls.quiet_of_same (NS.out _ (bt HA.out (drN _ _)))) | (go_at_call 20; exact Calls.quiet_of_same (OF.out _ (bt HA.out (drN _ _)) _)))
  have HX := hide (HX.out.keep (drN W0 nq))
  have HA := hide (bt HA.out (drN W0 nq))
  go_wp2_with (refine wpList_store_row rfl 28 _ _ rfl w.heap.size _ rfl rfl 28 _ HX.out sizeSuper rfl (by simp [Value.oneCell']) ?_)
  refine bodyPost_ret (v := .tuple #[.agg _, _]) (results_cell_one Try.results7 _ _ w.heap.size 28 _ (0, 0) _ rfl (setRow_heap _ _ _ _ _ _ HX.out) Try.underlying28 rfl sizeSuper) rfl ?_
  exact HD.out _ (below_setRow HA.out (Nat.le_refl _) _)
end Go.Proofs.Ytifhkfghjifecaa
