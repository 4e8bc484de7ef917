import Derived.Test.YtifhkfghjifecaaIF
namespace Go.Proofs.Ytifhkfghjifecaa
open Go.RowKit

/-! ### ids rise -/
def lastId (L : List Ro) : Nat → Int
  | 0 => 0
  | j + 1 => (L.getD j ro0).id
theorem okAt_isF {nx : Int} {L : List Ro} {j : Nat} (h : ∀ k, k < j → okAt nx L k = true) : okAt nx L j = isF (L.getD j ro0).id (lastId L j + 1) (nx - 1) := by
  unfold okAt isF
  cases j with
  | zero =>
    unfold lastId
    rw [Bool.eq_iff_iff]
    simp
    omega
  | succ j =>
    have h0 := h j (by omega)
    unfold okAt at h0
    simp only [Bool.and_eq_true, decide_eq_true_eq] at h0
    unfold lastId
    rw [Bool.eq_iff_iff]
    simp only [Nat.add_sub_cancel, Bool.and_eq_true, Bool.or_eq_true, decide_eq_true_eq]
    omega
theorem lastId_in {nx : Int} {L : List Ro} {j : Nat} (h : ∀ k, k < j → okAt nx L k = true) (hn : 1 ≤ nx ∧ nx ≤ 2147483648) : 0 ≤ lastId L j ∧ lastId L j ≤ 2147483648 := by
  cases j with
  | zero => have : lastId L 0 = 0 := rfl; omega
  | succ j =>
    have h0 := h j (by omega)
    unfold okAt at h0
    simp only [Bool.and_eq_true, decide_eq_true_eq] at h0
    have : lastId L (j + 1) = (L.getD j ro0).id := rfl
    omega
theorem rise_no {nx : Int} {L : List Ro} {j : Nat} (hj : j < L.length) (h : okAt nx L j = false) : rise nx L = false := by
  cases hr : rise nx L with
  | false => rfl
  | true => rw [rise_iff.1 hr j hj] at h; cases h
theorem setRow_alloc (w : World) (c d : Array Value) (t : TypeId) : (w.alloc (.cells c t)).setRow w.heap.size d = w.alloc (.cells d t) := World.setRow_alloc_new ..
set_option maxRecDepth 8000 in
set_option maxHeartbeats 3200000 in
theorem idsRise_any (w : World) (s : Su) (a : Option Addr) (c : Nat) (hI : Js w a s.rs) (hn : 1 ≤ s.nx ∧ s.nx ≤ 2147483648) (hl : s.rs.length ≤ 16) : Calls Try.prog 39 #[suv s a c] w fun y w' => y = .returned (.bool (rise s.nx s.rs)) ∧ Below w.heap.size w w' := by
  have HA := hide (al w (.cells (suC s a c) 28))
  have HB := hide (Bx.new w 28 (suC s a c))
  have HI := hide hI
  unfold suv suC at *
  clear hI
  obtain ⟨gen, bl, cl, rf, nx, L⟩ := s
  dsimp only at *
  go_enter Try.func39, Try.ntmps39
  go_wp2
  generalize w.alloc (.cells #[.int .i64 gen, .int .i64 bl, .int .i64 cl, .int .i64 rf, .int .i64 nx, .slice a L.length c] 28) = W at *
  go_loopw [3, 9] (fun l q wx => ∃ j : Nat, j ≤ L.length ∧ q = .int .i64 j ∧ l = .int .i64 (lastId L j) ∧ (∀ k, k < j → okAt nx L k = true) ∧ Below W.heap.size W wx) (fun _ q _ => L.length - (intOf q).toNat)
  case atStart => exact ⟨0, Nat.zero_le _, rfl, rfl, fun k hk => by omega, Below.refl _ _⟩
  case round =>
    obtain ⟨j, hj, rfl, rfl, hN, hBB⟩ := hrel
    have HN := hide hN
    have B := hide hBB
    have hli := lastId_in hN hn
    have HOK := hide (okAt_isF hN).symm
    clear hN hBB
    by_cases hlt : j < L.length
    · have hlti : (j : Int) < (L.length : Int) := by omega
      obtain ⟨b1, o1, rfl, cA⟩ := (HI.out.keep (bt HA.out B.out)).at hlt
      have HC := hide cA
      have cN := (HB.out.keep B.out).cell 4 rfl
      have hwl := (HB.out.keep B.out).lt
      have hwn : ¬ w.heap.size = wr.heap.size := by omega
      have HLI : Hid (lastId L (j + 1) = (L.getD j ro0).id) := rfl
      cases hx : okAt nx L j with
      | true =>
        have HNN : Hid (∀ k, k < j + 1 → okAt nx L k = true) := by
          intro k hk
          by_cases e : k = j
          · rw [e]; exact hx
          · exact HN.out k (by omega)
        rw [hx] at HOK
        clear hx cA HN
        generalize lastId L j = l0 at *
        generalize L.getD j ro0 = t at *
        unfold Ro.cs at HC
        go_wp2_with (first | (refine wpList_load_mid rfl 59 _ rfl b1 (o1 + j * 4) (by simp [Act.eval]) _ _ HC.out Try.underlying59 rfl sizeRoot ?_) | (go_at_call 57; refine (isFrom_any _ _ _ _).mono ?_; rintro y w1 ⟨rfl, hww⟩; obtain rfl := hww.symm; rw [HOK.out]))
        go_roundw
        case rel => exact ⟨j + 1, by omega, by go_num, by rw [HLI.out], HNN.out, B.out.alloc B.out.size _⟩
        case measure => simp [intOf]; omega
      | false =>
        have HR := hide (rise_no hlt hx)
        rw [hx] at HOK
        clear hx cA HN HLI
        generalize lastId L j = l0 at *
        generalize L.getD j ro0 = t at *
        unfold Ro.cs at HC
        go_wp2_with (first | (refine wpList_load_mid rfl 59 _ rfl b1 (o1 + j * 4) (by simp [Act.eval]) _ _ HC.out Try.underlying59 rfl sizeRoot ?_) | (go_at_call 57; refine (isFrom_any _ _ _ _).mono ?_; rintro y w1 ⟨rfl, hww⟩; obtain rfl := hww.symm; rw [HOK.out]))
        go_ret
        exact ⟨by rw [HR.out]; rfl, bt HA.out (B.out.alloc B.out.size _)⟩
    · obtain rfl : j = L.length := by omega
      have HR := hide (rise_iff.2 HN.out)
      go_wp2
      go_ret
      exact ⟨by rw [HR.out]; rfl, bt HA.out B.out⟩
end Go.Proofs.Ytifhkfghjifecaa
