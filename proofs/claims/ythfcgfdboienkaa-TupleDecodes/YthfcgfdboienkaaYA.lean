import Derived.Test.YthfcgfdboienkaaXI
namespace Go.Proofs.Ythfcgfdboienkaa
open Go.RowKit

set_option maxHeartbeats 800000 in
theorem dlength_any (w : World) (b off cap n : Nat) (l : List Nat) (hB : Bs w (some ⟨b, off, none⟩) l) (hl : l.length ≤ 4096) (h0 : 0 < l.length) (hn : n = l.length) :
    Calls Try.prog 44 #[.slice (some ⟨b, off, none⟩) n cap] w fun e w' => e = .returned (.int .i64 (vlen l : Int)) ∧ w' = w := by
  subst hn
  obtain ⟨_, _, e, hc⟩ := (byte_at hB (Below.refl _ _) h0)
  simp only [Option.some.injEq, Addr.mk.injEq, and_true] at e
  obtain ⟨rfl, rfl⟩ := e
  have HB := hide hB
  have hlt := getD_lt hB.1 h0
  have hli : (0 : Int) < (l.length : Int) := by omega
  rw [Nat.add_zero] at hc
  rw [vlen_eq]
  clear hB
  generalize l.getD 0 0 = c at *
  have h7 : (1 ≤ c ∧ c ≤ 3) ∨ (23 ≤ c ∧ c ≤ 31) ∨ (32 ≤ c ∧ c ≤ 40) ∨ c = 48 ∨ c = 56 ∨ c = 64 ∨ c = 0 ∨ (4 ≤ c ∧ c ≤ 22) ∨ (41 ≤ c ∧ c ≠ 48 ∧ c ≠ 56 ∧ c ≠ 64) := by omega
  rcases h7 with ⟨g1, g2⟩ | ⟨g1, g2⟩ | ⟨g1, g2⟩ | rfl | rfl | rfl | rfl | ⟨g1, g2⟩ | ⟨g1, g2, g3, g4⟩
  · rw [if_pos ⟨g1, g2⟩]
    have r1 : (1 : Int) ≤ (c : Int) := by omega
    have r2 : (c : Int) ≤ 3 := by omega
    go_enter Try.func44, Try.ntmps44
    go_wp2
    go_ret
    exact ⟨by first | rfl | simp, rfl⟩
  · rw [if_neg (by omega), if_pos ⟨g1, g2⟩]
    have r1 : (1 : Int) ≤ (c : Int) := by omega
    have r2 : ¬ (c : Int) ≤ 3 := by omega
    have r3 : (23 : Int) ≤ (c : Int) := by omega
    have r4 : (c : Int) ≤ 31 := by omega
    have hs : IntKind.i64.wrap (32 - (c : Int)) = ((32 - c : Nat) : Int) := by rw [wrapI (by omega) (by omega)]; omega
    go_enter Try.func44, Try.ntmps44
    go_wp2
    go_ret
    exact ⟨by first | rfl | (simp; done) | (refine congrArg (fun z => Ending.returned (Value.int IntKind.i64 z)) ?_; first | exact hs | omega), rfl⟩
  · rw [if_neg (by omega), if_neg (by omega), if_pos ⟨g1, g2⟩]
    have r1 : (1 : Int) ≤ (c : Int) := by omega
    have r2 : ¬ (c : Int) ≤ 3 := by omega
    have r3 : (23 : Int) ≤ (c : Int) := by omega
    have r4 : ¬ (c : Int) ≤ 31 := by omega
    have r5 : (32 : Int) ≤ (c : Int) := by omega
    have r6 : (c : Int) ≤ 40 := by omega
    have hs : IntKind.i64.wrap (1 + (c : Int)) = ((1 + c : Nat) : Int) := by rw [wrapI (by omega) (by omega)]; omega
    have hs2 : IntKind.i64.wrap (1 + (c : Int) - 32) = ((c - 31 : Nat) : Int) := by rw [wrapI (by omega) (by omega)]; omega
    go_enter Try.func44, Try.ntmps44
    go_wp2
    go_ret
    exact ⟨by first | rfl | (simp; done) | (refine congrArg (fun z => Ending.returned (Value.int IntKind.i64 z)) ?_; first | exact hs2 | omega), rfl⟩
  · rw [if_neg (by decide), if_neg (by decide), if_neg (by decide), if_pos rfl]
    go_enter Try.func44, Try.ntmps44
    go_wp2
    go_ret
    exact ⟨rfl, rfl⟩
  · rw [if_neg (by decide), if_neg (by decide), if_neg (by decide), if_neg (by decide), if_pos rfl]
    go_enter Try.func44, Try.ntmps44
    go_wp2
    go_ret
    exact ⟨rfl, rfl⟩
  · rw [if_neg (by decide), if_neg (by decide), if_neg (by decide), if_neg (by decide), if_neg (by decide), if_pos rfl, ← tlenS_eq]
    obtain ⟨TT, hTT⟩ : ∃ TT, TT = 1 + tlenS (l.drop 1) := ⟨_, rfl⟩
    rw [← hTT]
    have HTT := hide hTT
    clear hTT
    go_enter Try.func44, Try.ntmps44
    go_wp2
    go_loopw [4] (fun i wx => ∃ j : Nat, j ≤ l.length ∧ i = .int .i64 (j : Int) ∧ (wx = w ∧ TT = j + tlenS (l.drop j))) (fun i _ => l.length - (intOf i).toNat)
    case atStart => exact ⟨1, by omega, rfl, rfl, HTT.out⟩
    case round =>
      obtain ⟨j, hj, rfl, hw, hG⟩ := hrel
      subst hw
      have HG := hide hG
      clear hG
      by_cases hlt : j < l.length
      · have hi : (j : Int) < (l.length : Int) := by omega
        have HS := hide (tlenS_drop hlt)
        obtain ⟨b', off', e', hc⟩ := byte_at HB.out (Below.refl _ _) hlt
        simp only [Option.some.injEq, Addr.mk.injEq, and_true] at e'
        obtain ⟨rfl, rfl⟩ := e'
        have hj1 := w64 (j := j) (by omega)
        have hj2 : IntKind.i64.wrap ((j : Int) + 1) = (j : Int) + 1 := wrapI (by omega) (by omega)
        have hj3 : IntKind.i64.wrap ((j : Int) + 1 + 1) = (j : Int) + 1 + 1 := wrapI (by omega) (by omega)
        generalize l.getD j 0 = y at *
        by_cases hy : y = 0
        · subst hy
          by_cases hl2 : j + 1 < l.length
          · have hlf : ¬ (l.length : Int) ≤ (j : Int) + 1 := by omega
            have hi2 : (j : Int) + 1 < (l.length : Int) := by omega
            obtain ⟨b', off', e', hc2⟩ := byte_at HB.out (Below.refl _ _) hl2
            simp only [Option.some.injEq, Addr.mk.injEq, and_true] at e'
            obtain ⟨rfl, rfl⟩ := e'
            have HS2 := hide (tlenS_drop hl2)
            rw [headD_drop hl2] at HS
            generalize l.getD (j + 1) 0 = z at *
            by_cases hz : z = 255
            · subst hz
              have HE : Hid (TT = (j + 2) + tlenS (l.drop (j + 2))) := by
                have h := HG.out
                rw [HS.out, if_neg (by simp), HS2.out, if_neg (by simp)] at h
                show _ = _
                rw [show j + 1 + 1 = j + 2 from rfl] at h
                omega
              go_wp2
              go_roundw
              case rel => exact ⟨j + 2, by omega, by first | rfl | go_num | exact congrArg (Value.int IntKind.i64) (by omega), by first | rfl | trivial, HE.out⟩
              case measure => simp [intOf]; omega
            · have hzf : ((z : Int) == 255) = false := eqf (by omega)
              have hzn : ((z : Int) != 255) = true := by simp; omega
              have HE : Hid (TT = j + 1) := by have h := HG.out; rw [HS.out, if_pos ⟨rfl, hz⟩] at h; exact h
              clear hz
              go_wp2
              go_ret
              exact ⟨by rw [HE.out]; first | rfl | simp, rfl⟩
          · have hlf : (l.length : Int) ≤ (j : Int) + 1 := by omega
            have HE : Hid (TT = j + 1) := by have h := HG.out; rw [HS.out, if_pos ⟨rfl, by rw [List.drop_of_length_le (by omega)]; decide⟩] at h; exact h
            go_wp2
            go_ret
            exact ⟨by rw [HE.out]; first | rfl | simp, rfl⟩
        · have hyf : ((y : Int) == 0) = false := eqf (by omega)
          have HE : Hid (TT = (j + 1) + tlenS (l.drop (j + 1))) := by have h := HG.out; rw [HS.out, if_neg (fun h => hy h.1)] at h; show _ = _; omega
          clear hy
          go_wp2
          go_roundw
          case rel => exact ⟨j + 1, by omega, by first | rfl | go_num | exact congrArg (Value.int IntKind.i64) (by omega), by first | rfl | trivial, HE.out⟩
          case measure => simp [intOf]; omega
      · obtain rfl : j = l.length := by omega
        have HE : Hid (TT = l.length + 1) := by have h := HG.out; rw [List.drop_length] at h; exact h
        have hadd : IntKind.i64.wrap ((l.length : Int) + 1) = ((l.length + 1 : Nat) : Int) := by rw [wrapI (by omega) (by omega)]; omega
        go_wp2
        go_ret
        exact ⟨by rw [HE.out]; first | rfl | simp, rfl⟩
  · rw [if_neg (by decide), if_neg (by decide), if_neg (by decide), if_neg (by decide), if_neg (by decide), if_neg (by decide)]
    go_enter Try.func44, Try.ntmps44
    go_wp2
    go_ret
    exact ⟨rfl, rfl⟩
  · rw [if_neg (by omega), if_neg (by omega), if_neg (by omega), if_neg (by omega), if_neg (by omega), if_neg (by omega)]
    have r1 : (1 : Int) ≤ (c : Int) := by omega
    have r2 : ¬ (c : Int) ≤ 3 := by omega
    have r3 : ¬ (23 : Int) ≤ (c : Int) := by omega
    have r5 : ¬ (32 : Int) ≤ (c : Int) := by omega
    have q48 : ((c : Int) == 48) = false := eqf (by omega)
    have q56 : ((c : Int) == 56) = false := eqf (by omega)
    have q64 : ((c : Int) == 64) = false := eqf (by omega)
    go_enter Try.func44, Try.ntmps44
    go_wp2
    go_ret
    exact ⟨rfl, rfl⟩
  · rw [if_neg (by omega), if_neg (by omega), if_neg (by omega), if_neg (by omega), if_neg (by omega), if_neg (by omega)]
    have r1 : (1 : Int) ≤ (c : Int) := by omega
    have r2 : ¬ (c : Int) ≤ 3 := by omega
    have r3 : (23 : Int) ≤ (c : Int) := by omega
    have r4 : ¬ (c : Int) ≤ 31 := by omega
    have r5 : (32 : Int) ≤ (c : Int) := by omega
    have r6 : ¬ (c : Int) ≤ 40 := by omega
    have q48 : ((c : Int) == 48) = false := eqf (by omega)
    have q56 : ((c : Int) == 56) = false := eqf (by omega)
    have q64 : ((c : Int) == 64) = false := eqf (by omega)
    go_enter Try.func44, Try.ntmps44
    go_wp2
    go_ret
    exact ⟨rfl, rfl⟩
end Go.Proofs.Ythfcgfdboienkaa
