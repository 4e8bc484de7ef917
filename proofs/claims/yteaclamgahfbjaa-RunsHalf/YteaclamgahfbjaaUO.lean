import Derived.Test.YteaclamgahfbjaaUK
import Derived.Test.YteaclamgahfbjaaUF
import Derived.Deep.QuietTactic
namespace Go.Proofs.Yteaclamgahfbjaa
open Go.RowKit

/-! ### slices.Equal, Same -/
theorem run_neq (p q p' q' : Int) (w : World) : (binOp .neq 46 (.agg #[.int .i16 p, .int .i16 q]) (.agg #[.int .i16 p', .int .i16 q'])).run Try.prog w = .ok (.bool (!(decide (p = p') && decide (q = q')))) w := by
  have hS : Try.prog.underlying 46 = some (.struct (Try.prog.fieldsOf 46)) := by kernel_rfl
  have hp : Try.prog.stoodInHeld 46 = false := by kernel_rfl
  rw [run_neq_struct, show (10000 : Nat) = 9999 + 1 from rfl, run_equalIn_agg w 9999 46 _ _ hS hp]
  simp only [Program.fieldsOf, Try.underlying46]
  go_simp
  by_cases h1 : p = p' <;> by_cases h2 : q = q' <;> simp [h1, h2]
set_option maxHeartbeats 1000000 in
theorem Equal_any (w : World) (a a' : Option Addr) (cap cap' : Nat) (L M : List Rn) (hL : Vs w a L) (hM : Vs w a' M) (l1 : L.length ≤ 4294967296) :
    Calls Try.prog 48 #[.slice a L.length cap, .slice a' M.length cap'] w fun e w' => e = .returned (.bool (decide (L = M))) ∧ Below w.heap.size w w' := by
  by_cases hl : L.length = M.length
  · obtain ⟨n, hn⟩ : ∃ n : Nat, n = L.length := ⟨_, rfl⟩
    have hn2 : n = M.length := by omega
    have N1 := hide hn
    have N2 := hide hn2
    obtain ⟨ans, hans⟩ : ∃ ans, decide (L = M) = ans := ⟨_, rfl⟩
    rw [hans]
    have AN := hide hans
    rw [← hn, ← hn2]
    rw [← hn] at l1
    clear hn hn2 hl hans
    go_enter Try.func48, Try.ntmps48
    go_wp2
    go_loopw [13] (fun i wx => ∃ k : Nat, k ≤ n ∧ i = .int .i64 k ∧ L.take k = M.take k ∧ Below w.heap.size w wx) (fun i _ => n - (intOf i).toNat)
    case atStart => exact ⟨0, Nat.zero_le _, rfl, by simp, Below.refl _ _⟩
    case round =>
      obtain ⟨k, hk, rfl, ht, hb⟩ := hrel
      by_cases hlt : k < n
      · obtain ⟨b1, o1, rfl, d1, d2⟩ := (hL.keep hb).at (show k < L.length by rw [← N1.out]; exact hlt)
        obtain ⟨b2, o2, rfl, d3, d4⟩ := (hM.keep hb).at (show k < M.length by rw [← N2.out]; exact hlt)
        have x1 : (k : Int) < (n : Int) := by omega
        have tl := take_next L Rn.zero (show k < L.length by rw [← N1.out]; exact hlt)
        have tm := take_next M Rn.zero (show k < M.length by rw [← N2.out]; exact hlt)
        generalize L.getD k Rn.zero = r at *
        generalize M.getD k Rn.zero = s at *
        have TL := hide tl
        have TM := hide tm
        have HT := hide ht
        clear tl tm ht
        have hq := run_neq
        have hgd : Try.prog.eqGuardType Try.prog.depth 46 = false := by kernel_rfl
        obtain ⟨p, q⟩ := r
        obtain ⟨p', q'⟩ := s
        by_cases e : p = p' ∧ q = q'
        · obtain ⟨rfl, rfl⟩ := e
          go_wp2
          go_quiet (fail)
          go_wp2
          go_roundw
          case rel => exact ⟨k + 1, by omega, by simp, by rw [TL.out, TM.out, HT.out], bt hb (drews _ _)⟩
          case measure => simp [intOf]; omega
        · have hne : ¬ L = M := fun h => e (by
            subst h
            have := List.append_cancel_left (TL.out.symm.trans TM.out)
            simpa using this)
          have ea : ans = false := by rw [← AN.out]; exact decide_eq_false hne
          have hd : (decide (p = p') && decide (q = q')) = false := by
            rw [Bool.and_eq_false_iff, decide_eq_false_iff_not, decide_eq_false_iff_not]
            omega
          subst ea
          go_wp2
          go_quiet (fail)
          go_wp2
          go_ret
          exact ⟨rfl, bt hb (drews _ _)⟩
      · obtain rfl : k = n := by omega
        go_wp2
        go_ret
        have : L = M := by
          have h1 := ht
          rwa [N1.out, List.take_length, ← N1.out, N2.out, List.take_length] at h1
        rw [← AN.out, decide_eq_true this]
        exact ⟨rfl, hb⟩
  · have hd : decide (L = M) = false := decide_eq_false (fun e => hl (by rw [e]))
    rw [hd]
    generalize L.length = n at *
    generalize M.length = m at *
    go_enter Try.func48, Try.ntmps48
    go_wp2
    go_ret
    exact ⟨rfl, Below.refl _ _⟩
theorem two_keep {W W' : World} {b b' : Nat} {u v : Value} (h : W.cell? ⟨b, 0, none⟩ = some u ∧ W.cell? ⟨b', 0, none⟩ = some v) (hb : Below W.heap.size W W') : W'.cell? ⟨b, 0, none⟩ = some u ∧ W'.cell? ⟨b', 0, none⟩ = some v :=
  ⟨(hb.cell (p := ⟨b, 0, none⟩) (block_lt_of_cell h.1)).trans h.1, (hb.cell (p := ⟨b', 0, none⟩) (block_lt_of_cell h.2)).trans h.2⟩
set_option maxHeartbeats 1000000 in
theorem Same_any (w : World) (b b' : Nat) (a a' : Option Addr) (cap cap' : Nat) (L M : List Rn) (hS : St w b a cap L) (hT : St w b' a' cap' M) :
    Calls Try.prog 26 #[.pointer (some ⟨b, 0, none⟩), .pointer (some ⟨b', 0, none⟩)] w fun e w' => e = .returned (.bool (decide (L = M))) ∧ Below w.heap.size w w' := by
  have c1 := hS.cell
  have c2 := hT.cell
  have C := hide fun (W : World) (hb : Below w.heap.size w W) => Equal_any W a a' cap cap' L M (hS.row.vs.keep hb) (hT.row.vs.keep hb) hS.len
  clear hS hT
  generalize decide (L = M) = ans at *
  generalize L.length = n at *
  generalize M.length = m at *
  go_enter Try.func26, Try.ntmps26
  go_wp2
  have S1 : w.drew.cell? ⟨b, 0, none⟩ = some (.slice a n cap) ∧ w.drew.cell? ⟨b', 0, none⟩ = some (.slice a' m cap') := ⟨c1, c2⟩
  have T1 := hide (drews w 1)
  have T1 : Hid (Below w.heap.size w w.drew) := T1
  go_region_held3 (fun w' => w'.cell? ⟨b, 0, none⟩ = some (.slice a n cap) ∧ w'.cell? ⟨b', 0, none⟩ = some (.slice a' m cap'))
    (with_reducible exact S1)
    (first | (go_at_call 48; refine (C.out _ T1.out).mono ?_; rintro e w9 ⟨rfl, hb⟩; have S1 := two_keep S1 hb; have T1 := hide (bt T1.out hb); clear hb))
  go_wp2
  go_ret
  exact ⟨rfl, T1.out⟩
end Go.Proofs.Yteaclamgahfbjaa
