import Derived.Test.YthfcgfdboienkaaVZ
namespace Go.Proofs.Ythfcgfdboienkaa
open Go.RowKit

theorem be_snoc (l : List Nat) (y : Nat) : be (l ++ [y]) = be l * 256 + y := by
  unfold be
  rw [List.foldl_append]
  rfl
theorem be_take {l : List Nat} {j : Nat} (h : j < l.length) : be (l.take (j + 1)) = be (l.take j) * 256 + l.getD j 0 := by rw [← take_snoc l h, be_snoc]
theorem be_small {l : List Nat} (h : ∀ y ∈ l, y < 256) (hl : l.length ≤ 8) : be l < 18446744073709551616 := by
  have h1 := be_lt l h
  have h2 : 256 ^ l.length ≤ 256 ^ 8 := Nat.pow_le_pow_right (by decide) hl
  have h3 : (256 : Nat) ^ 8 = 18446744073709551616 := by decide
  omega
theorem be_less {l : List Nat} (h : ∀ y ∈ l, y < 256) (hl : l.length ≤ 7) : be l < 72057594037927936 := by
  have h1 := be_lt l h
  have h2 : 256 ^ l.length ≤ 256 ^ 7 := Nat.pow_le_pow_right (by decide) hl
  have h3 : (256 : Nat) ^ 7 = 72057594037927936 := by decide
  omega
/-- one byte more -/
theorem or_byte (x y : Nat) (hx : x < 72057594037927936) (hy : y < 256) : bits .or .u64 ((x : Int) * 256) (y : Int) = ((x * 256 + y : Nat) : Int) := by
  have h := u64_or_nat (x * 256) y (by omega) (by omega)
  rw [nat_join 8 (x * 256) y (by omega) hy] at h
  exact h
theorem take_lt {l : List Nat} (h : ∀ y ∈ l, y < 256) (j : Nat) : ∀ y ∈ l.take j, y < 256 := fun y hy => h y (List.mem_of_mem_take hy)
theorem getD_lt {l : List Nat} (h : ∀ y ∈ l, y < 256) {j : Nat} (hj : j < l.length) : l.getD j 0 < 256 := by
  rw [getD_at l hj]
  exact h _ (List.getElem_mem _)
set_option maxHeartbeats 800000 in
theorem highFirst_any (w : World) (a : Option Addr) (n cap : Nat) (l : List Nat) (hB : Bs w a l) (hl : l.length ≤ 8) (hn : n = l.length) :
    Calls Try.prog 83 #[.slice a n cap] w fun e w' => e = .returned (.int .u64 (be l : Int)) ∧ w' = w := by
  subst hn
  have HB := hide hB
  have hll := hB.2.1
  have HBY := hide hB.1
  clear hB
  go_enter Try.func83, Try.ntmps83
  go_wp2
  go_loopw [3, 8] (fun v i wx => ∃ j : Nat, j ≤ l.length ∧ i = .int .i64 (j : Int) ∧ v = .int .u64 (be (l.take j) : Int) ∧ wx = w) (fun _ i _ => l.length - (intOf i).toNat)
  case atStart => exact ⟨0, Nat.zero_le _, rfl, rfl, rfl⟩
  case round =>
    obtain ⟨j, hj, rfl, rfl, hG⟩ := hrel
    subst hG
    by_cases hlt : j < l.length
    · have hi : (j : Int) < (l.length : Int) := by omega
      have hlt2 : j < l.length := by omega
      have hi2 : (j : Int) < (l.length : Int) := by omega
      have HT := hide (be_take hlt2)
      have hbx := be_less (take_lt HBY.out j) (by rw [List.length_take]; omega)
      have hby := getD_lt HBY.out hlt2
      obtain ⟨b, off, rfl, hc⟩ := byte_at HB.out (Below.refl _ _) hlt2
      generalize l.getD j 0 = y at *
      generalize be (l.take j) = x at *
      have hor := or_byte x y hbx hby
      have hj1 := w64 (j := j) (by omega)
      have hshl : IntKind.u64.wrap ((x : Int) * 256) = (x : Int) * 256 := by simp [IntKind.wrap, IntKind.bits, IntKind.signed]; omega
      have hsh2 : (x : Int) * 256 % 18446744073709551616 = (x : Int) * 256 := by omega
      go_wp2
      go_roundw
      case rel => exact ⟨j + 1, by omega, by first | rfl | go_num | exact congrArg (Value.int IntKind.i64) (by omega), by rw [HT.out]; first | rfl | simp, by first | rfl | trivial⟩
      case measure => first | (simp [intOf]; omega) | (simp [intOf, hj1]; omega)
    · obtain rfl : j = l.length := by omega
      rw [List.take_length]
      go_wp2
      go_ret
      exact ⟨rfl, rfl⟩
set_option maxHeartbeats 800000 in
theorem dgetReal_any (w : World) (a : Option Addr) (n cap : Nat) (l : List Nat) (hB : Bs w a l) (hl : 8 ≤ l.length) (hn : n = l.length) :
    Calls Try.prog 67 #[.slice a n cap] w fun e w' => e = .returned (.int .u64 (unrank (be (l.take 8)) : Int)) ∧ w' = w := by
  subst hn
  have HB := hide hB
  have hll := hB.2.1
  have HBY := hide hB.1
  clear hB
  go_enter Try.func67, Try.ntmps67
  go_wp2
  go_loopw [3, 4] (fun v i wx => ∃ j : Nat, j ≤ 8 ∧ i = .int .i64 (j : Int) ∧ v = .int .u64 (be (l.take j) : Int) ∧ wx = w) (fun _ i _ => 8 - (intOf i).toNat)
  case atStart => exact ⟨0, Nat.zero_le _, rfl, rfl, rfl⟩
  case round =>
    obtain ⟨j, hj, rfl, rfl, hG⟩ := hrel
    subst hG
    by_cases hlt : j < 8
    · have hi : (j : Int) < (8 : Int) := by omega
      have hlt2 : j < l.length := by omega
      have hi2 : (j : Int) < (l.length : Int) := by omega
      have HT := hide (be_take hlt2)
      have hbx := be_less (take_lt HBY.out j) (by rw [List.length_take]; omega)
      have hby := getD_lt HBY.out hlt2
      obtain ⟨b, off, rfl, hc⟩ := byte_at HB.out (Below.refl _ _) hlt2
      generalize l.getD j 0 = y at *
      generalize be (l.take j) = x at *
      have hor := or_byte x y hbx hby
      have hj1 := w64 (j := j) (by omega)
      have hshl : IntKind.u64.wrap ((x : Int) * 256) = (x : Int) * 256 := by simp [IntKind.wrap, IntKind.bits, IntKind.signed]; omega
      have hsh2 : (x : Int) * 256 % 18446744073709551616 = (x : Int) * 256 := by omega
      go_wp2
      go_roundw
      case rel => exact ⟨j + 1, by omega, by first | rfl | go_num | exact congrArg (Value.int IntKind.i64) (by omega), by rw [HT.out]; first | rfl | simp, by first | rfl | trivial⟩
      case measure => first | (simp [intOf]; omega) | (simp [intOf, hj1]; omega)
    · obtain rfl : j = 8 := by omega
      have hbx := be_small (take_lt HBY.out 8) (by rw [List.length_take]; omega)
      rw [show ((8 : Nat) : Int) = 8 from rfl]
      have us : IntKind.u64.signed = false := rfl
      have um : IntKind.u64.max = 18446744073709551615 := by decide
      obtain ⟨x, hxe⟩ : ∃ x, x = be (l.take 8) := ⟨_, rfl⟩
      have HXE := hide hxe
      rw [← hxe] at hbx ⊢
      clear hxe
      have sx := shr63 x hbx
      by_cases h : 9223372036854775808 ≤ x
      · rw [if_pos h] at sx
        have hx := xor_sign_high x h hbx
        have HU : Hid (unrank x = x - 9223372036854775808) := by show _ = _; unfold unrank; rw [if_pos h]
        generalize x - 9223372036854775808 = z at *
        go_wp2
        go_ret
        exact ⟨by rw [← HXE.out, HU.out]; first | done | rfl | simp, rfl⟩
      · rw [if_neg h] at sx
        have hx := not64' x hbx
        have HU : Hid (unrank x = 18446744073709551615 - x) := by show _ = _; unfold unrank; rw [if_neg h]
        generalize 18446744073709551615 - x = z at *
        go_wp2
        go_ret
        exact ⟨by rw [← HXE.out, HU.out]; first | done | rfl | simp, rfl⟩
theorem intBytes_any (w : World) (c : Nat) (h1 : 23 ≤ c) (h2 : c ≤ 40) : Calls Try.prog 79 #[.int .u8 (c : Int)] w fun e w' => e = .returned (.int .i64 ((if c < 32 then 31 - c else c - 32 : Nat) : Int)) ∧ w' = w := by
  by_cases h : c < 32
  · rw [if_pos h, show ((31 - c : Nat) : Int) = 31 - (c : Int) by omega]
    have hi : (c : Int) < 32 := by omega
    go_enter Try.func79, Try.ntmps79
    go_wp2
    go_ret
    exact ⟨by first | rfl | simp, rfl⟩
  · rw [if_neg h, show ((c - 32 : Nat) : Int) = (c : Int) - 32 by omega]
    have hi : ¬ (c : Int) < 32 := by omega
    go_enter Try.func79, Try.ntmps79
    go_wp2
    go_ret
    exact ⟨by first | rfl | simp, rfl⟩
theorem ranked_any (w : World) (x : Nat) (hx : x < 18446744073709551616) : Calls Try.prog 82 #[.int .u64 (x : Int)] w fun e w' => e = .returned (.float .f64 (unrank x)) ∧ w' = w := by
  have ha := and_sign x hx
  have F := call_f64from
  have us : IntKind.u64.signed = false := rfl
  have um : IntKind.u64.max = 18446744073709551615 := by decide
  unfold unrank
  by_cases h : 9223372036854775808 ≤ x
  · rw [if_pos h] at ha ⊢
    have hn : bits .andNot .u64 (x : Int) 9223372036854775808 = ((x - 9223372036854775808 : Nat) : Int) := by
      have e2 : x &&& 9223372036854775807 = x - 9223372036854775808 := by
        rw [show (9223372036854775807 : Nat) = 2 ^ 63 - 1 from rfl, Nat.and_two_pow_sub_one_eq_mod]
        omega
      have e := u64_andNot_nat x 9223372036854775808 hx (by decide)
      simp only [Nat.reduceSub] at e
      rw [e2] at e
      exact e
    generalize x - 9223372036854775808 = z at *
    go_enter Try.func82, Try.ntmps82
    go_wp2
    go_ret
    exact ⟨rfl, rfl⟩
  · rw [if_neg h] at ha ⊢
    have hn := not64' x hx
    generalize 18446744073709551615 - x = z at *
    go_enter Try.func82, Try.ntmps82
    go_wp2
    go_ret
    exact ⟨rfl, rfl⟩
/-- the kind that a first byte tells -/
def kof (c : Nat) : Int := if c = 1 then 0 else if c ≤ 3 then 1 else if c ≤ 40 then 2 else if c = 48 then 3 else if c = 56 then 4 else 5
def isFirst (c : Nat) : Bool := decide (1 ≤ c ∧ c ≤ 3 ∨ 23 ≤ c ∧ c ≤ 40 ∨ c = 48 ∨ c = 56 ∨ c = 64)
set_option maxHeartbeats 800000 in
theorem kindOf_any (w : World) (c : Nat) (hc : c < 256) : Calls Try.prog 68 #[.int .u8 (c : Int)] w fun e w' => ∃ k : Int, e = .returned (.tuple #[.int .i64 k, .bool (isFirst c)]) ∧ (isFirst c = true → k = kof c) ∧ w' = w := by
  have h7 : c = 1 ∨ c = 2 ∨ c = 3 ∨ c = 48 ∨ c = 56 ∨ c = 64 ∨ (23 ≤ c ∧ c ≤ 40) ∨ ((c < 23 ∧ c ≠ 1 ∧ c ≠ 2 ∧ c ≠ 3) ∨ (40 < c ∧ c ≠ 48 ∧ c ≠ 56 ∧ c ≠ 64)) := by omega
  rcases h7 with rfl | rfl | rfl | rfl | rfl | rfl | ⟨g1, g2⟩ | ⟨g1, g2, g3, g4⟩ | ⟨g1, g2, g3, g4⟩
  · rw [show isFirst 1 = true from rfl, show kof 1 = 0 from rfl]
    go_enter Try.func68, Try.ntmps68
    go_wp2
    refine bodyPost_ret (v := .tuple #[.int .i64 0, .bool true]) (by simp [results, Try.results68, go_sem]) rfl ⟨0, rfl, fun _ => rfl, rfl⟩
  · rw [show isFirst 2 = true from rfl, show kof 2 = 1 from rfl]
    go_enter Try.func68, Try.ntmps68
    go_wp2
    refine bodyPost_ret (v := .tuple #[.int .i64 1, .bool true]) (by simp [results, Try.results68, go_sem]) rfl ⟨1, rfl, fun _ => rfl, rfl⟩
  · rw [show isFirst 3 = true from rfl, show kof 3 = 1 from rfl]
    go_enter Try.func68, Try.ntmps68
    go_wp2
    refine bodyPost_ret (v := .tuple #[.int .i64 1, .bool true]) (by simp [results, Try.results68, go_sem]) rfl ⟨1, rfl, fun _ => rfl, rfl⟩
  · rw [show isFirst 48 = true from rfl, show kof 48 = 3 from rfl]
    go_enter Try.func68, Try.ntmps68
    go_wp2
    refine bodyPost_ret (v := .tuple #[.int .i64 3, .bool true]) (by simp [results, Try.results68, go_sem]) rfl ⟨3, rfl, fun _ => rfl, rfl⟩
  · rw [show isFirst 56 = true from rfl, show kof 56 = 4 from rfl]
    go_enter Try.func68, Try.ntmps68
    go_wp2
    refine bodyPost_ret (v := .tuple #[.int .i64 4, .bool true]) (by simp [results, Try.results68, go_sem]) rfl ⟨4, rfl, fun _ => rfl, rfl⟩
  · rw [show isFirst 64 = true from rfl, show kof 64 = 5 from rfl]
    go_enter Try.func68, Try.ntmps68
    go_wp2
    refine bodyPost_ret (v := .tuple #[.int .i64 5, .bool true]) (by simp [results, Try.results68, go_sem]) rfl ⟨5, rfl, fun _ => rfl, rfl⟩
  · rw [show isFirst c = true by unfold isFirst; exact decide_eq_true (by omega), show kof c = 2 by unfold kof; rw [if_neg (by omega), if_neg (by omega), if_pos g2]]
    have q1 : ((c : Int) == 1) = false := eqf (by omega)
    have q2 : ((c : Int) == 2) = false := eqf (by omega)
    have q3 : ((c : Int) == 3) = false := eqf (by omega)
    have r1 : (23 : Int) ≤ (c : Int) := by omega
    have r2 : (c : Int) ≤ 40 := by omega
    go_enter Try.func68, Try.ntmps68
    go_wp2
    refine bodyPost_ret (v := .tuple #[.int .i64 2, .bool true]) (by simp [results, Try.results68, go_sem]) rfl ⟨2, rfl, fun _ => rfl, rfl⟩
  · rw [show isFirst c = false by unfold isFirst; exact decide_eq_false (by omega)]
    have q1 : ((c : Int) == 1) = false := eqf (by omega)
    have q2 : ((c : Int) == 2) = false := eqf (by omega)
    have q3 : ((c : Int) == 3) = false := eqf (by omega)
    have q48 : ((c : Int) == 48) = false := eqf (by omega)
    have q56 : ((c : Int) == 56) = false := eqf (by omega)
    have q64 : ((c : Int) == 64) = false := eqf (by omega)
    have r1 : ¬ (23 : Int) ≤ (c : Int) := by omega
    go_enter Try.func68, Try.ntmps68
    go_wp2
    refine bodyPost_ret (v := .tuple #[.int .i64 0, .bool false]) (by simp [results, Try.results68, go_sem]) rfl (by first | exact ⟨0, rfl, fun h => by cases h, rfl⟩ | exact ⟨⟨0, rfl⟩, rfl⟩)
  · rw [show isFirst c = false by unfold isFirst; exact decide_eq_false (by omega)]
    have q1 : ((c : Int) == 1) = false := eqf (by omega)
    have q2 : ((c : Int) == 2) = false := eqf (by omega)
    have q3 : ((c : Int) == 3) = false := eqf (by omega)
    have q48 : ((c : Int) == 48) = false := eqf (by omega)
    have q56 : ((c : Int) == 56) = false := eqf (by omega)
    have q64 : ((c : Int) == 64) = false := eqf (by omega)
    have r1 : (23 : Int) ≤ (c : Int) := by omega
    have r2 : ¬ (c : Int) ≤ 40 := by omega
    go_enter Try.func68, Try.ntmps68
    go_wp2
    refine bodyPost_ret (v := .tuple #[.int .i64 0, .bool false]) (by simp [results, Try.results68, go_sem]) rfl (by first | exact ⟨0, rfl, fun h => by cases h, rfl⟩ | exact ⟨⟨0, rfl⟩, rfl⟩)
/-- how many bytes a text has, gone through one by one -/
def tlenS : List Nat → Nat
  | [] => 1
  | x :: l => if x = 0 ∧ l.headD 0 ≠ 255 then 1 else tlenS l + 1
theorem tlenS_eq : ∀ l, tlenS l = tlen l
  | [] => rfl
  | x :: [] => by
    unfold tlenS tlen
    by_cases h : x = 0 <;> simp [h, tlenS, tlen]
  | x :: y :: m => by
    have i1 := tlenS_eq m
    have i2 := tlenS_eq (y :: m)
    rw [tlenS, tlen.eq_def]
    by_cases h : x = 0
    · by_cases hy : y = 255
      · simp only [h, hy, List.headD_cons, ne_eq, not_true, and_false, if_false, if_true]
        rw [tlenS]
        simp [i1]
      · simp [h, hy]
    · simp [h, i2]
theorem tlenS_drop {l : List Nat} {j : Nat} (h : j < l.length) : tlenS (l.drop j) = if l.getD j 0 = 0 ∧ (l.drop (j + 1)).headD 0 ≠ 255 then 1 else tlenS (l.drop (j + 1)) + 1 := by
  rw [List.drop_eq_getElem_cons h, tlenS]
  simp [h]
end Go.Proofs.Ythfcgfdboienkaa
