import Derived.Test.YtceeeofkigkpkaaGreatED
namespace Go.Proofs.YtceeeofkigkpkaaGreat
set_option linter.unusedVariables false
open Go.RowKit

/-! ### calls that read -/
set_option maxHeartbeats 1000000 in
theorem stt_any (w : World) (x : Pg) : Calls Tryz.prog 50 #[.agg #[.int .i64 x.1, .bool x.2]] w fun e w' => e = .returned (.int .i64 ((stt x : Nat) : Int)) ∧ Below w.heap.size w w' := by
  obtain ⟨c, l⟩ := x
  by_cases hc : c = 0
  · subst hc
    cases l
    · go_enter Tryz.func50, Tryz.ntmps50
      go_wp2
      go_ret
      exact ⟨rfl, al _ _⟩
    · go_enter Tryz.func50, Tryz.ntmps50
      go_wp2
      go_ret
      exact ⟨rfl, al _ _⟩
  · have h1 : (c == 0) = false := by simp [hc]
    have h2 : decide (c = 0) = false := by simp [hc]
    cases l
    · have e : stt (c, false) = 3 := by unfold stt; rw [if_neg hc]; rfl
      rw [e]
      go_enter Tryz.func50, Tryz.ntmps50
      go_wp2
      go_ret
      exact ⟨rfl, al _ _⟩
    · have e : stt (c, true) = 4 := by unfold stt; rw [if_neg hc]; rfl
      rw [e]
      go_enter Tryz.func50, Tryz.ntmps50
      go_wp2
      go_ret
      exact ⟨rfl, al _ _⟩
set_option maxHeartbeats 1000000 in
theorem has_any (w : World) (b : Nat) (P : Po) (D : Pd) (col : Nat → Nat) (h : Pq w b P D col) (z : Int) : Calls Tryz.prog 49 #[.pointer (some ⟨b, 0, none⟩), .int .i64 z] w fun e w' => e = .returned (.bool (P.has z)) ∧ w' = w := by
  have c1 := h.c1
  unfold Po.has
  clear h
  generalize P.pg.length = n at *
  by_cases h1 : 1 ≤ z
  · have d1 : decide (1 ≤ z) = true := decide_eq_true h1
    rw [d1, Bool.true_and]
    go_enter Tryz.func49, Tryz.ntmps49
    go_wp2
    go_ret
    exact ⟨rfl, rfl⟩
  · have d1 : decide (1 ≤ z) = false := decide_eq_false h1
    rw [d1, Bool.false_and]
    go_enter Tryz.func49, Tryz.ntmps49
    go_wp2
    go_ret
    exact ⟨rfl, rfl⟩
theorem Po.has_iff {P : Po} {z : Int} : P.has z = true ↔ 1 ≤ z ∧ z ≤ P.pg.length := by unfold Po.has; simp
set_option maxHeartbeats 1000000 in
theorem Count_any (w : World) (b : Nat) (P : Po) (D : Pd) (col : Nat → Nat) (h : Pq w b P D col) (hl : P.pg.length ≤ 65536) (z : Int) : Calls Tryz.prog 23 #[.pointer (some ⟨b, 0, none⟩), .int .i64 z] w fun e w' => e = .returned (.int .i64 (P.count z)) ∧ w' = w := by
  have C := hide (has_any w b P D col h z)
  by_cases hz : P.has z = true
  · obtain ⟨h1, h2⟩ := Po.has_iff.1 hz
    obtain ⟨i, rfl⟩ : ∃ i : Nat, z = (i : Int) + 1 := ⟨(z - 1).toNat, by omega⟩
    have hi : i < P.pg.length := by omega
    obtain ⟨d1, d2⟩ := h.pgAt hi
    have c1 := h.c1
    have e : P.count ((i : Int) + 1) = (P.pg.getD i Pg.zero).1 := by
      unfold Po.count
      rw [if_pos hz, show ((i : Int) + 1 - 1).toNat = i by omega]
    rw [e]
    rw [hz] at C
    clear h hz e
    generalize (P.pg.getD i Pg.zero).1 = c at *
    generalize P.pg.length = n at *
    have s1 : IntKind.i64.wrap ((i : Int) + 1 - 1) = (i : Int) := by rw [wrapI (by omega) (by omega)]; omega
    go_enter Tryz.func23, Tryz.ntmps23
    go_wp2_with fail
    refine C.out.mono ?_
    rintro _ _ ⟨rfl, rfl⟩
    go_wp2
    go_ret
    exact ⟨rfl, rfl⟩
  · have hz : P.has z = false := by simpa using hz
    have e : P.count z = 0 := by unfold Po.count; rw [hz]; rfl
    rw [e]
    rw [hz] at C
    clear h
    go_enter Tryz.func23, Tryz.ntmps23
    go_wp2_with fail
    refine C.out.mono ?_
    rintro _ _ ⟨rfl, rfl⟩
    go_wp2
    go_ret
    exact ⟨rfl, rfl⟩
set_option maxHeartbeats 1000000 in
theorem State_any (w : World) (b : Nat) (P : Po) (D : Pd) (col : Nat → Nat) (h : Pq w b P D col) (hl : P.pg.length ≤ 65536) (z : Int) : Calls Tryz.prog 14 #[.pointer (some ⟨b, 0, none⟩), .int .i64 z] w fun e w' => e = .returned (.int .i64 ((P.state z : Nat) : Int)) ∧ Below w.heap.size w w' := by
  have C := hide (has_any w b P D col h z)
  by_cases hz : P.has z = true
  · obtain ⟨h1, h2⟩ := Po.has_iff.1 hz
    obtain ⟨i, rfl⟩ : ∃ i : Nat, z = (i : Int) + 1 := ⟨(z - 1).toNat, by omega⟩
    have hi : i < P.pg.length := by omega
    obtain ⟨d1, d2⟩ := h.pgAt hi
    have c1 := h.c1
    have e : P.state ((i : Int) + 1) = stt (P.pg.getD i Pg.zero) := by
      unfold Po.state
      rw [if_pos hz, show ((i : Int) + 1 - 1).toNat = i by omega]
    rw [e]
    rw [hz] at C
    clear h hz e
    have T := hide (stt_any w (P.pg.getD i Pg.zero))
    generalize P.pg.getD i Pg.zero = x at *
    generalize P.pg.length = n at *
    have s1 : IntKind.i64.wrap ((i : Int) + 1 - 1) = (i : Int) := by rw [wrapI (by omega) (by omega)]; omega
    go_enter Tryz.func14, Tryz.ntmps14
    go_wp2_with fail
    refine C.out.mono ?_
    rintro _ _ ⟨rfl, rfl⟩
    go_wp2_with fail
    refine T.out.mono ?_
    rintro _ w1 ⟨rfl, hb⟩
    have B := hide hb
    clear hb
    go_wp2
    go_ret
    exact ⟨rfl, B.out⟩
  · have hz : P.has z = false := by simpa using hz
    have e : P.state z = 0 := by unfold Po.state; rw [hz]; rfl
    rw [e]
    rw [hz] at C
    clear h
    go_enter Tryz.func14, Tryz.ntmps14
    go_wp2_with fail
    refine C.out.mono ?_
    rintro _ _ ⟨rfl, rfl⟩
    go_wp2
    go_ret
    exact ⟨rfl, Below.refl _ _⟩
set_option maxHeartbeats 1000000 in
theorem PLen_any (w : World) (b : Nat) (P : Po) (D : Pd) (col : Nat → Nat) (h : Pq w b P D col) : Calls Tryz.prog 29 #[.pointer (some ⟨b, 0, none⟩)] w fun e w' => e = .returned (.int .i64 ((P.pg.length : Nat) : Int)) ∧ w' = w := by
  have c1 := h.c1
  clear h
  generalize P.pg.length = n at *
  go_enter Tryz.func29, Tryz.ntmps29
  go_wp2
  go_ret
  exact ⟨rfl, rfl⟩
set_option maxHeartbeats 1000000 in
theorem PRefs_any (w : World) (b : Nat) (P : Po) (D : Pd) (col : Nat → Nat) (h : Pq w b P D col) : Calls Tryz.prog 30 #[.pointer (some ⟨b, 0, none⟩)] w fun e w' => e = .returned (.int .i64 P.rf) ∧ w' = w := by
  have c1 := h.c0
  clear h
  go_enter Tryz.func30, Tryz.ntmps30
  go_wp2
  go_ret
  exact ⟨rfl, rfl⟩
set_option maxHeartbeats 1000000 in
theorem Mark_any (w : World) (b : Nat) (P : Po) (D : Pd) (col : Nat → Nat) (h : Pq w b P D col) (hm : P.mark ≤ 9223372036854775807) : Calls Tryz.prog 27 #[.pointer (some ⟨b, 0, none⟩)] w fun e w' => e = .returned (.int .i64 ((P.mark : Nat) : Int)) ∧ Below w.heap.size w w' := by
  have c1 := h.c7
  have c2 := h.c8
  clear h
  unfold Po.mark at *
  generalize P.ac.length = n at *
  generalize P.fl = f at *
  have e : IntKind.i64.wrap ((f : Int) + (n : Int)) = ((f + n : Nat) : Int) := by rw [wrapI (by omega) (by omega)]; omega
  go_enter Tryz.func27, Tryz.ntmps27
  go_wp2
  go_quiet (fail)
  go_wp2
  go_ret
  exact ⟨rfl, drN _ _⟩
set_option maxHeartbeats 1000000 in
theorem isState_any (w : World) (z : Int) : Calls Tryz.prog 51 #[.int .i64 z] w fun e w' => e = .returned (.bool (decide (1 ≤ z) && decide (z ≤ 4))) ∧ w' = w := by
  by_cases h1 : 1 ≤ z
  · have d1 : decide (1 ≤ z) = true := decide_eq_true h1
    rw [d1, Bool.true_and]
    go_enter Tryz.func51, Tryz.ntmps51
    go_wp2
    go_ret
    exact ⟨rfl, rfl⟩
  · have d1 : decide (1 ≤ z) = false := decide_eq_false h1
    rw [d1, Bool.false_and]
    go_enter Tryz.func51, Tryz.ntmps51
    go_wp2
    go_ret
    exact ⟨rfl, rfl⟩
/-- may there be such a pool -/
def fits (n r : Int) : Bool := decide (1 ≤ n) && decide (n ≤ 65536) && decide (2 ≤ r) && decide (r < 65536)
set_option maxHeartbeats 1000000 in
theorem fits_any (w : World) (n r : Int) : Calls Tryz.prog 45 #[.int .i64 n, .int .i64 r] w fun e w' => e = .returned (.bool (fits n r)) ∧ w' = w := by
  unfold fits
  by_cases h1 : 1 ≤ n
  · have d1 : decide (1 ≤ n) = true := decide_eq_true h1
    by_cases h2 : n ≤ 65536
    · have d2 : decide (n ≤ 65536) = true := decide_eq_true h2
      by_cases h3 : 2 ≤ r
      · have d3 : decide (2 ≤ r) = true := decide_eq_true h3
        rw [d1, d2, d3]
        simp only [Bool.true_and, Bool.and_true]
        go_enter Tryz.func45, Tryz.ntmps45
        go_wp2
        go_ret
        exact ⟨rfl, rfl⟩
      · have d3 : decide (2 ≤ r) = false := decide_eq_false h3
        rw [d1, d2, d3]
        simp only [Bool.and_true, Bool.and_false, Bool.false_and]
        go_enter Tryz.func45, Tryz.ntmps45
        go_wp2
        go_ret
        exact ⟨rfl, rfl⟩
    · have d2 : decide (n ≤ 65536) = false := decide_eq_false h2
      rw [d1, d2]
      simp only [Bool.and_false, Bool.false_and]
      go_enter Tryz.func45, Tryz.ntmps45
      go_wp2
      go_ret
      exact ⟨rfl, rfl⟩
  · have d1 : decide (1 ≤ n) = false := decide_eq_false h1
    rw [d1]
    simp only [Bool.false_and]
    go_enter Tryz.func45, Tryz.ntmps45
    go_wp2
    go_ret
    exact ⟨rfl, rfl⟩
end Go.Proofs.YtceeeofkigkpkaaGreat
