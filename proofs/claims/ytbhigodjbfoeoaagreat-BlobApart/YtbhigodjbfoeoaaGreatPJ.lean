import Derived.Test.YtbhigodjbfoeoaaGreatPI
namespace Go.Proofs.YtbhigodjbfoeoaaGreat
open Go.RowKit

set_option maxHeartbeats 400000 in
theorem IsPage_any (w : World) (n : Int) : Calls Tryz.prog 100 #[.int .i64 n] w fun e w' => e = .returned (.bool (isNum n)) ∧ w' = w := by
  unfold isNum
  by_cases h1 : 1 ≤ n
  · have h1' : decide (1 ≤ n) = true := by simpa using h1
    go_enter Tryz.func100, Tryz.ntmps100
    go_wp2
    go_ret
    exact ⟨by simp [h1], rfl⟩
  · have h1' : decide (1 ≤ n) = false := by simpa using h1
    go_enter Tryz.func100, Tryz.ntmps100
    go_wp2
    go_ret
    exact ⟨by simp, rfl⟩
theorem retb {a b : Bool} (h : a = b) : Ending.returned (.bool a) = .returned (.bool b) := by rw [h]
set_option maxRecDepth 8000 in
set_option maxHeartbeats 1600000 in
theorem iform_any (w : World) (p : Pv) : Calls Tryz.prog 96 #[p.vl] w fun e w' => e = .returned (.bool p.pg.form) ∧ Below w.heap.size w w' := by
  unfold Pv.vl Pv.cs Pg.form Pv.pg
  simp only [List.length_map]
  obtain ⟨kind, level, aI, cI, items, aD, cD, data, next⟩ := p
  dsimp only
  generalize items.length = n
  generalize data.length = d
  by_cases k3 : kind = 3
  · subst k3
    go_enter Tryz.func96, Tryz.ntmps96
    go_wp2
    all_goals (go_ret; refine ⟨retb ?_, al _ _⟩; first | grind | (simp; grind) | (simp [beqd]; grind))
  · have k3' : (kind == 3) = false := by simpa using k3
    rw [if_neg k3]
    by_cases k1 : kind = 1
    · subst k1
      go_enter Tryz.func96, Tryz.ntmps96
      go_wp2
      all_goals (go_ret; refine ⟨retb ?_, al _ _⟩; first | grind | (simp; grind) | (simp [beqd]; grind))
    · have k1' : (kind == 1) = false := by simpa using k1
      rw [if_neg k1]
      go_enter Tryz.func96, Tryz.ntmps96
      go_wp2
      all_goals (go_ret; refine ⟨retb ?_, al _ _⟩; first | grind | (simp; grind) | (simp [beqd]; grind))
set_option maxHeartbeats 1600000 in
theorem ikey_any (w : World) (p : Pv) (i : Nat) (hP : Pi w p) (hi : i < p.items.length) : Calls Tryz.prog 97 #[p.vl, .int .i64 (i : Int)] w fun e w' => e = .returned (.bool (p.pg.keyOk i)) ∧ Below w.heap.size w w' := by
  obtain ⟨bI, off, hbo, hr⟩ := (hP.it.keep (al w (.cells p.cs 93))).at hi
  obtain ⟨k0, k1, k2, k3⟩ := range4 hr
  have hiI : (i : Int) < (p.items.length : Int) := by omega
  unfold Pg.keyOk
  rw [Pv.at]
  generalize p.items.getD i Iv.zero = x at *
  clear hr hP k1 k2 k3
  obtain ⟨kind, level, aI, cI, items, aD, cD, data, next⟩ := p
  unfold Pv.vl Iv.it
  simp only [Pv.cs, Pv.pg] at *
  subst hbo
  generalize x.key.length = n at *
  by_cases hk : kind = 2 ∧ i = 0
  · obtain ⟨rfl, rfl⟩ := hk
    simp only [Nat.zero_mul, Nat.add_zero] at k0
    go_enter Tryz.func97, Tryz.ntmps97
    go_wp2
    all_goals (go_ret; refine ⟨retb ?_, al _ _⟩; first | grind | (simp; grind) | (simp [beqd]; grind))
  · by_cases k2 : kind = 2
    · subst k2
      have i0 : ((i : Int) == 0) = false := by simp; omega
      go_enter Tryz.func97, Tryz.ntmps97
      go_wp2
      all_goals (go_ret; refine ⟨retb ?_, al _ _⟩; first | grind | (simp; grind) | (simp [beqd]; grind))
    · have k2' : (kind == 2) = false := by simpa using k2
      go_enter Tryz.func97, Tryz.ntmps97
      go_wp2
      all_goals (go_ret; refine ⟨retb ?_, al _ _⟩; first | grind | (simp; grind) | (simp [beqd]; grind))
set_option maxHeartbeats 1600000 in
theorem ivalue_any (w : World) (p : Pv) (x : Iv) : Calls Tryz.prog 98 #[p.vl, x.vl] w fun e w' => e = .returned (.bool (x.it.valOk p.kind)) ∧ Below w.heap.size w w' := by
  unfold It.valOk
  obtain ⟨kind, level, aI, cI, items, aD, cD, data, next⟩ := p
  obtain ⟨aK, cK, key, aV, cV, val, child, size⟩ := x
  unfold Pv.vl Iv.vl Iv.it
  simp only [Pv.cs, Iv.cs]
  generalize val.length = n
  by_cases k2 : kind = 2
  · subst k2
    go_enter Tryz.func98, Tryz.ntmps98
    go_wp2
    all_goals (go_ret; refine ⟨retb ?_, bt (al _ _) (al _ _)⟩; first | grind | (simp; grind) | (simp [beqd]; grind))
  · have k2' : (kind == 2) = false := by simpa using k2
    rw [if_neg k2]
    go_enter Tryz.func98, Tryz.ntmps98
    go_wp2
    all_goals (go_ret; refine ⟨retb ?_, bt (al _ _) (al _ _)⟩; first | grind | (simp; grind) | (simp [beqd]; grind))
set_option maxHeartbeats 1600000 in
theorem ichild_any (w : World) (p : Pv) (x : Iv) : Calls Tryz.prog 99 #[p.vl, x.vl] w fun e w' => e = .returned (.bool (x.it.kidOk p.kind)) ∧ Below w.heap.size w w' := by
  unfold It.kidOk
  obtain ⟨kind, level, aI, cI, items, aD, cD, data, next⟩ := p
  obtain ⟨aK, cK, key, aV, cV, val, child, size⟩ := x
  unfold Pv.vl Iv.vl Iv.it
  simp only [Pv.cs, Iv.cs]
  by_cases k2 : kind = 1 ∧ size ≤ 32
  · obtain ⟨rfl, h32⟩ := k2
    have h32' : decide (size ≤ 32) = true := by simpa using h32
    rw [if_pos ⟨rfl, h32⟩]
    go_enter Tryz.func99, Tryz.ntmps99
    go_wp2
    all_goals (go_ret; refine ⟨retb ?_, bt (al _ _) (al _ _)⟩; simp [beqd])
  · rw [if_neg k2]
    by_cases k1 : kind = 1
    · subst k1
      have h32' : decide (size ≤ 32) = false := by simp; omega
      go_enter Tryz.func99, Tryz.ntmps99
      go_wp2_with (go_at_call 100; refine (IsPage_any _ _).mono ?_; rintro y w1 ⟨rfl, hww⟩; obtain rfl := hww.symm)
      go_ret
      exact ⟨rfl, bt (al _ _) (al _ _)⟩
    · have k1' : (kind == 1) = false := by simpa using k1
      go_enter Tryz.func99, Tryz.ntmps99
      go_wp2_with (go_at_call 100; refine (IsPage_any _ _).mono ?_; rintro y w1 ⟨rfl, hww⟩; obtain rfl := hww.symm)
      go_ret
      exact ⟨rfl, bt (al _ _) (al _ _)⟩
theorem check_at {p : Pg} {k : Nat} (h : p.formE = 0) (h0 : firstE p.itemE k = 0) (hk : k < p.items.length) (hx : p.itemE k ≠ 0) : p.check = p.itemE k := by
  obtain ⟨h1, h2⟩ := form_zero h
  unfold Pg.check
  rw [if_neg (by rw [h1]; simp), if_neg (by rw [h2]; simp), firstE_stop h0 hx _ hk, if_pos hx]
theorem check_end {p : Pg} (h : p.formE = 0) (h0 : firstE p.itemE p.items.length = 0) : p.check = if p.nextOk = false then 15 else 0 := by
  obtain ⟨h1, h2⟩ := form_zero h
  unfold Pg.check
  rw [if_neg (by rw [h1]; simp), if_neg (by rw [h2]; simp), h0, if_neg (by simp)]
end Go.Proofs.YtbhigodjbfoeoaaGreat
