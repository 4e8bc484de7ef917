import Derived.KernelRfl
namespace Go.Proofs.Ytoachodngjlpaaa
/-- a number's bytes, the lowest first -/
def numB : Nat → Nat → List Nat
  | _, 0 => []
  | x, k + 1 => x % 256 :: numB (x / 256) k
theorem numB_length (x k : Nat) : (numB x k).length = k := by
  induction k generalizing x with
  | zero => rfl
  | succ k ih => simp [numB, ih]
theorem numB_get (x k j : Nat) (h : j < k) : (numB x k).getD j 0 = x / 256 ^ j % 256 := by
  induction k generalizing x j with
  | zero => omega
  | succ k ih =>
    cases j with
    | zero => simp [numB]
    | succ j =>
      have := ih (x / 256) j (by omega)
      simp only [numB, List.getD_cons_succ, this]
      rw [Nat.div_div_eq_div_mul, Nat.pow_succ, Nat.mul_comm]
theorem numB_lt (x k : Nat) : ∀ y ∈ numB x k, y < 256 := by
  induction k generalizing x with
  | zero => simp [numB]
  | succ k ih =>
    intro y hy
    simp only [numB, List.mem_cons] at hy
    rcases hy with rfl | hy
    · omega
    · exact ih _ y hy
theorem div_step (x j : Nat) : x / 256 ^ j / 256 = x / 256 ^ (j + 1) := by rw [Nat.div_div_eq_div_mul, Nat.pow_succ]
theorem lt_mem_take {l : List Nat} {k : Nat} (h : ∀ x ∈ l, x < 256) : ∀ x ∈ l.take k, x < 256 := fun x hx => h x (List.mem_of_mem_take hx)

/-- a reader, as the document has it: what is left, and its error -/
structure RS where
  l : List Nat
  e : Nat
/-- the error with which a look at the next n bytes gives up; 0: none -/
def RS.fail (s : RS) (n : Int) : Nat := if s.e ≠ 0 then s.e else if n < 0 then 1 else if (s.l.length : Int) < n then 2 else 0
theorem RS.fail_zero {s : RS} {n : Int} (h : s.fail n = 0) : s.e = 0 ∧ 0 ≤ n ∧ n ≤ s.l.length := by
  unfold RS.fail at h
  by_cases he : s.e = 0
  · rw [if_neg (by omega)] at h
    by_cases hn : n < 0
    · rw [if_pos hn] at h; cases h
    · rw [if_neg hn] at h
      by_cases hl : (s.l.length : Int) < n
      · rw [if_pos hl] at h; cases h
      · exact ⟨he, by omega, by omega⟩
  · rw [if_pos he] at h; exact absurd h he
theorem RS.fail_ok {s : RS} {n : Int} (he : s.e = 0) (h0 : 0 ≤ n) (hn : n ≤ s.l.length) : s.fail n = 0 := by
  unfold RS.fail
  rw [if_neg (by omega), if_neg (by omega), if_neg (by omega)]

/-- what Raw reads, and what is left -/
def RS.raw (s : RS) (n : Int) : List Nat × RS := if s.fail n ≠ 0 then ([], ⟨s.l, s.fail n⟩) else (s.l.take n.toNat, ⟨s.l.drop n.toNat, 0⟩)
/-- what Short reads, and what is left -/
def RS.shortE (s : RS) (most : Int) : Nat := if s.fail 1 ≠ 0 then s.fail 1 else if most < (s.l.headD 0 : Nat) then 4 else s.fail (1 + (s.l.headD 0 : Nat))
def RS.short (s : RS) (most : Int) : List Nat × RS :=
  if s.shortE most ≠ 0 then ([], ⟨s.l, s.shortE most⟩) else ((s.l.drop 1).take (s.l.headD 0), ⟨s.l.drop (1 + s.l.headD 0), 0⟩)
def RS.fin (s : RS) : Nat := if s.e ≠ 0 then s.e else if s.l.length = 0 then 0 else 3
/-- the number that bytes are, the lowest first -/
def numV : List Nat → Nat
  | [] => 0
  | x :: r => x + 256 * numV r

theorem numV_snoc (l : List Nat) (j : Nat) (h : j < l.length) : numV (l.take (j + 1)) = numV (l.take j) + l.getD j 0 * 256 ^ j := by
  induction l generalizing j with
  | nil => simp at h
  | cons x r ih =>
    cases j with
    | zero => simp [numV]
    | succ j =>
      have := ih j (by simpa using h)
      simp only [List.take_succ_cons, numV, this, List.getD_cons_succ, Nat.mul_add, Nat.pow_succ]
      rw [show 256 * (r.getD j 0 * 256 ^ j) = r.getD j 0 * (256 ^ j * 256) by rw [Nat.mul_left_comm, Nat.mul_comm 256]]
      omega
theorem numV_lt (l : List Nat) (h : ∀ x ∈ l, x < 256) : numV l < 256 ^ l.length := by
  induction l with
  | nil => simp [numV]
  | cons x r ih =>
    have h1 := h x (by simp)
    have h2 := ih fun y hy => h y (by simp [hy])
    simp only [numV, List.length_cons, Nat.pow_succ]
    omega
/-- with what error Zeros gives up; 0: with none -/
def RS.zerosE (s : RS) : Nat := if s.e ≠ 0 then s.e else if s.l.all (· == 0) then 0 else 5
def RS.zeros (s : RS) : RS := if s.zerosE ≠ 0 then ⟨s.l, s.zerosE⟩ else ⟨[], 0⟩
end Go.Proofs.Ytoachodngjlpaaa
