import Derived.KernelRfl
namespace Go.Proofs.Ytoachodngjlpaaa

/-- the order of bytes -/
def cmpB : List Nat → List Nat → Int
  | [], [] => 0
  | [], _ :: _ => -1
  | _ :: _, [] => 1
  | x :: xs, y :: ys => if x < y then -1 else if y < x then 1 else cmpB xs ys
theorem cmpB_refl : ∀ l, cmpB l l = 0
  | [] => rfl
  | x :: l => by simp [cmpB, cmpB_refl l]
theorem cmpB_eq : ∀ {a b}, cmpB a b = 0 → a = b
  | [], [], _ => rfl
  | [], _ :: _, h => by simp [cmpB] at h
  | _ :: _, [], h => by simp [cmpB] at h
  | x :: xs, y :: ys, h => by
    simp only [cmpB] at h
    split at h
    · cases h
    · split at h
      · cases h
      · rw [cmpB_eq h, show x = y by omega]
theorem cmpB_zero {a b : List Nat} : cmpB a b = 0 ↔ a = b := ⟨cmpB_eq, fun h => by rw [h]; exact cmpB_refl b⟩
theorem cmpB_flip : ∀ a b, cmpB b a = - cmpB a b
  | [], [] => rfl
  | [], _ :: _ => rfl
  | _ :: _, [] => rfl
  | x :: xs, y :: ys => by
    simp only [cmpB]
    by_cases h : x < y
    · simp [h, show ¬ y < x by omega]
    · by_cases h2 : y < x
      · simp [h, h2]
      · simp [h, h2, cmpB_flip xs ys]
theorem cmpB_append (l a b : List Nat) : cmpB (l ++ a) (l ++ b) = cmpB a b := by
  induction l with
  | nil => rfl
  | cons x l ih => simp [cmpB, ih]
/-- one step of the loop -/
theorem cmpB_drop (a b : List Nat) (j : Nat) (ha : j < a.length) (hb : j < b.length) : cmpB (a.drop j) (b.drop j) = if a.getD j 0 < b.getD j 0 then -1 else if b.getD j 0 < a.getD j 0 then 1 else cmpB (a.drop (j + 1)) (b.drop (j + 1)) := by
  rw [List.drop_eq_getElem_cons ha, List.drop_eq_getElem_cons hb]
  simp [cmpB, ha, hb]
theorem cmpB_end (a b : List Nat) (j : Nat) (h : a.length ≤ j ∨ b.length ≤ j) (hj : j ≤ a.length) (hj2 : j ≤ b.length) : cmpB (a.drop j) (b.drop j) = if a.length < b.length then -1 else if b.length < a.length then 1 else 0 := by
  by_cases h1 : a.length < b.length
  · have : j = a.length := by omega
    subst this
    rw [if_pos h1, List.drop_length]
    obtain ⟨x, xs, e⟩ : ∃ x xs, b.drop a.length = x :: xs := ⟨_, _, List.drop_eq_getElem_cons h1⟩
    rw [e]; rfl
  · by_cases h2 : b.length < a.length
    · have : j = b.length := by omega
      subst this
      rw [if_neg h1, if_pos h2, List.drop_length]
      obtain ⟨x, xs, e⟩ : ∃ x xs, a.drop b.length = x :: xs := ⟨_, _, List.drop_eq_getElem_cons h2⟩
      rw [e]; rfl
    · rw [if_neg h1, if_neg h2, show a.drop j = [] by simp; omega, show b.drop j = [] by simp; omega]; rfl

/-- the order of numbers -/
def cmpZ (a b : Int) : Int := if a < b then -1 else if b < a then 1 else 0
theorem cmpZ_refl (a : Int) : cmpZ a a = 0 := by simp [cmpZ]

/-- reals by their bits -/
def nanb (x : Nat) : Bool := decide (9218868437227405312 < x % 9223372036854775808)
def one (x : Nat) : Nat := if nanb x then 9221120237041090561 else x
def rank (x : Nat) : Nat := if 9223372036854775808 ≤ one x then 18446744073709551615 - one x else one x + 9223372036854775808
def unrank (r : Nat) : Nat := if 9223372036854775808 ≤ r then r - 9223372036854775808 else 18446744073709551615 - r
theorem one_lt {x : Nat} (h : x < 18446744073709551616) : one x < 18446744073709551616 := by unfold one; split <;> omega
theorem rank_lt {x : Nat} (h : x < 18446744073709551616) : rank x < 18446744073709551616 := by
  have := one_lt h
  unfold rank; split <;> omega
theorem unrank_lt {x : Nat} (h : x < 18446744073709551616) : unrank x < 18446744073709551616 := by unfold unrank; split <;> omega
theorem nanb_one (x : Nat) (h : nanb x = true) : one x = 9221120237041090561 := by unfold one; rw [h]; rfl
theorem one_one (x : Nat) : one (one x) = one x := by
  by_cases h : nanb x = true
  · rw [nanb_one x h]; rfl
  · have : one x = x := by unfold one; simp [h]
    rw [this, this]
theorem rank_one (x : Nat) : rank (one x) = rank x := by unfold rank; rw [one_one]
theorem unrank_rank {x : Nat} (h : x < 18446744073709551616) : unrank (rank x) = one x := by
  have := one_lt h
  unfold unrank rank; split <;> split <;> omega
theorem rank_inj {x y : Nat} (hx : x < 18446744073709551616) (hy : y < 18446744073709551616) (h : rank x = rank y) : one x = one y := by rw [← unrank_rank hx, ← unrank_rank hy, h]
/-- the reference's order of reals -/
def reals (a b : Nat) : Int :=
  if nanb a ∨ nanb b then (if nanb a ∧ nanb b then 0 else if nanb a then 1 else -1)
  else if (9223372036854775808 ≤ a) ≠ (9223372036854775808 ≤ b) then (if 9223372036854775808 ≤ a then -1 else 1)
  else if a = b then 0 else if (a < b) ≠ (9223372036854775808 ≤ a) then -1 else 1
theorem nanb_false {x : Nat} (h : nanb x = false) : x % 9223372036854775808 ≤ 9218868437227405312 := by
  have := of_decide_eq_false h
  omega
theorem rank_num {x : Nat} (hx : x < 18446744073709551616) (h : nanb x = false) : rank x < 18444492273895866369 := by
  have o : one x = x := by unfold one; simp [h]
  have := nanb_false h
  unfold rank
  rw [o]
  split <;> omega
theorem reals_rank {a b : Nat} (ha : a < 18446744073709551616) (hb : b < 18446744073709551616) : reals a b = cmpZ (rank a) (rank b) := by
  unfold reals cmpZ
  cases na : nanb a with
  | true =>
    have ra : rank a = 18444492273895866369 := by unfold rank; rw [nanb_one a na]; rfl
    cases nb : nanb b with
    | true =>
      have rb : rank b = 18444492273895866369 := by unfold rank; rw [nanb_one b nb]; rfl
      simp [ra, rb]
    | false =>
      have := rank_num hb nb
      rw [ra]
      generalize rank b = r at *
      simp only [true_or, if_true]
      rw [if_neg (by simp), if_neg (by omega), if_pos (by omega)]
  | false =>
    cases nb : nanb b with
    | true =>
      have rb : rank b = 18444492273895866369 := by unfold rank; rw [nanb_one b nb]; rfl
      have := rank_num ha na
      rw [rb]
      generalize rank a = r at *
      simp only [or_true, if_true]
      rw [if_neg (by simp), if_neg (by simp), if_pos (by omega)]
    | false =>
      have oa : one a = a := by unfold one; simp [na]
      have ob : one b = b := by unfold one; simp [nb]
      unfold rank
      rw [oa, ob]
      by_cases h1 : 9223372036854775808 ≤ a <;> by_cases h2 : 9223372036854775808 ≤ b <;> by_cases h3 : a < b <;> by_cases h4 : a = b <;> simp [h1, h2, h3, h4] <;> omega

/-- the bytes of a number, the highest first -/
def hb (x : Nat) : Nat → List Nat
  | 0 => []
  | n + 1 => x / 256 ^ n % 256 :: hb x n
theorem hb_length (x n : Nat) : (hb x n).length = n := by induction n with | zero => rfl | succ n ih => simp [hb, ih]
theorem hb_lt (x n : Nat) : ∀ y ∈ hb x n, y < 256 := by
  induction n with
  | zero => intro y hy; cases hy
  | succ n ih =>
    intro y hy
    simp only [hb, List.mem_cons] at hy
    rcases hy with rfl | hy
    · exact Nat.mod_lt _ (by decide)
    · exact ih y hy
/-- the number of bytes, the highest first -/
def be (l : List Nat) : Nat := l.foldl (fun x y => x * 256 + y) 0
theorem be_from (l : List Nat) (x : Nat) : l.foldl (fun x y => x * 256 + y) x = x * 256 ^ l.length + be l := by
  induction l generalizing x with
  | nil => simp [be]
  | cons y l ih =>
    unfold be
    simp only [List.foldl_cons, List.length_cons]
    rw [ih, ih (0 * 256 + y), Nat.pow_succ, Nat.add_mul, Nat.mul_assoc, Nat.mul_comm 256, Nat.zero_mul, Nat.zero_add]
    omega
theorem be_cons (y : Nat) (l : List Nat) : be (y :: l) = y * 256 ^ l.length + be l := by
  show l.foldl _ (0 * 256 + y) = _
  rw [be_from]; simp
theorem be_lt (l : List Nat) (h : ∀ y ∈ l, y < 256) : be l < 256 ^ l.length := by
  induction l with
  | nil => simp [be]
  | cons y l ih =>
    have := ih fun z hz => h z (List.mem_cons_of_mem _ hz)
    have hy := h y (List.mem_cons_self ..)
    rw [be_cons, List.length_cons, Nat.pow_succ, Nat.mul_comm]
    have : 256 ^ l.length * y + 256 ^ l.length ≤ 256 ^ l.length * 256 := by
      rw [← Nat.mul_succ]
      exact Nat.mul_le_mul_left _ hy
    omega
theorem be_hb (x n : Nat) : be (hb x n) = x % 256 ^ n := by
  induction n with
  | zero => simp [hb, be, Nat.mod_one]
  | succ n ih =>
    rw [hb, be_cons, hb_length, ih, Nat.pow_succ, Nat.mod_mul]
    rw [Nat.mul_comm, Nat.add_comm]
theorem hb_mod (x m n : Nat) (h : n ≤ m) : hb (x % 256 ^ m) n = hb x n := by
  induction n with
  | zero => rfl
  | succ n ih =>
    simp only [hb]
    rw [ih (by omega)]
    congr 1
    obtain ⟨k, rfl⟩ : ∃ k, m = n + 1 + k := ⟨m - (n + 1), by omega⟩
    have e : 256 ^ (n + 1 + k) = 256 ^ n * (256 * 256 ^ k) := by rw [Nat.pow_add, Nat.pow_succ, Nat.mul_assoc]
    rw [e, Nat.mod_mul_right_div_self, Nat.mod_mod_of_dvd _ ⟨256 ^ k, rfl⟩]
theorem hb_be (l : List Nat) (h : ∀ y ∈ l, y < 256) : hb (be l) l.length = l := by
  induction l with
  | nil => rfl
  | cons y l ih =>
    have hl := be_lt l fun z hz => h z (List.mem_cons_of_mem _ hz)
    have hy := h y (List.mem_cons_self ..)
    have hp : 0 < 256 ^ l.length := Nat.pow_pos (by decide)
    rw [List.length_cons, hb, be_cons]
    congr 1
    · rw [Nat.mul_comm, Nat.mul_add_div hp, Nat.div_eq_of_lt hl]; omega
    · have e : hb (y * 256 ^ l.length + be l) l.length = hb (be l) l.length := by
        rw [← hb_mod _ l.length l.length (Nat.le_refl _), Nat.mul_comm, Nat.mul_add_mod, Nat.mod_eq_of_lt hl]
      rw [e, ih fun z hz => h z (List.mem_cons_of_mem _ hz)]

/-- in how many bytes a number fits -/
def wd (y : Nat) : Nat := if h : y = 0 then 0 else wd (y / 256) + 1
theorem wd_zero : wd 0 = 0 := by unfold wd; rfl
theorem wd_pos {y : Nat} (h : 0 < y) : wd y = wd (y / 256) + 1 := by rw [wd]; simp [show y ≠ 0 by omega]
theorem wd_iff : ∀ (n y : Nat), wd y ≤ n ↔ y < 256 ^ n
  | 0, y => by
    by_cases h : y = 0
    · subst h; simp [wd_zero]
    · rw [wd_pos (by omega)]; simp; omega
  | n + 1, y => by
    by_cases h : y = 0
    · subst h; rw [wd_zero]; exact ⟨fun _ => Nat.pow_pos (by decide), fun _ => Nat.zero_le _⟩
    · rw [wd_pos (by omega), Nat.succ_le_succ_iff, wd_iff n (y / 256), Nat.pow_succ, Nat.div_lt_iff_lt_mul (by decide)]
theorem wd_lt (y : Nat) : y < 256 ^ wd y := (wd_iff _ y).1 (Nat.le_refl _)
theorem wd_eq {y n : Nat} (h1 : y < 256 ^ n) (h2 : n = 0 ∨ 256 ^ (n - 1) ≤ y) : wd y = n := by
  have a := (wd_iff n y).2 h1
  rcases h2 with rfl | h2
  · omega
  · by_cases h : wd y ≤ n - 1
    · have := (wd_iff _ y).1 h
      omega
    · omega
theorem wd_mono {x y : Nat} (h : x ≤ y) : wd x ≤ wd y := (wd_iff _ _).2 (Nat.lt_of_le_of_lt h (wd_lt y))
theorem wd_le {y : Nat} (h : y < 18446744073709551616) : wd y ≤ 8 := (wd_iff 8 y).2 (by simpa using h)
end Go.Proofs.Ytoachodngjlpaaa
