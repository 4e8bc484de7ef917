import Derived.KernelRfl
namespace Go.Proofs.YtbhigodjbfoeoaaGreat
/-- the order of bytes -/
def cmpB : List Nat → List Nat → Int
  | [], [] => 0
  | [], _ :: _ => -1
  | _ :: _, [] => 1
  | x :: xs, y :: ys => if x < y then -1 else if y < x then 1 else cmpB xs ys
theorem cmpB_refl : ∀ l, cmpB l l = 0
  | [] => rfl
  | x :: l => by simp [cmpB, cmpB_refl l]
theorem cmpB_eq : ∀ {a b}, cmpB a b = 0 → a = b
  | [], [], _ => rfl
  | [], _ :: _, h => by simp [cmpB] at h
  | _ :: _, [], h => by simp [cmpB] at h
  | x :: xs, y :: ys, h => by
    simp only [cmpB] at h
    split at h
    · cases h
    · split at h
      · cases h
      · rw [cmpB_eq h, show x = y by omega]
theorem cmpB_zero {a b : List Nat} : cmpB a b = 0 ↔ a = b := ⟨cmpB_eq, fun h => by rw [h]; exact cmpB_refl b⟩
theorem cmpB_flip : ∀ a b, cmpB b a = - cmpB a b
  | [], [] => rfl
  | [], _ :: _ => rfl
  | _ :: _, [] => rfl
  | x :: xs, y :: ys => by
    simp only [cmpB]
    by_cases h : x < y
    · simp [h, show ¬ y < x by omega]
    · by_cases h2 : y < x
      · simp [h, h2]
      · simp [h, h2, cmpB_flip xs ys]
/-- one step of the loop -/
theorem cmpB_drop (a b : List Nat) (j : Nat) (ha : j < a.length) (hb : j < b.length) : cmpB (a.drop j) (b.drop j) = if a.getD j 0 < b.getD j 0 then -1 else if b.getD j 0 < a.getD j 0 then 1 else cmpB (a.drop (j + 1)) (b.drop (j + 1)) := by
  rw [List.drop_eq_getElem_cons ha, List.drop_eq_getElem_cons hb]
  simp [cmpB, ha, hb]
theorem cmpB_end (a b : List Nat) (j : Nat) (h : a.length ≤ j ∨ b.length ≤ j) (hj : j ≤ a.length) (hj2 : j ≤ b.length) : cmpB (a.drop j) (b.drop j) = if a.length < b.length then -1 else if b.length < a.length then 1 else 0 := by
  by_cases h1 : a.length < b.length
  · have : j = a.length := by omega
    subst this
    rw [if_pos h1, List.drop_length]
    obtain ⟨x, xs, e⟩ : ∃ x xs, b.drop a.length = x :: xs := ⟨_, _, List.drop_eq_getElem_cons h1⟩
    rw [e]; rfl
  · by_cases h2 : b.length < a.length
    · have : j = b.length := by omega
      subst this
      rw [if_neg h1, if_pos h2, List.drop_length]
      obtain ⟨x, xs, e⟩ : ∃ x xs, a.drop b.length = x :: xs := ⟨_, _, List.drop_eq_getElem_cons h2⟩
      rw [e]; rfl
    · rw [if_neg h1, if_neg h2, show a.drop j = [] by simp; omega, show b.drop j = [] by simp; omega]; rfl
/-- the order of numbers -/
def cmpZ (a b : Int) : Int := if a < b then -1 else if b < a then 1 else 0
/-- reals by their bits -/
def nanb (x : Nat) : Bool := decide (9218868437227405312 < x % 9223372036854775808)
def one (x : Nat) : Nat := if nanb x then 9221120237041090561 else x
def rank (x : Nat) : Nat := if 9223372036854775808 ≤ one x then 18446744073709551615 - one x else one x + 9223372036854775808
/-- the bytes of a number, the highest first -/
def hb (x : Nat) : Nat → List Nat
  | 0 => []
  | n + 1 => x / 256 ^ n % 256 :: hb x n
/-- in how many bytes a number fits -/
def wd (y : Nat) : Nat := if h : y = 0 then 0 else wd (y / 256) + 1
end Go.Proofs.YtbhigodjbfoeoaaGreat
