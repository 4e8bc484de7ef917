import Derived.Test.YtifhkfghjifecaaPSX
import Derived.Test.YtifhkfghjifecaaPN
import Derived.Test.YtifhkfghjifecaaWA
namespace Go.Proofs.Ytifhkfghjifecaa
namespace M

theorem split8 (s : Nat) : s = (s % 256) ^^^ (s / 256 * 2 ^ 8) := by
  apply Nat.eq_of_testBit_eq
  intro i
  rw [Nat.testBit_xor, show s % 256 = s % 2 ^ 8 from rfl, Nat.testBit_mod_two_pow, Nat.testBit_mul_two_pow, show s / 256 = s / 2 ^ 8 from rfl, Nat.testBit_div_two_pow]
  by_cases h : i < 8
  · have : ¬ 8 ≤ i := by omega
    simp [h, this]
  · have : 8 ≤ i := by omega
    simp [h, this]
theorem st_in (k x b : Nat) : st 8 (st k x ^^^ b) = st (k + 8) (x ^^^ b * 2 ^ k) := by
  rw [st_add, st_xor k, st_shl]
theorem xor_mul2 (a b i : Nat) : (a ^^^ b) * 2 ^ i = a * 2 ^ i ^^^ b * 2 ^ i := by
  apply Nat.eq_of_testBit_eq
  intro j
  rw [Nat.testBit_xor, Nat.testBit_mul_two_pow, Nat.testBit_mul_two_pow, Nat.testBit_mul_two_pow, Nat.testBit_xor]
  by_cases h : i ≤ j <;> simp [h]
theorem word (y : Nat) (h : y < 2 ^ 32) : y = (y % 256 ^^^ y / 256 % 256 * 2 ^ 8) ^^^ y / 65536 % 256 * 2 ^ 16 ^^^ y / 16777216 % 256 * 2 ^ 24 := by
  have e1 := split8 y
  have e2 := split8 (y / 256)
  have e3 := split8 (y / 65536)
  rw [Nat.div_div_eq_div_mul] at e2 e3
  have e4 : y / 16777216 % 256 = y / 16777216 := Nat.mod_eq_of_lt (by omega)
  rw [show 256 * 256 = 65536 from rfl] at e2
  rw [show 65536 * 256 = 16777216 from rfl] at e3
  have f1 : y / 256 * 2 ^ 8 = y / 256 % 256 * 2 ^ 8 ^^^ y / 65536 * 2 ^ 16 := by
    have := congrArg (· * 2 ^ 8) e2
    simp only [xor_mul2, Nat.mul_assoc, ← Nat.pow_add] at this
    exact this
  have f2 : y / 65536 * 2 ^ 16 = y / 65536 % 256 * 2 ^ 16 ^^^ y / 16777216 * 2 ^ 24 := by
    have := congrArg (· * 2 ^ 16) e3
    simp only [xor_mul2, Nat.mul_assoc, ← Nat.pow_add] at this
    exact this
  rw [e4, Nat.xor_assoc, ← f2, Nat.xor_assoc, ← f1]
  exact e1
theorem assoc5 (t a b c d : Nat) : t ^^^ a ^^^ b ^^^ c ^^^ d = t ^^^ (a ^^^ b ^^^ c ^^^ d) := by
  rw [Nat.xor_assoc t, Nat.xor_assoc t, Nat.xor_assoc t]
theorem on_word (t y : Nat) (h : y < 2 ^ 32) : on t [y % 256, y / 256 % 256, y / 65536 % 256, y / 16777216 % 256] = st 32 (t ^^^ y) := by
  show st 8 (st 8 (st 8 (st 8 (t ^^^ y % 256) ^^^ y / 256 % 256) ^^^ y / 65536 % 256) ^^^ y / 16777216 % 256) = _
  rw [st_in 8 (t ^^^ y % 256) (y / 256 % 256), st_in (8 + 8), st_in (8 + 8 + 8)]
  show st 32 (((t ^^^ y % 256) ^^^ y / 256 % 256 * 2 ^ 8) ^^^ y / 65536 % 256 * 2 ^ 16 ^^^ y / 16777216 % 256 * 2 ^ 24) = _
  congr 1
  rw [assoc5, ← word y h]
theorem xor_neg (t : Nat) : t ^^^ neg t = F := by
  rw [neg_eq, Nat.xor_comm F t, ← Nat.xor_assoc, Nat.xor_self, Nat.zero_xor]
theorem own_const : neg (st 32 F) = 1214729159 := by decide +kernel
/-- P1.10 -/
theorem own_sum (l : List Nat) (hl : ∀ x ∈ l, x < 256) : of (l ++ [of l % 256, of l / 256 % 256, of l / 65536 % 256, of l / 16777216 % 256]) = 1214729159 := by
  have hy := of_lt hl
  rw [of_eq (l ++ _), on_append, on_word _ _ hy, of_eq l, xor_neg, own_const]

/-- a byte turned -/
theorem on_set (d : Nat) : ∀ (l : List Nat) (i s : Nat), i < l.length → on s (l.set i (l.getD i 0 ^^^ d)) = on s l ^^^ st (8 * (l.length - i)) d
  | [], i, s, h => absurd h (Nat.not_lt_zero _)
  | x :: r, 0, s, _ => by
    show on (st 8 (s ^^^ (x ^^^ d))) r = on (st 8 (s ^^^ x)) r ^^^ st (8 * (r.length + 1)) d
    rw [← Nat.xor_assoc, Nat.xor_comm (s ^^^ x) d, st_xor, on_xor, ← st_add, Nat.xor_comm, show 8 + 8 * r.length = 8 * (r.length + 1) by omega]
  | x :: r, i + 1, s, h => by
    show on (st 8 (s ^^^ x)) (r.set i (r.getD i 0 ^^^ d)) = on (st 8 (s ^^^ x)) r ^^^ st (8 * (r.length + 1 - (i + 1))) d
    rw [on_set d r i _ (by simpa using h), Nat.add_sub_add_right]
theorem bit_at (L p i j k from_ : Nat) (hp : p = 8 * i + j) (hk : p = from_ + k) (hL : p < 8 * L) : st (8 * (L - i)) (2 ^ j) = st (8 * L - from_) (2 ^ k) := by
  have e1 : 8 * (L - i) = j + (8 * L - p) := by omega
  have e2 : 8 * L - from_ = k + (8 * L - p) := by omega
  have h1 := st_shl j 1
  have h2 := st_shl k 1
  rw [Nat.one_mul] at h1 h2
  rw [e1, e2, st_add, st_add, h1, h2]
theorem xor_right_inj {a b c : Nat} (h : a = a ^^^ c) (hb : b = c) : b = 0 := by
  have h2 : a ^^^ a = a ^^^ (a ^^^ c) := congrArg (a ^^^ ·) h
  rw [Nat.xor_self, xor_xor] at h2
  rw [hb]; exact h2.symm
theorem neg_inj {a b : Nat} (h : neg a = neg b) : a = b := by rw [← neg_neg a, h, neg_neg]
theorem tells (b c : List Nat) (N bits : Nat) (hb : bits < 2 ^ 32) (h0 : bits ≠ 0) (h : on F c = on F b ^^^ st N bits) : of b ≠ of c := by
  intro e
  rw [of_eq, of_eq] at e
  have e2 := neg_inj e
  rw [h] at e2
  exact h0 (st_eq_zero N hb (xor_right_inj e2 rfl))
end M
theorem own_of {b : List Nat} (h8 : ∀ x ∈ b, x < 256) (hl : b.length = 512) (hs : numV (b.drop 508) = M.of (b.take 508)) : M.of b = 1214729159 := by
  have hd : (b.drop 508).length = 4 := by rw [List.length_drop]; omega
  have hd8 : ∀ x ∈ b.drop 508, x < 256 := fun x hx => h8 x (List.mem_of_mem_drop hx)
  have ht8 : ∀ x ∈ b.take 508, x < 256 := fun x hx => h8 x (List.mem_of_mem_take hx)
  have e := M.own_sum (b.take 508) ht8
  have hb : b.take 508 ++ b.drop 508 = b := List.take_append_drop _ _
  generalize b.drop 508 = d at *
  match d, hd with
  | [x0, x1, x2, x3], _ =>
    have q0 := hd8 x0 (by simp)
    have q1 := hd8 x1 (by simp)
    have q2 := hd8 x2 (by simp)
    have q3 := hd8 x3 (by simp)
    simp only [numV] at hs
    rw [← hs] at e
    rw [← hb, ← e]
    congr 2
    simp only [List.cons.injEq, and_true]
    omega
end Go.Proofs.Ytifhkfghjifecaa
