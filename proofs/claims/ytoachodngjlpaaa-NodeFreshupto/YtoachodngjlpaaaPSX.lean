import Derived.Laws.BitsAllLaws
import Derived.WalkKit
import Derived.Test.YtoachodngjlpaaaProg
import Derived.Test.YtoachodngjlpaaaVA
import Derived.WalkSpells
import Derived.WalkLawsBesides
import Derived.Laws.Rows
import Derived.Laws.Tables
import Derived.Deep.WholeRow
import Derived.Below
import Derived.Outline
namespace Go.Proofs.Ytoachodngjlpaaa
namespace M

def poly : Nat := 2197175160
def step (w : Nat) : Nat := if w % 2 = 1 then w / 2 ^^^ poly else w / 2

theorem mod2_xor (a b : Nat) : (a ^^^ b) % 2 = (a % 2 + b % 2) % 2 := by
  have h : (a ^^^ b).testBit 0 = (a.testBit 0 ^^ b.testBit 0) := Nat.testBit_xor a b 0
  simp only [Nat.testBit_zero] at h
  have h1 : a % 2 = 0 ∨ a % 2 = 1 := by omega
  have h2 : b % 2 = 0 ∨ b % 2 = 1 := by omega
  have h3 : (a ^^^ b) % 2 = 0 ∨ (a ^^^ b) % 2 = 1 := by omega
  rcases h1 with h1 | h1 <;> rcases h2 with h2 | h2 <;> rcases h3 with h3 | h3 <;> simp [h1, h2, h3] at h ⊢
theorem div2_xor (a b : Nat) : (a ^^^ b) / 2 = a / 2 ^^^ b / 2 := Nat.xor_div_two
theorem xor_cancel (a b : Nat) : a ^^^ b ^^^ b = a := by rw [Nat.xor_assoc, Nat.xor_self, Nat.xor_zero]

theorem xor4 (a b c d : Nat) : (a ^^^ b) ^^^ (c ^^^ d) = (a ^^^ c) ^^^ (b ^^^ d) := by
  rw [Nat.xor_assoc, Nat.xor_assoc]; congr 1
  rw [← Nat.xor_assoc, Nat.xor_comm b c, Nat.xor_assoc]

theorem step_xor (a b : Nat) : step (a ^^^ b) = step a ^^^ step b := by
  unfold step
  rw [mod2_xor, div2_xor]
  generalize ha : a / 2 = x
  generalize hb : b / 2 = y
  have h1 : a % 2 = 0 ∨ a % 2 = 1 := by omega
  have h2 : b % 2 = 0 ∨ b % 2 = 1 := by omega
  rcases h1 with h1 | h1 <;> rcases h2 with h2 | h2 <;> simp only [h1, h2] <;> simp only [Nat.reduceAdd, Nat.reduceMod, Nat.zero_mod, if_true, if_false, Nat.zero_ne_one]
  · rw [Nat.xor_assoc]
  · rw [Nat.xor_assoc, Nat.xor_assoc, Nat.xor_comm y poly]
  · rw [xor4, Nat.xor_self, Nat.xor_zero]

theorem step_lt {w : Nat} (h : w < 2 ^ 32) : step w < 2 ^ 32 := by
  unfold step
  split
  · exact Nat.xor_lt_two_pow (by omega) (by decide)
  · omega

theorem step_eq_zero {w : Nat} (h : w < 2 ^ 32) (h0 : step w = 0) : w = 0 := by
  unfold step at h0
  split at h0
  · have : w / 2 = poly := by
      have e := xor_cancel (w / 2) poly
      rw [h0, Nat.zero_xor] at e
      exact e.symm
    unfold poly at this
    omega
  · omega

/-- n steps -/
def st : Nat → Nat → Nat
  | 0, w => w
  | n + 1, w => st n (step w)

theorem st_xor (n : Nat) : ∀ a b, st n (a ^^^ b) = st n a ^^^ st n b := by
  induction n with
  | zero => intro a b; rfl
  | succ n ih => intro a b; show st n (step (a ^^^ b)) = _; rw [step_xor, ih]; rfl
theorem st_add (m n : Nat) : ∀ w, st (m + n) w = st n (st m w) := by
  induction m with
  | zero => intro w; rw [Nat.zero_add]; rfl
  | succ m ih => intro w; rw [Nat.succ_add]; show st (m + n) (step w) = _; rw [ih]; rfl
theorem st_lt (n : Nat) : ∀ {w}, w < 2 ^ 32 → st n w < 2 ^ 32 := by
  induction n with
  | zero => intro w h; exact h
  | succ n ih => intro w h; exact ih (step_lt h)
theorem st_zero (n : Nat) : st n 0 = 0 := by
  have h := st_xor n 0 0
  rw [Nat.xor_self, Nat.xor_self] at h
  exact h
theorem st_eq_zero (n : Nat) : ∀ {w}, w < 2 ^ 32 → st n w = 0 → w = 0 := by
  induction n with
  | zero => intro w _ h; exact h
  | succ n ih => intro w h h0; exact step_eq_zero h (ih (step_lt h) h0)
theorem st_succ' (n w : Nat) : st (n + 1) w = step (st n w) := by rw [st_add]; rfl
/-- a low zero bit: steps only move down -/
theorem st_shl (j : Nat) : ∀ x, st j (x * 2 ^ j) = x := by
  induction j with
  | zero => intro x; rw [Nat.pow_zero, Nat.mul_one]; rfl
  | succ j ih =>
    intro x
    show st j (step (x * 2 ^ (j + 1))) = x
    have e : x * 2 ^ (j + 1) = 2 * (x * 2 ^ j) := by rw [Nat.pow_succ, ← Nat.mul_assoc]; omega
    have : step (x * 2 ^ (j + 1)) = x * 2 ^ j := by
      rw [e]; unfold step; rw [if_neg (by omega)]; omega
    rw [this, ih]

/-- what s becomes if bit i becomes m i: the first k bits -/
def tmTo (m : Nat → Nat) (s : Nat) : Nat → Nat
  | 0 => 0
  | k + 1 => tmTo m s k ^^^ (if s / 2 ^ k % 2 = 1 then m k else 0)

theorem mod_succ_xor (s k : Nat) : s % 2 ^ (k + 1) = (s % 2 ^ k) ^^^ (if s / 2 ^ k % 2 = 1 then 2 ^ k else 0) := by
  apply Nat.eq_of_testBit_eq
  intro i
  rw [Nat.testBit_xor, Nat.testBit_mod_two_pow, Nat.testBit_mod_two_pow]
  have hb : s.testBit k = decide (s / 2 ^ k % 2 = 1) := by
    rw [Nat.testBit_eq_decide_div_mod_eq]
  by_cases h : s / 2 ^ k % 2 = 1
  · rw [if_pos h, Nat.testBit_two_pow]
    rw [decide_eq_true h] at hb
    by_cases hi : k = i
    · subst hi; simp [hb]
    · by_cases h2 : i < k
      · have : i < k + 1 := by omega
        simp [h2, this, hi]
      · have : ¬ i < k + 1 := by omega
        simp [h2, this, hi]
  · rw [if_neg h, Nat.zero_testBit, Bool.xor_false]
    rw [decide_eq_false h] at hb
    by_cases hi : k = i
    · subst hi; simp [hb]
    · have : (i < k + 1) ↔ (i < k) := by omega
      simp [this]

theorem tmTo_lin (F : Nat → Nat) (hF : ∀ a b, F (a ^^^ b) = F a ^^^ F b) (m : Nat → Nat) (s : Nat) (K : Nat) (hm : ∀ i, i < K → m i = F (2 ^ i)) :
    ∀ k, k ≤ K → tmTo m s k = F (s % 2 ^ k) := by
  have F0 : F 0 = 0 := by have h := hF 0 0; rw [Nat.xor_self, Nat.xor_self] at h; exact h
  intro k
  induction k with
  | zero => intro _; rw [Nat.pow_zero, Nat.mod_one, F0]; rfl
  | succ k ih =>
    intro hk
    show tmTo m s k ^^^ (if s / 2 ^ k % 2 = 1 then m k else 0) = _
    rw [ih (by omega), mod_succ_xor, hF]
    congr 1
    split
    · exact hm k (by omega)
    · exact F0.symm

theorem tm_st (m : Nat → Nat) (n s : Nat) (hs : s < 2 ^ 32) (hm : ∀ i, i < 32 → m i = st n (2 ^ i)) : tmTo m s 32 = st n s := by
  rw [tmTo_lin (st n) (st_xor n) m s 32 hm 32 (Nat.le_refl _), Nat.mod_eq_of_lt hs]

theorem tmTo_lt (m : Nat → Nat) (s : Nat) (hm : ∀ i, i < 32 → m i < 2 ^ 32) : ∀ k, k ≤ 32 → tmTo m s k < 2 ^ 32 := by
  intro k
  induction k with
  | zero => intro _; show 0 < 2 ^ 32; decide
  | succ k ih =>
    intro hk
    show tmTo m s k ^^^ (if s / 2 ^ k % 2 = 1 then m k else 0) < 2 ^ 32
    refine Nat.xor_lt_two_pow (ih (by omega)) ?_
    split
    · exact hm k (by omega)
    · decide

/-- half a byte at once -/
def half : List Nat := [0, 274646895, 549293790, 820201905, 1098587580, 1361435347, 1640403810, 1905808397, 2197175160, 2460548119, 2722870694, 2987750089, 3280807620, 3553878443, 3811616794, 4084100981]
theorem half_st : ∀ i, i < 16 → half.getD i 0 = st 4 i := by decide +kernel
theorem and15 (s : Nat) : s &&& 15 = s % 16 := Nat.and_two_pow_sub_one_eq_mod s 4
theorem split4 (s : Nat) : s = (s / 16 * 2 ^ 4) ^^^ (s % 16) := by
  apply Nat.eq_of_testBit_eq
  intro i
  rw [Nat.testBit_xor, show s % 16 = s % 2 ^ 4 from rfl, Nat.testBit_mod_two_pow, Nat.testBit_mul_two_pow, show s / 16 = s / 2 ^ 4 from rfl, Nat.testBit_div_two_pow]
  by_cases h : i < 4
  · have : ¬ 4 ≤ i := by omega
    simp [h, this]
  · have : 4 ≤ i := by omega
    simp [h, this]
theorem nib (s : Nat) : s / 16 ^^^ half.getD (s % 16) 0 = st 4 s := by
  have e : st 4 s = st 4 ((s / 16 * 2 ^ 4) ^^^ (s % 16)) := congrArg (st 4) (split4 s)
  rw [e, st_xor, st_shl, half_st _ (by omega)]

/-- on from w over bytes -/
def on : Nat → List Nat → Nat
  | w, [] => w
  | w, x :: r => on (st 8 (w ^^^ x)) r

theorem on_append (a b : List Nat) : ∀ w, on w (a ++ b) = on (on w a) b := by
  induction a with
  | nil => intro w; rfl
  | cons x r ih => intro w; exact ih _
theorem on_snoc (a : List Nat) (x w : Nat) : on w (a ++ [x]) = st 8 (on w a ^^^ x) := by rw [on_append]; rfl
theorem on_xor (l : List Nat) : ∀ v w, on (v ^^^ w) l = st (8 * l.length) v ^^^ on w l := by
  induction l with
  | nil => intro v w; rfl
  | cons x r ih =>
    intro v w
    show on (st 8 (v ^^^ w ^^^ x)) r = _ ^^^ on (st 8 (w ^^^ x)) r
    rw [Nat.xor_assoc, st_xor, ih, List.length_cons, Nat.mul_succ, Nat.add_comm (8 * r.length) 8, st_add]
theorem on_lt (l : List Nat) (hl : ∀ x ∈ l, x < 256) : ∀ {w}, w < 2 ^ 32 → on w l < 2 ^ 32 := by
  induction l with
  | nil => intro w h; exact h
  | cons x r ih =>
    intro w h
    refine ih (fun y hy => hl y (List.mem_cons_of_mem _ hy)) (st_lt 8 (Nat.xor_lt_two_pow h ?_))
    have := hl x List.mem_cons_self
    omega

/-- all ones -/
def F : Nat := 4294967295
/-- turn all bits: as Go's unary xor -/
def neg (a : Nat) : Nat := F ^^^ a
theorem F_lt : F < 2 ^ 32 := by decide
theorem neg_lt {a : Nat} (h : a < 2 ^ 32) : neg a < 2 ^ 32 := Nat.xor_lt_two_pow F_lt h
theorem xor_xor (f a : Nat) : f ^^^ (f ^^^ a) = a := by rw [← Nat.xor_assoc, Nat.xor_self, Nat.zero_xor]
theorem neg_eq (a : Nat) : neg a = F ^^^ a := rfl
theorem neg_neg (a : Nat) : neg (neg a) = a := by rw [neg_eq, neg_eq, xor_xor]
theorem neg_zero : neg 0 = F := Nat.xor_zero F

def more (s : Nat) (l : List Nat) : Nat := neg (on (neg s) l)
def join (a b n : Nat) : Nat := st (8 * n) a ^^^ b
def zeros (n : Nat) : Nat := neg (st (8 * n) F)
def of (l : List Nat) : Nat := more 0 l
theorem of_eq (l : List Nat) : of l = neg (on F l) := by unfold of more; rw [neg_zero]
theorem more_lt {s : Nat} {l : List Nat} (hs : s < 2 ^ 32) (hl : ∀ x ∈ l, x < 256) : more s l < 2 ^ 32 := neg_lt (on_lt l hl (neg_lt hs))
theorem of_lt {l : List Nat} (hl : ∀ x ∈ l, x < 256) : of l < 2 ^ 32 := more_lt (by decide) hl
theorem join_lt {a b n : Nat} (ha : a < 2 ^ 32) (hb : b < 2 ^ 32) : join a b n < 2 ^ 32 := Nat.xor_lt_two_pow (st_lt _ ha) hb
theorem zeros_lt (n : Nat) : zeros n < 2 ^ 32 := neg_lt (st_lt _ F_lt)

/-- P1.5: from any number Join with a sum is More with the bytes -/
theorem join_of_any (f s : Nat) (l : List Nat) : st (8 * l.length) s ^^^ (f ^^^ on f l) = f ^^^ on (f ^^^ s) l := by
  rw [show f ^^^ s = s ^^^ f from Nat.xor_comm _ _, on_xor, ← Nat.xor_assoc, Nat.xor_comm (st _ _) f, Nat.xor_assoc]
theorem join_of (s : Nat) (l : List Nat) : join s (of l) l.length = more s l := by
  unfold join more
  rw [of_eq, neg_eq, neg_eq, neg_eq, join_of_any]
theorem more_append (s : Nat) (a b : List Nat) : more s (a ++ b) = more (more s a) b := by
  unfold more; rw [neg_neg, on_append]
theorem of_append (a b : List Nat) : of (a ++ b) = more (of a) b := more_append 0 a b
theorem more_nil (s : Nat) : more s [] = s := neg_neg s
theorem of_nil : of [] = 0 := more_nil 0
theorem join_zero (s : Nat) : join s 0 0 = s := Nat.xor_zero s

/-- P1.6 -/
theorem join_assoc (a b c m n : Nat) : join (join a b m) c n = join a (join b c n) (m + n) := by
  unfold join
  rw [st_xor, Nat.mul_add, st_add, Nat.xor_assoc]
theorem zeros_add_any (F m n : Nat) : st (8 * n) (F ^^^ st (8 * m) F) ^^^ (F ^^^ st (8 * n) F) = F ^^^ st (8 * (m + n)) F := by
  rw [st_xor, ← st_add, ← Nat.mul_add, Nat.xor_comm (st (8 * n) F), Nat.xor_assoc, ← Nat.xor_assoc (st (8 * n) F), Nat.xor_comm (st (8 * n) F) F, Nat.xor_assoc F, Nat.xor_self, Nat.xor_zero, Nat.xor_comm]
theorem zeros_add (m n : Nat) : join (zeros m) (zeros n) n = zeros (m + n) := by unfold join zeros; rw [neg_eq, neg_eq, neg_eq, zeros_add_any]
/-- P1.7 -/
theorem join_xor (a b c d n : Nat) : join (a ^^^ c) (b ^^^ d) n = join a b n ^^^ join c d n := by
  unfold join; rw [st_xor, xor4]

theorem and1 (s : Nat) : s &&& 1 = s % 2 := Nat.and_two_pow_sub_one_eq_mod s 1

/-- the fixed answers -/
theorem fix1 : of [49, 50, 51, 52, 53, 54, 55, 56, 57] = 3808858755 := by decide +kernel
theorem fix2 : more 0 [97] = 3251651376 := by decide +kernel
theorem fix3 : join 1 0 1 = 4067132163 := by decide +kernel
theorem fix4 : zeros 32 = 2324772522 := by decide +kernel

end M
end Go.Proofs.Ytoachodngjlpaaa

namespace Go.Proofs.Ytoachodngjlpaaa
open Go.RowKit

theorem xor32 (a b : Nat) (ha : a < 4294967296) (hb : b < 4294967296) : bits .xor .u32 (a : Int) (b : Int) = ((a ^^^ b : Nat) : Int) := u32_xor_nat a b ha hb
theorem and1_32 (s k : Nat) (hs : s < 4294967296) : bits .and .u32 ((s : Int) / 2 ^ k) 1 = ((s / 2 ^ k % 2 : Nat) : Int) := by
  have e : ((s : Int) / 2 ^ k) = ((s / 2 ^ k : Nat) : Int) := by simp
  have hlt : s / 2 ^ k < 4294967296 := Nat.lt_of_le_of_lt (Nat.div_le_self _ _) hs
  have h := u32_and_nat (s / 2 ^ k) 1 hlt (by decide)
  rw [M.and1] at h
  rw [e]
  exact h
theorem shr_succ (s k : Nat) : ((s : Int) / 2 ^ k / 2) = ((s / 2 ^ (k + 1) : Nat) : Int) := by
  have e : ((s : Int) / 2 ^ k) = ((s / 2 ^ k : Nat) : Int) := by simp
  rw [e, Nat.pow_succ, ← Nat.div_div_eq_div_mul]
  simp
theorem int_eq {k : IntKind} {a b : Int} (h : a = b) : Value.int k a = .int k b := by rw [h]
theorem ret_int {k : IntKind} {a b : Int} (h : a = b) : Ending.returned (.int k a) = .returned (.int k b) := by rw [h]
theorem odd_of {s k : Nat} (hs : s < 4294967296) (h : (bits BinOp.and IntKind.u32 ((s : Int) / 2 ^ k) 1 == 1) = true) : s / 2 ^ k % 2 = 1 := by
  rw [and1_32 s k hs, beq_iff_eq] at h; omega
theorem even_of {s k : Nat} (hs : s < 4294967296) (h : (bits BinOp.and IntKind.u32 ((s : Int) / 2 ^ k) 1 == 1) = false) : ¬ s / 2 ^ k % 2 = 1 := by
  rw [and1_32 s k hs, beq_eq_false_iff_ne] at h; omega
theorem tm_odd {m : Nat → Nat} {s k : Nat} (h : s / 2 ^ k % 2 = 1) : M.tmTo m s (k + 1) = M.tmTo m s k ^^^ m k := by
  show M.tmTo m s k ^^^ _ = _; rw [if_pos h]
theorem tm_even {m : Nat → Nat} {s k : Nat} (h : ¬ s / 2 ^ k % 2 = 1) : M.tmTo m s (k + 1) = M.tmTo m s k := by
  show M.tmTo m s k ^^^ _ = _; rw [if_neg h, Nat.xor_zero]
end Go.Proofs.Ytoachodngjlpaaa

namespace Go.Proofs.Ytoachodngjlpaaa
open Go.RowKit

/-- the cells of a matrix -/
def mc (m : Nat → Nat) : Array Value := ((List.range 32).map fun i => Value.int .u32 (m i : Int)).toArray
theorem mc_size (m : Nat → Nat) : (mc m).size = 32 := by simp [mc]
theorem mc_get (m : Nat → Nat) (i : Nat) (h : i < 32) : (mc m)[i]? = some (.int .u32 (m i : Int)) := by
  simp [mc, h]
theorem mc_one (m : Nat → Nat) : (mc m).all (·.oneCell') = true := by
  rw [Array.all_eq_true_iff_forall_mem]
  intro x hx
  simp only [mc, List.mem_toArray, List.mem_map] at hx
  obtain ⟨i, _, rfl⟩ := hx
  rfl
theorem mc_ext (m m' : Nat → Nat) (h : ∀ i, i < 32 → m i = m' i) : mc m = mc m' := by
  unfold mc
  congr 1
  apply List.map_congr_left
  intro i hi
  rw [h i (List.mem_range.1 hi)]

theorem below_setRow {B : Nat} {a w : World} (h : Below B a w) {g : Nat} (hg : B ≤ g) (cs : Array Value) : Below B a (w.setRow g cs) :=
  ⟨h.os, h.tape, h.output, by rw [setRow_size]; exact h.size, fun k hk => (setRow_other w g k cs (by omega)).trans (h.block k hk)⟩
theorem mc_set (m : Nat → Nat) (i v : Nat) : (mc m).setIfInBounds i (.int .u32 (v : Int)) = mc fun j => if j = i then v else m j := by
  apply Array.ext_getElem?
  intro j
  rw [Array.getElem?_setIfInBounds]
  by_cases hj : j < 32
  · rw [mc_get _ j hj, mc_get _ j hj, mc_size]
    by_cases e : i = j
    · subst e; simp [hj]
    · have e' : ¬ j = i := fun h => e h.symm
      simp [e, e']
  · have h1 : (mc m)[j]? = none := by rw [Array.getElem?_eq_none_iff, mc_size]; omega
    have h2 : (mc fun j => if j = i then v else m j)[j]? = none := by rw [Array.getElem?_eq_none_iff, mc_size]; omega
    rw [h1, h2, mc_size]
    by_cases e : i = j
    · subst e; simp [hj]
    · simp [e]
theorem mc_zero : #[Value.int IntKind.u32 0, Value.int IntKind.u32 0, Value.int IntKind.u32 0, Value.int IntKind.u32 0, Value.int IntKind.u32 0, Value.int IntKind.u32 0, Value.int IntKind.u32 0, Value.int IntKind.u32 0,
    Value.int IntKind.u32 0, Value.int IntKind.u32 0, Value.int IntKind.u32 0, Value.int IntKind.u32 0, Value.int IntKind.u32 0, Value.int IntKind.u32 0, Value.int IntKind.u32 0, Value.int IntKind.u32 0,
    Value.int IntKind.u32 0, Value.int IntKind.u32 0, Value.int IntKind.u32 0, Value.int IntKind.u32 0, Value.int IntKind.u32 0, Value.int IntKind.u32 0, Value.int IntKind.u32 0, Value.int IntKind.u32 0,
    Value.int IntKind.u32 0, Value.int IntKind.u32 0, Value.int IntKind.u32 0, Value.int IntKind.u32 0, Value.int IntKind.u32 0, Value.int IntKind.u32 0, Value.int IntKind.u32 0, Value.int IntKind.u32 0] = mc fun _ => 0 := by rfl

theorem heap3_0 (w : World) (A B C : Obj) : (((w.alloc A).alloc B).alloc C).heap[w.heap.size]? = some A := by
  rw [heap_alloc_old _ _ (by rw [size_alloc, size_alloc]; omega)]; exact heap_alloc2_old w A B
theorem heap3_1 (w : World) (A B C : Obj) : (((w.alloc A).alloc B).alloc C).heap[w.heap.size + 1]? = some B := by
  rw [heap_alloc_old _ _ (by rw [size_alloc, size_alloc]; omega)]; exact heap_alloc2_new w A B
theorem heap3_2 (w : World) (A B C : Obj) : (((w.alloc A).alloc B).alloc C).heap[w.heap.size + 1 + 1]? = some C := by
  have h := heap_alloc_new ((w.alloc A).alloc B) C
  rw [size_alloc, size_alloc] at h
  exact h
theorem below3 (w : World) (A B C : Obj) : Below w.heap.size w (((w.alloc A).alloc B).alloc C) :=
  (((Below.refl _ _).alloc (Nat.le_refl _) _).alloc (by rw [size_alloc]; omega) _).alloc (by rw [size_alloc, size_alloc]; omega) _

/-- the matrix of n steps -/
def ms (n : Nat) : Nat → Nat := fun i => M.st n (2 ^ i)
theorem ms_lt (n : Nat) : ∀ i, i < 32 → ms n i < 4294967296 := fun i hi => M.st_lt n (Nat.pow_lt_pow_right (by decide) hi)
end Go.Proofs.Ytoachodngjlpaaa

namespace Go.Proofs.Ytoachodngjlpaaa
open Go.RowKit

/-- the cells of the table -/
def hc : Array Value := (M.half.map fun x => Value.int .u32 ((x : Nat) : Int)).toArray
theorem hc_size : hc.size = 16 := rfl
theorem hc_get (i : Nat) (h : i < 16) : hc[i]? = some (.int .u32 ((M.half.getD i 0 : Nat) : Int)) := by
  have hl : i < M.half.length := h
  simp [hc, hl]
theorem hc_one : hc.all (·.oneCell') = true := by decide +kernel
theorem half_lt (i : Nat) (h : i < 16) : M.half.getD i 0 < 4294967296 := by
  rw [M.half_st i h]; exact M.st_lt 4 (by omega)

theorem and15_32 (y : Nat) (h : y < 4294967296) : bits .and .u32 (y : Int) 15 = ((y % 16 : Nat) : Int) := by
  have h := u32_and_nat y 15 h (by decide)
  rw [M.and15] at h
  exact h
theorem div_cast (y : Nat) : ((y : Int) / 16) = ((y / 16 : Nat) : Int) := by simp
theorem nib32 (y : Nat) (h : y < 4294967296) : bits .xor .u32 ((y : Int) / 16) ((M.half.getD (y % 16) 0 : Nat) : Int) = ((M.st 4 y : Nat) : Int) := by
  rw [div_cast, xor32 _ _ (by omega) (half_lt _ (by omega)), M.nib]

theorem not32 (a : Nat) (ha : a < 4294967296) : bits .xor .u32 4294967295 (a : Int) = ((M.neg a : Nat) : Int) := by
  have h := xor32 M.F a M.F_lt ha
  rw [show ((M.F : Nat) : Int) = 4294967295 from rfl] at h
  rw [M.neg_eq]
  exact h

end Go.Proofs.Ytoachodngjlpaaa
