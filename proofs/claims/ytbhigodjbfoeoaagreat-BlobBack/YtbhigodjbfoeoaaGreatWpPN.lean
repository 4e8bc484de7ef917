import Derived.KernelRfl
namespace Go.Proofs.YtbhigodjbfoeoaaGreat
/-- a number's bytes, the lowest first -/
def numB : Nat → Nat → List Nat
  | _, 0 => []
  | x, k + 1 => x % 256 :: numB (x / 256) k
theorem numB_length (x k : Nat) : (numB x k).length = k := by
  induction k generalizing x with
  | zero => rfl
  | succ k ih => simp [numB, ih]
/-- a reader, as the document has it: what is left, and its error -/
structure RS where
  l : List Nat
  e : Nat
/-- the error with which a look at the next n bytes gives up; 0: none -/
def RS.fail (s : RS) (n : Int) : Nat := if s.e ≠ 0 then s.e else if n < 0 then 1 else if (s.l.length : Int) < n then 2 else 0
def RS.fin (s : RS) : Nat := if s.e ≠ 0 then s.e else if s.l.length = 0 then 0 else 3
/-- the number that bytes are, the lowest first -/
def numV : List Nat → Nat
  | [] => 0
  | x :: r => x + 256 * numV r
end Go.Proofs.YtbhigodjbfoeoaaGreat
