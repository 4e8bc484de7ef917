import Derived.Test.YtbhigodjbfoeoaaGreatWpVM
namespace Go.Proofs.YtbhigodjbfoeoaaGreat
/-! ### the order of rows -/
/-! ### keys -/
def B8 (l : List Nat) : Prop := ∀ x ∈ l, x < 256
theorem B8.nil : B8 [] := fun x h => by cases h
theorem B8.cons {x : Nat} {l : List Nat} : B8 (x :: l) ↔ x < 256 ∧ B8 l := by simp [B8]
theorem B8.take {l : List Nat} (h : B8 l) (n : Nat) : B8 (l.take n) := fun x hx => h x (List.mem_of_mem_take hx)
/-! ### the row behind all that begin with p -/
def beh : List Nat → List Nat
  | [] => []
  | x :: p => if beh p = [] then (if x = 255 then [] else [x + 1]) else x :: beh p
/-! ### Next -/
def next (k : List Nat) : List Nat := if k.length < 24 then k ++ [0] else beh (k.take 24)
/-! ### the least key that is not below -/
/-! ### Common and Between -/
/-- a row with a greater last byte -/
def inc (p : List Nat) : List Nat := p.set (p.length - 1) (p.getD (p.length - 1) 0 + 1)
/-! ### the document's Between: the least of n bytes above a -/
/-! ### behind, as the loop finds it -/
def sn (p : List Nat) : Nat → Nat
  | 0 => 0
  | n + 1 => if p.getD n 0 = 255 then sn p n else n + 1
end Go.Proofs.YtbhigodjbfoeoaaGreat
