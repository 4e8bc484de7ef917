import Derived.Laws.BitsAllLaws
import Derived.WalkKit
import Derived.Test.YtbhigodjbfoeoaaGreatProg
import Derived.Test.YtbhigodjbfoeoaaGreatWpVA
import Derived.WalkSpells
import Derived.WalkLawsBesides
import Derived.Laws.Rows
import Derived.Laws.Tables
import Derived.Deep.WholeRow
import Derived.Below
import Derived.Outline
namespace Go.Proofs.YtbhigodjbfoeoaaGreat
namespace M
def poly : Nat := 2197175160
def step (w : Nat) : Nat := if w % 2 = 1 then w / 2 ^^^ poly else w / 2
/-- n steps -/
def st : Nat → Nat → Nat
  | 0, w => w
  | n + 1, w => st n (step w)
/-- half a byte at once -/
def half : List Nat := [0, 274646895, 549293790, 820201905, 1098587580, 1361435347, 1640403810, 1905808397, 2197175160, 2460548119, 2722870694, 2987750089, 3280807620, 3553878443, 3811616794, 4084100981]
/-- on from w over bytes -/
def on : Nat → List Nat → Nat
  | w, [] => w
  | w, x :: r => on (st 8 (w ^^^ x)) r
/-- all ones -/
def F : Nat := 4294967295
/-- turn all bits: as Go's unary xor -/
def neg (a : Nat) : Nat := F ^^^ a
def more (s : Nat) (l : List Nat) : Nat := neg (on (neg s) l)
def of (l : List Nat) : Nat := more 0 l
end M
end Go.Proofs.YtbhigodjbfoeoaaGreat
namespace Go.Proofs.YtbhigodjbfoeoaaGreat
open Go.RowKit
end Go.Proofs.YtbhigodjbfoeoaaGreat
namespace Go.Proofs.YtbhigodjbfoeoaaGreat
open Go.RowKit
/-- the cells of a matrix -/
def mc (m : Nat → Nat) : Array Value := ((List.range 32).map fun i => Value.int .u32 (m i : Int)).toArray
theorem below_setRow {B : Nat} {a w : World} (h : Below B a w) {g : Nat} (hg : B ≤ g) (cs : Array Value) : Below B a (w.setRow g cs) :=
  ⟨h.os, h.tape, h.output, by rw [setRow_size]; exact h.size, fun k hk => (setRow_other w g k cs (by omega)).trans (h.block k hk)⟩
/-- the matrix of n steps -/
def ms (n : Nat) : Nat → Nat := fun i => M.st n (2 ^ i)
end Go.Proofs.YtbhigodjbfoeoaaGreat
namespace Go.Proofs.YtbhigodjbfoeoaaGreat
open Go.RowKit
/-- the cells of the table -/
def hc : Array Value := (M.half.map fun x => Value.int .u32 ((x : Nat) : Int)).toArray
end Go.Proofs.YtbhigodjbfoeoaaGreat
