/-
  No cell of these rows narrows 'for every input' (looked for: loops, veiled, ifaces, maps, wideKeys, modest, calm, conditions, laid).
  DERIVED. THE GIVEN ROWS OF THIS SEAT. 6 by the template 'for every input the law returns true; each argument reads behind the call as it read before'; 0 by the template 'total and deterministic' (their statements: YtkhdbeambmfdfabTotals.lean).
  GIVEN WITH THE SEED: the statements are not yours to turn. If you find one false, say at which input.
  Laid BY PROGRAM, IN A SANDBOX (cutbox-rows.mjs): the forced cells as the released guide's own fill.sh prints them over the translation a1ab72c27d78fa99… (all of the seat's roots in one cut). By AI agents, Wed Nov 11 2026. No macro, syntax, notation, axiom, sorry.
-/
import Derived.Test.YtkhdbeambmfdfabChecked
import GoSem.Claim
import GoSem.ClaimJoined
import GoSem.ClaimMapViews
import Derived.JoinedTies
import Derived.KernelRfl
namespace Go.Proofs.Ytkhdbeambmfdfab
/- THE CELL 'sum', in the pinned program and in every row, IS THE sha256 OF THE DUMP (.gsa) THAT YtkhdbeambmfdfabProg.lean LOADS. Nothing in Lean hashes anything: it is a label: what it is worth is what the hold of that sum in a sandbox is worth. -/
noncomputable def Try.pinned : Pinned := { name := "ytkhdbeambmfdfab", sum := "a1ab72c27d78fa99768049f19d5177f5fad3e37f7a9b19037c762b38e8f4d454", checked := Try.checked }
namespace Rows
def none {H : Type} : Left H := { results := [], args := [] }

/-- 'coppicelaw01.SumFrom': WHATEVER THE INPUT: true; the input reads as it did. -/
def sumFromSpec : ChangeSpec := { name := "sumFrom", fn := fun _ => fun
  | [d1, d2] => { results := [.lit (.bool true)], args := [d1, d2] }
  | _ => none }
def sumFromRow : OpenClaim := { program := "ytkhdbeambmfdfab", sum := "a1ab72c27d78fa99768049f19d5177f5fad3e37f7a9b19037c762b38e8f4d454", func := "coppice/coppicelaw01.SumFrom", spec := "sumFrom", apart := false }
def SumFromSaid : Prop := sumFromRow.holds Try.pinned (OpenSpec.ofChange sumFromSpec)

/-- ITS FALSE NEIGHBOUR: 'it returns false'. Refute it at one input. -/
def sumFromWrong : ChangeSpec := { name := "sumFrom", fn := fun _ => fun
  | [d1, d2] => { results := [.lit (.bool false)], args := [d1, d2] }
  | _ => none }
def SumFromWrongFalsely : Prop := sumFromRow.holds Try.pinned (OpenSpec.ofChange sumFromWrong)

/-- 'coppicelaw01.SumInAnyOrder': WHATEVER THE INPUT: true; the input reads as it did. -/
def sumInAnyOrderSpec : ChangeSpec := { name := "sumInAnyOrder", fn := fun _ => fun
  | [d] => { results := [.lit (.bool true)], args := [d] }
  | _ => none }
def sumInAnyOrderRow : OpenClaim := { program := "ytkhdbeambmfdfab", sum := "a1ab72c27d78fa99768049f19d5177f5fad3e37f7a9b19037c762b38e8f4d454", func := "coppice/coppicelaw01.SumInAnyOrder", spec := "sumInAnyOrder", apart := false }
def SumInAnyOrderSaid : Prop := sumInAnyOrderRow.holds Try.pinned (OpenSpec.ofChange sumInAnyOrderSpec)

/-- ITS FALSE NEIGHBOUR: 'it returns false'. Refute it at one input. -/
def sumInAnyOrderWrong : ChangeSpec := { name := "sumInAnyOrder", fn := fun _ => fun
  | [d] => { results := [.lit (.bool false)], args := [d] }
  | _ => none }
def SumInAnyOrderWrongFalsely : Prop := sumInAnyOrderRow.holds Try.pinned (OpenSpec.ofChange sumInAnyOrderWrong)

/-- 'coppicelaw01.SumNoCarry': WHATEVER THE INPUT: true; the input reads as it did. -/
def sumNoCarrySpec : ChangeSpec := { name := "sumNoCarry", fn := fun _ => fun
  | [d1, d2] => { results := [.lit (.bool true)], args := [d1, d2] }
  | _ => none }
def sumNoCarryRow : OpenClaim := { program := "ytkhdbeambmfdfab", sum := "a1ab72c27d78fa99768049f19d5177f5fad3e37f7a9b19037c762b38e8f4d454", func := "coppice/coppicelaw01.SumNoCarry", spec := "sumNoCarry", apart := false }
def SumNoCarrySaid : Prop := sumNoCarryRow.holds Try.pinned (OpenSpec.ofChange sumNoCarrySpec)

/-- ITS FALSE NEIGHBOUR: 'it returns false'. Refute it at one input. -/
def sumNoCarryWrong : ChangeSpec := { name := "sumNoCarry", fn := fun _ => fun
  | [d1, d2] => { results := [.lit (.bool false)], args := [d1, d2] }
  | _ => none }
def SumNoCarryWrongFalsely : Prop := sumNoCarryRow.holds Try.pinned (OpenSpec.ofChange sumNoCarryWrong)

/-- 'coppicelaw01.SumRound': WHATEVER THE INPUT: true; the input reads as it did. -/
def sumRoundSpec : ChangeSpec := { name := "sumRound", fn := fun _ => fun
  | [d] => { results := [.lit (.bool true)], args := [d] }
  | _ => none }
def sumRoundRow : OpenClaim := { program := "ytkhdbeambmfdfab", sum := "a1ab72c27d78fa99768049f19d5177f5fad3e37f7a9b19037c762b38e8f4d454", func := "coppice/coppicelaw01.SumRound", spec := "sumRound", apart := false }
def SumRoundSaid : Prop := sumRoundRow.holds Try.pinned (OpenSpec.ofChange sumRoundSpec)

/-- ITS FALSE NEIGHBOUR: 'it returns false'. Refute it at one input. -/
def sumRoundWrong : ChangeSpec := { name := "sumRound", fn := fun _ => fun
  | [d] => { results := [.lit (.bool false)], args := [d] }
  | _ => none }
def SumRoundWrongFalsely : Prop := sumRoundRow.holds Try.pinned (OpenSpec.ofChange sumRoundWrong)

/-- 'coppicelaw01.SumTells': WHATEVER THE INPUT: true; the input reads as it did. -/
def sumTellsSpec : ChangeSpec := { name := "sumTells", fn := fun _ => fun
  | [d1, d2, d3] => { results := [.lit (.bool true)], args := [d1, d2, d3] }
  | _ => none }
def sumTellsRow : OpenClaim := { program := "ytkhdbeambmfdfab", sum := "a1ab72c27d78fa99768049f19d5177f5fad3e37f7a9b19037c762b38e8f4d454", func := "coppice/coppicelaw01.SumTells", spec := "sumTells", apart := false }
def SumTellsSaid : Prop := sumTellsRow.holds Try.pinned (OpenSpec.ofChange sumTellsSpec)

/-- ITS FALSE NEIGHBOUR: 'it returns false'. Refute it at one input. -/
def sumTellsWrong : ChangeSpec := { name := "sumTells", fn := fun _ => fun
  | [d1, d2, d3] => { results := [.lit (.bool false)], args := [d1, d2, d3] }
  | _ => none }
def SumTellsWrongFalsely : Prop := sumTellsRow.holds Try.pinned (OpenSpec.ofChange sumTellsWrong)

/-- 'coppicelaw01.SumOwn': WHATEVER THE INPUT: true; the input reads as it did. -/
def sumOwnSpec : ChangeSpec := { name := "sumOwn", fn := fun _ => fun
  | [d] => { results := [.lit (.bool true)], args := [d] }
  | _ => none }
def sumOwnRow : OpenClaim := { program := "ytkhdbeambmfdfab", sum := "a1ab72c27d78fa99768049f19d5177f5fad3e37f7a9b19037c762b38e8f4d454", func := "coppice/coppicelaw01.SumOwn", spec := "sumOwn", apart := false }
def SumOwnSaid : Prop := sumOwnRow.holds Try.pinned (OpenSpec.ofChange sumOwnSpec)

/-- ITS FALSE NEIGHBOUR: 'it returns false'. Refute it at one input. -/
def sumOwnWrong : ChangeSpec := { name := "sumOwn", fn := fun _ => fun
  | [d] => { results := [.lit (.bool false)], args := [d] }
  | _ => none }
def SumOwnWrongFalsely : Prop := sumOwnRow.holds Try.pinned (OpenSpec.ofChange sumOwnWrong)

/- THE SECOND FORM. 'bulk': how many values and letters a reading holds, each counted each time it is reached (what is shared counts as often as it is met; a slice's spare places count too). A statement '..UptoSaid' is the law's where the arguments, and the package variables that the reading takes, are together of bulk at most 1048576: NARROWER than '..Said'. Prove '..Said' where nothing that the law and all that it calls make is longer than what came in: it says more and counts as full. Else prove '..UptoSaid'. A law counts once. -/
mutual
def uptoBulk {H : Type} : DataW H → Nat
  | .lit (.string bytes) => bytes.length + 1
  | .lit _ => 1
  | .nil => 1
  | .ptr d => uptoBulk d + 1
  | .slice elems spare => uptoBulkAll elems + uptoBulkAll spare + 1
  | .agg parts => uptoBulkAll parts + 1
  | .iface _ d => uptoBulk d + 1
  | .map entries => uptoBulkEntries entries + 1
  | .held _ => 1
def uptoBulkAll {H : Type} : List (DataW H) → Nat
  | [] => 0
  | d :: r => uptoBulk d + uptoBulkAll r
def uptoBulkEntries {H : Type} : List (Lit × DataW H) → Nat
  | [] => 0
  | x :: r => uptoBulkEntry x + uptoBulkEntries r
def uptoBulkEntry {H : Type} : Lit × DataW H → Nat
  | (.string bytes, d) => bytes.length + uptoBulk d + 1
  | (_, d) => uptoBulk d + 1
 end
def uptoSmall : (H : Type) → List (DataW H) → Bool := fun _ ds => decide (uptoBulkAll ds ≤ 1048576)
def OpenSpec.upto (s : _root_.Go.ChangeSpec) : _root_.Go.OpenSpec := { _root_.Go.OpenSpec.ofChange s with cond := some uptoSmall }

/-- 'coppicelaw01.SumFrom', WHERE WHAT IT READS IS OF BULK AT MOST 1048576: true; the input reads as it did. -/
def sumFromUptoRow : OpenClaim := { program := "ytkhdbeambmfdfab", sum := "a1ab72c27d78fa99768049f19d5177f5fad3e37f7a9b19037c762b38e8f4d454", func := "coppice/coppicelaw01.SumFrom", spec := "sumFrom", apart := false, narrowed := true }
def SumFromUptoSaid : Prop := sumFromUptoRow.holds Try.pinned (OpenSpec.upto sumFromSpec)

/-- 'coppicelaw01.SumInAnyOrder', WHERE WHAT IT READS IS OF BULK AT MOST 1048576: true; the input reads as it did. -/
def sumInAnyOrderUptoRow : OpenClaim := { program := "ytkhdbeambmfdfab", sum := "a1ab72c27d78fa99768049f19d5177f5fad3e37f7a9b19037c762b38e8f4d454", func := "coppice/coppicelaw01.SumInAnyOrder", spec := "sumInAnyOrder", apart := false, narrowed := true }
def SumInAnyOrderUptoSaid : Prop := sumInAnyOrderUptoRow.holds Try.pinned (OpenSpec.upto sumInAnyOrderSpec)

/-- 'coppicelaw01.SumNoCarry', WHERE WHAT IT READS IS OF BULK AT MOST 1048576: true; the input reads as it did. -/
def sumNoCarryUptoRow : OpenClaim := { program := "ytkhdbeambmfdfab", sum := "a1ab72c27d78fa99768049f19d5177f5fad3e37f7a9b19037c762b38e8f4d454", func := "coppice/coppicelaw01.SumNoCarry", spec := "sumNoCarry", apart := false, narrowed := true }
def SumNoCarryUptoSaid : Prop := sumNoCarryUptoRow.holds Try.pinned (OpenSpec.upto sumNoCarrySpec)

/-- 'coppicelaw01.SumRound', WHERE WHAT IT READS IS OF BULK AT MOST 1048576: true; the input reads as it did. -/
def sumRoundUptoRow : OpenClaim := { program := "ytkhdbeambmfdfab", sum := "a1ab72c27d78fa99768049f19d5177f5fad3e37f7a9b19037c762b38e8f4d454", func := "coppice/coppicelaw01.SumRound", spec := "sumRound", apart := false, narrowed := true }
def SumRoundUptoSaid : Prop := sumRoundUptoRow.holds Try.pinned (OpenSpec.upto sumRoundSpec)

/-- 'coppicelaw01.SumTells', WHERE WHAT IT READS IS OF BULK AT MOST 1048576: true; the input reads as it did. -/
def sumTellsUptoRow : OpenClaim := { program := "ytkhdbeambmfdfab", sum := "a1ab72c27d78fa99768049f19d5177f5fad3e37f7a9b19037c762b38e8f4d454", func := "coppice/coppicelaw01.SumTells", spec := "sumTells", apart := false, narrowed := true }
def SumTellsUptoSaid : Prop := sumTellsUptoRow.holds Try.pinned (OpenSpec.upto sumTellsSpec)

/-- 'coppicelaw01.SumOwn', WHERE WHAT IT READS IS OF BULK AT MOST 1048576: true; the input reads as it did. -/
def sumOwnUptoRow : OpenClaim := { program := "ytkhdbeambmfdfab", sum := "a1ab72c27d78fa99768049f19d5177f5fad3e37f7a9b19037c762b38e8f4d454", func := "coppice/coppicelaw01.SumOwn", spec := "sumOwn", apart := false, narrowed := true }
def SumOwnUptoSaid : Prop := sumOwnUptoRow.holds Try.pinned (OpenSpec.upto sumOwnSpec)

end Rows
end Go.Proofs.Ytkhdbeambmfdfab
