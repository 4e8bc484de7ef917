/-
  No cell of these rows narrows 'for every input' (looked for: loops, veiled, ifaces, maps, wideKeys, modest, calm, conditions, laid).
  DERIVED. THE GIVEN ROWS OF THIS SEAT. 5 by the template 'for every input the law returns true; each argument reads behind the call as it read before'; 0 by the template 'total and deterministic' (their statements: YthfcgfdboienkabTotals.lean).
  GIVEN WITH THE SEED: the statements are not yours to turn. If you find one false, say at which input.
  Laid BY PROGRAM, IN A SANDBOX (cutbox-rows.mjs): the forced cells as the released guide's own fill.sh prints them over the translation 0f4cee796dad9954… (all of the seat's roots in one cut). By AI agents, Wed Nov 11 2026. No macro, syntax, notation, axiom, sorry.
-/
import Derived.Test.YthfcgfdboienkabChecked
import GoSem.Claim
import GoSem.ClaimJoined
import GoSem.ClaimMapViews
import Derived.JoinedTies
import Derived.KernelRfl
namespace Go.Proofs.Ythfcgfdboienkab
/- THE CELL 'sum', in the pinned program and in every row, IS THE sha256 OF THE DUMP (.gsa) THAT YthfcgfdboienkabProg.lean LOADS. Nothing in Lean hashes anything: it is a label: what it is worth is what the hold of that sum in a sandbox is worth. -/
noncomputable def Try.pinned : Pinned := { name := "ythfcgfdboienkab", sum := "0f4cee796dad9954165373bc27f002122aaa1e21dbc62345e830c8ce31ef0468", checked := Try.checked }
namespace Rows
def none {H : Type} : Left H := { results := [], args := [] }

/-- 'coppicelaw03.TupleOneForm': WHATEVER THE INPUT: true; the input reads as it did. -/
def tupleOneFormSpec : ChangeSpec := { name := "tupleOneForm", fn := fun _ => fun
  | [d] => { results := [.lit (.bool true)], args := [d] }
  | _ => none }
def tupleOneFormRow : OpenClaim := { program := "ythfcgfdboienkab", sum := "0f4cee796dad9954165373bc27f002122aaa1e21dbc62345e830c8ce31ef0468", func := "coppice/coppicelaw03.TupleOneForm", spec := "tupleOneForm", inPlace := ["math.Float64bits", "math.Float64frombits"], apart := false }
def TupleOneFormSaid : Prop := tupleOneFormRow.holds Try.pinned (OpenSpec.ofChange tupleOneFormSpec)

/-- ITS FALSE NEIGHBOUR: 'it returns false'. Refute it at one input. -/
def tupleOneFormWrong : ChangeSpec := { name := "tupleOneForm", fn := fun _ => fun
  | [d] => { results := [.lit (.bool false)], args := [d] }
  | _ => none }
def TupleOneFormWrongFalsely : Prop := tupleOneFormRow.holds Try.pinned (OpenSpec.ofChange tupleOneFormWrong)

/-- 'coppicelaw03.TupleOrders': WHATEVER THE INPUT: true; the input reads as it did. -/
def tupleOrdersSpec : ChangeSpec := { name := "tupleOrders", fn := fun _ => fun
  | [d1, d2] => { results := [.lit (.bool true)], args := [d1, d2] }
  | _ => none }
def tupleOrdersRow : OpenClaim := { program := "ythfcgfdboienkab", sum := "0f4cee796dad9954165373bc27f002122aaa1e21dbc62345e830c8ce31ef0468", func := "coppice/coppicelaw03.TupleOrders", spec := "tupleOrders", inPlace := ["math.Float64bits", "math.Float64frombits"], unfollowed := true, recurses := true, apart := false }
def TupleOrdersSaid : Prop := tupleOrdersRow.holds Try.pinned (OpenSpec.ofChange tupleOrdersSpec)

/-- ITS FALSE NEIGHBOUR: 'it returns false'. Refute it at one input. -/
def tupleOrdersWrong : ChangeSpec := { name := "tupleOrders", fn := fun _ => fun
  | [d1, d2] => { results := [.lit (.bool false)], args := [d1, d2] }
  | _ => none }
def TupleOrdersWrongFalsely : Prop := tupleOrdersRow.holds Try.pinned (OpenSpec.ofChange tupleOrdersWrong)

/-- 'coppicelaw03.TupleBeginnings': WHATEVER THE INPUT: true; the input reads as it did. -/
def tupleBeginningsSpec : ChangeSpec := { name := "tupleBeginnings", fn := fun _ => fun
  | [d1, d2] => { results := [.lit (.bool true)], args := [d1, d2] }
  | _ => none }
def tupleBeginningsRow : OpenClaim := { program := "ythfcgfdboienkab", sum := "0f4cee796dad9954165373bc27f002122aaa1e21dbc62345e830c8ce31ef0468", func := "coppice/coppicelaw03.TupleBeginnings", spec := "tupleBeginnings", inPlace := ["math.Float64bits", "math.Float64frombits"], unfollowed := true, recurses := true, apart := false }
def TupleBeginningsSaid : Prop := tupleBeginningsRow.holds Try.pinned (OpenSpec.ofChange tupleBeginningsSpec)

/-- ITS FALSE NEIGHBOUR: 'it returns false'. Refute it at one input. -/
def tupleBeginningsWrong : ChangeSpec := { name := "tupleBeginnings", fn := fun _ => fun
  | [d1, d2] => { results := [.lit (.bool false)], args := [d1, d2] }
  | _ => none }
def TupleBeginningsWrongFalsely : Prop := tupleBeginningsRow.holds Try.pinned (OpenSpec.ofChange tupleBeginningsWrong)

/-- 'coppicelaw03.TupleFresh': WHATEVER THE INPUT: true; the input reads as it did. -/
def tupleFreshSpec : ChangeSpec := { name := "tupleFresh", fn := fun _ => fun
  | [d1, d2] => { results := [.lit (.bool true)], args := [d1, d2] }
  | _ => none }
def tupleFreshRow : OpenClaim := { program := "ythfcgfdboienkab", sum := "0f4cee796dad9954165373bc27f002122aaa1e21dbc62345e830c8ce31ef0468", func := "coppice/coppicelaw03.TupleFresh", spec := "tupleFresh", inPlace := ["math.Float64frombits", "math.Float64bits"], apart := false }
def TupleFreshSaid : Prop := tupleFreshRow.holds Try.pinned (OpenSpec.ofChange tupleFreshSpec)

/-- ITS FALSE NEIGHBOUR: 'it returns false'. Refute it at one input. -/
def tupleFreshWrong : ChangeSpec := { name := "tupleFresh", fn := fun _ => fun
  | [d1, d2] => { results := [.lit (.bool false)], args := [d1, d2] }
  | _ => none }
def TupleFreshWrongFalsely : Prop := tupleFreshRow.holds Try.pinned (OpenSpec.ofChange tupleFreshWrong)

/-- 'coppicelaw03.TupleFreshLists': WHATEVER THE INPUT: true; the input reads as it did. -/
def tupleFreshListsSpec : ChangeSpec := { name := "tupleFreshLists", fn := fun _ => fun
  | [d1, d2] => { results := [.lit (.bool true)], args := [d1, d2] }
  | _ => none }
def tupleFreshListsRow : OpenClaim := { program := "ythfcgfdboienkab", sum := "0f4cee796dad9954165373bc27f002122aaa1e21dbc62345e830c8ce31ef0468", func := "coppice/coppicelaw03.TupleFreshLists", spec := "tupleFreshLists", inPlace := ["math.Float64frombits", "math.Float64bits"], apart := false }
def TupleFreshListsSaid : Prop := tupleFreshListsRow.holds Try.pinned (OpenSpec.ofChange tupleFreshListsSpec)

/-- ITS FALSE NEIGHBOUR: 'it returns false'. Refute it at one input. -/
def tupleFreshListsWrong : ChangeSpec := { name := "tupleFreshLists", fn := fun _ => fun
  | [d1, d2] => { results := [.lit (.bool false)], args := [d1, d2] }
  | _ => none }
def TupleFreshListsWrongFalsely : Prop := tupleFreshListsRow.holds Try.pinned (OpenSpec.ofChange tupleFreshListsWrong)

/- THE SECOND FORM. 'bulk': how many values and letters a reading holds, each counted each time it is reached (what is shared counts as often as it is met; a slice's spare places count too). A statement '..UptoSaid' is the law's where the arguments, and the package variables that the reading takes, are together of bulk at most 1048576: NARROWER than '..Said'. Prove '..Said' where nothing that the law and all that it calls make is longer than what came in: it says more and counts as full. Else prove '..UptoSaid'. A law counts once. -/
mutual
def uptoBulk {H : Type} : DataW H → Nat
  | .lit (.string bytes) => bytes.length + 1
  | .lit _ => 1
  | .nil => 1
  | .ptr d => uptoBulk d + 1
  | .slice elems spare => uptoBulkAll elems + uptoBulkAll spare + 1
  | .agg parts => uptoBulkAll parts + 1
  | .iface _ d => uptoBulk d + 1
  | .map entries => uptoBulkEntries entries + 1
  | .held _ => 1
def uptoBulkAll {H : Type} : List (DataW H) → Nat
  | [] => 0
  | d :: r => uptoBulk d + uptoBulkAll r
def uptoBulkEntries {H : Type} : List (Lit × DataW H) → Nat
  | [] => 0
  | x :: r => uptoBulkEntry x + uptoBulkEntries r
def uptoBulkEntry {H : Type} : Lit × DataW H → Nat
  | (.string bytes, d) => bytes.length + uptoBulk d + 1
  | (_, d) => uptoBulk d + 1
 end
def uptoSmall : (H : Type) → List (DataW H) → Bool := fun _ ds => decide (uptoBulkAll ds ≤ 1048576)
def OpenSpec.upto (s : _root_.Go.ChangeSpec) : _root_.Go.OpenSpec := { _root_.Go.OpenSpec.ofChange s with cond := some uptoSmall }

/-- 'coppicelaw03.TupleOneForm', WHERE WHAT IT READS IS OF BULK AT MOST 1048576: true; the input reads as it did. -/
def tupleOneFormUptoRow : OpenClaim := { program := "ythfcgfdboienkab", sum := "0f4cee796dad9954165373bc27f002122aaa1e21dbc62345e830c8ce31ef0468", func := "coppice/coppicelaw03.TupleOneForm", spec := "tupleOneForm", inPlace := ["math.Float64bits", "math.Float64frombits"], apart := false, narrowed := true }
def TupleOneFormUptoSaid : Prop := tupleOneFormUptoRow.holds Try.pinned (OpenSpec.upto tupleOneFormSpec)

/-- 'coppicelaw03.TupleOrders', WHERE WHAT IT READS IS OF BULK AT MOST 1048576: true; the input reads as it did. -/
def tupleOrdersUptoRow : OpenClaim := { program := "ythfcgfdboienkab", sum := "0f4cee796dad9954165373bc27f002122aaa1e21dbc62345e830c8ce31ef0468", func := "coppice/coppicelaw03.TupleOrders", spec := "tupleOrders", inPlace := ["math.Float64bits", "math.Float64frombits"], unfollowed := true, recurses := true, apart := false, narrowed := true }
def TupleOrdersUptoSaid : Prop := tupleOrdersUptoRow.holds Try.pinned (OpenSpec.upto tupleOrdersSpec)

/-- 'coppicelaw03.TupleBeginnings', WHERE WHAT IT READS IS OF BULK AT MOST 1048576: true; the input reads as it did. -/
def tupleBeginningsUptoRow : OpenClaim := { program := "ythfcgfdboienkab", sum := "0f4cee796dad9954165373bc27f002122aaa1e21dbc62345e830c8ce31ef0468", func := "coppice/coppicelaw03.TupleBeginnings", spec := "tupleBeginnings", inPlace := ["math.Float64bits", "math.Float64frombits"], unfollowed := true, recurses := true, apart := false, narrowed := true }
def TupleBeginningsUptoSaid : Prop := tupleBeginningsUptoRow.holds Try.pinned (OpenSpec.upto tupleBeginningsSpec)

/-- 'coppicelaw03.TupleFresh', WHERE WHAT IT READS IS OF BULK AT MOST 1048576: true; the input reads as it did. -/
def tupleFreshUptoRow : OpenClaim := { program := "ythfcgfdboienkab", sum := "0f4cee796dad9954165373bc27f002122aaa1e21dbc62345e830c8ce31ef0468", func := "coppice/coppicelaw03.TupleFresh", spec := "tupleFresh", inPlace := ["math.Float64frombits", "math.Float64bits"], apart := false, narrowed := true }
def TupleFreshUptoSaid : Prop := tupleFreshUptoRow.holds Try.pinned (OpenSpec.upto tupleFreshSpec)

/-- 'coppicelaw03.TupleFreshLists', WHERE WHAT IT READS IS OF BULK AT MOST 1048576: true; the input reads as it did. -/
def tupleFreshListsUptoRow : OpenClaim := { program := "ythfcgfdboienkab", sum := "0f4cee796dad9954165373bc27f002122aaa1e21dbc62345e830c8ce31ef0468", func := "coppice/coppicelaw03.TupleFreshLists", spec := "tupleFreshLists", inPlace := ["math.Float64frombits", "math.Float64bits"], apart := false, narrowed := true }
def TupleFreshListsUptoSaid : Prop := tupleFreshListsUptoRow.holds Try.pinned (OpenSpec.upto tupleFreshListsSpec)

end Rows
end Go.Proofs.Ythfcgfdboienkab
