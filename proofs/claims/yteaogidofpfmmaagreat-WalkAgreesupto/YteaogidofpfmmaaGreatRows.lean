/-
  No cell of these rows narrows 'for every input' (looked for: loops, veiled, ifaces, maps, wideKeys, modest, calm, conditions, laid).
  DERIVED. THE GIVEN ROWS OF THIS SEAT. 4 by the template 'for every input the law returns true; each argument reads behind the call as it read before'; 0 by the template 'total and deterministic' (their statements: YteaogidofpfmmaaGreatTotals.lean).
  GIVEN WITH THE SEED: the statements are not yours to turn. If you find one false, say at which input.
  Laid BY PROGRAM, IN A SANDBOX (cutbox-rows.mjs): the forced cells as the released guide's own fill.sh prints them over the translation fe6982d900482ef2… (all of the seat's roots in one cut). By AI agents, Wed Nov 11 2026. No macro, syntax, notation, axiom, sorry.
-/
import Derived.Test.YteaogidofpfmmaaGreatChecked
import GoSem.Claim
import GoSem.ClaimJoined
import GoSem.ClaimMapViews
import Derived.JoinedTies
import Derived.KernelRfl
namespace Go.Proofs.YteaogidofpfmmaaGreat
/- THE CELL 'sum', in the pinned program and in every row, IS THE sha256 OF THE DUMP (.gsa) THAT YteaogidofpfmmaaGreatProg.lean LOADS. Nothing in Lean hashes anything: it is a label: what it is worth is what the hold of that sum in a sandbox is worth. -/
noncomputable def Tryz.pinned : Pinned := { name := "yteaogidofpfmmaagreat", sum := "fe6982d900482ef27ce5211353ab5df34758d7ed8c223a2f1a3bad2bc541327a", checked := Tryz.checked }
namespace Rows
def none {H : Type} : Left H := { results := [], args := [] }

/-- 'coppicelaw14.WalkGets': WHATEVER THE INPUT: true; the input reads as it did. -/
def walkGetsSpec : ChangeSpec := { name := "walkGets", fn := fun _ => fun
  | [d1, d2, d3] => { results := [.lit (.bool true)], args := [d1, d2, d3] }
  | _ => none }
def walkGetsRow : OpenClaim := { program := "yteaogidofpfmmaagreat", sum := "fe6982d900482ef27ce5211353ab5df34758d7ed8c223a2f1a3bad2bc541327a", func := "coppice/coppicelaw14.WalkGets", spec := "walkGets", inPlace := ["slices.overlaps[coppice/runs.Run[int]]", "internal/bytealg.Compare"], unfollowed := true, recurses := true, apart := false }
def WalkGetsSaid : Prop := walkGetsRow.holds Tryz.pinned (OpenSpec.ofChange walkGetsSpec)

/-- ITS FALSE NEIGHBOUR: 'it returns false'. Refute it at one input. -/
def walkGetsWrong : ChangeSpec := { name := "walkGets", fn := fun _ => fun
  | [d1, d2, d3] => { results := [.lit (.bool false)], args := [d1, d2, d3] }
  | _ => none }
def WalkGetsWrongFalsely : Prop := walkGetsRow.holds Tryz.pinned (OpenSpec.ofChange walkGetsWrong)

/-- 'coppicelaw14.WalkLists': WHATEVER THE INPUT: true; the input reads as it did. -/
def walkListsSpec : ChangeSpec := { name := "walkLists", fn := fun _ => fun
  | [d1, d2, d3, d4] => { results := [.lit (.bool true)], args := [d1, d2, d3, d4] }
  | _ => none }
def walkListsRow : OpenClaim := { program := "yteaogidofpfmmaagreat", sum := "fe6982d900482ef27ce5211353ab5df34758d7ed8c223a2f1a3bad2bc541327a", func := "coppice/coppicelaw14.WalkLists", spec := "walkLists", inPlace := ["slices.overlaps[coppice/runs.Run[int]]", "internal/bytealg.Compare"], unfollowed := true, recurses := true, apart := false }
def WalkListsSaid : Prop := walkListsRow.holds Tryz.pinned (OpenSpec.ofChange walkListsSpec)

/-- ITS FALSE NEIGHBOUR: 'it returns false'. Refute it at one input. -/
def walkListsWrong : ChangeSpec := { name := "walkLists", fn := fun _ => fun
  | [d1, d2, d3, d4] => { results := [.lit (.bool false)], args := [d1, d2, d3, d4] }
  | _ => none }
def WalkListsWrongFalsely : Prop := walkListsRow.holds Tryz.pinned (OpenSpec.ofChange walkListsWrong)

/-- 'coppicelaw14.WalkChecks': WHATEVER THE INPUT: true; the input reads as it did. -/
def walkChecksSpec : ChangeSpec := { name := "walkChecks", fn := fun _ => fun
  | [d] => { results := [.lit (.bool true)], args := [d] }
  | _ => none }
def walkChecksRow : OpenClaim := { program := "yteaogidofpfmmaagreat", sum := "fe6982d900482ef27ce5211353ab5df34758d7ed8c223a2f1a3bad2bc541327a", func := "coppice/coppicelaw14.WalkChecks", spec := "walkChecks", inPlace := ["slices.overlaps[coppice/runs.Run[int]]", "internal/bytealg.Compare"], unfollowed := true, recurses := true, apart := false }
def WalkChecksSaid : Prop := walkChecksRow.holds Tryz.pinned (OpenSpec.ofChange walkChecksSpec)

/-- ITS FALSE NEIGHBOUR: 'it returns false'. Refute it at one input. -/
def walkChecksWrong : ChangeSpec := { name := "walkChecks", fn := fun _ => fun
  | [d] => { results := [.lit (.bool false)], args := [d] }
  | _ => none }
def WalkChecksWrongFalsely : Prop := walkChecksRow.holds Tryz.pinned (OpenSpec.ofChange walkChecksWrong)

/-- 'coppicelaw14.WalkAgrees': WHATEVER THE INPUT: true; the input reads as it did. -/
def walkAgreesSpec : ChangeSpec := { name := "walkAgrees", fn := fun _ => fun
  | [d1, d2, d3] => { results := [.lit (.bool true)], args := [d1, d2, d3] }
  | _ => none }
def walkAgreesRow : OpenClaim := { program := "yteaogidofpfmmaagreat", sum := "fe6982d900482ef27ce5211353ab5df34758d7ed8c223a2f1a3bad2bc541327a", func := "coppice/coppicelaw14.WalkAgrees", spec := "walkAgrees", inPlace := ["slices.overlaps[coppice/runs.Run[int]]", "internal/bytealg.Compare"], unfollowed := true, recurses := true, apart := false }
def WalkAgreesSaid : Prop := walkAgreesRow.holds Tryz.pinned (OpenSpec.ofChange walkAgreesSpec)

/-- ITS FALSE NEIGHBOUR: 'it returns false'. Refute it at one input. -/
def walkAgreesWrong : ChangeSpec := { name := "walkAgrees", fn := fun _ => fun
  | [d1, d2, d3] => { results := [.lit (.bool false)], args := [d1, d2, d3] }
  | _ => none }
def WalkAgreesWrongFalsely : Prop := walkAgreesRow.holds Tryz.pinned (OpenSpec.ofChange walkAgreesWrong)

/- THE SECOND FORM. 'bulk': how many values and letters a reading holds, each counted each time it is reached (what is shared counts as often as it is met; a slice's spare places count too). A statement '..UptoSaid' is the law's where the arguments, and the package variables that the reading takes, are together of bulk at most 1048576: NARROWER than '..Said'. Prove '..Said' where nothing that the law and all that it calls make is longer than what came in: it says more and counts as full. Else prove '..UptoSaid'. A law counts once. -/
mutual
def uptoBulk {H : Type} : DataW H → Nat
  | .lit (.string bytes) => bytes.length + 1
  | .lit _ => 1
  | .nil => 1
  | .ptr d => uptoBulk d + 1
  | .slice elems spare => uptoBulkAll elems + uptoBulkAll spare + 1
  | .agg parts => uptoBulkAll parts + 1
  | .iface _ d => uptoBulk d + 1
  | .map entries => uptoBulkEntries entries + 1
  | .held _ => 1
def uptoBulkAll {H : Type} : List (DataW H) → Nat
  | [] => 0
  | d :: r => uptoBulk d + uptoBulkAll r
def uptoBulkEntries {H : Type} : List (Lit × DataW H) → Nat
  | [] => 0
  | x :: r => uptoBulkEntry x + uptoBulkEntries r
def uptoBulkEntry {H : Type} : Lit × DataW H → Nat
  | (.string bytes, d) => bytes.length + uptoBulk d + 1
  | (_, d) => uptoBulk d + 1
 end
def uptoSmall : (H : Type) → List (DataW H) → Bool := fun _ ds => decide (uptoBulkAll ds ≤ 1048576)
def OpenSpec.upto (s : _root_.Go.ChangeSpec) : _root_.Go.OpenSpec := { _root_.Go.OpenSpec.ofChange s with cond := some uptoSmall }

/-- 'coppicelaw14.WalkGets', WHERE WHAT IT READS IS OF BULK AT MOST 1048576: true; the input reads as it did. -/
def walkGetsUptoRow : OpenClaim := { program := "yteaogidofpfmmaagreat", sum := "fe6982d900482ef27ce5211353ab5df34758d7ed8c223a2f1a3bad2bc541327a", func := "coppice/coppicelaw14.WalkGets", spec := "walkGets", inPlace := ["slices.overlaps[coppice/runs.Run[int]]", "internal/bytealg.Compare"], unfollowed := true, recurses := true, apart := false, narrowed := true }
def WalkGetsUptoSaid : Prop := walkGetsUptoRow.holds Tryz.pinned (OpenSpec.upto walkGetsSpec)

/-- 'coppicelaw14.WalkLists', WHERE WHAT IT READS IS OF BULK AT MOST 1048576: true; the input reads as it did. -/
def walkListsUptoRow : OpenClaim := { program := "yteaogidofpfmmaagreat", sum := "fe6982d900482ef27ce5211353ab5df34758d7ed8c223a2f1a3bad2bc541327a", func := "coppice/coppicelaw14.WalkLists", spec := "walkLists", inPlace := ["slices.overlaps[coppice/runs.Run[int]]", "internal/bytealg.Compare"], unfollowed := true, recurses := true, apart := false, narrowed := true }
def WalkListsUptoSaid : Prop := walkListsUptoRow.holds Tryz.pinned (OpenSpec.upto walkListsSpec)

/-- 'coppicelaw14.WalkChecks', WHERE WHAT IT READS IS OF BULK AT MOST 1048576: true; the input reads as it did. -/
def walkChecksUptoRow : OpenClaim := { program := "yteaogidofpfmmaagreat", sum := "fe6982d900482ef27ce5211353ab5df34758d7ed8c223a2f1a3bad2bc541327a", func := "coppice/coppicelaw14.WalkChecks", spec := "walkChecks", inPlace := ["slices.overlaps[coppice/runs.Run[int]]", "internal/bytealg.Compare"], unfollowed := true, recurses := true, apart := false, narrowed := true }
def WalkChecksUptoSaid : Prop := walkChecksUptoRow.holds Tryz.pinned (OpenSpec.upto walkChecksSpec)

/-- 'coppicelaw14.WalkAgrees', WHERE WHAT IT READS IS OF BULK AT MOST 1048576: true; the input reads as it did. -/
def walkAgreesUptoRow : OpenClaim := { program := "yteaogidofpfmmaagreat", sum := "fe6982d900482ef27ce5211353ab5df34758d7ed8c223a2f1a3bad2bc541327a", func := "coppice/coppicelaw14.WalkAgrees", spec := "walkAgrees", inPlace := ["slices.overlaps[coppice/runs.Run[int]]", "internal/bytealg.Compare"], unfollowed := true, recurses := true, apart := false, narrowed := true }
def WalkAgreesUptoSaid : Prop := walkAgreesUptoRow.holds Tryz.pinned (OpenSpec.upto walkAgreesSpec)

end Rows
end Go.Proofs.YteaogidofpfmmaaGreat
