import Derived.Test.YtbhigodjbfoeoaaGreatWpVA
namespace Go.Proofs.YtbhigodjbfoeoaaGreat
open Go.RowKit
/-- what Spare lays -/
def spF (l : List Nat) (i : Nat) : Value := if i < l.length then .int .u8 ((l.getD i 0 : Nat) : Int) else .int .u8 (bits .xor .i64 165 (i : Int) % 256)
theorem rowIs_but {S : Nat → Prop} {w w' : World} {b : Nat} {t : TypeId} {n : Nat} {f : Nat → Value} (h : w.rowIs b t n f) (hb : But S w w') (hn : ¬ S b) : w'.rowIs b t n f := h.of_block (hb.block b h.lt hn)
end Go.Proofs.YtbhigodjbfoeoaaGreat
