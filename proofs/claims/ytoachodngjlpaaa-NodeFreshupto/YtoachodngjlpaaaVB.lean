import Derived.Test.YtoachodngjlpaaaVA
namespace Go.Proofs.Ytoachodngjlpaaa
open Go.RowKit

/-- what Spare lays -/
def spF (l : List Nat) (i : Nat) : Value := if i < l.length then .int .u8 ((l.getD i 0 : Nat) : Int) else .int .u8 (bits .xor .i64 165 (i : Int) % 256)
theorem rowIs_below {w w' : World} {b : Nat} {t : TypeId} {n : Nat} {f : Nat → Value} (h : w.rowIs b t n f) (hb : Below w.heap.size w w') : w'.rowIs b t n f := h.of_block (hb.block b h.lt)
theorem rowIs_but {S : Nat → Prop} {w w' : World} {b : Nat} {t : TypeId} {n : Nat} {f : Nat → Value} (h : w.rowIs b t n f) (hb : But S w w') (hn : ¬ S b) : w'.rowIs b t n f := h.of_block (hb.block b h.lt hn)
theorem spare_bs {w : World} {g n : Nat} {l : List Nat} (h : w.rowIs g 5 n (spF l)) (hn : l.length ≤ n) (hl : ∀ x ∈ l, x < 256) (hlen : l.length ≤ 9223372036854775807) : Bs w (some ⟨g, 0, none⟩) l :=
  ⟨hl, hlen, .inr ⟨g, 0, rfl, fun i hi => by rw [Nat.zero_add, h.cell (by omega)]; unfold spF; rw [if_pos hi]⟩⟩

end Go.Proofs.Ytoachodngjlpaaa
