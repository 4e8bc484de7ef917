import Derived.Test.YtcdigmhlpeeogaaUK
namespace Go.Proofs.Ytcdigmhlpeeogaa
open Go.RowKit

/-! ### what is left of runs -/
theorem vs_new (w : World) (p q : Int) : Vs (w.alloc (.cells #[.int .i64 p, .int .i64 q] 27)) (some ⟨w.heap.size, 0, none⟩) [(p, q)] := by
  refine .inr ⟨_, _, rfl, fun j u hu => ?_⟩
  rw [cell_of_row _ _ _ _ _ _ (World.alloc_heap_new w _), Nat.zero_add]
  simpa [rc, rcs] using hu
end Go.Proofs.Ytcdigmhlpeeogaa
