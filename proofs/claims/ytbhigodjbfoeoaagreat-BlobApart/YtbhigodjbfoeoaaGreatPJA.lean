import Derived.Test.YtbhigodjbfoeoaaGreatPJ
namespace Go.Proofs.YtbhigodjbfoeoaaGreat
open Go.RowKit

theorem ret_nat {a b : Nat} (h : b = a) : Ending.returned (.int .i64 (a : Int)) = .returned (.int .i64 (b : Int)) := by rw [h]
theorem rowAt {w : World} {bI off : Nat} {L : List Iv} (h : Js w (some ⟨bI, off, none⟩) L) {k : Nat} (hk : k < L.length) : w.cell? ⟨bI, off + k * 4, none⟩ = some (.slice (L.getD k Iv.zero).aK (L.getD k Iv.zero).key.length (L.getD k Iv.zero).cK) ∧ w.cell? ⟨bI, off + k * 4 + 1, none⟩ = some (.slice (L.getD k Iv.zero).aV (L.getD k Iv.zero).val.length (L.getD k Iv.zero).cV) ∧ w.cell? ⟨bI, off + k * 4 + 2, none⟩ = some (.int .i64 (L.getD k Iv.zero).child) ∧ w.cell? ⟨bI, off + k * 4 + 3, none⟩ = some (.int .i64 (L.getD k Iv.zero).size) := by
  obtain ⟨b2, o2, e2, r2⟩ := h.at hk
  simp only [Option.some.injEq, Addr.mk.injEq, and_true] at e2
  obtain ⟨rfl, rfl⟩ := e2
  exact range4 r2
end Go.Proofs.YtbhigodjbfoeoaaGreat
